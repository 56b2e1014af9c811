/- The reference's keys and receipts. -/
import Derived.Test.YtcfogkimjbgjgaaDoorMg
import Derived.Test.YtcfogkimjbgjgaaDoorMc
import Derived.Test.YtcfogkimjbgjgaaDoorMd
import Derived.Test.YtcfogkimjbgjgaaDoorMf
set_option linter.all false
namespace Go.Proofs.YtcfogkimjbgjgaaDoor
open Go Go.RowKit
set_option maxRecDepth 8000
set_option linter.all false
set_option maxHeartbeats 1000000 in
theorem RMay_cv (v : Value) (ps ws : List Hs) (need : Int) (w : World) (hk : KeysV w v ps ws need) : Cv 13 #[v] w (.eq (.bool (mayB ps ws need))) := by
  rw [← may_ref]
  unfold Cv
  obtain ⟨pv, wv, rfl, hpv, hwv⟩ := hk
  go_enter Tryd.func13, Tryd.ntmps13
  go_upto_region 1 with fail
  have rk := rowIs_box w 24 3 (keyF pv wv need)
  have hN := NewT.alloc w (.cells (rowA 3 (keyF pv wv need)) 24)
  change Code.wp _ _ _ _ (w.alloc (.cells (rowA 3 (keyF pv wv need)) 24))
  generalize w.alloc (.cells (rowA 3 (keyF pv wv need)) 24) = W0 at rk hN ⊢
  have RK := Lib.hid rk
  have HN := Lib.hid hN
  have HK : Hid (KeysV W0 (.agg (rowA 3 (keyF pv wv need))) ps ws need) := Lib.hid (hN.keysV ⟨pv, wv, rfl, hpv, hwv⟩)
  have HP := Lib.hid (hN.hs hpv)
  have HW := Lib.hid (hN.hs hwv)
  clear rk hpv hwv hN
  obtain ⟨q1_1, Q1_1⟩ : ∃ bq_, ((decide (1 ≤ ((List.length (ps) : Int)))) && (decide (((List.length (ps) : Int)) ≤ 4))) = bq_ := ⟨_, rfl⟩
  obtain ⟨q2_1, Q2_1⟩ : ∃ bq_, (q1_1 && (decide (1 ≤ ((List.length (ws) : Int))))) = bq_ := ⟨_, rfl⟩
  obtain ⟨q3_1, Q3_1⟩ : ∃ bq_, (q2_1 && (decide (((List.length (ws) : Int)) ≤ 4))) = bq_ := ⟨_, rfl⟩
  obtain ⟨q4_1, Q4_1⟩ : ∃ bq_, ((q3_1 && (decide (1 ≤ need))) && (decide (need ≤ ((List.length (ws) : Int))))) = bq_ := ⟨_, rfl⟩
  refine wp_region_steps0 NewT [SV.eq (.pointer (some ⟨w.heap.size, 0, none⟩)), SV.eq (pv), SV.eq (.int .i64 ((List.length (ps) : Int))), SV.eq (.bool (decide (1 ≤ ((List.length (ps) : Int))))), SV.eq (.bool (decide (1 ≤ ((List.length (ps) : Int))))), svIf (decide (1 ≤ ((List.length (ps) : Int)))) (SV.eq (.pointer (some ⟨w.heap.size, 0, none⟩))), svIf (decide (1 ≤ ((List.length (ps) : Int)))) (SV.eq (pv)), svIf (decide (1 ≤ ((List.length (ps) : Int)))) (SV.eq (.int .i64 ((List.length (ps) : Int)))), svIf (decide (1 ≤ ((List.length (ps) : Int)))) (SV.eq (.bool (decide (((List.length (ps) : Int)) ≤ 4)))), SV.eq (.bool (q1_1)), SV.eq (.bool (q1_1)), svIf q1_1 (SV.eq (.pointer (some ⟨w.heap.size, 1, none⟩))), svIf q1_1 (SV.eq (wv)), svIf q1_1 (SV.eq (.int .i64 ((List.length (ws) : Int)))), svIf q1_1 (SV.eq (.bool (decide (1 ≤ ((List.length (ws) : Int)))))), SV.eq (.bool (q2_1)), SV.eq (.bool (q2_1)), svIf q2_1 (SV.eq (.pointer (some ⟨w.heap.size, 1, none⟩))), svIf q2_1 (SV.eq (wv)), svIf q2_1 (SV.eq (.int .i64 ((List.length (ws) : Int)))), svIf q2_1 (SV.eq (.bool (decide (((List.length (ws) : Int)) ≤ 4)))), SV.eq (.bool (q3_1)), SV.eq (.bool (q3_1)), svIf q3_1 (SV.eq (.pointer (some ⟨w.heap.size, 2, none⟩))), svIf q3_1 (SV.eq (.int .i64 (need))), svIf q3_1 (SV.eq (.bool (decide (1 ≤ need)))), SV.eq (.bool (q3_1 && (decide (1 ≤ need)))), SV.eq (.bool (q3_1 && (decide (1 ≤ need)))), svIf (q3_1 && (decide (1 ≤ need))) (SV.eq (.pointer (some ⟨w.heap.size, 2, none⟩))), svIf (q3_1 && (decide (1 ≤ need))) (SV.eq (.int .i64 (need))), svIf (q3_1 && (decide (1 ≤ need))) (SV.eq (.pointer (some ⟨w.heap.size, 1, none⟩))), svIf (q3_1 && (decide (1 ≤ need))) (SV.eq (wv)), svIf (q3_1 && (decide (1 ≤ need))) (SV.eq (.int .i64 ((List.length (ws) : Int)))), svIf (q3_1 && (decide (1 ≤ need))) (SV.eq (.bool (decide (need ≤ ((List.length (ws) : Int)))))), SV.eq (.bool (q4_1)), SV.eq (.bool (q4_1))] [([(1, none)], none), ([(3, some 0)], none), ([(4, some 1)], none), ([(5, some 2)], none), ([(6, some 3)], none), ([(1, none), (7, some 4)], some (7, true)), ([(8, some 5), (7, some 4)], some (7, true)), ([(9, some 6), (7, some 4)], some (7, true)), ([(10, some 7), (7, some 4)], some (7, true)), ([(7, some 4), (11, some 8)], none), ([(12, some 9)], none), ([(1, none), (13, some 10)], some (13, true)), ([(14, some 11), (13, some 10)], some (13, true)), ([(15, some 12), (13, some 10)], some (13, true)), ([(16, some 13), (13, some 10)], some (13, true)), ([(13, some 10), (17, some 14)], none), ([(18, some 15)], none), ([(1, none), (19, some 16)], some (19, true)), ([(20, some 17), (19, some 16)], some (19, true)), ([(21, some 18), (19, some 16)], some (19, true)), ([(22, some 19), (19, some 16)], some (19, true)), ([(19, some 16), (23, some 20)], none), ([(24, some 21)], none), ([(1, none), (25, some 22)], some (25, true)), ([(26, some 23), (25, some 22)], some (25, true)), ([(27, some 24), (25, some 22)], some (25, true)), ([(25, some 22), (28, some 25)], none), ([(29, some 26)], none), ([(1, none), (30, some 27)], some (30, true)), ([(31, some 28), (30, some 27)], some (30, true)), ([(1, none), (30, some 27)], some (30, true)), ([(33, some 30), (30, some 27)], some (30, true)), ([(34, some 31), (30, some 27)], some (30, true)), ([(32, some 29), (35, some 32), (30, some 27)], some (30, true)), ([(30, some 27), (36, some 33)], none), ([(37, some 34)], none)] 38 36 rfl rfl (by kernel_rfl) NewT.trans (NewT.refl _) (Nat.le_of_ble_eq_true rfl) ⟨?_, ?_, ?_, ?_, ?_, ?_, ?_, ?_, ?_, ?_, ?_, ?_, ?_, ?_, ?_, ?_, ?_, ?_, ?_, ?_, ?_, ?_, ?_, ?_, ?_, ?_, ?_, ?_, ?_, ?_, ?_, ?_, ?_, ?_, ?_, ?_, trivial⟩ ?_
  · exact fun a wx hT hF K hK => rely_wp rfl (opr_fldY0 rfl hF.1 (hK _ _ (NewT.refl _) rfl))
  · exact fun a wx hT hF K hK => rely_wp rfl (opr_ldHs (hT.row RK.out) (by decide) rfl rfl hF.1 (hK _ _ (NewT.refl _) rfl))
  · intro a wx hT hF K hK
    obtain ⟨f4, _⟩ := hF
    have f4 : a.tmps.getD 4 undef = pv := f4
    refine rely_wp rfl ?_
    exact opr_len_h rfl (by rw [eval_tmp, f4]; exact (hT.hs HP.out)) (hK _ _ (NewT.refl _) rfl)
  · exact fun a wx hT hF K hK => rely_wp rfl (opr_cmp (b := decide (1 ≤ ((List.length (ps) : Int)))) (.inr (.inr (.inr (.inr (.inr (⟨rfl, rfl⟩)))))) Tryd.underlying3 rfl hF.1 rfl (hK _ _ (NewT.refl _) rfl))
  · exact fun a wx hT hF K hK => rely_wp rfl (opr_move (.inl rfl) (hK _ _ (NewT.refl _) hF.1))
  · exact fun a wx hT hF K hK => rely_if (rely_gt hF.2.1) (NewT.refl _) hK fun hE hK => opr_fldY0 rfl hF.1 (hK _ _ (NewT.refl _) rfl)
  · exact fun a wx hT hF K hK => rely_if (rely_gt hF.2.1) (NewT.refl _) hK fun hE hK => opr_ldHs (hT.row RK.out) (by decide) rfl rfl (hF.1 hE) (hK _ _ (NewT.refl _) rfl)
  · intro a wx hT hF K hK
    obtain ⟨f9, f7, _⟩ := hF
    have f9 : (decide (1 ≤ ((List.length (ps) : Int)))) = true → a.tmps.getD 9 undef = pv := f9
    have f7 : a.tmps.getD 7 undef = .bool (decide (1 ≤ ((List.length (ps) : Int)))) := f7
    refine rely_if (rely_gt f7) (NewT.refl _) hK (fun hE hK => ?_)
    exact opr_len_h rfl (by rw [eval_tmp, (f9 hE)]; exact (hT.hs HP.out)) (hK _ _ (NewT.refl _) rfl)
  · exact fun a wx hT hF K hK => rely_if (rely_gt hF.2.1) (NewT.refl _) hK fun hE hK => opr_cmp (b := decide (((List.length (ps) : Int)) ≤ 4)) (.inr (.inr (.inl ⟨rfl, rfl⟩))) Tryd.underlying3 rfl (hF.1 hE) rfl (hK _ _ (NewT.refl _) rfl)
  · exact fun a wx hT hF K hK => rely_wp rfl (opr_pick_b rfl hF.1 (fun hb => hK _ _ (NewT.refl _) (pn_and1 Q1_1 (hF.2.1 hb) hb)) (fun hb => hK _ _ (NewT.refl _) (pn_and0 Q1_1 hb)))
  · exact fun a wx hT hF K hK => rely_wp rfl (opr_move (.inl rfl) (hK _ _ (NewT.refl _) hF.1))
  · exact fun a wx hT hF K hK => rely_if (rely_gt hF.2.1) (NewT.refl _) hK fun hE hK => opr_fldY1 rfl hF.1 (hK _ _ (NewT.refl _) rfl)
  · exact fun a wx hT hF K hK => rely_if (rely_gt hF.2.1) (NewT.refl _) hK fun hE hK => opr_ldHs (hT.row RK.out) (by decide) rfl rfl (hF.1 hE) (hK _ _ (NewT.refl _) rfl)
  · intro a wx hT hF K hK
    obtain ⟨f15, f13, _⟩ := hF
    have f15 : q1_1 = true → a.tmps.getD 15 undef = wv := f15
    have f13 : a.tmps.getD 13 undef = .bool (q1_1) := f13
    refine rely_if (rely_gt f13) (NewT.refl _) hK (fun hE hK => ?_)
    exact opr_len_h rfl (by rw [eval_tmp, (f15 hE)]; exact (hT.hs HW.out)) (hK _ _ (NewT.refl _) rfl)
  · exact fun a wx hT hF K hK => rely_if (rely_gt hF.2.1) (NewT.refl _) hK fun hE hK => opr_cmp (b := decide (1 ≤ ((List.length (ws) : Int)))) (.inr (.inr (.inr (.inr (.inr (⟨rfl, rfl⟩)))))) Tryd.underlying3 rfl (hF.1 hE) rfl (hK _ _ (NewT.refl _) rfl)
  · exact fun a wx hT hF K hK => rely_wp rfl (opr_pick_b rfl hF.1 (fun hb => hK _ _ (NewT.refl _) (pn_and1 Q2_1 (hF.2.1 hb) hb)) (fun hb => hK _ _ (NewT.refl _) (pn_and0 Q2_1 hb)))
  · exact fun a wx hT hF K hK => rely_wp rfl (opr_move (.inl rfl) (hK _ _ (NewT.refl _) hF.1))
  · exact fun a wx hT hF K hK => rely_if (rely_gt hF.2.1) (NewT.refl _) hK fun hE hK => opr_fldY1 rfl hF.1 (hK _ _ (NewT.refl _) rfl)
  · exact fun a wx hT hF K hK => rely_if (rely_gt hF.2.1) (NewT.refl _) hK fun hE hK => opr_ldHs (hT.row RK.out) (by decide) rfl rfl (hF.1 hE) (hK _ _ (NewT.refl _) rfl)
  · intro a wx hT hF K hK
    obtain ⟨f21, f19, _⟩ := hF
    have f21 : q2_1 = true → a.tmps.getD 21 undef = wv := f21
    have f19 : a.tmps.getD 19 undef = .bool (q2_1) := f19
    refine rely_if (rely_gt f19) (NewT.refl _) hK (fun hE hK => ?_)
    exact opr_len_h rfl (by rw [eval_tmp, (f21 hE)]; exact (hT.hs HW.out)) (hK _ _ (NewT.refl _) rfl)
  · exact fun a wx hT hF K hK => rely_if (rely_gt hF.2.1) (NewT.refl _) hK fun hE hK => opr_cmp (b := decide (((List.length (ws) : Int)) ≤ 4)) (.inr (.inr (.inl ⟨rfl, rfl⟩))) Tryd.underlying3 rfl (hF.1 hE) rfl (hK _ _ (NewT.refl _) rfl)
  · exact fun a wx hT hF K hK => rely_wp rfl (opr_pick_b rfl hF.1 (fun hb => hK _ _ (NewT.refl _) (pn_and1 Q3_1 (hF.2.1 hb) hb)) (fun hb => hK _ _ (NewT.refl _) (pn_and0 Q3_1 hb)))
  · exact fun a wx hT hF K hK => rely_wp rfl (opr_move (.inl rfl) (hK _ _ (NewT.refl _) hF.1))
  · exact fun a wx hT hF K hK => rely_if (rely_gt hF.2.1) (NewT.refl _) hK fun hE hK => opr_fldY2 rfl hF.1 (hK _ _ (NewT.refl _) rfl)
  · exact fun a wx hT hF K hK => rely_if (rely_gt hF.2.1) (NewT.refl _) hK fun hE hK => opr_ldI (hT.row RK.out) (by decide) rfl rfl (hF.1 hE) (hK _ _ (NewT.refl _) rfl)
  · exact fun a wx hT hF K hK => rely_if (rely_gt hF.2.1) (NewT.refl _) hK fun hE hK => opr_cmp (b := decide (1 ≤ need)) (.inr (.inr (.inr (.inr (.inr (⟨rfl, rfl⟩)))))) Tryd.underlying3 rfl (hF.1 hE) rfl (hK _ _ (NewT.refl _) rfl)
  · exact fun a wx hT hF K hK => rely_wp rfl (opr_pick_b rfl hF.1 (fun hb => hK _ _ (NewT.refl _) (pk_and1 (hF.2.1 hb) hb)) (fun hb => hK _ _ (NewT.refl _) (pk_and0 hb)))
  · exact fun a wx hT hF K hK => rely_wp rfl (opr_move (.inl rfl) (hK _ _ (NewT.refl _) hF.1))
  · exact fun a wx hT hF K hK => rely_if (rely_gt hF.2.1) (NewT.refl _) hK fun hE hK => opr_fldY2 rfl hF.1 (hK _ _ (NewT.refl _) rfl)
  · exact fun a wx hT hF K hK => rely_if (rely_gt hF.2.1) (NewT.refl _) hK fun hE hK => opr_ldI (hT.row RK.out) (by decide) rfl rfl (hF.1 hE) (hK _ _ (NewT.refl _) rfl)
  · exact fun a wx hT hF K hK => rely_if (rely_gt hF.2.1) (NewT.refl _) hK fun hE hK => opr_fldY1 rfl hF.1 (hK _ _ (NewT.refl _) rfl)
  · exact fun a wx hT hF K hK => rely_if (rely_gt hF.2.1) (NewT.refl _) hK fun hE hK => opr_ldHs (hT.row RK.out) (by decide) rfl rfl (hF.1 hE) (hK _ _ (NewT.refl _) rfl)
  · intro a wx hT hF K hK
    obtain ⟨f34, f30, _⟩ := hF
    have f34 : (q3_1 && (decide (1 ≤ need))) = true → a.tmps.getD 34 undef = wv := f34
    have f30 : a.tmps.getD 30 undef = .bool (q3_1 && (decide (1 ≤ need))) := f30
    refine rely_if (rely_gt f30) (NewT.refl _) hK (fun hE hK => ?_)
    exact opr_len_h rfl (by rw [eval_tmp, (f34 hE)]; exact (hT.hs HW.out)) (hK _ _ (NewT.refl _) rfl)
  · exact fun a wx hT hF K hK => rely_if (rely_gt hF.2.2.1) (NewT.refl _) hK fun hE hK => opr_cmp (b := decide (need ≤ ((List.length (ws) : Int)))) (.inr (.inr (.inl ⟨rfl, rfl⟩))) Tryd.underlying3 rfl (hF.1 hE) (hF.2.1 hE) (hK _ _ (NewT.refl _) rfl)
  · exact fun a wx hT hF K hK => rely_wp rfl (opr_pick_b rfl hF.1 (fun hb => hK _ _ (NewT.refl _) (pn_and1 Q4_1 (hF.2.1 hb) hb)) (fun hb => hK _ _ (NewT.refl _) (pn_and0 Q4_1 hb)))
  · exact fun a wx hT hF K hK => rely_wp rfl (opr_move (.inr rfl) (hK _ _ (NewT.refl _) hF.1))
  · intro wx hT
    iterate 5 (intro u h; obtain rfl := Eq.symm (h (by simp)); clear h)
    iterate 4 (intro _ _)
    iterate 2 (intro u h; obtain rfl := Eq.symm (h (by simp)); clear h)
    iterate 4 (intro _ _)
    iterate 2 (intro u h; obtain rfl := Eq.symm (h (by simp)); clear h)
    iterate 4 (intro _ _)
    iterate 2 (intro u h; obtain rfl := Eq.symm (h (by simp)); clear h)
    iterate 3 (intro _ _)
    iterate 2 (intro u h; obtain rfl := Eq.symm (h (by simp)); clear h)
    iterate 6 (intro _ _)
    iterate 2 (intro u h; obtain rfl := Eq.symm (h (by simp)); clear h)
    subst Q4_1 Q3_1 Q2_1 Q1_1
    refine relyEnd_nil rfl ?_
    refine wpList_end rfl ?_
    simp only [Act.put, List.setIfInBounds_toArray, List.set_cons_zero, List.set_cons_succ]
    go_simp
    go_wp2
    go_ret
    exact ⟨_, rfl, NewT.trans _ _ _ HN.out hT, rfl⟩
set_option maxHeartbeats 1000000 in
theorem RKnown_cv (v : Value) (ps ws : List Hs) (need part epoch : Int) (w : World) (hk : KeysV w v ps ws need) : Cv 29 #[v, .int .i64 part, .int .i64 epoch] w (.eq (.bool (hasB ps ws need part epoch))) := by
  rw [← known_ref]
  unfold Cv
  obtain ⟨pv, wv, rfl, hpv, hwv⟩ := hk
  go_enter Tryd.func29, Tryd.ntmps29
  go_upto_region 1 with fail
  have rk := rowIs_box w 24 3 (keyF pv wv need)
  have hN := NewT.alloc w (.cells (rowA 3 (keyF pv wv need)) 24)
  change Code.wp _ _ _ _ (w.alloc (.cells (rowA 3 (keyF pv wv need)) 24))
  generalize w.alloc (.cells (rowA 3 (keyF pv wv need)) 24) = W0 at rk hN ⊢
  have RK := Lib.hid rk
  have HN := Lib.hid hN
  have HK : Hid (KeysV W0 (.agg (rowA 3 (keyF pv wv need))) ps ws need) := Lib.hid (hN.keysV ⟨pv, wv, rfl, hpv, hwv⟩)
  have HP := Lib.hid (hN.hs hpv)
  have HW := Lib.hid (hN.hs hwv)
  clear rk hpv hwv hN
  obtain ⟨q1_1, Q1_1⟩ : ∃ bq_, ((mayB ps ws need) && (decide (0 ≤ part))) = bq_ := ⟨_, rfl⟩
  obtain ⟨q2_1, Q2_1⟩ : ∃ bq_, (q1_1 && (decide (part < ((List.length (ps) : Int))))) = bq_ := ⟨_, rfl⟩
  obtain ⟨q3_1, Q3_1⟩ : ∃ bq_, ((q2_1 && (decide (0 ≤ epoch))) && (decide (epoch ≤ 400))) = bq_ := ⟨_, rfl⟩
  refine wp_region_steps0 NewT [SV.eq (.agg (rowA 3 (keyF pv wv need))), SV.eq (.bool (mayB ps ws need)), SV.eq (.bool (mayB ps ws need)), svIf (mayB ps ws need) (SV.eq (.int .i64 (part))), svIf (mayB ps ws need) (SV.eq (.bool (decide (0 ≤ part)))), SV.eq (.bool (q1_1)), SV.eq (.bool (q1_1)), svIf q1_1 (SV.eq (.int .i64 (part))), svIf q1_1 (SV.eq (.pointer (some ⟨w.heap.size, 0, none⟩))), svIf q1_1 (SV.eq (pv)), svIf q1_1 (SV.eq (.int .i64 ((List.length (ps) : Int)))), svIf q1_1 (SV.eq (.bool (decide (part < ((List.length (ps) : Int)))))), SV.eq (.bool (q2_1)), SV.eq (.bool (q2_1)), svIf q2_1 (SV.eq (.int .i64 (epoch))), svIf q2_1 (SV.eq (.bool (decide (0 ≤ epoch)))), SV.eq (.bool (q2_1 && (decide (0 ≤ epoch)))), SV.eq (.bool (q2_1 && (decide (0 ≤ epoch)))), svIf (q2_1 && (decide (0 ≤ epoch))) (SV.eq (.int .i64 (epoch))), svIf (q2_1 && (decide (0 ≤ epoch))) (SV.eq (.bool (decide (epoch ≤ 400)))), SV.eq (.bool (q3_1)), SV.eq (.bool (q3_1))] [([(3, none)], none), ([(7, some 0)], none), ([(8, some 1)], none), ([(1, none), (9, some 2)], some (9, true)), ([(10, some 3), (9, some 2)], some (9, true)), ([(9, some 2), (11, some 4)], none), ([(12, some 5)], none), ([(1, none), (13, some 6)], some (13, true)), ([(3, none), (13, some 6)], some (13, true)), ([(15, some 8), (13, some 6)], some (13, true)), ([(16, some 9), (13, some 6)], some (13, true)), ([(14, some 7), (17, some 10), (13, some 6)], some (13, true)), ([(13, some 6), (18, some 11)], none), ([(19, some 12)], none), ([(2, none), (20, some 13)], some (20, true)), ([(21, some 14), (20, some 13)], some (20, true)), ([(20, some 13), (22, some 15)], none), ([(23, some 16)], none), ([(2, none), (24, some 17)], some (24, true)), ([(25, some 18), (24, some 17)], some (24, true)), ([(24, some 17), (26, some 19)], none), ([(27, some 20)], none)] 28 22 rfl rfl (by kernel_rfl) NewT.trans (NewT.refl _) (Nat.le_of_ble_eq_true rfl) ⟨?_, ?_, ?_, ?_, ?_, ?_, ?_, ?_, ?_, ?_, ?_, ?_, ?_, ?_, ?_, ?_, ?_, ?_, ?_, ?_, ?_, ?_, trivial⟩ ?_
  · exact fun a wx hT hF K hK => rely_wp rfl (opr_ldY (hT.row RK.out) rfl hF.1 (hK _ _ (NewT.refl _) rfl))
  · exact fun a wx hT hF K hK => rely_wp rfl (opr_cv (RMay_cv _ ps ws need wx (hT.keysV HK.out)) rfl Tryd.func13 (by kernel_rfl) (by kernel_rfl) (evs1 hF.1) hK)
  · exact fun a wx hT hF K hK => rely_wp rfl (opr_move (.inl rfl) (hK _ _ (NewT.refl _) hF.1))
  · exact fun a wx hT hF K hK => rely_if (rely_gt hF.2.1) (NewT.refl _) hK fun hE hK => opr_move (.inl rfl) (hK _ _ (NewT.refl _) hF.1)
  · exact fun a wx hT hF K hK => rely_if (rely_gt hF.2.1) (NewT.refl _) hK fun hE hK => opr_cmp (b := decide (0 ≤ part)) (.inr (.inr (.inr (.inr (.inr (⟨rfl, rfl⟩)))))) Tryd.underlying3 rfl (hF.1 hE) rfl (hK _ _ (NewT.refl _) rfl)
  · exact fun a wx hT hF K hK => rely_wp rfl (opr_pick_b rfl hF.1 (fun hb => hK _ _ (NewT.refl _) (pn_and1 Q1_1 (hF.2.1 hb) hb)) (fun hb => hK _ _ (NewT.refl _) (pn_and0 Q1_1 hb)))
  · exact fun a wx hT hF K hK => rely_wp rfl (opr_move (.inl rfl) (hK _ _ (NewT.refl _) hF.1))
  · exact fun a wx hT hF K hK => rely_if (rely_gt hF.2.1) (NewT.refl _) hK fun hE hK => opr_move (.inl rfl) (hK _ _ (NewT.refl _) hF.1)
  · exact fun a wx hT hF K hK => rely_if (rely_gt hF.2.1) (NewT.refl _) hK fun hE hK => opr_fldY0 rfl hF.1 (hK _ _ (NewT.refl _) rfl)
  · exact fun a wx hT hF K hK => rely_if (rely_gt hF.2.1) (NewT.refl _) hK fun hE hK => opr_ldHs (hT.row RK.out) (by decide) rfl rfl (hF.1 hE) (hK _ _ (NewT.refl _) rfl)
  · intro a wx hT hF K hK
    obtain ⟨f16, f13, _⟩ := hF
    have f16 : q1_1 = true → a.tmps.getD 16 undef = pv := f16
    have f13 : a.tmps.getD 13 undef = .bool (q1_1) := f13
    refine rely_if (rely_gt f13) (NewT.refl _) hK (fun hE hK => ?_)
    exact opr_len_h rfl (by rw [eval_tmp, (f16 hE)]; exact (hT.hs HP.out)) (hK _ _ (NewT.refl _) rfl)
  · exact fun a wx hT hF K hK => rely_if (rely_gt hF.2.2.1) (NewT.refl _) hK fun hE hK => opr_cmp (b := decide (part < ((List.length (ps) : Int)))) (.inr (.inr (.inr (.inl ⟨rfl, rfl⟩)))) Tryd.underlying3 rfl (hF.1 hE) (hF.2.1 hE) (hK _ _ (NewT.refl _) rfl)
  · exact fun a wx hT hF K hK => rely_wp rfl (opr_pick_b rfl hF.1 (fun hb => hK _ _ (NewT.refl _) (pn_and1 Q2_1 (hF.2.1 hb) hb)) (fun hb => hK _ _ (NewT.refl _) (pn_and0 Q2_1 hb)))
  · exact fun a wx hT hF K hK => rely_wp rfl (opr_move (.inl rfl) (hK _ _ (NewT.refl _) hF.1))
  · exact fun a wx hT hF K hK => rely_if (rely_gt hF.2.1) (NewT.refl _) hK fun hE hK => opr_move (.inl rfl) (hK _ _ (NewT.refl _) hF.1)
  · exact fun a wx hT hF K hK => rely_if (rely_gt hF.2.1) (NewT.refl _) hK fun hE hK => opr_cmp (b := decide (0 ≤ epoch)) (.inr (.inr (.inr (.inr (.inr (⟨rfl, rfl⟩)))))) Tryd.underlying3 rfl (hF.1 hE) rfl (hK _ _ (NewT.refl _) rfl)
  · exact fun a wx hT hF K hK => rely_wp rfl (opr_pick_b rfl hF.1 (fun hb => hK _ _ (NewT.refl _) (pk_and1 (hF.2.1 hb) hb)) (fun hb => hK _ _ (NewT.refl _) (pk_and0 hb)))
  · exact fun a wx hT hF K hK => rely_wp rfl (opr_move (.inl rfl) (hK _ _ (NewT.refl _) hF.1))
  · exact fun a wx hT hF K hK => rely_if (rely_gt hF.2.1) (NewT.refl _) hK fun hE hK => opr_move (.inl rfl) (hK _ _ (NewT.refl _) hF.1)
  · exact fun a wx hT hF K hK => rely_if (rely_gt hF.2.1) (NewT.refl _) hK fun hE hK => opr_cmp (b := decide (epoch ≤ 400)) (.inr (.inr (.inl ⟨rfl, rfl⟩))) Tryd.underlying3 rfl (hF.1 hE) rfl (hK _ _ (NewT.refl _) rfl)
  · exact fun a wx hT hF K hK => rely_wp rfl (opr_pick_b rfl hF.1 (fun hb => hK _ _ (NewT.refl _) (pn_and1 Q3_1 (hF.2.1 hb) hb)) (fun hb => hK _ _ (NewT.refl _) (pn_and0 Q3_1 hb)))
  · exact fun a wx hT hF K hK => rely_wp rfl (opr_move (.inr rfl) (hK _ _ (NewT.refl _) hF.1))
  · intro wx hT
    iterate 3 (intro u h; obtain rfl := Eq.symm (h (by simp)); clear h)
    iterate 2 (intro _ _)
    iterate 2 (intro u h; obtain rfl := Eq.symm (h (by simp)); clear h)
    iterate 5 (intro _ _)
    iterate 2 (intro u h; obtain rfl := Eq.symm (h (by simp)); clear h)
    iterate 2 (intro _ _)
    iterate 2 (intro u h; obtain rfl := Eq.symm (h (by simp)); clear h)
    iterate 2 (intro _ _)
    iterate 2 (intro u h; obtain rfl := Eq.symm (h (by simp)); clear h)
    subst Q3_1 Q2_1 Q1_1
    refine relyEnd_nil rfl ?_
    refine wpList_end rfl ?_
    simp only [Act.put, List.setIfInBounds_toArray, List.set_cons_zero, List.set_cons_succ]
    go_simp
    go_wp2
    go_ret
    exact ⟨_, rfl, NewT.trans _ _ _ HN.out hT, rfl⟩
set_option maxHeartbeats 1000000 in
theorem RPart_cv {kf : Hs → List Int → Hs} {tg : Hs → Hs → Hs} {pf : Int → Hs → Hs} (hX : KeyH kf tg pf) (v : Value) (ps ws : List Hs) (need part epoch : Int) (w : World) (hT : Tables w) (hk : KeysV w v ps ws need) : Cv 15 #[v, .int .i64 part, .int .i64 epoch] w (.eq (.agg (rowA 32 (bF (partH kf ps ws need part epoch))))) := by
  unfold Cv
  obtain ⟨pv, wv, rfl, hpv, hwv⟩ := hk
  have HT := Lib.hid hT
  clear hT
  go_enter Tryd.func15, Tryd.ntmps15
  go_upto_region 1 with fail
  have rk := (rowIs_box w 24 3 (keyF pv wv need)).alloc (.cells (rowA 32 (bF fun _ => 0)) 26)
  have r0 := rowIs_box (w.alloc (.cells (rowA 3 (keyF pv wv need)) 24)) 26 32 (bF fun _ => 0)
  have hN : NewT w ((w.alloc (.cells (rowA 3 (keyF pv wv need)) 24)).alloc (.cells (rowA 32 (bF fun _ => 0)) 26)) := NewT.trans _ _ _ (NewT.alloc _ _) (NewT.alloc _ _)
  rw [World.size_alloc] at r0
  change Code.wp _ _ _ _ ((w.alloc (.cells (rowA 3 (keyF pv wv need)) 24)).alloc (.cells (rowA 32 (bF fun _ => 0)) 26))
  generalize (w.alloc (.cells (rowA 3 (keyF pv wv need)) 24)).alloc (.cells (rowA 32 (bF fun _ => 0)) 26) = W0 at rk r0 hN ⊢
  have RK := Lib.hid rk
  have R0 := Lib.hid r0
  have HN := Lib.hid hN
  replace HT := Lib.hid (hN.tables HT.out)
  have HK : Hid (KeysV W0 (.agg (rowA 3 (keyF pv wv need))) ps ws need) := Lib.hid (hN.keysV ⟨pv, wv, rfl, hpv, hwv⟩)
  have HP := Lib.hid (hN.hs hpv)
  have HW := Lib.hid (hN.hs hwv)
  clear rk r0 hpv hwv hN
  refine wp_region_steps0 NewT [SV.eq (.agg (rowA 3 (keyF pv wv need))), SV.eq (.int .i64 (part)), SV.eq (.int .i64 (epoch)), SV.eq (.bool (hasB ps ws need part epoch)), SV.eq (.bool (!(hasB ps ws need part epoch)))] [([(3, none)], none), ([(1, none)], none), ([(2, none)], none), ([(7, some 0), (8, some 1), (9, some 2)], none), ([(10, some 3)], none)] 21 5 rfl rfl (by kernel_rfl) NewT.trans (NewT.refl _) (Nat.le_of_ble_eq_true rfl) ⟨?_, ?_, ?_, ?_, ?_, trivial⟩ ?_
  · exact fun a wx hT hF K hK => rely_wp rfl (opr_ldY (hT.row RK.out) rfl hF.1 (hK _ _ (NewT.refl _) rfl))
  · exact fun a wx hT hF K hK => rely_wp rfl (opr_move (.inl rfl) (hK _ _ (NewT.refl _) hF.1))
  · exact fun a wx hT hF K hK => rely_wp rfl (opr_move (.inl rfl) (hK _ _ (NewT.refl _) hF.1))
  · exact fun a wx hT hF K hK => rely_wp rfl (opr_cv (RKnown_cv _ ps ws need part epoch wx (hT.keysV HK.out)) rfl Tryd.func29 (by kernel_rfl) (by kernel_rfl) (evs3 hF.1 hF.2.1 hF.2.2.1) hK)
  · exact fun a wx hT hF K hK => rely_wp rfl (opr_not rfl hF.1 (hK _ _ (NewT.refl _) rfl))
  · intro w1 k1
    iterate 5 (intro u h; obtain rfl := Eq.symm (h (by simp)); clear h)
    refine relyEnd_nil rfl ?_
    refine wpList_end rfl ?_
    simp only [Act.put, List.setIfInBounds_toArray, List.set_cons_zero, List.set_cons_succ]
    go_simp
    replace RK := Lib.hid (k1.row RK.out)
    replace R0 := Lib.hid (k1.row R0.out)
    replace HK := Lib.hid (k1.keysV HK.out)
    replace HP := Lib.hid (k1.hs HP.out)
    replace HW := Lib.hid (k1.hs HW.out)
    replace HT := Lib.hid (k1.tables HT.out)
    replace HN := Lib.hid (NewT.trans _ _ _ HN.out k1)
    clear k1
    cases hb : hasB ps ws need part epoch
    · have HE : Hid (partH kf ps ws need part epoch = z32) := Lib.hid (by unfold partH; rw [hb]; rfl)
      clear hb
      go_upto_region 2 with fail
      refine wp_region_steps0 NewT [SV.eq (.agg (rowA 32 (bF (z32))))] [([], none)] 21 1 rfl rfl (by kernel_rfl) NewT.trans (NewT.refl _) (Nat.le_of_ble_eq_true rfl) ⟨?_, trivial⟩ ?_
      · exact fun a wx hT hF K hK => rely_wp rfl (opr_build (pv := #[]) rfl (by simp) (build_z32 wx) (hK _ _ (NewT.refl _) rfl))
      · intro wx hT
        intro u h; obtain rfl := Eq.symm (h (by simp)); clear h
        refine relyEnd_nil rfl ?_
        simp only [Act.put, List.setIfInBounds_toArray, List.set_cons_zero, List.set_cons_succ]
        refine wpList_plain rfl (fun K hK => ?_)
        refine opr_store_new (B := w.heap.size) (W := w) info31 rfl rfl rfl (hT.row R0.out) (NewT.trans _ _ _ HN.out hT) (Nat.le_succ _) ?_
        intro w9 hB9 r9
        refine hK _ _ ?_
        refine wpList_end rfl ?_
        simp only [Act.put, List.setIfInBounds_toArray, List.set_cons_zero, List.set_cons_succ]
        go_simp
        go_wp2
        exact bodyPost_ret (results_row rfl _ rfl r9 Tryd.underlying26 info31) rfl ⟨_, rfl, hB9, by rw [HE.out]; rfl⟩
    · obtain ⟨i, rfl, _, hd⟩ := hasB_at hb
      obtain ⟨d, hdd⟩ := hid_ex (ps.getD ((i : Int)).toNat z32)
      have HD : Hid (ps[i]? = some d) := Lib.hid (by rw [hd, hdd.out])
      have HE : Hid (partH kf ps ws need (i : Int) epoch = kf d [1, epoch]) := Lib.hid (by unfold partH; rw [hb, if_pos rfl, hdd.out])
      clear hb hd hdd
      go_upto_region 3 with fail
      refine wp_region_steps0 NewT [SV.eq (.pointer (some ⟨w.heap.size, 0, none⟩)), SV.eq (pv), SV.eq (.int .i64 ((i : Int))), svP (d), SV.eq (.agg (rowA 32 (bF (d)))), SV.eq (.int .i64 (epoch)), svInts [1, epoch], SV.eq (.agg (rowA 32 (bF (kf (d) [1, epoch]))))] [([(3, none)], none), ([(13, some 0)], none), ([(1, none)], none), ([(14, some 1), (15, some 2)], none), ([(16, some 3)], none), ([(2, none)], none), ([(18, some 5)], none), ([(17, some 4), (19, some 6)], none)] 21 8 rfl rfl (by kernel_rfl) NewT.trans (NewT.refl _) (Nat.le_of_ble_eq_true rfl) ⟨?_, ?_, ?_, ?_, ?_, ?_, ?_, ?_, trivial⟩ ?_
      · exact fun a wx hT hF K hK => rely_wp rfl (opr_fldY0 rfl hF.1 (hK _ _ (NewT.refl _) rfl))
      · exact fun a wx hT hF K hK => rely_wp rfl (opr_ldHs (hT.row RK.out) (by decide) rfl rfl hF.1 (hK _ _ (NewT.refl _) rfl))
      · exact fun a wx hT hF K hK => rely_wp rfl (opr_move (.inl rfl) (hK _ _ (NewT.refl _) hF.1))
      · intro a wx hT hF K hK
        obtain ⟨f14, f15, _⟩ := hF
        have f14 : a.tmps.getD 14 undef = pv := f14
        have f15 : a.tmps.getD 15 undef = .int .i64 ((i : Int)) := f15
        refine rely_wp rfl ?_
        exact opr_idxH (i := i) (d := d) (HD.out) (rfl) rfl (by rw [eval_tmp, f14]; exact (hT.hs HP.out)) f15 (fun v hv => hK v _ (NewT.refl _) hv)
      · exact fun a wx hT hF K hK => rely_wp rfl (opr_ldP rfl hF.1 (hK _ _ (NewT.refl _) rfl))
      · exact fun a wx hT hF K hK => rely_wp rfl (opr_move (.inl rfl) (hK _ _ (NewT.refl _) hF.1))
      · exact fun a wx hT hF K hK => rely_wp rfl (opr_bsI2 rfl rfl hF.1 hK)
      · exact fun a wx hT hF K hK => rely_wp rfl (opr_cv (RKey_cv (d) _ [1, epoch] _ wx (hT.tables HT.out) hF.2.1 (by simp) (hX.key _ _)) rfl Tryd.func30 (by kernel_rfl) (by kernel_rfl) (evs2 hF.1 rfl) hK)
      · intro wx hT
        iterate 3 (intro u h; obtain rfl := Eq.symm (h (by simp)); clear h)
        intro _ _
        iterate 2 (intro u h; obtain rfl := Eq.symm (h (by simp)); clear h)
        intro _ _
        intro u h; obtain rfl := Eq.symm (h (by simp)); clear h
        refine relyEnd_nil rfl ?_
        simp only [Act.put, List.setIfInBounds_toArray, List.set_cons_zero, List.set_cons_succ]
        refine wpList_plain rfl (fun K hK => ?_)
        refine opr_store_new (B := w.heap.size) (W := w) info31 rfl rfl rfl (hT.row R0.out) (NewT.trans _ _ _ HN.out hT) (Nat.le_succ _) ?_
        intro w9 hB9 r9
        refine hK _ _ ?_
        refine wpList_end rfl ?_
        simp only [Act.put, List.setIfInBounds_toArray, List.set_cons_zero, List.set_cons_succ]
        go_simp
        go_wp2
        exact bodyPost_ret (results_row rfl _ rfl r9 Tryd.underlying26 info31) rfl ⟨_, rfl, hB9, by rw [HE.out]; rfl⟩
set_option maxHeartbeats 4000000 in
theorem RReceipt_cv {kf : Hs → List Int → Hs} {tg : Hs → Hs → Hs} {pf : Int → Hs → Hs} (hX : KeyH kf tg pf) (v u : Value) (ps ws : List Hs) (need : Int) (x : Rc) (w : World) (hT : Tables w) (hk : KeysV w v ps ws need) (hx : RecV w u x) : Cv 17 #[v, u] w (.eq (.agg (rowA 32 (bF (recpH kf ps ws need x))))) := by
  unfold Cv
  obtain ⟨pv, wv, rfl, hpv, hwv⟩ := hk
  obtain ⟨sv, dv, rfl, hs, hd⟩ := hx
  have HT := Lib.hid hT
  clear hT
  go_enter Tryd.func17, Tryd.ntmps17
  go_upto_region 1 with fail
  have rk := ((rowIs_box w 24 3 (keyF pv wv need)).alloc (.cells (rowA 109 (recF x sv dv)) 30)).alloc (.cells (rowA 32 (bF fun _ => 0)) 26)
  have r1 := (rowIs_box (w.alloc (.cells (rowA 3 (keyF pv wv need)) 24)) 30 109 (recF x sv dv)).alloc (.cells (rowA 32 (bF fun _ => 0)) 26)
  have r0 := rowIs_box ((w.alloc (.cells (rowA 3 (keyF pv wv need)) 24)).alloc (.cells (rowA 109 (recF x sv dv)) 30)) 26 32 (bF fun _ => 0)
  have hN : NewT w (((w.alloc (.cells (rowA 3 (keyF pv wv need)) 24)).alloc (.cells (rowA 109 (recF x sv dv)) 30)).alloc (.cells (rowA 32 (bF fun _ => 0)) 26)) := NewT.trans _ _ _ (NewT.alloc _ _) (NewT.trans _ _ _ (NewT.alloc _ _) (NewT.alloc _ _))
  rw [World.size_alloc] at r1
  rw [World.size_alloc, World.size_alloc] at r0
  change Code.wp _ _ _ _ (((w.alloc (.cells (rowA 3 (keyF pv wv need)) 24)).alloc (.cells (rowA 109 (recF x sv dv)) 30)).alloc (.cells (rowA 32 (bF fun _ => 0)) 26))
  generalize ((w.alloc (.cells (rowA 3 (keyF pv wv need)) 24)).alloc (.cells (rowA 109 (recF x sv dv)) 30)).alloc (.cells (rowA 32 (bF fun _ => 0)) 26) = W0 at rk r1 r0 hN ⊢
  have RK := Lib.hid rk
  have R1 := Lib.hid r1
  have R0 := Lib.hid r0
  have HN := Lib.hid hN
  replace HT := Lib.hid (hN.tables HT.out)
  have HK : Hid (KeysV W0 (.agg (rowA 3 (keyF pv wv need))) ps ws need) := Lib.hid (hN.keysV ⟨pv, wv, rfl, hpv, hwv⟩)
  have HP := Lib.hid (hN.hs hpv)
  have HW := Lib.hid (hN.hs hwv)
  have HX : Hid (RecV W0 (.agg (rowA 109 (recF x sv dv))) x) := Lib.hid (hN.recV ⟨sv, dv, rfl, hs, hd⟩)
  have HS := Lib.hid (hN.pairs hs)
  have HD := Lib.hid (hN.rd hd)
  clear rk r0 r1 hpv hwv hN hs hd
  obtain ⟨q1_1, Q1_1⟩ : ∃ bq_, ((x.kind != 3) || (!(hasB ps ws need x.part x.epoch))) = bq_ := ⟨_, rfl⟩
  refine wp_region_steps0 NewT [SV.eq (.pointer (some ⟨w.heap.size + 1, 0, none⟩)), SV.eq (.int .i64 (x.kind)), SV.eq (.bool (x.kind != 3)), SV.eq (.bool (x.kind != 3)), svIf ((!(x.kind != 3))) (SV.eq (.agg (rowA 3 (keyF pv wv need)))), svIf ((!(x.kind != 3))) (SV.eq (.pointer (some ⟨w.heap.size + 1, 8, none⟩))), svIf ((!(x.kind != 3))) (SV.eq (.int .i64 (x.part))), svIf ((!(x.kind != 3))) (SV.eq (.pointer (some ⟨w.heap.size + 1, 9, none⟩))), svIf ((!(x.kind != 3))) (SV.eq (.int .i64 (x.epoch))), svIf ((!(x.kind != 3))) (SV.eq (.bool (hasB ps ws need x.part x.epoch))), svIf ((!(x.kind != 3))) (SV.eq (.bool (!(hasB ps ws need x.part x.epoch)))), SV.eq (.bool (q1_1))] [([(3, none)], none), ([(7, some 0)], none), ([(8, some 1)], none), ([(9, some 2)], none), ([(2, none), (10, some 3)], some (10, false)), ([(3, none), (10, some 3)], some (10, false)), ([(12, some 5), (10, some 3)], some (10, false)), ([(3, none), (10, some 3)], some (10, false)), ([(14, some 7), (10, some 3)], some (10, false)), ([(11, some 4), (13, some 6), (15, some 8), (10, some 3)], some (10, false)), ([(16, some 9), (10, some 3)], some (10, false)), ([(10, some 3), (17, some 10)], none)] 38 12 rfl rfl (by kernel_rfl) NewT.trans (NewT.refl _) (Nat.le_of_ble_eq_true rfl) ⟨?_, ?_, ?_, ?_, ?_, ?_, ?_, ?_, ?_, ?_, ?_, ?_, trivial⟩ ?_
  · exact fun a wx hT hF K hK => rely_wp rfl (opr_fldR (by decide) rfl hF.1 (hK _ _ (NewT.refl _) rfl))
  · exact fun a wx hT hF K hK => rely_wp rfl (opr_ldI (hT.row R1.out) (by decide) rfl rfl hF.1 (hK _ _ (NewT.refl _) rfl))
  · exact fun a wx hT hF K hK => rely_wp rfl (opr_cmp (b := x.kind != 3) (.inr (.inl ⟨rfl, rfl⟩)) Tryd.underlying3 rfl hF.1 rfl (hK _ _ (NewT.refl _) rfl))
  · exact fun a wx hT hF K hK => rely_wp rfl (opr_move (.inl rfl) (hK _ _ (NewT.refl _) hF.1))
  · exact fun a wx hT hF K hK => rely_if (rely_gf hF.2.1) (NewT.refl _) hK fun hE hK => opr_ldY (hT.row RK.out) rfl hF.1 (hK _ _ (NewT.refl _) rfl)
  · exact fun a wx hT hF K hK => rely_if (rely_gf hF.2.1) (NewT.refl _) hK fun hE hK => opr_fldR (by decide) rfl hF.1 (hK _ _ (NewT.refl _) rfl)
  · exact fun a wx hT hF K hK => rely_if (rely_gf hF.2.1) (NewT.refl _) hK fun hE hK => opr_ldI (hT.row R1.out) (by decide) rfl rfl (hF.1 hE) (hK _ _ (NewT.refl _) rfl)
  · exact fun a wx hT hF K hK => rely_if (rely_gf hF.2.1) (NewT.refl _) hK fun hE hK => opr_fldR (by decide) rfl hF.1 (hK _ _ (NewT.refl _) rfl)
  · exact fun a wx hT hF K hK => rely_if (rely_gf hF.2.1) (NewT.refl _) hK fun hE hK => opr_ldI (hT.row R1.out) (by decide) rfl rfl (hF.1 hE) (hK _ _ (NewT.refl _) rfl)
  · exact fun a wx hT hF K hK => rely_if (rely_gf hF.2.2.2.1) (NewT.refl _) hK fun hE hK => opr_cv (RKnown_cv _ ps ws need x.part x.epoch wx (hT.keysV HK.out)) rfl Tryd.func29 (by kernel_rfl) (by kernel_rfl) (evs3 (hF.1 hE) (hF.2.1 hE) (hF.2.2.1 hE)) hK
  · exact fun a wx hT hF K hK => rely_if (rely_gf hF.2.1) (NewT.refl _) hK fun hE hK => opr_not rfl (hF.1 hE) (hK _ _ (NewT.refl _) rfl)
  · exact fun a wx hT hF K hK => rely_wp rfl (opr_pick_b rfl hF.1 (fun hb => hK _ _ (NewT.refl _) (pn_or1 Q1_1 hb)) (fun hb => hK _ _ (NewT.refl _) (pn_or0 Q1_1 (hF.2.1 (bnot hb)) hb)))
  · intro w1 k1
    iterate 4 (intro u h; obtain rfl := Eq.symm (h (by simp)); clear h)
    iterate 7 (intro _ _)
    intro u h; obtain rfl := Eq.symm (h (by simp)); clear h
    subst Q1_1
    refine relyEnd_nil rfl ?_
    refine wpList_end rfl ?_
    simp only [Act.put, List.setIfInBounds_toArray, List.set_cons_zero, List.set_cons_succ]
    go_simp
    replace RK := Lib.hid (k1.row RK.out)
    replace R1 := Lib.hid (k1.row R1.out)
    replace R0 := Lib.hid (k1.row R0.out)
    replace HK := Lib.hid (k1.keysV HK.out)
    replace HP := Lib.hid (k1.hs HP.out)
    replace HW := Lib.hid (k1.hs HW.out)
    replace HX := Lib.hid (k1.recV HX.out)
    replace HS := Lib.hid (k1.pairs HS.out)
    replace HD := Lib.hid (k1.rd HD.out)
    replace HT := Lib.hid (k1.tables HT.out)
    replace HN := Lib.hid (NewT.trans _ _ _ HN.out k1)
    clear k1
    cases hb : ((x.kind != 3) || !hasB ps ws need x.part x.epoch)
    · have HE0 : Hid (recpH kf ps ws need x = kf (partH kf ps ws need x.part x.epoch) [2, x.saga, x.step, bI x.back, bI x.good]) := Lib.hid (by unfold recpH; rw [or_not hb]; rfl)
      have c5 : w1.cell? ⟨w.heap.size + 1, 5, none⟩ = some (.bool x.back) := R1.out.cell (i := 5) (by omega)
      have c6 : w1.cell? ⟨w.heap.size + 1, 6, none⟩ = some (.bool x.good) := R1.out.cell (i := 6) (by omega)
      clear hb
      cases hbk : x.back <;> cases hgd : x.good
      · rw [hbk] at c5
        rw [hgd] at c6
        have HE : Hid (recpH kf ps ws need x = kf (partH kf ps ws need x.part x.epoch) [2, x.saga, x.step, 0, 0]) := Lib.hid (by rw [HE0.out, hbk, hgd]; rfl)
        clear hbk hgd
        go_upto_region 8 with fail
        clear c5 c6
        refine wp_region_rely (NewT) [SV.eq (.agg (rowA 3 (keyF pv wv need))), SV.eq (.pointer (some ⟨w.heap.size + 1, 8, none⟩)), SV.eq (.int .i64 (x.part)), SV.eq (.pointer (some ⟨w.heap.size + 1, 9, none⟩)), SV.eq (.int .i64 (x.epoch)), SV.eq (.agg (rowA 32 (bF (partH kf ps ws need x.part x.epoch)))), SV.eq (.pointer (some ⟨w.heap.size + 1, 1, none⟩)), SV.eq (.int .i64 (x.saga)), SV.eq (.pointer (some ⟨w.heap.size + 1, 3, none⟩)), SV.eq (.int .i64 (x.step)), SV.eq (.int .i64 (0)), SV.eq (.int .i64 (0)), svInts [2, x.saga, x.step, 0, 0], SV.eq (.agg (rowA 32 (bF (kf (partH kf ps ws need x.part x.epoch) [2, x.saga, x.step, 0, 0]))))] [([(2, none)], none), ([(3, none)], none), ([(25, some 1)], none), ([(3, none)], none), ([(27, some 3)], none), ([(24, some 0), (26, some 2), (28, some 4)], none), ([(3, none)], none), ([(30, some 6)], none), ([(3, none)], none), ([(32, some 8)], none), ([(5, none)], none), ([(6, none)], none), ([(31, some 7), (33, some 9), (34, some 10), (35, some 11)], none), ([(29, some 5), (36, some 12)], none)] 38 rfl (by kernel_rfl) rfl (by kernel_rfl) (by kernel_rfl) rfl NewT.trans (NewT.drew _) (Nat.le_of_ble_eq_true rfl) ⟨?_, ?_, ?_, ?_, ?_, ?_, ?_, ?_, ?_, ?_, ?_, ?_, ?_, ?_, trivial⟩ ?_
        · exact fun a wx hT hF K hK => rely_wp rfl (opr_ldY (hT.row RK.out) rfl hF.1 (hK _ _ (NewT.refl _) rfl))
        · exact fun a wx hT hF K hK => rely_wp rfl (opr_fldR (by decide) rfl hF.1 (hK _ _ (NewT.refl _) rfl))
        · exact fun a wx hT hF K hK => rely_wp rfl (opr_ldI (hT.row R1.out) (by decide) rfl rfl hF.1 (hK _ _ (NewT.refl _) rfl))
        · exact fun a wx hT hF K hK => rely_wp rfl (opr_fldR (by decide) rfl hF.1 (hK _ _ (NewT.refl _) rfl))
        · exact fun a wx hT hF K hK => rely_wp rfl (opr_ldI (hT.row R1.out) (by decide) rfl rfl hF.1 (hK _ _ (NewT.refl _) rfl))
        · exact fun a wx hT hF K hK => rely_wp rfl (opr_cv (RPart_cv hX _ ps ws need x.part x.epoch wx (hT.tables HT.out) (hT.keysV HK.out)) rfl Tryd.func15 (by kernel_rfl) (by kernel_rfl) (evs3 hF.1 hF.2.1 hF.2.2.1) hK)
        · exact fun a wx hT hF K hK => rely_wp rfl (opr_fldR (by decide) rfl hF.1 (hK _ _ (NewT.refl _) rfl))
        · exact fun a wx hT hF K hK => rely_wp rfl (opr_ldI (hT.row R1.out) (by decide) rfl rfl hF.1 (hK _ _ (NewT.refl _) rfl))
        · exact fun a wx hT hF K hK => rely_wp rfl (opr_fldR (by decide) rfl hF.1 (hK _ _ (NewT.refl _) rfl))
        · exact fun a wx hT hF K hK => rely_wp rfl (opr_ldI (hT.row R1.out) (by decide) rfl rfl hF.1 (hK _ _ (NewT.refl _) rfl))
        · exact fun a wx hT hF K hK => rely_wp rfl (opr_move (.inl rfl) (hK _ _ (NewT.refl _) hF.1))
        · exact fun a wx hT hF K hK => rely_wp rfl (opr_move (.inl rfl) (hK _ _ (NewT.refl _) hF.1))
        · exact fun a wx hT hF K hK => rely_wp rfl (opr_bsI5 rfl rfl hF.1 hF.2.1 hF.2.2.1 hF.2.2.2.1 hK)
        · exact fun a wx hT hF K hK => rely_wp rfl (opr_cv (RKey_cv (partH kf ps ws need x.part x.epoch) _ [2, x.saga, x.step, 0, 0] _ wx (hT.tables HT.out) hF.2.1 (by simp) (hX.key _ _)) rfl Tryd.func30 (by kernel_rfl) (by kernel_rfl) (evs2 hF.1 rfl) hK)
        · intro wx hT
          iterate 12 (intro u h; obtain rfl := Eq.symm (h (by simp)); clear h)
          intro _ _
          intro u h; obtain rfl := Eq.symm (h (by simp)); clear h
          refine relyEnd_nil rfl ?_
          simp only [Act.put, List.setIfInBounds_toArray, List.set_cons_zero, List.set_cons_succ]
          refine opr_store_new (B := w.heap.size) (W := w) info31 rfl rfl rfl (hT.row R0.out) (NewT.trans _ _ _ HN.out hT) (by omega) ?_
          intro w9 hB9 r9
          go_simp
          go_wp2
          exact bodyPost_ret (results_row rfl _ rfl r9 Tryd.underlying26 info31) rfl ⟨_, rfl, hB9, by rw [HE.out]; rfl⟩
      · rw [hbk] at c5
        rw [hgd] at c6
        have HE : Hid (recpH kf ps ws need x = kf (partH kf ps ws need x.part x.epoch) [2, x.saga, x.step, 0, 1]) := Lib.hid (by rw [HE0.out, hbk, hgd]; rfl)
        clear hbk hgd
        go_upto_region 8 with fail
        clear c5 c6
        refine wp_region_rely (NewT) [SV.eq (.agg (rowA 3 (keyF pv wv need))), SV.eq (.pointer (some ⟨w.heap.size + 1, 8, none⟩)), SV.eq (.int .i64 (x.part)), SV.eq (.pointer (some ⟨w.heap.size + 1, 9, none⟩)), SV.eq (.int .i64 (x.epoch)), SV.eq (.agg (rowA 32 (bF (partH kf ps ws need x.part x.epoch)))), SV.eq (.pointer (some ⟨w.heap.size + 1, 1, none⟩)), SV.eq (.int .i64 (x.saga)), SV.eq (.pointer (some ⟨w.heap.size + 1, 3, none⟩)), SV.eq (.int .i64 (x.step)), SV.eq (.int .i64 (0)), SV.eq (.int .i64 (1)), svInts [2, x.saga, x.step, 0, 1], SV.eq (.agg (rowA 32 (bF (kf (partH kf ps ws need x.part x.epoch) [2, x.saga, x.step, 0, 1]))))] [([(2, none)], none), ([(3, none)], none), ([(25, some 1)], none), ([(3, none)], none), ([(27, some 3)], none), ([(24, some 0), (26, some 2), (28, some 4)], none), ([(3, none)], none), ([(30, some 6)], none), ([(3, none)], none), ([(32, some 8)], none), ([(5, none)], none), ([(6, none)], none), ([(31, some 7), (33, some 9), (34, some 10), (35, some 11)], none), ([(29, some 5), (36, some 12)], none)] 38 rfl (by kernel_rfl) rfl (by kernel_rfl) (by kernel_rfl) rfl NewT.trans (NewT.drew _) (Nat.le_of_ble_eq_true rfl) ⟨?_, ?_, ?_, ?_, ?_, ?_, ?_, ?_, ?_, ?_, ?_, ?_, ?_, ?_, trivial⟩ ?_
        · exact fun a wx hT hF K hK => rely_wp rfl (opr_ldY (hT.row RK.out) rfl hF.1 (hK _ _ (NewT.refl _) rfl))
        · exact fun a wx hT hF K hK => rely_wp rfl (opr_fldR (by decide) rfl hF.1 (hK _ _ (NewT.refl _) rfl))
        · exact fun a wx hT hF K hK => rely_wp rfl (opr_ldI (hT.row R1.out) (by decide) rfl rfl hF.1 (hK _ _ (NewT.refl _) rfl))
        · exact fun a wx hT hF K hK => rely_wp rfl (opr_fldR (by decide) rfl hF.1 (hK _ _ (NewT.refl _) rfl))
        · exact fun a wx hT hF K hK => rely_wp rfl (opr_ldI (hT.row R1.out) (by decide) rfl rfl hF.1 (hK _ _ (NewT.refl _) rfl))
        · exact fun a wx hT hF K hK => rely_wp rfl (opr_cv (RPart_cv hX _ ps ws need x.part x.epoch wx (hT.tables HT.out) (hT.keysV HK.out)) rfl Tryd.func15 (by kernel_rfl) (by kernel_rfl) (evs3 hF.1 hF.2.1 hF.2.2.1) hK)
        · exact fun a wx hT hF K hK => rely_wp rfl (opr_fldR (by decide) rfl hF.1 (hK _ _ (NewT.refl _) rfl))
        · exact fun a wx hT hF K hK => rely_wp rfl (opr_ldI (hT.row R1.out) (by decide) rfl rfl hF.1 (hK _ _ (NewT.refl _) rfl))
        · exact fun a wx hT hF K hK => rely_wp rfl (opr_fldR (by decide) rfl hF.1 (hK _ _ (NewT.refl _) rfl))
        · exact fun a wx hT hF K hK => rely_wp rfl (opr_ldI (hT.row R1.out) (by decide) rfl rfl hF.1 (hK _ _ (NewT.refl _) rfl))
        · exact fun a wx hT hF K hK => rely_wp rfl (opr_move (.inl rfl) (hK _ _ (NewT.refl _) hF.1))
        · exact fun a wx hT hF K hK => rely_wp rfl (opr_move (.inl rfl) (hK _ _ (NewT.refl _) hF.1))
        · exact fun a wx hT hF K hK => rely_wp rfl (opr_bsI5 rfl rfl hF.1 hF.2.1 hF.2.2.1 hF.2.2.2.1 hK)
        · exact fun a wx hT hF K hK => rely_wp rfl (opr_cv (RKey_cv (partH kf ps ws need x.part x.epoch) _ [2, x.saga, x.step, 0, 1] _ wx (hT.tables HT.out) hF.2.1 (by simp) (hX.key _ _)) rfl Tryd.func30 (by kernel_rfl) (by kernel_rfl) (evs2 hF.1 rfl) hK)
        · intro wx hT
          iterate 12 (intro u h; obtain rfl := Eq.symm (h (by simp)); clear h)
          intro _ _
          intro u h; obtain rfl := Eq.symm (h (by simp)); clear h
          refine relyEnd_nil rfl ?_
          simp only [Act.put, List.setIfInBounds_toArray, List.set_cons_zero, List.set_cons_succ]
          refine opr_store_new (B := w.heap.size) (W := w) info31 rfl rfl rfl (hT.row R0.out) (NewT.trans _ _ _ HN.out hT) (by omega) ?_
          intro w9 hB9 r9
          go_simp
          go_wp2
          exact bodyPost_ret (results_row rfl _ rfl r9 Tryd.underlying26 info31) rfl ⟨_, rfl, hB9, by rw [HE.out]; rfl⟩
      · rw [hbk] at c5
        rw [hgd] at c6
        have HE : Hid (recpH kf ps ws need x = kf (partH kf ps ws need x.part x.epoch) [2, x.saga, x.step, 1, 0]) := Lib.hid (by rw [HE0.out, hbk, hgd]; rfl)
        clear hbk hgd
        go_upto_region 8 with fail
        clear c5 c6
        refine wp_region_rely (NewT) [SV.eq (.agg (rowA 3 (keyF pv wv need))), SV.eq (.pointer (some ⟨w.heap.size + 1, 8, none⟩)), SV.eq (.int .i64 (x.part)), SV.eq (.pointer (some ⟨w.heap.size + 1, 9, none⟩)), SV.eq (.int .i64 (x.epoch)), SV.eq (.agg (rowA 32 (bF (partH kf ps ws need x.part x.epoch)))), SV.eq (.pointer (some ⟨w.heap.size + 1, 1, none⟩)), SV.eq (.int .i64 (x.saga)), SV.eq (.pointer (some ⟨w.heap.size + 1, 3, none⟩)), SV.eq (.int .i64 (x.step)), SV.eq (.int .i64 (1)), SV.eq (.int .i64 (0)), svInts [2, x.saga, x.step, 1, 0], SV.eq (.agg (rowA 32 (bF (kf (partH kf ps ws need x.part x.epoch) [2, x.saga, x.step, 1, 0]))))] [([(2, none)], none), ([(3, none)], none), ([(25, some 1)], none), ([(3, none)], none), ([(27, some 3)], none), ([(24, some 0), (26, some 2), (28, some 4)], none), ([(3, none)], none), ([(30, some 6)], none), ([(3, none)], none), ([(32, some 8)], none), ([(5, none)], none), ([(6, none)], none), ([(31, some 7), (33, some 9), (34, some 10), (35, some 11)], none), ([(29, some 5), (36, some 12)], none)] 38 rfl (by kernel_rfl) rfl (by kernel_rfl) (by kernel_rfl) rfl NewT.trans (NewT.drew _) (Nat.le_of_ble_eq_true rfl) ⟨?_, ?_, ?_, ?_, ?_, ?_, ?_, ?_, ?_, ?_, ?_, ?_, ?_, ?_, trivial⟩ ?_
        · exact fun a wx hT hF K hK => rely_wp rfl (opr_ldY (hT.row RK.out) rfl hF.1 (hK _ _ (NewT.refl _) rfl))
        · exact fun a wx hT hF K hK => rely_wp rfl (opr_fldR (by decide) rfl hF.1 (hK _ _ (NewT.refl _) rfl))
        · exact fun a wx hT hF K hK => rely_wp rfl (opr_ldI (hT.row R1.out) (by decide) rfl rfl hF.1 (hK _ _ (NewT.refl _) rfl))
        · exact fun a wx hT hF K hK => rely_wp rfl (opr_fldR (by decide) rfl hF.1 (hK _ _ (NewT.refl _) rfl))
        · exact fun a wx hT hF K hK => rely_wp rfl (opr_ldI (hT.row R1.out) (by decide) rfl rfl hF.1 (hK _ _ (NewT.refl _) rfl))
        · exact fun a wx hT hF K hK => rely_wp rfl (opr_cv (RPart_cv hX _ ps ws need x.part x.epoch wx (hT.tables HT.out) (hT.keysV HK.out)) rfl Tryd.func15 (by kernel_rfl) (by kernel_rfl) (evs3 hF.1 hF.2.1 hF.2.2.1) hK)
        · exact fun a wx hT hF K hK => rely_wp rfl (opr_fldR (by decide) rfl hF.1 (hK _ _ (NewT.refl _) rfl))
        · exact fun a wx hT hF K hK => rely_wp rfl (opr_ldI (hT.row R1.out) (by decide) rfl rfl hF.1 (hK _ _ (NewT.refl _) rfl))
        · exact fun a wx hT hF K hK => rely_wp rfl (opr_fldR (by decide) rfl hF.1 (hK _ _ (NewT.refl _) rfl))
        · exact fun a wx hT hF K hK => rely_wp rfl (opr_ldI (hT.row R1.out) (by decide) rfl rfl hF.1 (hK _ _ (NewT.refl _) rfl))
        · exact fun a wx hT hF K hK => rely_wp rfl (opr_move (.inl rfl) (hK _ _ (NewT.refl _) hF.1))
        · exact fun a wx hT hF K hK => rely_wp rfl (opr_move (.inl rfl) (hK _ _ (NewT.refl _) hF.1))
        · exact fun a wx hT hF K hK => rely_wp rfl (opr_bsI5 rfl rfl hF.1 hF.2.1 hF.2.2.1 hF.2.2.2.1 hK)
        · exact fun a wx hT hF K hK => rely_wp rfl (opr_cv (RKey_cv (partH kf ps ws need x.part x.epoch) _ [2, x.saga, x.step, 1, 0] _ wx (hT.tables HT.out) hF.2.1 (by simp) (hX.key _ _)) rfl Tryd.func30 (by kernel_rfl) (by kernel_rfl) (evs2 hF.1 rfl) hK)
        · intro wx hT
          iterate 12 (intro u h; obtain rfl := Eq.symm (h (by simp)); clear h)
          intro _ _
          intro u h; obtain rfl := Eq.symm (h (by simp)); clear h
          refine relyEnd_nil rfl ?_
          simp only [Act.put, List.setIfInBounds_toArray, List.set_cons_zero, List.set_cons_succ]
          refine opr_store_new (B := w.heap.size) (W := w) info31 rfl rfl rfl (hT.row R0.out) (NewT.trans _ _ _ HN.out hT) (by omega) ?_
          intro w9 hB9 r9
          go_simp
          go_wp2
          exact bodyPost_ret (results_row rfl _ rfl r9 Tryd.underlying26 info31) rfl ⟨_, rfl, hB9, by rw [HE.out]; rfl⟩
      · rw [hbk] at c5
        rw [hgd] at c6
        have HE : Hid (recpH kf ps ws need x = kf (partH kf ps ws need x.part x.epoch) [2, x.saga, x.step, 1, 1]) := Lib.hid (by rw [HE0.out, hbk, hgd]; rfl)
        clear hbk hgd
        go_upto_region 8 with fail
        clear c5 c6
        refine wp_region_rely (NewT) [SV.eq (.agg (rowA 3 (keyF pv wv need))), SV.eq (.pointer (some ⟨w.heap.size + 1, 8, none⟩)), SV.eq (.int .i64 (x.part)), SV.eq (.pointer (some ⟨w.heap.size + 1, 9, none⟩)), SV.eq (.int .i64 (x.epoch)), SV.eq (.agg (rowA 32 (bF (partH kf ps ws need x.part x.epoch)))), SV.eq (.pointer (some ⟨w.heap.size + 1, 1, none⟩)), SV.eq (.int .i64 (x.saga)), SV.eq (.pointer (some ⟨w.heap.size + 1, 3, none⟩)), SV.eq (.int .i64 (x.step)), SV.eq (.int .i64 (1)), SV.eq (.int .i64 (1)), svInts [2, x.saga, x.step, 1, 1], SV.eq (.agg (rowA 32 (bF (kf (partH kf ps ws need x.part x.epoch) [2, x.saga, x.step, 1, 1]))))] [([(2, none)], none), ([(3, none)], none), ([(25, some 1)], none), ([(3, none)], none), ([(27, some 3)], none), ([(24, some 0), (26, some 2), (28, some 4)], none), ([(3, none)], none), ([(30, some 6)], none), ([(3, none)], none), ([(32, some 8)], none), ([(5, none)], none), ([(6, none)], none), ([(31, some 7), (33, some 9), (34, some 10), (35, some 11)], none), ([(29, some 5), (36, some 12)], none)] 38 rfl (by kernel_rfl) rfl (by kernel_rfl) (by kernel_rfl) rfl NewT.trans (NewT.drew _) (Nat.le_of_ble_eq_true rfl) ⟨?_, ?_, ?_, ?_, ?_, ?_, ?_, ?_, ?_, ?_, ?_, ?_, ?_, ?_, trivial⟩ ?_
        · exact fun a wx hT hF K hK => rely_wp rfl (opr_ldY (hT.row RK.out) rfl hF.1 (hK _ _ (NewT.refl _) rfl))
        · exact fun a wx hT hF K hK => rely_wp rfl (opr_fldR (by decide) rfl hF.1 (hK _ _ (NewT.refl _) rfl))
        · exact fun a wx hT hF K hK => rely_wp rfl (opr_ldI (hT.row R1.out) (by decide) rfl rfl hF.1 (hK _ _ (NewT.refl _) rfl))
        · exact fun a wx hT hF K hK => rely_wp rfl (opr_fldR (by decide) rfl hF.1 (hK _ _ (NewT.refl _) rfl))
        · exact fun a wx hT hF K hK => rely_wp rfl (opr_ldI (hT.row R1.out) (by decide) rfl rfl hF.1 (hK _ _ (NewT.refl _) rfl))
        · exact fun a wx hT hF K hK => rely_wp rfl (opr_cv (RPart_cv hX _ ps ws need x.part x.epoch wx (hT.tables HT.out) (hT.keysV HK.out)) rfl Tryd.func15 (by kernel_rfl) (by kernel_rfl) (evs3 hF.1 hF.2.1 hF.2.2.1) hK)
        · exact fun a wx hT hF K hK => rely_wp rfl (opr_fldR (by decide) rfl hF.1 (hK _ _ (NewT.refl _) rfl))
        · exact fun a wx hT hF K hK => rely_wp rfl (opr_ldI (hT.row R1.out) (by decide) rfl rfl hF.1 (hK _ _ (NewT.refl _) rfl))
        · exact fun a wx hT hF K hK => rely_wp rfl (opr_fldR (by decide) rfl hF.1 (hK _ _ (NewT.refl _) rfl))
        · exact fun a wx hT hF K hK => rely_wp rfl (opr_ldI (hT.row R1.out) (by decide) rfl rfl hF.1 (hK _ _ (NewT.refl _) rfl))
        · exact fun a wx hT hF K hK => rely_wp rfl (opr_move (.inl rfl) (hK _ _ (NewT.refl _) hF.1))
        · exact fun a wx hT hF K hK => rely_wp rfl (opr_move (.inl rfl) (hK _ _ (NewT.refl _) hF.1))
        · exact fun a wx hT hF K hK => rely_wp rfl (opr_bsI5 rfl rfl hF.1 hF.2.1 hF.2.2.1 hF.2.2.2.1 hK)
        · exact fun a wx hT hF K hK => rely_wp rfl (opr_cv (RKey_cv (partH kf ps ws need x.part x.epoch) _ [2, x.saga, x.step, 1, 1] _ wx (hT.tables HT.out) hF.2.1 (by simp) (hX.key _ _)) rfl Tryd.func30 (by kernel_rfl) (by kernel_rfl) (evs2 hF.1 rfl) hK)
        · intro wx hT
          iterate 12 (intro u h; obtain rfl := Eq.symm (h (by simp)); clear h)
          intro _ _
          intro u h; obtain rfl := Eq.symm (h (by simp)); clear h
          refine relyEnd_nil rfl ?_
          simp only [Act.put, List.setIfInBounds_toArray, List.set_cons_zero, List.set_cons_succ]
          refine opr_store_new (B := w.heap.size) (W := w) info31 rfl rfl rfl (hT.row R0.out) (NewT.trans _ _ _ HN.out hT) (by omega) ?_
          intro w9 hB9 r9
          go_simp
          go_wp2
          exact bodyPost_ret (results_row rfl _ rfl r9 Tryd.underlying26 info31) rfl ⟨_, rfl, hB9, by rw [HE.out]; rfl⟩
    · have HE : Hid (recpH kf ps ws need x = z32) := Lib.hid (by unfold recpH; rw [or_not hb]; rfl)
      clear hb
      go_upto_region 2 with fail
      refine wp_region_steps0 NewT [SV.eq (.agg (rowA 32 (bF (z32))))] [([], none)] 38 1 rfl rfl (by kernel_rfl) NewT.trans (NewT.refl _) (Nat.le_of_ble_eq_true rfl) ⟨?_, trivial⟩ ?_
      · exact fun a wx hT hF K hK => rely_wp rfl (opr_build (pv := #[]) rfl (by simp) (build_z32 wx) (hK _ _ (NewT.refl _) rfl))
      · intro wx hT
        intro u h; obtain rfl := Eq.symm (h (by simp)); clear h
        refine relyEnd_nil rfl ?_
        simp only [Act.put, List.setIfInBounds_toArray, List.set_cons_zero, List.set_cons_succ]
        refine wpList_plain rfl (fun K hK => ?_)
        refine opr_store_new (B := w.heap.size) (W := w) info31 rfl rfl rfl (hT.row R0.out) (NewT.trans _ _ _ HN.out hT) (by omega) ?_
        intro w9 hB9 r9
        refine hK _ _ ?_
        refine wpList_end rfl ?_
        simp only [Act.put, List.setIfInBounds_toArray, List.set_cons_zero, List.set_cons_succ]
        go_simp
        go_wp2
        exact bodyPost_ret (results_row rfl _ rfl r9 Tryd.underlying26 info31) rfl ⟨_, rfl, hB9, by rw [HE.out]; rfl⟩
theorem holds_ref (kf : Hs → List Int → Hs) (ps ws : List Hs) (need : Int) (x : Rc) : (((rightB x && (x.kind == 3)) && hasB ps ws need x.part x.epoch) && eqH x.tag (recpH kf ps ws need x)) = holdsB kf ps ws need x := by
  unfold holdsB
  rw [eqH_comm x.tag, Bool.and_comm (rightB x)]
set_option maxHeartbeats 2000000 in
theorem RHolds_cv {kf : Hs → List Int → Hs} {tg : Hs → Hs → Hs} {pf : Int → Hs → Hs} (hX : KeyH kf tg pf) (v u : Value) (ps ws : List Hs) (need : Int) (x : Rc) (w : World) (hT : Tables w) (hk : KeysV w v ps ws need) (hx : RecV w u x) : Cv 19 #[v, u] w (.eq (.bool (holdsB kf ps ws need x))) := by
  rw [← holds_ref]
  unfold Cv
  obtain ⟨pv, wv, rfl, hpv, hwv⟩ := hk
  obtain ⟨sv, dv, rfl, hs, hd⟩ := hx
  have HT := Lib.hid hT
  clear hT
  go_enter Tryd.func19, Tryd.ntmps19
  go_upto_region 1 with fail
  have rk := (rowIs_box w 24 3 (keyF pv wv need)).alloc (.cells (rowA 109 (recF x sv dv)) 30)
  have r1 := rowIs_box (w.alloc (.cells (rowA 3 (keyF pv wv need)) 24)) 30 109 (recF x sv dv)
  have hN : NewT w ((w.alloc (.cells (rowA 3 (keyF pv wv need)) 24)).alloc (.cells (rowA 109 (recF x sv dv)) 30)) := NewT.trans _ _ _ (NewT.alloc _ _) (NewT.alloc _ _)
  rw [World.size_alloc] at r1
  change Code.wp _ _ _ _ ((w.alloc (.cells (rowA 3 (keyF pv wv need)) 24)).alloc (.cells (rowA 109 (recF x sv dv)) 30))
  generalize (w.alloc (.cells (rowA 3 (keyF pv wv need)) 24)).alloc (.cells (rowA 109 (recF x sv dv)) 30) = W0 at rk r1 hN ⊢
  have RK := Lib.hid rk
  have R1 := Lib.hid r1
  have HN := Lib.hid hN
  replace HT := Lib.hid (hN.tables HT.out)
  have HK : Hid (KeysV W0 (.agg (rowA 3 (keyF pv wv need))) ps ws need) := Lib.hid (hN.keysV ⟨pv, wv, rfl, hpv, hwv⟩)
  have HP := Lib.hid (hN.hs hpv)
  have HW := Lib.hid (hN.hs hwv)
  have HX : Hid (RecV W0 (.agg (rowA 109 (recF x sv dv))) x) := Lib.hid (hN.recV ⟨sv, dv, rfl, hs, hd⟩)
  have HS := Lib.hid (hN.pairs hs)
  have HD := Lib.hid (hN.rd hd)
  clear rk r1 hpv hwv hN hs hd
  obtain ⟨q1_1, Q1_1⟩ : ∃ bq_, (((rightB x) && (x.kind == 3)) && (hasB ps ws need x.part x.epoch)) = bq_ := ⟨_, rfl⟩
  obtain ⟨q2_1, Q2_1⟩ : ∃ bq_, (q1_1 && (eqH (x.tag) (recpH kf ps ws need x))) = bq_ := ⟨_, rfl⟩
  refine wp_region_rely (NewT) [SV.eq (.agg (rowA 109 (recF x sv dv))), SV.eq (.bool (rightB x)), SV.eq (.bool (rightB x)), svIf (rightB x) (SV.eq (.pointer (some ⟨w.heap.size + 1, 0, none⟩))), svIf (rightB x) (SV.eq (.int .i64 (x.kind))), svIf (rightB x) (SV.eq (.bool (x.kind == 3))), SV.eq (.bool ((rightB x) && (x.kind == 3))), SV.eq (.bool ((rightB x) && (x.kind == 3))), svIf ((rightB x) && (x.kind == 3)) (SV.eq (.agg (rowA 3 (keyF pv wv need)))), svIf ((rightB x) && (x.kind == 3)) (SV.eq (.pointer (some ⟨w.heap.size + 1, 8, none⟩))), svIf ((rightB x) && (x.kind == 3)) (SV.eq (.int .i64 (x.part))), svIf ((rightB x) && (x.kind == 3)) (SV.eq (.pointer (some ⟨w.heap.size + 1, 9, none⟩))), svIf ((rightB x) && (x.kind == 3)) (SV.eq (.int .i64 (x.epoch))), svIf ((rightB x) && (x.kind == 3)) (SV.eq (.bool (hasB ps ws need x.part x.epoch))), SV.eq (.bool (q1_1)), SV.eq (.bool (q1_1)), svIf q1_1 (SV.eq (.pointer (some ⟨w.heap.size + 1, 10, none⟩))), svIf q1_1 (SV.eq (.agg (rowA 32 (bF (x.tag))))), svIf q1_1 (SV.eq (.agg (rowA 3 (keyF pv wv need)))), svIf q1_1 (SV.eq (.agg (rowA 109 (recF x sv dv)))), svIf q1_1 (SV.eq (.agg (rowA 32 (bF (recpH kf ps ws need x))))), svIf q1_1 (SV.eq (.bool (eqH (x.tag) (recpH kf ps ws need x)))), SV.eq (.bool (q2_1))] [([(3, none)], none), ([(5, some 0)], none), ([(6, some 1)], none), ([(3, none), (7, some 2)], some (7, true)), ([(8, some 3), (7, some 2)], some (7, true)), ([(9, some 4), (7, some 2)], some (7, true)), ([(7, some 2), (10, some 5)], none), ([(11, some 6)], none), ([(2, none), (12, some 7)], some (12, true)), ([(3, none), (12, some 7)], some (12, true)), ([(14, some 9), (12, some 7)], some (12, true)), ([(3, none), (12, some 7)], some (12, true)), ([(16, some 11), (12, some 7)], some (12, true)), ([(13, some 8), (15, some 10), (17, some 12), (12, some 7)], some (12, true)), ([(12, some 7), (18, some 13)], none), ([(19, some 14)], none), ([(3, none), (20, some 15)], some (20, true)), ([(21, some 16), (20, some 15)], some (20, true)), ([(2, none), (20, some 15)], some (20, true)), ([(3, none), (20, some 15)], some (20, true)), ([(23, some 18), (24, some 19), (20, some 15)], some (20, true)), ([(22, some 17), (25, some 20), (20, some 15)], some (20, true)), ([(20, some 15), (26, some 21)], none)] 28 rfl (by kernel_rfl) rfl (by kernel_rfl) (by kernel_rfl) rfl NewT.trans (NewT.drew _) (Nat.le_of_ble_eq_true rfl) ⟨?_, ?_, ?_, ?_, ?_, ?_, ?_, ?_, ?_, ?_, ?_, ?_, ?_, ?_, ?_, ?_, ?_, ?_, ?_, ?_, ?_, ?_, ?_, trivial⟩ ?_
  · exact fun a wx hT hF K hK => rely_wp rfl (opr_ldR (hT.row R1.out) rfl hF.1 (hK _ _ (NewT.refl _) rfl))
  · exact fun a wx hT hF K hK => rely_wp rfl (opr_cv (RRight_cv _ x wx (hT.recV HX.out)) rfl Tryd.func24 (by kernel_rfl) (by kernel_rfl) (evs1 hF.1) hK)
  · exact fun a wx hT hF K hK => rely_wp rfl (opr_move (.inl rfl) (hK _ _ (NewT.refl _) hF.1))
  · exact fun a wx hT hF K hK => rely_if (rely_gt hF.2.1) (NewT.refl _) hK fun hE hK => opr_fldR (by decide) rfl hF.1 (hK _ _ (NewT.refl _) rfl)
  · exact fun a wx hT hF K hK => rely_if (rely_gt hF.2.1) (NewT.refl _) hK fun hE hK => opr_ldI (hT.row R1.out) (by decide) rfl rfl (hF.1 hE) (hK _ _ (NewT.refl _) rfl)
  · exact fun a wx hT hF K hK => rely_if (rely_gt hF.2.1) (NewT.refl _) hK fun hE hK => opr_cmp (b := x.kind == 3) (.inl ⟨rfl, rfl⟩) Tryd.underlying3 rfl (hF.1 hE) rfl (hK _ _ (NewT.refl _) rfl)
  · exact fun a wx hT hF K hK => rely_wp rfl (opr_pick_b rfl hF.1 (fun hb => hK _ _ (NewT.refl _) (pk_and1 (hF.2.1 hb) hb)) (fun hb => hK _ _ (NewT.refl _) (pk_and0 hb)))
  · exact fun a wx hT hF K hK => rely_wp rfl (opr_move (.inl rfl) (hK _ _ (NewT.refl _) hF.1))
  · exact fun a wx hT hF K hK => rely_if (rely_gt hF.2.1) (NewT.refl _) hK fun hE hK => opr_ldY (hT.row RK.out) rfl hF.1 (hK _ _ (NewT.refl _) rfl)
  · exact fun a wx hT hF K hK => rely_if (rely_gt hF.2.1) (NewT.refl _) hK fun hE hK => opr_fldR (by decide) rfl hF.1 (hK _ _ (NewT.refl _) rfl)
  · exact fun a wx hT hF K hK => rely_if (rely_gt hF.2.1) (NewT.refl _) hK fun hE hK => opr_ldI (hT.row R1.out) (by decide) rfl rfl (hF.1 hE) (hK _ _ (NewT.refl _) rfl)
  · exact fun a wx hT hF K hK => rely_if (rely_gt hF.2.1) (NewT.refl _) hK fun hE hK => opr_fldR (by decide) rfl hF.1 (hK _ _ (NewT.refl _) rfl)
  · exact fun a wx hT hF K hK => rely_if (rely_gt hF.2.1) (NewT.refl _) hK fun hE hK => opr_ldI (hT.row R1.out) (by decide) rfl rfl (hF.1 hE) (hK _ _ (NewT.refl _) rfl)
  · exact fun a wx hT hF K hK => rely_if (rely_gt hF.2.2.2.1) (NewT.refl _) hK fun hE hK => opr_cv (RKnown_cv _ ps ws need x.part x.epoch wx (hT.keysV HK.out)) rfl Tryd.func29 (by kernel_rfl) (by kernel_rfl) (evs3 (hF.1 hE) (hF.2.1 hE) (hF.2.2.1 hE)) hK
  · exact fun a wx hT hF K hK => rely_wp rfl (opr_pick_b rfl hF.1 (fun hb => hK _ _ (NewT.refl _) (pn_and1 Q1_1 (hF.2.1 hb) hb)) (fun hb => hK _ _ (NewT.refl _) (pn_and0 Q1_1 hb)))
  · exact fun a wx hT hF K hK => rely_wp rfl (opr_move (.inl rfl) (hK _ _ (NewT.refl _) hF.1))
  · exact fun a wx hT hF K hK => rely_if (rely_gt hF.2.1) (NewT.refl _) hK fun hE hK => opr_fldR (by decide) rfl hF.1 (hK _ _ (NewT.refl _) rfl)
  · exact fun a wx hT hF K hK => rely_if (rely_gt hF.2.1) (NewT.refl _) hK fun hE hK => opr_ldH (hT.row R1.out) (by decide) (recF_tag x _ _) rfl (hF.1 hE) (hK _ _ (NewT.refl _) rfl)
  · exact fun a wx hT hF K hK => rely_if (rely_gt hF.2.1) (NewT.refl _) hK fun hE hK => opr_ldY (hT.row RK.out) rfl hF.1 (hK _ _ (NewT.refl _) rfl)
  · exact fun a wx hT hF K hK => rely_if (rely_gt hF.2.1) (NewT.refl _) hK fun hE hK => opr_ldR (hT.row R1.out) rfl hF.1 (hK _ _ (NewT.refl _) rfl)
  · exact fun a wx hT hF K hK => rely_if (rely_gt hF.2.2.1) (NewT.refl _) hK fun hE hK => opr_cv (RReceipt_cv hX _ _ ps ws need x wx (hT.tables HT.out) (hT.keysV HK.out) (hT.recV HX.out)) rfl Tryd.func17 (by kernel_rfl) (by kernel_rfl) (evs2 (hF.1 hE) (hF.2.1 hE)) hK
  · exact fun a wx hT hF K hK => rely_if (rely_gt hF.2.2.1) (NewT.refl _) hK fun hE hK => opr_eql_hash (b := eqH (x.tag) (recpH kf ps ws need x)) rfl (hF.1 hE) (hF.2.1 hE) (rfl) (hK _ _ (NewT.refl _) rfl)
  · exact fun a wx hT hF K hK => rely_wp rfl (opr_pick_b rfl hF.1 (fun hb => hK _ _ (NewT.refl _) (pn_and1 Q2_1 (hF.2.1 hb) hb)) (fun hb => hK _ _ (NewT.refl _) (pn_and0 Q2_1 hb)))
  · intro w1 k1
    iterate 3 (intro u h; obtain rfl := Eq.symm (h (by simp)); clear h)
    iterate 3 (intro _ _)
    iterate 2 (intro u h; obtain rfl := Eq.symm (h (by simp)); clear h)
    iterate 6 (intro _ _)
    iterate 2 (intro u h; obtain rfl := Eq.symm (h (by simp)); clear h)
    iterate 6 (intro _ _)
    intro u h; obtain rfl := Eq.symm (h (by simp)); clear h
    subst Q2_1 Q1_1
    refine relyEnd_nil rfl ?_
    simp only [Act.put, List.setIfInBounds_toArray, List.set_cons_zero, List.set_cons_succ]
    refine opr_move (.inr rfl) ?_
    go_simp
    go_wp2
    go_ret
    exact ⟨_, rfl, NewT.trans _ _ _ HN.out k1, rfl⟩
end Go.Proofs.YtcfogkimjbgjgaaDoor
/- The reference's Num and Bytes, layer 3. -/
namespace Go.Proofs.YtcfogkimjbgjgaaDoor
open Go Go.RowKit
set_option maxRecDepth 8000
set_option linter.all false

set_option maxRecDepth 20000 in
set_option maxHeartbeats 2000000 in
theorem RefNum_in (n : Nat) (hn : n ≤ 2147483647) (w : World) : Calls Tryd.prog 40 #[.int .i64 (n : Int)] w fun e w' => ∃ v, e = .returned v ∧ Below w.heap.size w w' ∧ w'.ownsRow w.heap.size 5 1 v (numL n).length ((numL n).map fun b => .int .u8 (bN b)) := by
  induction n using Nat.strongRecOn generalizing w with
  | _ n ih =>
    by_cases h1 : n < 128
    · have e1 : numL n = [uB n] := by unfold numL; rw [if_pos h1]
      have eb := bN_uB n (by omega)
      have ho := ownsRow_row (rowIs_box w 5 1 (fun _ => .int .u8 (n : Int))) w.heap.size 1 (by omega) (by unfold maxLen; omega) (Nat.le_refl _)
      have hN : NewT w (w.alloc (.cells (rowA 1 (fun _ => .int .u8 (n : Int))) 5)) := NewT.alloc _ _
      rw [e1]
      simp only [List.length_cons, List.length_nil, List.map_cons, List.map_nil, eb]
      clear ih e1 eb
      go_enter Tryd.func40, Tryd.ntmps40
      go_wp2_with fail
      go_ret
      exact ⟨_, rfl, hN.out, ho⟩
    · obtain ⟨init, x, hx, e1, e2⟩ := numL_step n hn (by omega)
      have hw := bN_uB (x + 128) (by omega)
      have hw2 := bN_uB (n % 128) (by omega)
      have hxb := bN_uB x (by omega)
      obtain ⟨i0, hi, hz0, hz1, hz2⟩ := info_parts info5
      have H1 := Lib.hid e1
      have H2 := Lib.hid e2
      have hil : init.length ≤ 5 := by have := numL_length (n / 128); rw [e1] at this; have := sz_le (n / 128); simp at *; omega
      have IH := Lib.hid (fun w => ih (n / 128) (by omega) (by omega) w)
      have W1 := Lib.hid hw
      have W2 := Lib.hid hw2
      have W3 := Lib.hid hxb
      clear ih e1 e2 hw hw2 hxb
      generalize hil2 : init.length = m at hil
      have Hil := Lib.hid hil2
      clear hil2
      go_enter Tryd.func40, Tryd.ntmps40
      go_wp2_with (first
        | (go_at_call 40; refine (IH.out w).mono ?_; rintro _ w1 ⟨v1, rfl, hB1, ho1⟩; rw [H1.out, List.length_append, Hil.out, List.map_append] at ho1; simp only [List.length_cons, List.length_nil, List.map_cons, List.map_nil, W3.out, Nat.zero_add] at ho1; obtain ⟨g, c, rfl, hg, _⟩ := ho1.form (by omega); have k0 := ho1.cells (g := g) rfl m (.int .u8 (x : Int)) (by rw [List.getElem?_append_right (by simp [Hil.out])]; simp [Hil.out]); rw [Addr.add_mid, Nat.zero_add] at k0; have f0 := frozen_own ho1 m)
        | (at_builtin; refine wpList_append_own _ rfl (.tmp 30) (.tmp 34) 28 rfl w.heap.size 5 i0 _ 1 1 Tryd.underlying28 hi hz0 hz1 hz2 rfl (by omega) _ (m + 1) _ rfl ((ownsRow_last ho1 (.int .u8 ((x : Int) + 128))).alloc _) ⟨w1.heap.size, 0, none⟩ 1 1 [.int .u8 ((n : Int) % 128)] rfl rfl (fun j u h => by have := one_cell (w1.setCell ⟨g, m, none⟩ (.int .u8 ((x : Int) + 128))) (.int .u8 ((n : Int) % 128)) 5 j u h; simpa using this) (by simp [Value.oneCell']) (by unfold maxLen; omega) (by omega) (by have := hB1.size; simp; omega) ?_; intro v' w2 hown' hg2 _))
      go_ret
      refine ⟨_, rfl, ?_, ?_⟩
      · exact ((hB1.setCell (p := ⟨g, m, none⟩) hg _).alloc (by have := hB1.size; simp; omega) _).grown hg2 (by have := hB1.size; simp; omega) (fun k e => by cases e; exact hg)
      · rw [H2.out]
        have e : (init ++ [uB (x + 128), uB (n % 128)]).length = m + 1 + 1 := by simp [Hil.out]
        rw [e, List.map_append]
        simp only [List.map_cons, List.map_nil, W1.out, W2.out]
        simpa using hown'
set_option maxRecDepth 20000 in
set_option maxHeartbeats 400000 in
theorem RefNum_out (n : Int) (hn : ¬ (0 ≤ n ∧ n ≤ 2147483647)) (w : World) : Calls Tryd.prog 40 #[.int .i64 n] w fun e w' => e = .returned (.slice none 0 0) ∧ w' = w := by
  by_cases h0 : n < 0
  · go_enter Tryd.func40, Tryd.ntmps40
    go_wp2_with fail
    go_ret
    exact ⟨rfl, rfl⟩
  · have h1 : 2147483647 < n := by omega
    clear hn
    go_enter Tryd.func40, Tryd.ntmps40
    go_wp2_with fail
    go_ret
    exact ⟨rfl, rfl⟩
theorem RefNum_rd (n : Int) (l : List UInt8) (w : World) (h : numI n = l) : Cv 40 #[.int .i64 n] w (svRd l) := by
  subst h
  unfold numI Cv
  by_cases h : 0 ≤ n ∧ n ≤ 2147483647
  · rw [if_pos h]
    obtain ⟨m, rfl⟩ := Int.eq_ofNat_of_zero_le h.1
    exact (RefNum_in m (by omega) w).mono fun _ _ ⟨v, he, hB, ho⟩ => ⟨v, he, hB, rdV_own ho rfl (by simp)⟩
  · rw [if_neg h]
    exact (RefNum_out n h w).mono fun _ _ ⟨he, hw⟩ => ⟨_, he, NewT.of_eq hw.symm, rdV_nil _ _⟩
end Go.Proofs.YtcfogkimjbgjgaaDoor
/- The reference's marks and checks. -/
namespace Go.Proofs.YtcfogkimjbgjgaaDoor
open Go Go.RowKit
set_option maxRecDepth 8000
set_option linter.all false
set_option maxHeartbeats 2000000 in
theorem RSign_cv {kf : Hs → List Int → Hs} {tg : Hs → Hs → Hs} {pf : Int → Hs → Hs} (hX : KeyH kf tg pf) (v u : Value) (ps ws : List Hs) (need wit size : Int) (root : Hs) (l : List (Int × Hs)) (w : World) (hT : Tables w) (hk : KeysV w v ps ws need) (hp : PointV w u size root l) : Cv 21 #[v, .int .i64 wit, u] w (.eq (.agg (rowA 32 (bF (signH tg pf ps ws need wit size root))))) := by
  unfold Cv
  obtain ⟨pv, wv, rfl, hpv, hwv⟩ := hk
  obtain ⟨sv, rfl, hsv⟩ := hp
  have HT := Lib.hid hT
  clear hT
  go_enter Tryd.func21, Tryd.ntmps21
  go_upto_region 1 with fail
  have rk := ((rowIs_box w 24 3 (keyF pv wv need)).alloc (.cells (rowA 34 (ptF size root sv)) 40)).alloc (.cells (rowA 32 (bF fun _ => 0)) 26)
  have rp := (rowIs_box (w.alloc (.cells (rowA 3 (keyF pv wv need)) 24)) 40 34 (ptF size root sv)).alloc (.cells (rowA 32 (bF fun _ => 0)) 26)
  have r0 := rowIs_box ((w.alloc (.cells (rowA 3 (keyF pv wv need)) 24)).alloc (.cells (rowA 34 (ptF size root sv)) 40)) 26 32 (bF fun _ => 0)
  have hN : NewT w (((w.alloc (.cells (rowA 3 (keyF pv wv need)) 24)).alloc (.cells (rowA 34 (ptF size root sv)) 40)).alloc (.cells (rowA 32 (bF fun _ => 0)) 26)) := NewT.trans _ _ _ (NewT.alloc _ _) (NewT.trans _ _ _ (NewT.alloc _ _) (NewT.alloc _ _))
  rw [World.size_alloc] at rp
  rw [World.size_alloc, World.size_alloc] at r0
  change Code.wp _ _ _ _ (((w.alloc (.cells (rowA 3 (keyF pv wv need)) 24)).alloc (.cells (rowA 34 (ptF size root sv)) 40)).alloc (.cells (rowA 32 (bF fun _ => 0)) 26))
  generalize ((w.alloc (.cells (rowA 3 (keyF pv wv need)) 24)).alloc (.cells (rowA 34 (ptF size root sv)) 40)).alloc (.cells (rowA 32 (bF fun _ => 0)) 26) = W0 at rk rp r0 hN ⊢
  have RK := Lib.hid rk
  have RP := Lib.hid rp
  have R0 := Lib.hid r0
  have HN := Lib.hid hN
  replace HT := Lib.hid (hN.tables HT.out)
  have HK : Hid (KeysV W0 (.agg (rowA 3 (keyF pv wv need))) ps ws need) := Lib.hid (hN.keysV ⟨pv, wv, rfl, hpv, hwv⟩)
  have HP := Lib.hid (hN.hs hpv)
  have HW := Lib.hid (hN.hs hwv)
  have HPT : Hid (PointV W0 (.agg (rowA 34 (ptF size root sv))) size root l) := Lib.hid (hN.pointV ⟨sv, rfl, hsv⟩)
  have HG := Lib.hid (hN.sigs hsv)
  clear rk r0 rp hpv hwv hN hsv
  obtain ⟨q1_1, Q1_1⟩ : ∃ bq_, ((!(mayB ps ws need)) || (decide (wit < 0))) = bq_ := ⟨_, rfl⟩
  obtain ⟨q2_1, Q2_1⟩ : ∃ bq_, (q1_1 || (decide (((List.length (ws) : Int)) ≤ wit))) = bq_ := ⟨_, rfl⟩
  obtain ⟨q3_1, Q3_1⟩ : ∃ bq_, ((q2_1 || (decide (size < 0))) || (decide (400 < size))) = bq_ := ⟨_, rfl⟩
  refine wp_region_steps0 NewT [SV.eq (.agg (rowA 3 (keyF pv wv need))), SV.eq (.bool (mayB ps ws need)), SV.eq (.bool (!(mayB ps ws need))), SV.eq (.bool (!(mayB ps ws need))), svIf ((!(!(mayB ps ws need)))) (SV.eq (.int .i64 (wit))), svIf ((!(!(mayB ps ws need)))) (SV.eq (.bool (decide (wit < 0)))), SV.eq (.bool (q1_1)), SV.eq (.bool (q1_1)), svIf ((!q1_1)) (SV.eq (.int .i64 (wit))), svIf ((!q1_1)) (SV.eq (.pointer (some ⟨w.heap.size, 1, none⟩))), svIf ((!q1_1)) (SV.eq (wv)), svIf ((!q1_1)) (SV.eq (.int .i64 ((List.length (ws) : Int)))), svIf ((!q1_1)) (SV.eq (.bool (decide (((List.length (ws) : Int)) ≤ wit)))), SV.eq (.bool (q2_1)), SV.eq (.bool (q2_1)), svIf ((!q2_1)) (SV.eq (.pointer (some ⟨w.heap.size + 1, 0, none⟩))), svIf ((!q2_1)) (SV.eq (.int .i64 (size))), svIf ((!q2_1)) (SV.eq (.bool (decide (size < 0)))), SV.eq (.bool (q2_1 || (decide (size < 0)))), SV.eq (.bool (q2_1 || (decide (size < 0)))), svIf ((!(q2_1 || (decide (size < 0))))) (SV.eq (.pointer (some ⟨w.heap.size + 1, 0, none⟩))), svIf ((!(q2_1 || (decide (size < 0))))) (SV.eq (.int .i64 (size))), svIf ((!(q2_1 || (decide (size < 0))))) (SV.eq (.bool (decide (400 < size)))), SV.eq (.bool (q3_1))] [([(3, none)], none), ([(8, some 0)], none), ([(9, some 1)], none), ([(10, some 2)], none), ([(1, none), (11, some 3)], some (11, false)), ([(12, some 4), (11, some 3)], some (11, false)), ([(11, some 3), (13, some 5)], none), ([(14, some 6)], none), ([(1, none), (15, some 7)], some (15, false)), ([(3, none), (15, some 7)], some (15, false)), ([(17, some 9), (15, some 7)], some (15, false)), ([(18, some 10), (15, some 7)], some (15, false)), ([(16, some 8), (19, some 11), (15, some 7)], some (15, false)), ([(15, some 7), (20, some 12)], none), ([(21, some 13)], none), ([(5, none), (22, some 14)], some (22, false)), ([(23, some 15), (22, some 14)], some (22, false)), ([(24, some 16), (22, some 14)], some (22, false)), ([(22, some 14), (25, some 17)], none), ([(26, some 18)], none), ([(5, none), (27, some 19)], some (27, false)), ([(28, some 20), (27, some 19)], some (27, false)), ([(29, some 21), (27, some 19)], some (27, false)), ([(27, some 19), (30, some 22)], none)] 49 24 rfl rfl (by kernel_rfl) NewT.trans (NewT.refl _) (Nat.le_of_ble_eq_true rfl) ⟨?_, ?_, ?_, ?_, ?_, ?_, ?_, ?_, ?_, ?_, ?_, ?_, ?_, ?_, ?_, ?_, ?_, ?_, ?_, ?_, ?_, ?_, ?_, ?_, trivial⟩ ?_
  · exact fun a wx hT hF K hK => rely_wp rfl (opr_ldY (hT.row RK.out) rfl hF.1 (hK _ _ (NewT.refl _) rfl))
  · exact fun a wx hT hF K hK => rely_wp rfl (opr_cv (RMay_cv _ ps ws need wx (hT.keysV HK.out)) rfl Tryd.func13 (by kernel_rfl) (by kernel_rfl) (evs1 hF.1) hK)
  · exact fun a wx hT hF K hK => rely_wp rfl (opr_not rfl hF.1 (hK _ _ (NewT.refl _) rfl))
  · exact fun a wx hT hF K hK => rely_wp rfl (opr_move (.inl rfl) (hK _ _ (NewT.refl _) hF.1))
  · exact fun a wx hT hF K hK => rely_if (rely_gf hF.2.1) (NewT.refl _) hK fun hE hK => opr_move (.inl rfl) (hK _ _ (NewT.refl _) hF.1)
  · exact fun a wx hT hF K hK => rely_if (rely_gf hF.2.1) (NewT.refl _) hK fun hE hK => opr_cmp (b := decide (wit < 0)) (.inr (.inr (.inr (.inl ⟨rfl, rfl⟩)))) Tryd.underlying3 rfl (hF.1 hE) rfl (hK _ _ (NewT.refl _) rfl)
  · exact fun a wx hT hF K hK => rely_wp rfl (opr_pick_b rfl hF.1 (fun hb => hK _ _ (NewT.refl _) (pn_or1 Q1_1 hb)) (fun hb => hK _ _ (NewT.refl _) (pn_or0 Q1_1 (hF.2.1 (bnot hb)) hb)))
  · exact fun a wx hT hF K hK => rely_wp rfl (opr_move (.inl rfl) (hK _ _ (NewT.refl _) hF.1))
  · exact fun a wx hT hF K hK => rely_if (rely_gf hF.2.1) (NewT.refl _) hK fun hE hK => opr_move (.inl rfl) (hK _ _ (NewT.refl _) hF.1)
  · exact fun a wx hT hF K hK => rely_if (rely_gf hF.2.1) (NewT.refl _) hK fun hE hK => opr_fldY1 rfl hF.1 (hK _ _ (NewT.refl _) rfl)
  · exact fun a wx hT hF K hK => rely_if (rely_gf hF.2.1) (NewT.refl _) hK fun hE hK => opr_ldHs (hT.row RK.out) (by decide) rfl rfl (hF.1 hE) (hK _ _ (NewT.refl _) rfl)
  · intro a wx hT hF K hK
    obtain ⟨f18, f15, _⟩ := hF
    have f18 : ((!q1_1)) = true → a.tmps.getD 18 undef = wv := f18
    have f15 : a.tmps.getD 15 undef = .bool (q1_1) := f15
    refine rely_if (rely_gf f15) (NewT.refl _) hK (fun hE hK => ?_)
    exact opr_len_h rfl (by rw [eval_tmp, (f18 hE)]; exact (hT.hs HW.out)) (hK _ _ (NewT.refl _) rfl)
  · exact fun a wx hT hF K hK => rely_if (rely_gf hF.2.2.1) (NewT.refl _) hK fun hE hK => opr_cmp (b := decide (((List.length (ws) : Int)) ≤ wit)) (.inr (.inr (.inr (.inr (.inr (⟨rfl, rfl⟩)))))) Tryd.underlying3 rfl (hF.1 hE) (hF.2.1 hE) (hK _ _ (NewT.refl _) rfl)
  · exact fun a wx hT hF K hK => rely_wp rfl (opr_pick_b rfl hF.1 (fun hb => hK _ _ (NewT.refl _) (pn_or1 Q2_1 hb)) (fun hb => hK _ _ (NewT.refl _) (pn_or0 Q2_1 (hF.2.1 (bnot hb)) hb)))
  · exact fun a wx hT hF K hK => rely_wp rfl (opr_move (.inl rfl) (hK _ _ (NewT.refl _) hF.1))
  · exact fun a wx hT hF K hK => rely_if (rely_gf hF.2.1) (NewT.refl _) hK fun hE hK => opr_fldZ0 rfl hF.1 (hK _ _ (NewT.refl _) rfl)
  · exact fun a wx hT hF K hK => rely_if (rely_gf hF.2.1) (NewT.refl _) hK fun hE hK => opr_ldI (hT.row RP.out) (by decide) rfl rfl (hF.1 hE) (hK _ _ (NewT.refl _) rfl)
  · exact fun a wx hT hF K hK => rely_if (rely_gf hF.2.1) (NewT.refl _) hK fun hE hK => opr_cmp (b := decide (size < 0)) (.inr (.inr (.inr (.inl ⟨rfl, rfl⟩)))) Tryd.underlying3 rfl (hF.1 hE) rfl (hK _ _ (NewT.refl _) rfl)
  · exact fun a wx hT hF K hK => rely_wp rfl (opr_pick_b rfl hF.1 (fun hb => hK _ _ (NewT.refl _) (pk_or1 hb)) (fun hb => hK _ _ (NewT.refl _) (pk_or0 (hF.2.1 (bnot hb)) hb)))
  · exact fun a wx hT hF K hK => rely_wp rfl (opr_move (.inl rfl) (hK _ _ (NewT.refl _) hF.1))
  · exact fun a wx hT hF K hK => rely_if (rely_gf hF.2.1) (NewT.refl _) hK fun hE hK => opr_fldZ0 rfl hF.1 (hK _ _ (NewT.refl _) rfl)
  · exact fun a wx hT hF K hK => rely_if (rely_gf hF.2.1) (NewT.refl _) hK fun hE hK => opr_ldI (hT.row RP.out) (by decide) rfl rfl (hF.1 hE) (hK _ _ (NewT.refl _) rfl)
  · exact fun a wx hT hF K hK => rely_if (rely_gf hF.2.1) (NewT.refl _) hK fun hE hK => opr_cmp (b := decide (400 < size)) (.inr (.inr (.inr (.inr (.inl ⟨rfl, rfl⟩))))) Tryd.underlying3 rfl (hF.1 hE) rfl (hK _ _ (NewT.refl _) rfl)
  · exact fun a wx hT hF K hK => rely_wp rfl (opr_pick_b rfl hF.1 (fun hb => hK _ _ (NewT.refl _) (pn_or1 Q3_1 hb)) (fun hb => hK _ _ (NewT.refl _) (pn_or0 Q3_1 (hF.2.1 (bnot hb)) hb)))
  · intro w1 k1
    iterate 4 (intro u h; obtain rfl := Eq.symm (h (by simp)); clear h)
    iterate 2 (intro _ _)
    iterate 2 (intro u h; obtain rfl := Eq.symm (h (by simp)); clear h)
    iterate 5 (intro _ _)
    iterate 2 (intro u h; obtain rfl := Eq.symm (h (by simp)); clear h)
    iterate 3 (intro _ _)
    iterate 2 (intro u h; obtain rfl := Eq.symm (h (by simp)); clear h)
    iterate 3 (intro _ _)
    intro u h; obtain rfl := Eq.symm (h (by simp)); clear h
    subst Q3_1 Q2_1 Q1_1
    refine relyEnd_nil rfl ?_
    refine wpList_end rfl ?_
    simp only [Act.put, List.setIfInBounds_toArray, List.set_cons_zero, List.set_cons_succ]
    go_simp
    replace RK := Lib.hid (k1.row RK.out)
    replace RP := Lib.hid (k1.row RP.out)
    replace R0 := Lib.hid (k1.row R0.out)
    replace HK := Lib.hid (k1.keysV HK.out)
    replace HP := Lib.hid (k1.hs HP.out)
    replace HW := Lib.hid (k1.hs HW.out)
    replace HPT := Lib.hid (k1.pointV HPT.out)
    replace HG := Lib.hid (k1.sigs HG.out)
    replace HT := Lib.hid (k1.tables HT.out)
    replace HN := Lib.hid (NewT.trans _ _ _ HN.out k1)
    clear k1
    cases hb : ((((((!(mayB ps ws need)) || (decide (wit < 0))) || (decide (((List.length (ws) : Int)) ≤ wit))) || (decide (size < 0))) || (decide (400 < size))))
    · have hm : mayS ps ws need wit size = true := by
        have h := sign_ref ps ws need wit size
        rw [hb] at h
        cases hq : mayS ps ws need wit size with
        | true => rfl
        | false => rw [hq] at h; cases h
      obtain ⟨_, ⟨h0, h1⟩, _⟩ := (mayS_iff _ _ _ _ _).1 hm
      obtain ⟨i, rfl⟩ : ∃ i : Nat, wit = (i : Int) := ⟨wit.toNat, by omega⟩
      obtain ⟨d, hdd⟩ := hid_ex (ws.getD i z32)
      have HD : Hid (ws[i]? = some d) := Lib.hid (by rw [← hdd.out, List.getD, List.getElem?_eq_getElem (show i < ws.length by omega)]; rfl)
      have HE : Hid (signH tg pf ps ws need (i : Int) size root = tg d (pf size root)) := Lib.hid (by unfold signH sgH; rw [hm, if_pos rfl, Int.toNat_natCast, hdd.out])
      clear hb hm h0 h1 hdd
      go_upto_region 3 with fail
      refine wp_region_rely (NewT) [SV.eq (.pointer (some ⟨w.heap.size + 1, 0, none⟩)), SV.eq (.int .i64 (size)), svRd (numI size), SV.eq (.pointer (some ⟨w.heap.size + 1, 1, none⟩)), svRd (digL (root)), svParts [numI size, digL (root)], SV.eq (.agg (rowA 32 (bF (pf size root)))), svNew w1 26 32] [([(5, none)], none), ([(33, some 0)], none), ([(34, some 1)], none), ([(5, none)], none), ([(36, some 3)], none), ([(35, some 2), (37, some 4)], none), ([(38, some 5)], none), ([], none)] 49 rfl (by kernel_rfl) rfl (by kernel_rfl) (by kernel_rfl) rfl NewT.trans (NewT.drew _) (Nat.le_of_ble_eq_true rfl) ⟨?_, ?_, ?_, ?_, ?_, ?_, ?_, ?_, trivial⟩ ?_
      · exact fun a wx hT hF K hK => rely_wp rfl (opr_fldZ0 rfl hF.1 (hK _ _ (NewT.refl _) rfl))
      · exact fun a wx hT hF K hK => rely_wp rfl (opr_ldI (hT.row RP.out) (by decide) rfl rfl hF.1 (hK _ _ (NewT.refl _) rfl))
      · exact fun a wx hT hF K hK => rely_wp rfl (opr_cv (RefNum_rd size _ wx rfl) rfl Tryd.func40 (by kernel_rfl) (by kernel_rfl) (evs1 hF.1) hK)
      · exact fun a wx hT hF K hK => rely_wp rfl (opr_fldZ1 rfl hF.1 (hK _ _ (NewT.refl _) rfl))
      · exact fun a wx hT hF K hK => rely_wp rfl (opr_sliceH rfl hF.1 (hK _ _ (NewT.refl _) (rd_rowH (hT.row RP.out) (by decide) (ptF_h _ _ _))))
      · exact fun a wx hT hF K hK => rely_wp rfl (opr_bs2 rfl hF.1 hF.2.1 hK)
      · exact fun a wx hT hF K hK => rely_wp rfl (opr_cv (ROf_cv 6 _ [numI size, digL root] (pf size root) wx (hT.tables HT.out) hF.1 (by simp) (by have := numI_length size; simp [digL_length]; omega) (hX.pt _ _)) rfl Tryd.func39 (by kernel_rfl) (by kernel_rfl) (evs2 rfl rfl) hK)
      · exact fun a wx hT hF K hK => rely_wp rfl (opr_alloc_hash rfl hT hK)
      · intro w2 k2
        iterate 2 (intro u h; obtain rfl := Eq.symm (h (by simp)); clear h)
        intro _ _
        intro u h; obtain rfl := Eq.symm (h (by simp)); clear h
        iterate 2 (intro _ _)
        intro u h; obtain rfl := Eq.symm (h (by simp)); clear h
        intro u7 h; have g7 := h (by simp); clear h; replace g7 := show (svNew w1 26 32).pred u7 w2 from g7
        refine relyEnd_nil rfl ?_
        simp only [Act.put, List.setIfInBounds_toArray, List.set_cons_zero, List.set_cons_succ]
        obtain ⟨p7, hv7, hp7, rr7⟩ := svNew_out g7
        subst hv7
        refine opr_store_new (B := w1.heap.size) (W := w1) (D := pf size root) info31 rfl rfl rfl rr7 k2.out hp7 ?_
        intro w3 hB3 r3
        clear g7 rr7
        go_simp
        have R7 := Lib.hid r3
        have k3 := NewT.of hB3
        replace RK := Lib.hid (k3.row RK.out)
        replace RP := Lib.hid (k3.row RP.out)
        replace R0 := Lib.hid (k3.row R0.out)
        replace HK := Lib.hid (k3.keysV HK.out)
        replace HP := Lib.hid (k3.hs HP.out)
        replace HW := Lib.hid (k3.hs HW.out)
        replace HPT := Lib.hid (k3.pointV HPT.out)
        replace HG := Lib.hid (k3.sigs HG.out)
        replace HT := Lib.hid (k3.tables HT.out)
        replace HN := Lib.hid (NewT.trans _ _ _ HN.out k3)
        clear k2 k3 hB3 r3 hp7
        go_upto_region 4 with fail
        refine wp_region_rely (NewT) [SV.eq (.pointer (some ⟨w.heap.size, 1, none⟩)), SV.eq (wv), SV.eq (.int .i64 ((i : Int))), svP (d), svRd (digL (d)), svBF [3], svRd (digL (pf size root)), svRd ([3] ++ digL (pf size root)), SV.eq (.agg (rowA 32 (bF (tg d ((pf size root))))))] [([(3, none)], none), ([(40, some 0)], none), ([(1, none)], none), ([(41, some 1), (42, some 2)], none), ([(43, some 3)], none), ([], none), ([(7, none)], none), ([(45, some 5), (46, some 6)], none), ([(44, some 4), (47, some 7)], none)] 49 rfl (by kernel_rfl) rfl (by kernel_rfl) (by kernel_rfl) rfl NewT.trans (NewT.drew _) (Nat.le_of_ble_eq_true rfl) ⟨?_, ?_, ?_, ?_, ?_, ?_, ?_, ?_, ?_, trivial⟩ ?_
        · exact fun a wx hT hF K hK => rely_wp rfl (opr_fldY1 rfl hF.1 (hK _ _ (NewT.refl _) rfl))
        · exact fun a wx hT hF K hK => rely_wp rfl (opr_ldHs (hT.row RK.out) (by decide) rfl rfl hF.1 (hK _ _ (NewT.refl _) rfl))
        · exact fun a wx hT hF K hK => rely_wp rfl (opr_move (.inl rfl) (hK _ _ (NewT.refl _) hF.1))
        · intro a wx hT hF K hK
          obtain ⟨f41, f42, _⟩ := hF
          have f41 : a.tmps.getD 41 undef = wv := f41
          have f42 : a.tmps.getD 42 undef = .int .i64 ((i : Int)) := f42
          refine rely_wp rfl ?_
          exact opr_idxH (i := i) (d := d) (HD.out) (rfl) rfl (by rw [eval_tmp, f41]; exact (hT.hs HW.out)) f42 (fun v hv => hK v _ (NewT.refl _) hv)
        · exact fun a wx hT hF K hK => rely_wp rfl (opr_slicePd rfl hF.1 (fun u hu => hK u _ (NewT.refl _) hu))
        · exact fun a wx hT hF K hK => rely_wp rfl (opr_bsb1F (b := 3) rfl rfl hK)
        · exact fun a wx hT hF K hK => rely_wp rfl (opr_sliceH rfl hF.1 (hK _ _ (NewT.refl _) (rd_rowH (hT.row R7.out) (by decide) (fun j _ => by rw [Nat.zero_add]))))
        · exact fun a wx hT hF K hK => rely_wp rfl (opr_appBF (by simp) (by simp [digL_length]) (by simp [digL_length]) rfl hF.1 hF.2.1 hK)
        · exact fun a wx hT hF K hK => rely_wp rfl (opr_cv (RTag_cv _ _ (digL d) ([3] ++ digL ((pf size root))) (tg d ((pf size root))) wx (hT.tables HT.out) hF.1 hF.2.1 (by rw [digL_length]; omega) (by simp [digL_length]) (hX.tag _ _)) rfl Tryd.func41 (by kernel_rfl) (by kernel_rfl) (evs2 rfl rfl) hK)
        · intro wx hT
          iterate 3 (intro u h; obtain rfl := Eq.symm (h (by simp)); clear h)
          iterate 5 (intro _ _)
          intro u h; obtain rfl := Eq.symm (h (by simp)); clear h
          refine relyEnd_nil rfl ?_
          simp only [Act.put, List.setIfInBounds_toArray, List.set_cons_zero, List.set_cons_succ]
          refine opr_store_new (B := w.heap.size) (W := w) info31 rfl rfl rfl (hT.row R0.out) (NewT.trans _ _ _ HN.out hT) (by omega) ?_
          intro w9 hB9 r9
          go_simp
          go_wp2
          exact bodyPost_ret (results_row rfl _ rfl r9 Tryd.underlying26 info31) rfl ⟨_, rfl, hB9, by rw [HE.out]; rfl⟩
    · have HE : Hid (signH tg pf ps ws need wit size root = z32) := Lib.hid (by
        have h := sign_ref ps ws need wit size
        rw [hb] at h
        unfold signH
        cases hq : mayS ps ws need wit size with
        | false => rfl
        | true => rw [hq] at h; cases h)
      clear hb
      go_upto_region 2 with fail
      refine wp_region_steps0 NewT [SV.eq (.agg (rowA 32 (bF (z32))))] [([], none)] 49 1 rfl rfl (by kernel_rfl) NewT.trans (NewT.refl _) (Nat.le_of_ble_eq_true rfl) ⟨?_, trivial⟩ ?_
      · exact fun a wx hT hF K hK => rely_wp rfl (opr_build (pv := #[]) rfl (by simp) (build_z32 wx) (hK _ _ (NewT.refl _) rfl))
      · intro wx hT
        intro u h; obtain rfl := Eq.symm (h (by simp)); clear h
        refine relyEnd_nil rfl ?_
        simp only [Act.put, List.setIfInBounds_toArray, List.set_cons_zero, List.set_cons_succ]
        refine wpList_plain rfl (fun K hK => ?_)
        refine opr_store_new (B := w.heap.size) (W := w) info31 rfl rfl rfl (hT.row R0.out) (NewT.trans _ _ _ HN.out hT) (by omega) ?_
        intro w9 hB9 r9
        refine hK _ _ ?_
        refine wpList_end rfl ?_
        simp only [Act.put, List.setIfInBounds_toArray, List.set_cons_zero, List.set_cons_succ]
        go_simp
        go_wp2
        exact bodyPost_ret (results_row rfl _ rfl r9 Tryd.underlying26 info31) rfl ⟨_, rfl, hB9, by rw [HE.out]; rfl⟩
set_option maxHeartbeats 8000000 in
theorem RCheck_cv {kf : Hs → List Int → Hs} {tg : Hs → Hs → Hs} {pf : Int → Hs → Hs} (hX : KeyH kf tg pf) (v u : Value) (ps ws : List Hs) (need size : Int) (root : Hs) (l : List (Int × Hs)) (w : World) (hT : Tables w) (hk : KeysV w v ps ws need) (hp : PointV w u size root l) : Cv 23 #[v, u] w (.eq (.int .i64 (checkI ps ws need size (sgH tg pf ws size root) l))) := by
  unfold Cv
  obtain ⟨pv, wv, rfl, hpv, hwv⟩ := hk
  obtain ⟨sv, rfl, hsv⟩ := hp
  have HT := Lib.hid hT
  have HK : Hid (KeysV w (.agg (rowA 3 (keyF pv wv need))) ps ws need) := Lib.hid ⟨pv, wv, rfl, hpv, hwv⟩
  have HP := Lib.hid hpv
  have HW := Lib.hid hwv
  have HPT : Hid (PointV w (.agg (rowA 34 (ptF size root sv))) size root l) := Lib.hid ⟨sv, rfl, hsv⟩
  have HG := Lib.hid hsv
  clear hT
  go_enter Tryd.func23, Tryd.ntmps23
  go_upto_region 1 with fail
  have rk := (rowIs_box w 24 3 (keyF pv wv need)).alloc (.cells (rowA 34 (ptF size root sv)) 40)
  have rp := rowIs_box (w.alloc (.cells (rowA 3 (keyF pv wv need)) 24)) 40 34 (ptF size root sv)
  have hN : NewT w ((w.alloc (.cells (rowA 3 (keyF pv wv need)) 24)).alloc (.cells (rowA 34 (ptF size root sv)) 40)) := NewT.trans _ _ _ (NewT.alloc _ _) (NewT.alloc _ _)
  rw [World.size_alloc] at rp
  change Code.wp _ _ _ _ ((w.alloc (.cells (rowA 3 (keyF pv wv need)) 24)).alloc (.cells (rowA 34 (ptF size root sv)) 40))
  generalize (w.alloc (.cells (rowA 3 (keyF pv wv need)) 24)).alloc (.cells (rowA 34 (ptF size root sv)) 40) = W0 at rk rp hN ⊢
  have HNW := Lib.hid hN
  have RK := Lib.hid rk
  have RP := Lib.hid rp
  have HM : Hid (NewT W0 W0) := Lib.hid (NewT.refl _)
  replace HT := Lib.hid (hN.tables HT.out)
  replace HK := Lib.hid (hN.keysV HK.out)
  replace HP := Lib.hid (hN.hs HP.out)
  replace HW := Lib.hid (hN.hs HW.out)
  replace HPT := Lib.hid (hN.pointV HPT.out)
  replace HG := Lib.hid (hN.sigs HG.out)
  clear rk rp hpv hwv hN hsv
  obtain ⟨q1_1, Q1_1⟩ : ∃ bq_, ((!(mayB ps ws need)) || (decide (size < 0))) = bq_ := ⟨_, rfl⟩
  refine wp_region_steps0 NewT [SV.eq (.agg (rowA 3 (keyF pv wv need))), SV.eq (.bool (mayB ps ws need)), SV.eq (.bool (!(mayB ps ws need))), SV.eq (.bool (!(mayB ps ws need))), svIf ((!(!(mayB ps ws need)))) (SV.eq (.pointer (some ⟨w.heap.size + 1, 0, none⟩))), svIf ((!(!(mayB ps ws need)))) (SV.eq (.int .i64 (size))), svIf ((!(!(mayB ps ws need)))) (SV.eq (.bool (decide (size < 0)))), SV.eq (.bool (q1_1)), SV.eq (.bool (q1_1)), svIf ((!q1_1)) (SV.eq (.pointer (some ⟨w.heap.size + 1, 0, none⟩))), svIf ((!q1_1)) (SV.eq (.int .i64 (size))), svIf ((!q1_1)) (SV.eq (.bool (decide (400 < size)))), SV.eq (.bool (q1_1 || (decide (400 < size))))] [([(2, none)], none), ([(8, some 0)], none), ([(9, some 1)], none), ([(10, some 2)], none), ([(3, none), (11, some 3)], some (11, false)), ([(12, some 4), (11, some 3)], some (11, false)), ([(13, some 5), (11, some 3)], some (11, false)), ([(11, some 3), (14, some 6)], none), ([(15, some 7)], none), ([(3, none), (16, some 8)], some (16, false)), ([(17, some 9), (16, some 8)], some (16, false)), ([(18, some 10), (16, some 8)], some (16, false)), ([(16, some 8), (19, some 11)], none)] 74 13 rfl rfl (by kernel_rfl) NewT.trans (NewT.refl _) (Nat.le_of_ble_eq_true rfl) ⟨?_, ?_, ?_, ?_, ?_, ?_, ?_, ?_, ?_, ?_, ?_, ?_, ?_, trivial⟩ ?_
  · exact fun a wx hT hF K hK => rely_wp rfl (opr_ldY (hT.row (HM.out.row RK.out)) rfl hF.1 (hK _ _ (NewT.refl _) rfl))
  · exact fun a wx hT hF K hK => rely_wp rfl (opr_cv (RMay_cv _ ps ws need wx ((NewT.trans _ _ _ HM.out hT).keysV HK.out)) rfl Tryd.func13 (by kernel_rfl) (by kernel_rfl) (evs1 hF.1) hK)
  · exact fun a wx hT hF K hK => rely_wp rfl (opr_not rfl hF.1 (hK _ _ (NewT.refl _) rfl))
  · exact fun a wx hT hF K hK => rely_wp rfl (opr_move (.inl rfl) (hK _ _ (NewT.refl _) hF.1))
  · exact fun a wx hT hF K hK => rely_if (rely_gf hF.2.1) (NewT.refl _) hK fun hE hK => opr_fldZ0 rfl hF.1 (hK _ _ (NewT.refl _) rfl)
  · exact fun a wx hT hF K hK => rely_if (rely_gf hF.2.1) (NewT.refl _) hK fun hE hK => opr_ldI (hT.row (HM.out.row RP.out)) (by decide) rfl rfl (hF.1 hE) (hK _ _ (NewT.refl _) rfl)
  · exact fun a wx hT hF K hK => rely_if (rely_gf hF.2.1) (NewT.refl _) hK fun hE hK => opr_cmp (b := decide (size < 0)) (.inr (.inr (.inr (.inl ⟨rfl, rfl⟩)))) Tryd.underlying3 rfl (hF.1 hE) rfl (hK _ _ (NewT.refl _) rfl)
  · exact fun a wx hT hF K hK => rely_wp rfl (opr_pick_b rfl hF.1 (fun hb => hK _ _ (NewT.refl _) (pn_or1 Q1_1 hb)) (fun hb => hK _ _ (NewT.refl _) (pn_or0 Q1_1 (hF.2.1 (bnot hb)) hb)))
  · exact fun a wx hT hF K hK => rely_wp rfl (opr_move (.inl rfl) (hK _ _ (NewT.refl _) hF.1))
  · exact fun a wx hT hF K hK => rely_if (rely_gf hF.2.1) (NewT.refl _) hK fun hE hK => opr_fldZ0 rfl hF.1 (hK _ _ (NewT.refl _) rfl)
  · exact fun a wx hT hF K hK => rely_if (rely_gf hF.2.1) (NewT.refl _) hK fun hE hK => opr_ldI (hT.row (HM.out.row RP.out)) (by decide) rfl rfl (hF.1 hE) (hK _ _ (NewT.refl _) rfl)
  · exact fun a wx hT hF K hK => rely_if (rely_gf hF.2.1) (NewT.refl _) hK fun hE hK => opr_cmp (b := decide (400 < size)) (.inr (.inr (.inr (.inr (.inl ⟨rfl, rfl⟩))))) Tryd.underlying3 rfl (hF.1 hE) rfl (hK _ _ (NewT.refl _) rfl)
  · exact fun a wx hT hF K hK => rely_wp rfl (opr_pick_b rfl hF.1 (fun hb => hK _ _ (NewT.refl _) (pk_or1 hb)) (fun hb => hK _ _ (NewT.refl _) (pk_or0 (hF.2.1 (bnot hb)) hb)))
  · intro w1 k1
    iterate 4 (intro u h; obtain rfl := Eq.symm (h (by simp)); clear h)
    iterate 3 (intro _ _)
    iterate 2 (intro u h; obtain rfl := Eq.symm (h (by simp)); clear h)
    iterate 3 (intro _ _)
    intro u h; obtain rfl := Eq.symm (h (by simp)); clear h
    subst Q1_1
    refine relyEnd_nil rfl ?_
    refine wpList_end rfl ?_
    simp only [Act.put, List.setIfInBounds_toArray, List.set_cons_zero, List.set_cons_succ]
    go_simp
    replace HM := Lib.hid (NewT.trans _ _ _ HM.out k1)
    clear k1
    cases hb : (((!(mayB ps ws need)) || (decide (size < 0))) || (decide (400 < size)))
    rotate_left
    · have HE : Hid (checkI ps ws need size (sgH tg pf ws size root) l = 1) := Lib.hid (checkI_arg (by
        have h := check_ref ps ws need size
        rw [hb] at h
        cases hq : (mayB ps ws need && inR size 0 400) with
        | false => rfl
        | true => rw [hq] at h; cases h))
      clear hb
      go_wp2
      go_ret
      exact ⟨_, rfl, NewT.trans _ _ _ HNW.out HM.out, by rw [HE.out]; rfl⟩
    have HB : Hid ((mayB ps ws need && inR size 0 400) = true) := Lib.hid (by
      have h := check_ref ps ws need size
      rw [hb] at h
      cases hq : (mayB ps ws need && inR size 0 400) with
      | true => rfl
      | false => rw [hq] at h; cases h)
    clear hb
    obtain ⟨hm, hsz⟩ := Bool.and_eq_true _ _ |>.mp HB.out
    obtain ⟨sg, hsg⟩ := hid_ex (sgH tg pf ws size root)
    have HSG : Hid (∀ i : Nat, i < ws.length → signH tg pf ps ws need (i : Int) size root = sg i) := Lib.hid (fun i hi => by
      unfold signH
      rw [(mayS_iff _ _ _ _ _).2 ⟨hm, ⟨by omega, by omega⟩, (inR_iff _ _ _).1 hsz⟩, if_pos rfl, hsg.out, Int.toNat_natCast])
    have HEQ : Hid (checkI ps ws need size (sgH tg pf ws size root) l = checkI ps ws need size sg l) := Lib.hid (by rw [hsg.out])
    clear hm hsz hsg
    have HMX : Hid (l.length ≤ 9223372036854775807) := Lib.hid (by obtain ⟨_, _, _, h1, h2, _⟩ := HG.out; unfold maxLen at h2; omega)
    go_wp2
    go_loopw [5] (fun i wr => ∃ k : Nat, k ≤ l.length ∧ i = .int .i64 k ∧ Hid (okTo ws.length sg l k = true) ∧ Hid (NewT W0 wr)) (fun i _ => l.length - (intOf i).toNat)
    case atStart => exact ⟨0, by omega, rfl, Lib.hid rfl, HM⟩
    case round =>
      clear HM
      obtain ⟨k, hk, rfl, HOK, HM⟩ := hrel
      go_upto_region 4 with fail
      refine wp_region_steps0 NewT [SV.eq (.int .i64 ((k : Int))), SV.eq (.pointer (some ⟨w.heap.size + 1, 33, none⟩)), SV.eq (sv), SV.eq (.int .i64 ((List.length (l) : Int))), SV.eq (.bool (decide (((k : Int)) < ((List.length (l) : Int)))))] [([(5, none)], none), ([(3, none)], none), ([(22, some 1)], none), ([(23, some 2)], none), ([(21, some 0), (24, some 3)], none)] 74 5 rfl rfl (by kernel_rfl) NewT.trans (NewT.refl _) (Nat.le_of_ble_eq_true rfl) ⟨?_, ?_, ?_, ?_, ?_, trivial⟩ ?_
      · exact fun a wx hT hF K hK => rely_wp rfl (opr_move (.inl rfl) (hK _ _ (NewT.refl _) hF.1))
      · exact fun a wx hT hF K hK => rely_wp rfl (opr_fldZ2 rfl hF.1 (hK _ _ (NewT.refl _) rfl))
      · exact fun a wx hT hF K hK => rely_wp rfl (opr_ldGs (hT.row (HM.out.row RP.out)) (by decide) rfl rfl hF.1 (hK _ _ (NewT.refl _) rfl))
      · intro a wx hT hF K hK
        obtain ⟨f23, _⟩ := hF
        have f23 : a.tmps.getD 23 undef = sv := f23
        refine rely_wp rfl ?_
        exact opr_len_g rfl (by rw [eval_tmp, f23]; exact ((NewT.trans _ _ _ HM.out hT).sigs HG.out)) (hK _ _ (NewT.refl _) rfl)
      · exact fun a wx hT hF K hK => rely_wp rfl (opr_cmp (b := decide (((k : Int)) < ((List.length (l) : Int)))) (.inr (.inr (.inr (.inl ⟨rfl, rfl⟩)))) Tryd.underlying3 rfl hF.1 hF.2.1 (hK _ _ (NewT.refl _) rfl))
      · intro w4 k4
        iterate 5 (intro u h; obtain rfl := Eq.symm (h (by simp)); clear h)
        refine relyEnd_nil rfl ?_
        refine wpList_end rfl ?_
        simp only [Act.put, List.setIfInBounds_toArray, List.set_cons_zero, List.set_cons_succ]
        go_simp
        replace HM := Lib.hid (NewT.trans _ _ _ HM.out k4)
        clear k4
        cases hlt : decide ((k : Int) < (List.length l : Int))
        · obtain rfl : k = l.length := by rw [decide_eq_false_iff_not] at hlt; omega
          clear hlt
          go_upto_region 14 with fail
          refine wp_region_steps0 NewT [SV.eq (.pointer (some ⟨w.heap.size + 1, 33, none⟩)), SV.eq (sv), SV.eq (.int .i64 ((List.length (l) : Int))), SV.eq (.pointer (some ⟨w.heap.size, 2, none⟩)), SV.eq (.int .i64 (need)), SV.eq (.bool (decide (((List.length (l) : Int)) < need)))] [([(3, none)], none), ([(68, some 0)], none), ([(69, some 1)], none), ([(2, none)], none), ([(71, some 3)], none), ([(70, some 2), (72, some 4)], none)] 74 6 rfl rfl (by kernel_rfl) NewT.trans (NewT.refl _) (Nat.le_of_ble_eq_true rfl) ⟨?_, ?_, ?_, ?_, ?_, ?_, trivial⟩ ?_
          · exact fun a wx hT hF K hK => rely_wp rfl (opr_fldZ2 rfl hF.1 (hK _ _ (NewT.refl _) rfl))
          · exact fun a wx hT hF K hK => rely_wp rfl (opr_ldGs (hT.row (HM.out.row RP.out)) (by decide) rfl rfl hF.1 (hK _ _ (NewT.refl _) rfl))
          · intro a wx hT hF K hK
            obtain ⟨f69, _⟩ := hF
            have f69 : a.tmps.getD 69 undef = sv := f69
            refine rely_wp rfl ?_
            exact opr_len_g rfl (by rw [eval_tmp, f69]; exact ((NewT.trans _ _ _ HM.out hT).sigs HG.out)) (hK _ _ (NewT.refl _) rfl)
          · exact fun a wx hT hF K hK => rely_wp rfl (opr_fldY2 rfl hF.1 (hK _ _ (NewT.refl _) rfl))
          · exact fun a wx hT hF K hK => rely_wp rfl (opr_ldI (hT.row (HM.out.row RK.out)) (by decide) rfl rfl hF.1 (hK _ _ (NewT.refl _) rfl))
          · exact fun a wx hT hF K hK => rely_wp rfl (opr_cmp (b := decide (((List.length (l) : Int)) < need)) (.inr (.inr (.inr (.inl ⟨rfl, rfl⟩)))) Tryd.underlying3 rfl hF.1 hF.2.1 (hK _ _ (NewT.refl _) rfl))
          · intro wz kz
            iterate 6 (intro u h; obtain rfl := Eq.symm (h (by simp)); clear h)
            refine relyEnd_nil rfl ?_
            refine wpList_end rfl ?_
            simp only [Act.put, List.setIfInBounds_toArray, List.set_cons_zero, List.set_cons_succ]
            go_simp
            cases hq : decide ((List.length l : Int) < need)
            · have HE := Lib.hid (checkI_ok HB.out HOK.out hq)
              clear hq
              go_wp2
              go_ret
              exact ⟨_, rfl, NewT.trans _ _ _ HNW.out (NewT.trans _ _ _ HM.out kz), by rw [HEQ.out, HE.out]; rfl⟩
            · have HE := Lib.hid (checkI_few (sg := sg) HB.out hq)
              clear hq
              go_wp2
              go_ret
              exact ⟨_, rfl, NewT.trans _ _ _ HNW.out (NewT.trans _ _ _ HM.out kz), by rw [HEQ.out, HE.out]; rfl⟩
        · have hk2 : k < l.length := by rw [decide_eq_true_iff] at hlt; omega
          obtain ⟨⟨j, d⟩, hs⟩ : ∃ s, l[k]? = some s := ⟨_, List.getElem?_eq_getElem hk2⟩
          have HKL := Lib.hid hk2
          have HS := Lib.hid hs
          have HBAD : Hid (okAt ws.length sg (List.take k l) (j, d) = false → checkI ps ws need size sg l = 8) := Lib.hid (fun h => checkI_bad HB.out (okTo_bad hs h))
          have HNX : Hid (okAt ws.length sg (List.take k l) (j, d) = true → okTo ws.length sg l (k + 1) = true) := Lib.hid (fun h => (okTo_next hs HOK.out).trans h)
          clear hs hlt hk2
          go_upto_region 6 with fail
          refine wp_region_steps0 NewT [SV.eq (.pointer (some ⟨w.heap.size + 1, 33, none⟩)), SV.eq (sv), SV.eq (.int .i64 ((k : Int))), svPG (j, d), SV.eq ((.agg (rowA 33 (sigF (j, d)))))] [([(3, none)], none), ([(28, some 0)], none), ([(5, none)], none), ([(29, some 1), (30, some 2)], none), ([(31, some 3)], none)] 74 5 rfl rfl (by kernel_rfl) NewT.trans (NewT.refl _) (Nat.le_of_ble_eq_true rfl) ⟨?_, ?_, ?_, ?_, ?_, trivial⟩ ?_
          · exact fun a wx hT hF K hK => rely_wp rfl (opr_fldZ2 rfl hF.1 (hK _ _ (NewT.refl _) rfl))
          · exact fun a wx hT hF K hK => rely_wp rfl (opr_ldGs (hT.row (HM.out.row RP.out)) (by decide) rfl rfl hF.1 (hK _ _ (NewT.refl _) rfl))
          · exact fun a wx hT hF K hK => rely_wp rfl (opr_move (.inl rfl) (hK _ _ (NewT.refl _) hF.1))
          · intro a wx hT hF K hK
            obtain ⟨f29, f30, _⟩ := hF
            have f29 : a.tmps.getD 29 undef = sv := f29
            have f30 : a.tmps.getD 30 undef = .int .i64 ((k : Int)) := f30
            refine rely_wp rfl ?_
            exact opr_idxG (i := k) (d := (j, d)) HS.out rfl rfl (by rw [eval_tmp, f29]; exact (NewT.trans _ _ _ HM.out hT).sigs HG.out) f30 (fun v hv => hK v _ (NewT.refl _) hv)
          · exact fun a wx hT hF K hK => rely_wp rfl (opr_ldPG rfl hF.1 (hK _ _ (NewT.refl _) rfl))
          · intro w6 k6
            iterate 3 (intro u h; obtain rfl := Eq.symm (h (by simp)); clear h)
            intro _ _
            intro u h; obtain rfl := Eq.symm (h (by simp)); clear h
            refine relyEnd_nil rfl ?_
            simp only [Act.put, List.setIfInBounds_toArray, List.set_cons_zero, List.set_cons_succ]
            refine wpList_new (n := 33) (f := sigF (j, d)) rfl rfl rfl rfl rfl rfl (by first | (simp; done) | simp [Act.put]) run_alloc_sig infoGs (sigF_one _) rfl ?_
            intro w8 hn8 r8
            refine wpList_end rfl ?_
            simp only [Act.put, List.setIfInBounds_toArray, List.set_cons_zero, List.set_cons_succ]
            go_simp
            have k8 := NewT.trans _ _ _ k6 hn8
            obtain ⟨g8, hg8⟩ : ∃ g8, w6.heap.size = g8 := ⟨_, rfl⟩
            rw [hg8] at r8 ⊢
            have R8 := Lib.hid r8
            replace HM := Lib.hid (NewT.trans _ _ _ HM.out k8)
            clear k6 k8 hn8 r8 hg8
            go_upto_region 7 with fail
            obtain ⟨q1_7, Q1_7⟩ : ∃ bq_, ((decide (j < 0)) || (decide (((List.length (ws) : Int)) ≤ j))) = bq_ := ⟨_, rfl⟩
            refine wp_region_rely (NewT) [SV.eq (.pointer (some ⟨g8, 0, none⟩)), SV.eq (.int .i64 (j)), SV.eq (.bool (decide (j < 0))), SV.eq (.bool (decide (j < 0))), svIf ((!(decide (j < 0)))) (SV.eq (.pointer (some ⟨g8, 0, none⟩))), svIf ((!(decide (j < 0)))) (SV.eq (.int .i64 (j))), svIf ((!(decide (j < 0)))) (SV.eq (.pointer (some ⟨w.heap.size, 1, none⟩))), svIf ((!(decide (j < 0)))) (SV.eq (wv)), svIf ((!(decide (j < 0)))) (SV.eq (.int .i64 ((List.length (ws) : Int)))), svIf ((!(decide (j < 0)))) (SV.eq (.bool (decide (((List.length (ws) : Int)) ≤ j)))), SV.eq (.bool (q1_7)), SV.eq (.bool (q1_7)), svIf ((!q1_7)) (SV.eq (.pointer (some ⟨g8, 1, none⟩))), svIf ((!q1_7)) (SV.eq (.agg (rowA 32 (bF (d))))), svIf ((!q1_7)) (SV.eq (.agg (rowA 3 (keyF pv wv need)))), svIf ((!q1_7)) (SV.eq (.pointer (some ⟨g8, 0, none⟩))), svIf ((!q1_7)) (SV.eq (.int .i64 (j))), svIf ((!q1_7)) (SV.eq (.agg (rowA 34 (ptF size root sv)))), svIf ((!q1_7)) (SV.eq (.agg (rowA 32 (bF (signH tg pf ps ws need j size root))))), svIf ((!q1_7)) (SV.eq (.bool (!(eqH (d) (signH tg pf ps ws need j size root)))))] [([(6, none)], none), ([(33, some 0)], none), ([(34, some 1)], none), ([(35, some 2)], none), ([(6, none), (36, some 3)], some (36, false)), ([(37, some 4), (36, some 3)], some (36, false)), ([(2, none), (36, some 3)], some (36, false)), ([(39, some 6), (36, some 3)], some (36, false)), ([(40, some 7), (36, some 3)], some (36, false)), ([(38, some 5), (41, some 8), (36, some 3)], some (36, false)), ([(36, some 3), (42, some 9)], none), ([(43, some 10)], none), ([(6, none), (44, some 11)], some (44, false)), ([(45, some 12), (44, some 11)], some (44, false)), ([(2, none), (44, some 11)], some (44, false)), ([(6, none), (44, some 11)], some (44, false)), ([(48, some 15), (44, some 11)], some (44, false)), ([(3, none), (44, some 11)], some (44, false)), ([(47, some 14), (49, some 16), (50, some 17), (44, some 11)], some (44, false)), ([(46, some 13), (51, some 18), (44, some 11)], some (44, false))] 74 rfl (by kernel_rfl) rfl (by kernel_rfl) (by kernel_rfl) rfl NewT.trans (NewT.drew _) (Nat.le_of_ble_eq_true rfl) ⟨?_, ?_, ?_, ?_, ?_, ?_, ?_, ?_, ?_, ?_, ?_, ?_, ?_, ?_, ?_, ?_, ?_, ?_, ?_, ?_, trivial⟩ ?_
            · exact fun a wx hT hF K hK => rely_wp rfl (opr_fldX0 rfl hF.1 (hK _ _ (NewT.refl _) rfl))
            · exact fun a wx hT hF K hK => rely_wp rfl (opr_ldI (hT.row R8.out) (by decide) rfl rfl hF.1 (hK _ _ (NewT.refl _) rfl))
            · exact fun a wx hT hF K hK => rely_wp rfl (opr_cmp (b := decide (j < 0)) (.inr (.inr (.inr (.inl ⟨rfl, rfl⟩)))) Tryd.underlying3 rfl hF.1 rfl (hK _ _ (NewT.refl _) rfl))
            · exact fun a wx hT hF K hK => rely_wp rfl (opr_move (.inl rfl) (hK _ _ (NewT.refl _) hF.1))
            · exact fun a wx hT hF K hK => rely_if (rely_gf hF.2.1) (NewT.refl _) hK fun hE hK => opr_fldX0 rfl hF.1 (hK _ _ (NewT.refl _) rfl)
            · exact fun a wx hT hF K hK => rely_if (rely_gf hF.2.1) (NewT.refl _) hK fun hE hK => opr_ldI (hT.row R8.out) (by decide) rfl rfl (hF.1 hE) (hK _ _ (NewT.refl _) rfl)
            · exact fun a wx hT hF K hK => rely_if (rely_gf hF.2.1) (NewT.refl _) hK fun hE hK => opr_fldY1 rfl hF.1 (hK _ _ (NewT.refl _) rfl)
            · exact fun a wx hT hF K hK => rely_if (rely_gf hF.2.1) (NewT.refl _) hK fun hE hK => opr_ldHs (hT.row (HM.out.row RK.out)) (by decide) rfl rfl (hF.1 hE) (hK _ _ (NewT.refl _) rfl)
            · intro a wx hT hF K hK
              obtain ⟨f40, f36, _⟩ := hF
              have f40 : ((!(decide (j < 0)))) = true → a.tmps.getD 40 undef = wv := f40
              have f36 : a.tmps.getD 36 undef = .bool (decide (j < 0)) := f36
              refine rely_if (rely_gf f36) (NewT.refl _) hK (fun hE hK => ?_)
              exact opr_len_h rfl (by rw [eval_tmp, (f40 hE)]; exact ((NewT.trans _ _ _ HM.out hT).hs HW.out)) (hK _ _ (NewT.refl _) rfl)
            · exact fun a wx hT hF K hK => rely_if (rely_gf hF.2.2.1) (NewT.refl _) hK fun hE hK => opr_cmp (b := decide (((List.length (ws) : Int)) ≤ j)) (.inr (.inr (.inr (.inr (.inr (⟨rfl, rfl⟩)))))) Tryd.underlying3 rfl (hF.1 hE) (hF.2.1 hE) (hK _ _ (NewT.refl _) rfl)
            · exact fun a wx hT hF K hK => rely_wp rfl (opr_pick_b rfl hF.1 (fun hb => hK _ _ (NewT.refl _) (pn_or1 Q1_7 hb)) (fun hb => hK _ _ (NewT.refl _) (pn_or0 Q1_7 (hF.2.1 (bnot hb)) hb)))
            · exact fun a wx hT hF K hK => rely_wp rfl (opr_move (.inl rfl) (hK _ _ (NewT.refl _) hF.1))
            · exact fun a wx hT hF K hK => rely_if (rely_gf hF.2.1) (NewT.refl _) hK fun hE hK => opr_fldX1 rfl hF.1 (hK _ _ (NewT.refl _) rfl)
            · exact fun a wx hT hF K hK => rely_if (rely_gf hF.2.1) (NewT.refl _) hK fun hE hK => opr_ldH (hT.row R8.out) (by decide) (sigF_h _) rfl (hF.1 hE) (hK _ _ (NewT.refl _) rfl)
            · exact fun a wx hT hF K hK => rely_if (rely_gf hF.2.1) (NewT.refl _) hK fun hE hK => opr_ldY (hT.row (HM.out.row RK.out)) rfl hF.1 (hK _ _ (NewT.refl _) rfl)
            · exact fun a wx hT hF K hK => rely_if (rely_gf hF.2.1) (NewT.refl _) hK fun hE hK => opr_fldX0 rfl hF.1 (hK _ _ (NewT.refl _) rfl)
            · exact fun a wx hT hF K hK => rely_if (rely_gf hF.2.1) (NewT.refl _) hK fun hE hK => opr_ldI (hT.row R8.out) (by decide) rfl rfl (hF.1 hE) (hK _ _ (NewT.refl _) rfl)
            · exact fun a wx hT hF K hK => rely_if (rely_gf hF.2.1) (NewT.refl _) hK fun hE hK => opr_ldZ (hT.row (HM.out.row RP.out)) rfl hF.1 (hK _ _ (NewT.refl _) rfl)
            · exact fun a wx hT hF K hK => rely_if (rely_gf hF.2.2.2.1) (NewT.refl _) hK fun hE hK => opr_cv (RSign_cv hX _ _ ps ws need j size root l wx ((NewT.trans _ _ _ HM.out hT).tables HT.out) ((NewT.trans _ _ _ HM.out hT).keysV HK.out) ((NewT.trans _ _ _ HM.out hT).pointV HPT.out)) rfl Tryd.func21 (by kernel_rfl) (by kernel_rfl) (evs3 (hF.1 hE) (hF.2.1 hE) (hF.2.2.1 hE)) hK
            · exact fun a wx hT hF K hK => rely_if (rely_gf hF.2.2.1) (NewT.refl _) hK fun hE hK => opr_neq_hash (b := !(eqH (d) (signH tg pf ps ws need j size root))) rfl (hF.1 hE) (hF.2.1 hE) (rfl) (hK _ _ (NewT.refl _) rfl)
            · intro w9 k9
              iterate 4 (intro u h; obtain rfl := Eq.symm (h (by simp)); clear h)
              iterate 6 (intro _ _)
              iterate 2 (intro u h; obtain rfl := Eq.symm (h (by simp)); clear h)
              iterate 7 (intro _ _)
              intro u52 h; have g52 := h (by simp); clear h; replace g52 := show (svIf ((!q1_7)) (SV.eq (.bool (!(eqH (d) (signH tg pf ps ws need j size root)))))).pred u52 w9 from g52
              subst Q1_7
              refine relyEnd_nil rfl ?_
              simp only [Act.put, List.setIfInBounds_toArray, List.set_cons_zero, List.set_cons_succ]
              refine opr_pick_or (b := ((decide (j < 0)) || (decide (((List.length (ws) : Int)) ≤ j)))) (e := !(eqH (d) (signH tg pf ps ws need j size root))) rfl rfl (fun hb => g52 (bnot hb)) ?_
              go_simp
              cases hv : ((decide (j < 0) || decide ((List.length ws : Int) ≤ j)) || !eqH d (signH tg pf ps ws need j size root))
              rotate_left
              · have HE : Hid (checkI ps ws need size sg l = 8) := Lib.hid (HBAD.out (by
                  rw [okAt_ref]
                  simp only [Bool.or_eq_true, decide_eq_true_iff, Bool.not_eq_true'] at hv
                  by_cases h1 : 0 ≤ j
                  · by_cases h2 : j < (ws.length : Int)
                    · have h3 : eqH d (signH tg pf ps ws need j size root) = false := by
                        rcases hv with (h | h) | h
                        · omega
                        · omega
                        · exact h
                      have h4 := HSG.out j.toNat (by omega)
                      rw [Int.toNat_of_nonneg h1] at h4
                      show (_ && eqH d (sg j.toNat) && _) = false
                      rw [← h4, h3, Bool.and_false, Bool.false_and]
                    · show (decide (0 ≤ j) && decide (j < (ws.length : Int)) && _ && _) = false
                      rw [decide_eq_false h2, Bool.and_false, Bool.false_and, Bool.false_and]
                  · show (decide (0 ≤ j) && _ && _ && _) = false
                    rw [decide_eq_false h1, Bool.false_and, Bool.false_and, Bool.false_and]))
                clear hv
                go_wp2
                go_ret
                exact ⟨_, rfl, NewT.trans _ _ _ HNW.out (NewT.trans _ _ _ HM.out k9), by rw [HEQ.out, HE.out]; rfl⟩
              have HOA : Hid (okAt ws.length sg (List.take k l) (j, d) = !((List.take k l).any fun x => x.1 == j)) := Lib.hid (by
                rw [okAt_ref]
                simp only [Bool.or_eq_false_iff, decide_eq_false_iff_not, Bool.not_eq_false'] at hv
                obtain ⟨⟨h1, h2⟩, h3⟩ := hv
                have h4 := HSG.out j.toNat (by omega)
                rw [Int.toNat_of_nonneg (by omega)] at h4
                rw [h4] at h3
                show (decide (0 ≤ j) && decide (j < (ws.length : Int)) && eqH d (sg j.toNat) && _) = _
                rw [h3, decide_eq_true (by omega), decide_eq_true (by omega)]; rfl)
              clear hv
              have H8 := Lib.hid k9
              replace HM := Lib.hid (NewT.trans _ _ _ HM.out k9)
              clear k9
              go_wp2
              go_loopw [7] (fun i wr => ∃ q : Nat, q ≤ k ∧ i = .int .i64 q ∧ Hid (((List.take q l).any fun x => x.1 == j) = false) ∧ Hid (NewT w9 wr)) (fun i _ => k - (intOf i).toNat)
              case atStart => exact ⟨0, by omega, rfl, Lib.hid rfl, Lib.hid (NewT.refl _)⟩
              case round =>
                obtain ⟨q, hq, rfl, HSN, H9⟩ := hrel
                replace HM := Lib.hid (NewT.trans _ _ _ HM.out H9.out)
                replace H8 := Lib.hid (NewT.trans _ _ _ H8.out H9.out)
                go_upto_region 10 with fail
                refine wp_region_steps0 NewT [SV.eq (.int .i64 ((q : Int))), SV.eq (.int .i64 ((k : Int))), SV.eq (.bool (decide (((q : Int)) < ((k : Int)))))] [([(7, none)], none), ([(5, none)], none), ([(54, some 0), (55, some 1)], none)] 74 3 rfl rfl (by kernel_rfl) NewT.trans (NewT.refl _) (Nat.le_of_ble_eq_true rfl) ⟨?_, ?_, ?_, trivial⟩ ?_
                · exact fun a wx hT hF K hK => rely_wp rfl (opr_move (.inl rfl) (hK _ _ (NewT.refl _) hF.1))
                · exact fun a wx hT hF K hK => rely_wp rfl (opr_move (.inl rfl) (hK _ _ (NewT.refl _) hF.1))
                · exact fun a wx hT hF K hK => rely_wp rfl (opr_cmp (b := decide (((q : Int)) < ((k : Int)))) (.inr (.inr (.inr (.inl ⟨rfl, rfl⟩)))) Tryd.underlying3 rfl hF.1 hF.2.1 (hK _ _ (NewT.refl _) rfl))
                · intro wa ka
                  iterate 3 (intro u h; obtain rfl := Eq.symm (h (by simp)); clear h)
                  refine relyEnd_nil rfl ?_
                  refine wpList_end rfl ?_
                  simp only [Act.put, List.setIfInBounds_toArray, List.set_cons_zero, List.set_cons_succ]
                  go_simp
                  replace HM := Lib.hid (NewT.trans _ _ _ HM.out ka)
                  replace H8 := Lib.hid (NewT.trans _ _ _ H8.out ka)
                  replace H9 := Lib.hid (NewT.trans _ _ _ H9.out ka)
                  clear ka
                  cases hlt : decide ((q : Int) < (k : Int))
                  · obtain rfl : q = k := by rw [decide_eq_false_iff_not] at hlt; omega
                    have HNEX : Hid (okTo ws.length sg l (q + 1) = true) := Lib.hid (HNX.out (by rw [HOA.out, HSN.out]; rfl))
                    have hmx := HMX.out
                    have hkl := HKL.out
                    clear hlt
                    go_wp2
                    go_roundw
                    case rel => exact ⟨q + 1, by omega, by go_num, HNEX, HM⟩
                    case measure => simp [intOf]; omega
                  · have hq2 : q < k := by rw [decide_eq_true_iff] at hlt; omega
                    obtain ⟨⟨j2, d2⟩, hs2⟩ : ∃ s, l[q]? = some s := ⟨_, List.getElem?_eq_getElem (by have := HKL.out; omega)⟩
                    have HS2 := Lib.hid hs2
                    have HQK := Lib.hid hq2
                    clear hlt hq2 hs2
                    go_upto_region 12 with fail
                    refine wp_region_rely (NewT) [SV.eq (.pointer (some ⟨w.heap.size + 1, 33, none⟩)), SV.eq (sv), SV.eq (.int .i64 ((q : Int))), svPG (j2, d2), svPI j2, SV.eq (.int .i64 (j2)), SV.eq (.pointer (some ⟨g8, 0, none⟩)), SV.eq (.int .i64 (j))] [([(3, none)], none), ([(59, some 0)], none), ([(7, none)], none), ([(60, some 1), (61, some 2)], none), ([(62, some 3)], none), ([(63, some 4)], none), ([(6, none)], none), ([(65, some 6)], none)] 74 rfl (by kernel_rfl) rfl (by kernel_rfl) (by kernel_rfl) rfl NewT.trans (NewT.drew _) (Nat.le_of_ble_eq_true rfl) ⟨?_, ?_, ?_, ?_, ?_, ?_, ?_, ?_, trivial⟩ ?_
                    · exact fun a wx hT hF K hK => rely_wp rfl (opr_fldZ2 rfl hF.1 (hK _ _ (NewT.refl _) rfl))
                    · exact fun a wx hT hF K hK => rely_wp rfl (opr_ldGs (hT.row (HM.out.row RP.out)) (by decide) rfl rfl hF.1 (hK _ _ (NewT.refl _) rfl))
                    · exact fun a wx hT hF K hK => rely_wp rfl (opr_move (.inl rfl) (hK _ _ (NewT.refl _) hF.1))
                    · intro a wx hT hF K hK
                      obtain ⟨f60, f61, _⟩ := hF
                      have f60 : a.tmps.getD 60 undef = sv := f60
                      have f61 : a.tmps.getD 61 undef = .int .i64 ((q : Int)) := f61
                      refine rely_wp rfl ?_
                      exact opr_idxG (i := q) (d := (j2, d2)) HS2.out rfl rfl (by rw [eval_tmp, f60]; exact (NewT.trans _ _ _ HM.out hT).sigs HG.out) f61 (fun v hv => hK v _ (NewT.refl _) hv)
                    · exact fun a wx hT hF K hK => rely_wp rfl (opr_fldPG0 rfl hF.1 (fun v hv => hK v _ (NewT.refl _) hv))
                    · exact fun a wx hT hF K hK => rely_wp rfl (opr_ldPI rfl hF.1 (hK _ _ (NewT.refl _) rfl))
                    · exact fun a wx hT hF K hK => rely_wp rfl (opr_fldX0 rfl hF.1 (hK _ _ (NewT.refl _) rfl))
                    · exact fun a wx hT hF K hK => rely_wp rfl (opr_ldI (hT.row (H8.out.row R8.out)) (by decide) rfl rfl hF.1 (hK _ _ (NewT.refl _) rfl))
                    · intro wb kb
                      iterate 3 (intro u h; obtain rfl := Eq.symm (h (by simp)); clear h)
                      iterate 2 (intro _ _)
                      iterate 3 (intro u h; obtain rfl := Eq.symm (h (by simp)); clear h)
                      refine relyEnd_nil rfl ?_
                      simp only [Act.put, List.setIfInBounds_toArray, List.set_cons_zero, List.set_cons_succ]
                      refine opr_cmp (b := (j2 == j)) (.inl ⟨rfl, rfl⟩) Tryd.underlying3 rfl rfl rfl ?_
                      go_simp
                      cases he : (j2 == j)
                      · have HSN2 : Hid (((List.take (q + 1) l).any fun x => x.1 == j) = false) := Lib.hid (any_next HS2.out HSN.out he)
                        have H92 := Lib.hid (NewT.trans _ _ _ H9.out kb)
                        have hmx := HMX.out
                        have hkl := HKL.out
                        have hq2 := HQK.out
                        clear he
                        go_wp2
                        go_roundw
                        case rel => exact ⟨q + 1, by omega, by go_num, HSN2, H92⟩
                        case measure => simp [intOf]; omega
                      · have HE : Hid (checkI ps ws need size sg l = 8) := Lib.hid (HBAD.out (by rw [HOA.out, any_hit HS2.out HQK.out he]; rfl))
                        clear he
                        go_wp2
                        go_ret
                        exact ⟨_, rfl, NewT.trans _ _ _ HNW.out (NewT.trans _ _ _ HM.out kb), by rw [HEQ.out, HE.out]; rfl⟩
end Go.Proofs.YtcfogkimjbgjgaaDoor
/- The law KeysPoints, walked: every witness's tag, and whether enough of them signed every checkpoint, are the document's. -/
namespace Go.Proofs.YtcfogkimjbgjgaaDoor
open Go Go.RowKit
set_option maxRecDepth 8000
set_option linter.all false
set_option maxHeartbeats 4000000 in
theorem KeysPoints_walk (v u : Value) (ps ws : List Hs) (need wit size : Int) (root : Hs) (l : List (Int × Hs)) (w : World) (hT : Tables w) (hk : KeysV w v ps ws need) (hp : PointV w u size root l) : Calls Tryd.prog 4 #[v, .int .i64 wit, u] w fun e w' => e = .returned (.bool true) ∧ Below w.heap.size w w' := by
  obtain ⟨kf, tg, pf, hX⟩ := keyH_ex
  obtain ⟨pv, wv, rfl, hpv, hwv⟩ := hk
  obtain ⟨sv, rfl, hsv⟩ := hp
  have HPT : Hid (PointV w (.agg (rowA 34 (ptF size root sv))) size root l) := Lib.hid ⟨sv, rfl, hsv⟩
  have HG := Lib.hid hsv
  clear hsv
  have HT := Lib.hid hT
  have HK : Hid (KeysV w (.agg (rowA 3 (keyF pv wv need))) ps ws need) := Lib.hid ⟨pv, wv, rfl, hpv, hwv⟩
  have HP := Lib.hid hpv
  have HW := Lib.hid hwv
  clear hT hpv hwv
  go_enter Tryd.func4, Tryd.ntmps4
  go_upto_region 1 with fail
  have rk := (rowIs_box w 24 3 (keyF pv wv need)).alloc (.cells (rowA 34 (ptF size root sv)) 40)
  have r2 := rowIs_box (w.alloc (.cells (rowA 3 (keyF pv wv need)) 24)) 40 34 (ptF size root sv)
  have hN : NewT w ((w.alloc (.cells (rowA 3 (keyF pv wv need)) 24)).alloc (.cells (rowA 34 (ptF size root sv)) 40)) := NewT.trans _ _ _ (NewT.alloc _ _) (NewT.alloc _ _)
  rw [World.size_alloc] at r2
  change Code.wp _ _ _ _ ((w.alloc (.cells (rowA 3 (keyF pv wv need)) 24)).alloc (.cells (rowA 34 (ptF size root sv)) 40))
  generalize (w.alloc (.cells (rowA 3 (keyF pv wv need)) 24)).alloc (.cells (rowA 34 (ptF size root sv)) 40) = W0 at rk r2 hN ⊢
  obtain ⟨g1, hg1⟩ : ∃ g1, w.heap.size = g1 := ⟨_, rfl⟩
  obtain ⟨g2, hg2⟩ : ∃ g2, w.heap.size + 1 = g2 := ⟨_, rfl⟩
  have HG12 : Hid (g1 < g2 ∧ w.heap.size ≤ g1) := Lib.hid (by omega)
  rw [hg1] at rk
  rw [hg2] at r2
  rw [hg2]
  simp only [hg1]
  have RK := Lib.hid rk
  have RP := Lib.hid r2
  have HM := Lib.hid hN
  clear rk r2 hN hg1 hg2
  refine wp_region_steps0 NewT [SV.eq (.bool true), SV.eq (.bool false)] [([], none), ([(7, some 0)], none)] 43 2 rfl rfl (by kernel_rfl) NewT.trans (NewT.refl _) (Nat.le_of_ble_eq_true rfl) ⟨?_, ?_, trivial⟩ ?_
  · exact fun a wx hT hF K hK => rely_wp rfl (opr_cv (alive10_c wx ((NewT.trans _ _ _ HM.out hT).tables HT.out)) rfl Tryd.func10 (by kernel_rfl) (by kernel_rfl) evs0 hK)
  · exact fun a wx hT hF K hK => rely_wp rfl (opr_not rfl hF.1 (hK _ _ (NewT.refl _) rfl))
  · intro w1 k1
    iterate 2 (intro u h; obtain rfl := Eq.symm (h (by simp)); clear h)
    refine relyEnd_nil rfl ?_
    refine wpList_end rfl ?_
    simp only [Act.put, List.setIfInBounds_toArray, List.set_cons_zero, List.set_cons_succ]
    go_simp
    replace RK := Lib.hid (k1.row RK.out)
    replace RP := Lib.hid (k1.row RP.out)
    replace HM := Lib.hid (NewT.trans _ _ _ HM.out k1)
    clear k1
    go_upto_region 3 with fail
    obtain ⟨q1_3, Q1_3⟩ : ∃ bq_, ((decide (20 < ((List.length (ps) : Int)))) || (decide (20 < ((List.length (ws) : Int))))) = bq_ := ⟨_, rfl⟩
    obtain ⟨q2_3, Q2_3⟩ : ∃ bq_, (q1_3 || (decide (30 < ((List.length (l) : Int))))) = bq_ := ⟨_, rfl⟩
    refine wp_region_steps0 NewT [SV.eq (.pointer (some ⟨g1, 0, none⟩)), SV.eq (pv), SV.eq (.int .i64 ((List.length (ps) : Int))), SV.eq (.bool (decide (20 < ((List.length (ps) : Int))))), SV.eq (.bool (decide (20 < ((List.length (ps) : Int))))), svIf ((!(decide (20 < ((List.length (ps) : Int)))))) (SV.eq (.pointer (some ⟨g1, 1, none⟩))), svIf ((!(decide (20 < ((List.length (ps) : Int)))))) (SV.eq (wv)), svIf ((!(decide (20 < ((List.length (ps) : Int)))))) (SV.eq (.int .i64 ((List.length (ws) : Int)))), svIf ((!(decide (20 < ((List.length (ps) : Int)))))) (SV.eq (.bool (decide (20 < ((List.length (ws) : Int)))))), SV.eq (.bool (q1_3)), SV.eq (.bool (q1_3)), svIf ((!q1_3)) (SV.eq (.pointer (some ⟨g2, 33, none⟩))), svIf ((!q1_3)) (SV.eq (sv)), svIf ((!q1_3)) (SV.eq (.int .i64 ((List.length (l) : Int)))), svIf ((!q1_3)) (SV.eq (.bool (decide (30 < ((List.length (l) : Int)))))), SV.eq (.bool (q2_3))] [([(3, none)], none), ([(9, some 0)], none), ([(10, some 1)], none), ([(11, some 2)], none), ([(12, some 3)], none), ([(3, none), (13, some 4)], some (13, false)), ([(14, some 5), (13, some 4)], some (13, false)), ([(15, some 6), (13, some 4)], some (13, false)), ([(16, some 7), (13, some 4)], some (13, false)), ([(13, some 4), (17, some 8)], none), ([(18, some 9)], none), ([(5, none), (19, some 10)], some (19, false)), ([(20, some 11), (19, some 10)], some (19, false)), ([(21, some 12), (19, some 10)], some (19, false)), ([(22, some 13), (19, some 10)], some (19, false)), ([(19, some 10), (23, some 14)], none)] 43 16 rfl rfl (by kernel_rfl) NewT.trans (NewT.refl _) (Nat.le_of_ble_eq_true rfl) ⟨?_, ?_, ?_, ?_, ?_, ?_, ?_, ?_, ?_, ?_, ?_, ?_, ?_, ?_, ?_, ?_, trivial⟩ ?_
    · exact fun a wx hT hF K hK => rely_wp rfl (opr_fldY0 rfl hF.1 (hK _ _ (NewT.refl _) rfl))
    · exact fun a wx hT hF K hK => rely_wp rfl (opr_ldHs (hT.row RK.out) (by decide) rfl rfl hF.1 (hK _ _ (NewT.refl _) rfl))
    · intro a wx hT hF K hK
      obtain ⟨f10, _⟩ := hF
      have f10 : a.tmps.getD 10 undef = pv := f10
      refine rely_wp rfl ?_
      exact opr_len_h rfl (by rw [eval_tmp, f10]; exact ((NewT.trans _ _ _ HM.out hT).hs HP.out)) (hK _ _ (NewT.refl _) rfl)
    · exact fun a wx hT hF K hK => rely_wp rfl (opr_cmp (b := decide (20 < ((List.length (ps) : Int)))) (.inr (.inr (.inr (.inr (.inl ⟨rfl, rfl⟩))))) Tryd.underlying3 rfl hF.1 rfl (hK _ _ (NewT.refl _) rfl))
    · exact fun a wx hT hF K hK => rely_wp rfl (opr_move (.inl rfl) (hK _ _ (NewT.refl _) hF.1))
    · exact fun a wx hT hF K hK => rely_if (rely_gf hF.2.1) (NewT.refl _) hK fun hE hK => opr_fldY1 rfl hF.1 (hK _ _ (NewT.refl _) rfl)
    · exact fun a wx hT hF K hK => rely_if (rely_gf hF.2.1) (NewT.refl _) hK fun hE hK => opr_ldHs (hT.row RK.out) (by decide) rfl rfl (hF.1 hE) (hK _ _ (NewT.refl _) rfl)
    · intro a wx hT hF K hK
      obtain ⟨f15, f13, _⟩ := hF
      have f15 : ((!(decide (20 < ((List.length (ps) : Int)))))) = true → a.tmps.getD 15 undef = wv := f15
      have f13 : a.tmps.getD 13 undef = .bool (decide (20 < ((List.length (ps) : Int)))) := f13
      refine rely_if (rely_gf f13) (NewT.refl _) hK (fun hE hK => ?_)
      exact opr_len_h rfl (by rw [eval_tmp, (f15 hE)]; exact ((NewT.trans _ _ _ HM.out hT).hs HW.out)) (hK _ _ (NewT.refl _) rfl)
    · exact fun a wx hT hF K hK => rely_if (rely_gf hF.2.1) (NewT.refl _) hK fun hE hK => opr_cmp (b := decide (20 < ((List.length (ws) : Int)))) (.inr (.inr (.inr (.inr (.inl ⟨rfl, rfl⟩))))) Tryd.underlying3 rfl (hF.1 hE) rfl (hK _ _ (NewT.refl _) rfl)
    · exact fun a wx hT hF K hK => rely_wp rfl (opr_pick_b rfl hF.1 (fun hb => hK _ _ (NewT.refl _) (pn_or1 Q1_3 hb)) (fun hb => hK _ _ (NewT.refl _) (pn_or0 Q1_3 (hF.2.1 (bnot hb)) hb)))
    · exact fun a wx hT hF K hK => rely_wp rfl (opr_move (.inl rfl) (hK _ _ (NewT.refl _) hF.1))
    · exact fun a wx hT hF K hK => rely_if (rely_gf hF.2.1) (NewT.refl _) hK fun hE hK => opr_fldZ2 rfl hF.1 (hK _ _ (NewT.refl _) rfl)
    · exact fun a wx hT hF K hK => rely_if (rely_gf hF.2.1) (NewT.refl _) hK fun hE hK => opr_ldGs (hT.row RP.out) (by decide) rfl rfl (hF.1 hE) (hK _ _ (NewT.refl _) rfl)
    · intro a wx hT hF K hK
      obtain ⟨f21, f19, _⟩ := hF
      have f21 : ((!q1_3)) = true → a.tmps.getD 21 undef = sv := f21
      have f19 : a.tmps.getD 19 undef = .bool (q1_3) := f19
      refine rely_if (rely_gf f19) (NewT.refl _) hK (fun hE hK => ?_)
      exact opr_len_g rfl (by rw [eval_tmp, (f21 hE)]; exact ((NewT.trans _ _ _ HM.out hT).sigs HG.out)) (hK _ _ (NewT.refl _) rfl)
    · exact fun a wx hT hF K hK => rely_if (rely_gf hF.2.1) (NewT.refl _) hK fun hE hK => opr_cmp (b := decide (30 < ((List.length (l) : Int)))) (.inr (.inr (.inr (.inr (.inl ⟨rfl, rfl⟩))))) Tryd.underlying3 rfl (hF.1 hE) rfl (hK _ _ (NewT.refl _) rfl)
    · exact fun a wx hT hF K hK => rely_wp rfl (opr_pick_b rfl hF.1 (fun hb => hK _ _ (NewT.refl _) (pn_or1 Q2_3 hb)) (fun hb => hK _ _ (NewT.refl _) (pn_or0 Q2_3 (hF.2.1 (bnot hb)) hb)))
    · intro w3 k3
      iterate 5 (intro u h; obtain rfl := Eq.symm (h (by simp)); clear h)
      iterate 4 (intro _ _)
      iterate 2 (intro u h; obtain rfl := Eq.symm (h (by simp)); clear h)
      iterate 4 (intro _ _)
      intro u h; obtain rfl := Eq.symm (h (by simp)); clear h
      subst Q2_3 Q1_3
      refine relyEnd_nil rfl ?_
      refine wpList_end rfl ?_
      simp only [Act.put, List.setIfInBounds_toArray, List.set_cons_zero, List.set_cons_succ]
      go_simp
      replace RK := Lib.hid (k3.row RK.out)
      replace RP := Lib.hid (k3.row RP.out)
      replace HM := Lib.hid (NewT.trans _ _ _ HM.out k3)
      clear k3
      cases hq : ((((decide (20 < ((List.length (ps) : Int)))) || (decide (20 < ((List.length (ws) : Int))))) || (decide (30 < ((List.length (l) : Int))))))
      · clear hq
        go_upto_region 5 with fail
        refine wp_region_rely (NewT) [SV.eq (.agg (rowA 3 (keyF pv wv need))), SV.eq (.int .i64 (wit)), SV.eq (.agg (rowA 34 (ptF size root sv))), SV.eq (.agg (rowA 32 (bF (signH tg pf ps ws need wit size root)))), SV.eq (.agg (rowA 3 (keyF pv wv need))), SV.eq (.int .i64 (wit)), SV.eq (.agg (rowA 34 (ptF size root sv))), SV.eq (.agg (rowA 32 (bF (signH tg pf ps ws need wit size root)))), SV.eq (.bool true), SV.eq (.bool true), SV.eq (.agg (rowA 3 (keyF pv wv need))), SV.eq (.agg (rowA 34 (ptF size root sv))), SV.eq (.int .i64 (checkI ps ws need size (sgH tg pf ws size root) l)), SV.eq (.agg (rowA 3 (keyF pv wv need))), SV.eq (.agg (rowA 34 (ptF size root sv))), SV.eq (.int .i64 (checkI ps ws need size (sgH tg pf ws size root) l)), SV.eq (.bool true), SV.eq (.bool true)] [([(3, none)], none), ([(1, none)], none), ([(5, none)], none), ([(25, some 0), (26, some 1), (27, some 2)], none), ([(3, none)], none), ([(1, none)], none), ([(5, none)], none), ([(29, some 4), (30, some 5), (31, some 6)], none), ([(28, some 3), (32, some 7)], none), ([(33, some 8)], none), ([(3, none), (34, some 9)], some (34, true)), ([(5, none), (34, some 9)], some (34, true)), ([(35, some 10), (36, some 11), (34, some 9)], some (34, true)), ([(3, none), (34, some 9)], some (34, true)), ([(5, none), (34, some 9)], some (34, true)), ([(38, some 13), (39, some 14), (34, some 9)], some (34, true)), ([(37, some 12), (40, some 15), (34, some 9)], some (34, true)), ([(34, some 9), (41, some 16)], none)] 43 rfl (by kernel_rfl) rfl (by kernel_rfl) (by kernel_rfl) rfl NewT.trans (NewT.drew _) (Nat.le_of_ble_eq_true rfl) ⟨?_, ?_, ?_, ?_, ?_, ?_, ?_, ?_, ?_, ?_, ?_, ?_, ?_, ?_, ?_, ?_, ?_, ?_, trivial⟩ ?_
        · exact fun a wx hT hF K hK => rely_wp rfl (opr_ldY (hT.row RK.out) rfl hF.1 (hK _ _ (NewT.refl _) rfl))
        · exact fun a wx hT hF K hK => rely_wp rfl (opr_move (.inl rfl) (hK _ _ (NewT.refl _) hF.1))
        · exact fun a wx hT hF K hK => rely_wp rfl (opr_ldZ (hT.row RP.out) rfl hF.1 (hK _ _ (NewT.refl _) rfl))
        · exact fun a wx hT hF K hK => rely_wp rfl (opr_cv (Sign_cv hX _ _ ps ws need wit size root l wx ((NewT.trans _ _ _ HM.out hT).tables HT.out) ((NewT.trans _ _ _ HM.out hT).keysV HK.out) ((NewT.trans _ _ _ HM.out hT).pointV HPT.out)) rfl Tryd.func20 (by kernel_rfl) (by kernel_rfl) (evs3 hF.1 hF.2.1 hF.2.2.1) hK)
        · exact fun a wx hT hF K hK => rely_wp rfl (opr_ldY (hT.row RK.out) rfl hF.1 (hK _ _ (NewT.refl _) rfl))
        · exact fun a wx hT hF K hK => rely_wp rfl (opr_move (.inl rfl) (hK _ _ (NewT.refl _) hF.1))
        · exact fun a wx hT hF K hK => rely_wp rfl (opr_ldZ (hT.row RP.out) rfl hF.1 (hK _ _ (NewT.refl _) rfl))
        · exact fun a wx hT hF K hK => rely_wp rfl (opr_cv (RSign_cv hX _ _ ps ws need wit size root l wx ((NewT.trans _ _ _ HM.out hT).tables HT.out) ((NewT.trans _ _ _ HM.out hT).keysV HK.out) ((NewT.trans _ _ _ HM.out hT).pointV HPT.out)) rfl Tryd.func21 (by kernel_rfl) (by kernel_rfl) (evs3 hF.1 hF.2.1 hF.2.2.1) hK)
        · exact fun a wx hT hF K hK => rely_wp rfl (opr_eql_hash (b := true) rfl hF.1 hF.2.1 (eqH_same _) (hK _ _ (NewT.refl _) rfl))
        · exact fun a wx hT hF K hK => rely_wp rfl (opr_move (.inl rfl) (hK _ _ (NewT.refl _) hF.1))
        · exact fun a wx hT hF K hK => rely_wp (rely_guard hF.2.1) (opr_ldY (hT.row RK.out) rfl hF.1 (hK _ _ (NewT.refl _) rfl))
        · exact fun a wx hT hF K hK => rely_wp (rely_guard hF.2.1) (opr_ldZ (hT.row RP.out) rfl hF.1 (hK _ _ (NewT.refl _) rfl))
        · exact fun a wx hT hF K hK => rely_wp (rely_guard hF.2.2.1) (opr_cv (Check_cv hX _ _ ps ws need size root l wx ((NewT.trans _ _ _ HM.out hT).tables HT.out) ((NewT.trans _ _ _ HM.out hT).keysV HK.out) ((NewT.trans _ _ _ HM.out hT).pointV HPT.out)) rfl Tryd.func22 (by kernel_rfl) (by kernel_rfl) (evs2 hF.1 hF.2.1) hK)
        · exact fun a wx hT hF K hK => rely_wp (rely_guard hF.2.1) (opr_ldY (hT.row RK.out) rfl hF.1 (hK _ _ (NewT.refl _) rfl))
        · exact fun a wx hT hF K hK => rely_wp (rely_guard hF.2.1) (opr_ldZ (hT.row RP.out) rfl hF.1 (hK _ _ (NewT.refl _) rfl))
        · exact fun a wx hT hF K hK => rely_wp (rely_guard hF.2.2.1) (opr_cv (RCheck_cv hX _ _ ps ws need size root l wx ((NewT.trans _ _ _ HM.out hT).tables HT.out) ((NewT.trans _ _ _ HM.out hT).keysV HK.out) ((NewT.trans _ _ _ HM.out hT).pointV HPT.out)) rfl Tryd.func23 (by kernel_rfl) (by kernel_rfl) (evs2 hF.1 hF.2.1) hK)
        · exact fun a wx hT hF K hK => rely_wp (rely_guard hF.2.2.1) (opr_cmp (b := true) (.inl ⟨rfl, (by exact beq_self_eq_true _)⟩) Tryd.underlying3 rfl hF.1 hF.2.1 (hK _ _ (NewT.refl _) rfl))
        · exact fun a wx hT hF K hK => rely_wp rfl (opr_pick_true rfl hF.1 (hK _ _ (NewT.refl _) hF.2.1))
        · intro w5 k5
          iterate 18 (intro u h; obtain rfl := Eq.symm (h (by simp)); clear h)
          refine relyEnd_nil rfl ?_
          simp only [Act.put, List.setIfInBounds_toArray, List.set_cons_zero, List.set_cons_succ]
          refine opr_move (.inr rfl) ?_
          go_simp
          go_wp2
          go_ret
          exact ⟨rfl, (NewT.trans _ _ _ HM.out k5).out⟩
      · clear hq
        go_wp2
        go_ret
        exact ⟨rfl, HM.out.out⟩
end Go.Proofs.YtcfogkimjbgjgaaDoor
