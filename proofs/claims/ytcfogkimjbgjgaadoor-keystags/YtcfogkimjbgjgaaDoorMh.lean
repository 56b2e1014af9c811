/- The reference's keys and receipts. -/
import Derived.Test.YtcfogkimjbgjgaaDoorMg
import Derived.Test.YtcfogkimjbgjgaaDoorMf
set_option linter.all false
namespace Go.Proofs.YtcfogkimjbgjgaaDoor
open Go Go.RowKit
set_option maxRecDepth 8000
set_option linter.all false
set_option maxHeartbeats 1000000 in
theorem RMay_cv (v : Value) (ps ws : List Hs) (need : Int) (w : World) (hk : KeysV w v ps ws need) : Cv 13 #[v] w (.eq (.bool (mayB ps ws need))) := by
  rw [← may_ref]
  unfold Cv
  obtain ⟨pv, wv, rfl, hpv, hwv⟩ := hk
  go_enter Tryd.func13, Tryd.ntmps13
  go_upto_region 1 with fail
  have rk := rowIs_box w 24 3 (keyF pv wv need)
  have hN := NewT.alloc w (.cells (rowA 3 (keyF pv wv need)) 24)
  change Code.wp _ _ _ _ (w.alloc (.cells (rowA 3 (keyF pv wv need)) 24))
  generalize w.alloc (.cells (rowA 3 (keyF pv wv need)) 24) = W0 at rk hN ⊢
  have RK := Lib.hid rk
  have HN := Lib.hid hN
  have HK : Hid (KeysV W0 (.agg (rowA 3 (keyF pv wv need))) ps ws need) := Lib.hid (hN.keysV ⟨pv, wv, rfl, hpv, hwv⟩)
  have HP := Lib.hid (hN.hs hpv)
  have HW := Lib.hid (hN.hs hwv)
  clear rk hpv hwv hN
  obtain ⟨q1_1, Q1_1⟩ : ∃ bq_, ((decide (1 ≤ ((List.length (ps) : Int)))) && (decide (((List.length (ps) : Int)) ≤ 4))) = bq_ := ⟨_, rfl⟩
  obtain ⟨q2_1, Q2_1⟩ : ∃ bq_, (q1_1 && (decide (1 ≤ ((List.length (ws) : Int))))) = bq_ := ⟨_, rfl⟩
  obtain ⟨q3_1, Q3_1⟩ : ∃ bq_, (q2_1 && (decide (((List.length (ws) : Int)) ≤ 4))) = bq_ := ⟨_, rfl⟩
  obtain ⟨q4_1, Q4_1⟩ : ∃ bq_, ((q3_1 && (decide (1 ≤ need))) && (decide (need ≤ ((List.length (ws) : Int))))) = bq_ := ⟨_, rfl⟩
  refine wp_region_steps0 NewT [SV.eq (.pointer (some ⟨w.heap.size, 0, none⟩)), SV.eq (pv), SV.eq (.int .i64 ((List.length (ps) : Int))), SV.eq (.bool (decide (1 ≤ ((List.length (ps) : Int))))), SV.eq (.bool (decide (1 ≤ ((List.length (ps) : Int))))), svIf (decide (1 ≤ ((List.length (ps) : Int)))) (SV.eq (.pointer (some ⟨w.heap.size, 0, none⟩))), svIf (decide (1 ≤ ((List.length (ps) : Int)))) (SV.eq (pv)), svIf (decide (1 ≤ ((List.length (ps) : Int)))) (SV.eq (.int .i64 ((List.length (ps) : Int)))), svIf (decide (1 ≤ ((List.length (ps) : Int)))) (SV.eq (.bool (decide (((List.length (ps) : Int)) ≤ 4)))), SV.eq (.bool (q1_1)), SV.eq (.bool (q1_1)), svIf q1_1 (SV.eq (.pointer (some ⟨w.heap.size, 1, none⟩))), svIf q1_1 (SV.eq (wv)), svIf q1_1 (SV.eq (.int .i64 ((List.length (ws) : Int)))), svIf q1_1 (SV.eq (.bool (decide (1 ≤ ((List.length (ws) : Int)))))), SV.eq (.bool (q2_1)), SV.eq (.bool (q2_1)), svIf q2_1 (SV.eq (.pointer (some ⟨w.heap.size, 1, none⟩))), svIf q2_1 (SV.eq (wv)), svIf q2_1 (SV.eq (.int .i64 ((List.length (ws) : Int)))), svIf q2_1 (SV.eq (.bool (decide (((List.length (ws) : Int)) ≤ 4)))), SV.eq (.bool (q3_1)), SV.eq (.bool (q3_1)), svIf q3_1 (SV.eq (.pointer (some ⟨w.heap.size, 2, none⟩))), svIf q3_1 (SV.eq (.int .i64 (need))), svIf q3_1 (SV.eq (.bool (decide (1 ≤ need)))), SV.eq (.bool (q3_1 && (decide (1 ≤ need)))), SV.eq (.bool (q3_1 && (decide (1 ≤ need)))), svIf (q3_1 && (decide (1 ≤ need))) (SV.eq (.pointer (some ⟨w.heap.size, 2, none⟩))), svIf (q3_1 && (decide (1 ≤ need))) (SV.eq (.int .i64 (need))), svIf (q3_1 && (decide (1 ≤ need))) (SV.eq (.pointer (some ⟨w.heap.size, 1, none⟩))), svIf (q3_1 && (decide (1 ≤ need))) (SV.eq (wv)), svIf (q3_1 && (decide (1 ≤ need))) (SV.eq (.int .i64 ((List.length (ws) : Int)))), svIf (q3_1 && (decide (1 ≤ need))) (SV.eq (.bool (decide (need ≤ ((List.length (ws) : Int)))))), SV.eq (.bool (q4_1)), SV.eq (.bool (q4_1))] [([(1, none)], none), ([(3, some 0)], none), ([(4, some 1)], none), ([(5, some 2)], none), ([(6, some 3)], none), ([(1, none), (7, some 4)], some (7, true)), ([(8, some 5), (7, some 4)], some (7, true)), ([(9, some 6), (7, some 4)], some (7, true)), ([(10, some 7), (7, some 4)], some (7, true)), ([(7, some 4), (11, some 8)], none), ([(12, some 9)], none), ([(1, none), (13, some 10)], some (13, true)), ([(14, some 11), (13, some 10)], some (13, true)), ([(15, some 12), (13, some 10)], some (13, true)), ([(16, some 13), (13, some 10)], some (13, true)), ([(13, some 10), (17, some 14)], none), ([(18, some 15)], none), ([(1, none), (19, some 16)], some (19, true)), ([(20, some 17), (19, some 16)], some (19, true)), ([(21, some 18), (19, some 16)], some (19, true)), ([(22, some 19), (19, some 16)], some (19, true)), ([(19, some 16), (23, some 20)], none), ([(24, some 21)], none), ([(1, none), (25, some 22)], some (25, true)), ([(26, some 23), (25, some 22)], some (25, true)), ([(27, some 24), (25, some 22)], some (25, true)), ([(25, some 22), (28, some 25)], none), ([(29, some 26)], none), ([(1, none), (30, some 27)], some (30, true)), ([(31, some 28), (30, some 27)], some (30, true)), ([(1, none), (30, some 27)], some (30, true)), ([(33, some 30), (30, some 27)], some (30, true)), ([(34, some 31), (30, some 27)], some (30, true)), ([(32, some 29), (35, some 32), (30, some 27)], some (30, true)), ([(30, some 27), (36, some 33)], none), ([(37, some 34)], none)] 38 36 rfl rfl (by kernel_rfl) NewT.trans (NewT.refl _) (Nat.le_of_ble_eq_true rfl) ⟨?_, ?_, ?_, ?_, ?_, ?_, ?_, ?_, ?_, ?_, ?_, ?_, ?_, ?_, ?_, ?_, ?_, ?_, ?_, ?_, ?_, ?_, ?_, ?_, ?_, ?_, ?_, ?_, ?_, ?_, ?_, ?_, ?_, ?_, ?_, ?_, trivial⟩ ?_
  · exact fun a wx hT hF K hK => rely_wp rfl (opr_fldY0 rfl hF.1 (hK _ _ (NewT.refl _) rfl))
  · exact fun a wx hT hF K hK => rely_wp rfl (opr_ldHs (hT.row RK.out) (by decide) rfl rfl hF.1 (hK _ _ (NewT.refl _) rfl))
  · intro a wx hT hF K hK
    obtain ⟨f4, _⟩ := hF
    have f4 : a.tmps.getD 4 undef = pv := f4
    refine rely_wp rfl ?_
    exact opr_len_h rfl (by rw [eval_tmp, f4]; exact (hT.hs HP.out)) (hK _ _ (NewT.refl _) rfl)
  · exact fun a wx hT hF K hK => rely_wp rfl (opr_cmp (b := decide (1 ≤ ((List.length (ps) : Int)))) (.inr (.inr (.inr (.inr (.inr (⟨rfl, rfl⟩)))))) Tryd.underlying3 rfl hF.1 rfl (hK _ _ (NewT.refl _) rfl))
  · exact fun a wx hT hF K hK => rely_wp rfl (opr_move (.inl rfl) (hK _ _ (NewT.refl _) hF.1))
  · exact fun a wx hT hF K hK => rely_if (rely_gt hF.2.1) (NewT.refl _) hK fun hE hK => opr_fldY0 rfl hF.1 (hK _ _ (NewT.refl _) rfl)
  · exact fun a wx hT hF K hK => rely_if (rely_gt hF.2.1) (NewT.refl _) hK fun hE hK => opr_ldHs (hT.row RK.out) (by decide) rfl rfl (hF.1 hE) (hK _ _ (NewT.refl _) rfl)
  · intro a wx hT hF K hK
    obtain ⟨f9, f7, _⟩ := hF
    have f9 : (decide (1 ≤ ((List.length (ps) : Int)))) = true → a.tmps.getD 9 undef = pv := f9
    have f7 : a.tmps.getD 7 undef = .bool (decide (1 ≤ ((List.length (ps) : Int)))) := f7
    refine rely_if (rely_gt f7) (NewT.refl _) hK (fun hE hK => ?_)
    exact opr_len_h rfl (by rw [eval_tmp, (f9 hE)]; exact (hT.hs HP.out)) (hK _ _ (NewT.refl _) rfl)
  · exact fun a wx hT hF K hK => rely_if (rely_gt hF.2.1) (NewT.refl _) hK fun hE hK => opr_cmp (b := decide (((List.length (ps) : Int)) ≤ 4)) (.inr (.inr (.inl ⟨rfl, rfl⟩))) Tryd.underlying3 rfl (hF.1 hE) rfl (hK _ _ (NewT.refl _) rfl)
  · exact fun a wx hT hF K hK => rely_wp rfl (opr_pick_b rfl hF.1 (fun hb => hK _ _ (NewT.refl _) (pn_and1 Q1_1 (hF.2.1 hb) hb)) (fun hb => hK _ _ (NewT.refl _) (pn_and0 Q1_1 hb)))
  · exact fun a wx hT hF K hK => rely_wp rfl (opr_move (.inl rfl) (hK _ _ (NewT.refl _) hF.1))
  · exact fun a wx hT hF K hK => rely_if (rely_gt hF.2.1) (NewT.refl _) hK fun hE hK => opr_fldY1 rfl hF.1 (hK _ _ (NewT.refl _) rfl)
  · exact fun a wx hT hF K hK => rely_if (rely_gt hF.2.1) (NewT.refl _) hK fun hE hK => opr_ldHs (hT.row RK.out) (by decide) rfl rfl (hF.1 hE) (hK _ _ (NewT.refl _) rfl)
  · intro a wx hT hF K hK
    obtain ⟨f15, f13, _⟩ := hF
    have f15 : q1_1 = true → a.tmps.getD 15 undef = wv := f15
    have f13 : a.tmps.getD 13 undef = .bool (q1_1) := f13
    refine rely_if (rely_gt f13) (NewT.refl _) hK (fun hE hK => ?_)
    exact opr_len_h rfl (by rw [eval_tmp, (f15 hE)]; exact (hT.hs HW.out)) (hK _ _ (NewT.refl _) rfl)
  · exact fun a wx hT hF K hK => rely_if (rely_gt hF.2.1) (NewT.refl _) hK fun hE hK => opr_cmp (b := decide (1 ≤ ((List.length (ws) : Int)))) (.inr (.inr (.inr (.inr (.inr (⟨rfl, rfl⟩)))))) Tryd.underlying3 rfl (hF.1 hE) rfl (hK _ _ (NewT.refl _) rfl)
  · exact fun a wx hT hF K hK => rely_wp rfl (opr_pick_b rfl hF.1 (fun hb => hK _ _ (NewT.refl _) (pn_and1 Q2_1 (hF.2.1 hb) hb)) (fun hb => hK _ _ (NewT.refl _) (pn_and0 Q2_1 hb)))
  · exact fun a wx hT hF K hK => rely_wp rfl (opr_move (.inl rfl) (hK _ _ (NewT.refl _) hF.1))
  · exact fun a wx hT hF K hK => rely_if (rely_gt hF.2.1) (NewT.refl _) hK fun hE hK => opr_fldY1 rfl hF.1 (hK _ _ (NewT.refl _) rfl)
  · exact fun a wx hT hF K hK => rely_if (rely_gt hF.2.1) (NewT.refl _) hK fun hE hK => opr_ldHs (hT.row RK.out) (by decide) rfl rfl (hF.1 hE) (hK _ _ (NewT.refl _) rfl)
  · intro a wx hT hF K hK
    obtain ⟨f21, f19, _⟩ := hF
    have f21 : q2_1 = true → a.tmps.getD 21 undef = wv := f21
    have f19 : a.tmps.getD 19 undef = .bool (q2_1) := f19
    refine rely_if (rely_gt f19) (NewT.refl _) hK (fun hE hK => ?_)
    exact opr_len_h rfl (by rw [eval_tmp, (f21 hE)]; exact (hT.hs HW.out)) (hK _ _ (NewT.refl _) rfl)
  · exact fun a wx hT hF K hK => rely_if (rely_gt hF.2.1) (NewT.refl _) hK fun hE hK => opr_cmp (b := decide (((List.length (ws) : Int)) ≤ 4)) (.inr (.inr (.inl ⟨rfl, rfl⟩))) Tryd.underlying3 rfl (hF.1 hE) rfl (hK _ _ (NewT.refl _) rfl)
  · exact fun a wx hT hF K hK => rely_wp rfl (opr_pick_b rfl hF.1 (fun hb => hK _ _ (NewT.refl _) (pn_and1 Q3_1 (hF.2.1 hb) hb)) (fun hb => hK _ _ (NewT.refl _) (pn_and0 Q3_1 hb)))
  · exact fun a wx hT hF K hK => rely_wp rfl (opr_move (.inl rfl) (hK _ _ (NewT.refl _) hF.1))
  · exact fun a wx hT hF K hK => rely_if (rely_gt hF.2.1) (NewT.refl _) hK fun hE hK => opr_fldY2 rfl hF.1 (hK _ _ (NewT.refl _) rfl)
  · exact fun a wx hT hF K hK => rely_if (rely_gt hF.2.1) (NewT.refl _) hK fun hE hK => opr_ldI (hT.row RK.out) (by decide) rfl rfl (hF.1 hE) (hK _ _ (NewT.refl _) rfl)
  · exact fun a wx hT hF K hK => rely_if (rely_gt hF.2.1) (NewT.refl _) hK fun hE hK => opr_cmp (b := decide (1 ≤ need)) (.inr (.inr (.inr (.inr (.inr (⟨rfl, rfl⟩)))))) Tryd.underlying3 rfl (hF.1 hE) rfl (hK _ _ (NewT.refl _) rfl)
  · exact fun a wx hT hF K hK => rely_wp rfl (opr_pick_b rfl hF.1 (fun hb => hK _ _ (NewT.refl _) (pk_and1 (hF.2.1 hb) hb)) (fun hb => hK _ _ (NewT.refl _) (pk_and0 hb)))
  · exact fun a wx hT hF K hK => rely_wp rfl (opr_move (.inl rfl) (hK _ _ (NewT.refl _) hF.1))
  · exact fun a wx hT hF K hK => rely_if (rely_gt hF.2.1) (NewT.refl _) hK fun hE hK => opr_fldY2 rfl hF.1 (hK _ _ (NewT.refl _) rfl)
  · exact fun a wx hT hF K hK => rely_if (rely_gt hF.2.1) (NewT.refl _) hK fun hE hK => opr_ldI (hT.row RK.out) (by decide) rfl rfl (hF.1 hE) (hK _ _ (NewT.refl _) rfl)
  · exact fun a wx hT hF K hK => rely_if (rely_gt hF.2.1) (NewT.refl _) hK fun hE hK => opr_fldY1 rfl hF.1 (hK _ _ (NewT.refl _) rfl)
  · exact fun a wx hT hF K hK => rely_if (rely_gt hF.2.1) (NewT.refl _) hK fun hE hK => opr_ldHs (hT.row RK.out) (by decide) rfl rfl (hF.1 hE) (hK _ _ (NewT.refl _) rfl)
  · intro a wx hT hF K hK
    obtain ⟨f34, f30, _⟩ := hF
    have f34 : (q3_1 && (decide (1 ≤ need))) = true → a.tmps.getD 34 undef = wv := f34
    have f30 : a.tmps.getD 30 undef = .bool (q3_1 && (decide (1 ≤ need))) := f30
    refine rely_if (rely_gt f30) (NewT.refl _) hK (fun hE hK => ?_)
    exact opr_len_h rfl (by rw [eval_tmp, (f34 hE)]; exact (hT.hs HW.out)) (hK _ _ (NewT.refl _) rfl)
  · exact fun a wx hT hF K hK => rely_if (rely_gt hF.2.2.1) (NewT.refl _) hK fun hE hK => opr_cmp (b := decide (need ≤ ((List.length (ws) : Int)))) (.inr (.inr (.inl ⟨rfl, rfl⟩))) Tryd.underlying3 rfl (hF.1 hE) (hF.2.1 hE) (hK _ _ (NewT.refl _) rfl)
  · exact fun a wx hT hF K hK => rely_wp rfl (opr_pick_b rfl hF.1 (fun hb => hK _ _ (NewT.refl _) (pn_and1 Q4_1 (hF.2.1 hb) hb)) (fun hb => hK _ _ (NewT.refl _) (pn_and0 Q4_1 hb)))
  · exact fun a wx hT hF K hK => rely_wp rfl (opr_move (.inr rfl) (hK _ _ (NewT.refl _) hF.1))
  · intro wx hT
    iterate 5 (intro u h; obtain rfl := Eq.symm (h (by simp)); clear h)
    iterate 4 (intro _ _)
    iterate 2 (intro u h; obtain rfl := Eq.symm (h (by simp)); clear h)
    iterate 4 (intro _ _)
    iterate 2 (intro u h; obtain rfl := Eq.symm (h (by simp)); clear h)
    iterate 4 (intro _ _)
    iterate 2 (intro u h; obtain rfl := Eq.symm (h (by simp)); clear h)
    iterate 3 (intro _ _)
    iterate 2 (intro u h; obtain rfl := Eq.symm (h (by simp)); clear h)
    iterate 6 (intro _ _)
    iterate 2 (intro u h; obtain rfl := Eq.symm (h (by simp)); clear h)
    subst Q4_1 Q3_1 Q2_1 Q1_1
    refine relyEnd_nil rfl ?_
    refine wpList_end rfl ?_
    simp only [Act.put, List.setIfInBounds_toArray, List.set_cons_zero, List.set_cons_succ]
    go_simp
    go_wp2
    go_ret
    exact ⟨_, rfl, NewT.trans _ _ _ HN.out hT, rfl⟩
set_option maxHeartbeats 1000000 in
theorem RKnown_cv (v : Value) (ps ws : List Hs) (need part epoch : Int) (w : World) (hk : KeysV w v ps ws need) : Cv 29 #[v, .int .i64 part, .int .i64 epoch] w (.eq (.bool (hasB ps ws need part epoch))) := by
  rw [← known_ref]
  unfold Cv
  obtain ⟨pv, wv, rfl, hpv, hwv⟩ := hk
  go_enter Tryd.func29, Tryd.ntmps29
  go_upto_region 1 with fail
  have rk := rowIs_box w 24 3 (keyF pv wv need)
  have hN := NewT.alloc w (.cells (rowA 3 (keyF pv wv need)) 24)
  change Code.wp _ _ _ _ (w.alloc (.cells (rowA 3 (keyF pv wv need)) 24))
  generalize w.alloc (.cells (rowA 3 (keyF pv wv need)) 24) = W0 at rk hN ⊢
  have RK := Lib.hid rk
  have HN := Lib.hid hN
  have HK : Hid (KeysV W0 (.agg (rowA 3 (keyF pv wv need))) ps ws need) := Lib.hid (hN.keysV ⟨pv, wv, rfl, hpv, hwv⟩)
  have HP := Lib.hid (hN.hs hpv)
  have HW := Lib.hid (hN.hs hwv)
  clear rk hpv hwv hN
  obtain ⟨q1_1, Q1_1⟩ : ∃ bq_, ((mayB ps ws need) && (decide (0 ≤ part))) = bq_ := ⟨_, rfl⟩
  obtain ⟨q2_1, Q2_1⟩ : ∃ bq_, (q1_1 && (decide (part < ((List.length (ps) : Int))))) = bq_ := ⟨_, rfl⟩
  obtain ⟨q3_1, Q3_1⟩ : ∃ bq_, ((q2_1 && (decide (0 ≤ epoch))) && (decide (epoch ≤ 400))) = bq_ := ⟨_, rfl⟩
  refine wp_region_steps0 NewT [SV.eq (.agg (rowA 3 (keyF pv wv need))), SV.eq (.bool (mayB ps ws need)), SV.eq (.bool (mayB ps ws need)), svIf (mayB ps ws need) (SV.eq (.int .i64 (part))), svIf (mayB ps ws need) (SV.eq (.bool (decide (0 ≤ part)))), SV.eq (.bool (q1_1)), SV.eq (.bool (q1_1)), svIf q1_1 (SV.eq (.int .i64 (part))), svIf q1_1 (SV.eq (.pointer (some ⟨w.heap.size, 0, none⟩))), svIf q1_1 (SV.eq (pv)), svIf q1_1 (SV.eq (.int .i64 ((List.length (ps) : Int)))), svIf q1_1 (SV.eq (.bool (decide (part < ((List.length (ps) : Int)))))), SV.eq (.bool (q2_1)), SV.eq (.bool (q2_1)), svIf q2_1 (SV.eq (.int .i64 (epoch))), svIf q2_1 (SV.eq (.bool (decide (0 ≤ epoch)))), SV.eq (.bool (q2_1 && (decide (0 ≤ epoch)))), SV.eq (.bool (q2_1 && (decide (0 ≤ epoch)))), svIf (q2_1 && (decide (0 ≤ epoch))) (SV.eq (.int .i64 (epoch))), svIf (q2_1 && (decide (0 ≤ epoch))) (SV.eq (.bool (decide (epoch ≤ 400)))), SV.eq (.bool (q3_1)), SV.eq (.bool (q3_1))] [([(3, none)], none), ([(7, some 0)], none), ([(8, some 1)], none), ([(1, none), (9, some 2)], some (9, true)), ([(10, some 3), (9, some 2)], some (9, true)), ([(9, some 2), (11, some 4)], none), ([(12, some 5)], none), ([(1, none), (13, some 6)], some (13, true)), ([(3, none), (13, some 6)], some (13, true)), ([(15, some 8), (13, some 6)], some (13, true)), ([(16, some 9), (13, some 6)], some (13, true)), ([(14, some 7), (17, some 10), (13, some 6)], some (13, true)), ([(13, some 6), (18, some 11)], none), ([(19, some 12)], none), ([(2, none), (20, some 13)], some (20, true)), ([(21, some 14), (20, some 13)], some (20, true)), ([(20, some 13), (22, some 15)], none), ([(23, some 16)], none), ([(2, none), (24, some 17)], some (24, true)), ([(25, some 18), (24, some 17)], some (24, true)), ([(24, some 17), (26, some 19)], none), ([(27, some 20)], none)] 28 22 rfl rfl (by kernel_rfl) NewT.trans (NewT.refl _) (Nat.le_of_ble_eq_true rfl) ⟨?_, ?_, ?_, ?_, ?_, ?_, ?_, ?_, ?_, ?_, ?_, ?_, ?_, ?_, ?_, ?_, ?_, ?_, ?_, ?_, ?_, ?_, trivial⟩ ?_
  · exact fun a wx hT hF K hK => rely_wp rfl (opr_ldY (hT.row RK.out) rfl hF.1 (hK _ _ (NewT.refl _) rfl))
  · exact fun a wx hT hF K hK => rely_wp rfl (opr_cv (RMay_cv _ ps ws need wx (hT.keysV HK.out)) rfl Tryd.func13 (by kernel_rfl) (by kernel_rfl) (evs1 hF.1) hK)
  · exact fun a wx hT hF K hK => rely_wp rfl (opr_move (.inl rfl) (hK _ _ (NewT.refl _) hF.1))
  · exact fun a wx hT hF K hK => rely_if (rely_gt hF.2.1) (NewT.refl _) hK fun hE hK => opr_move (.inl rfl) (hK _ _ (NewT.refl _) hF.1)
  · exact fun a wx hT hF K hK => rely_if (rely_gt hF.2.1) (NewT.refl _) hK fun hE hK => opr_cmp (b := decide (0 ≤ part)) (.inr (.inr (.inr (.inr (.inr (⟨rfl, rfl⟩)))))) Tryd.underlying3 rfl (hF.1 hE) rfl (hK _ _ (NewT.refl _) rfl)
  · exact fun a wx hT hF K hK => rely_wp rfl (opr_pick_b rfl hF.1 (fun hb => hK _ _ (NewT.refl _) (pn_and1 Q1_1 (hF.2.1 hb) hb)) (fun hb => hK _ _ (NewT.refl _) (pn_and0 Q1_1 hb)))
  · exact fun a wx hT hF K hK => rely_wp rfl (opr_move (.inl rfl) (hK _ _ (NewT.refl _) hF.1))
  · exact fun a wx hT hF K hK => rely_if (rely_gt hF.2.1) (NewT.refl _) hK fun hE hK => opr_move (.inl rfl) (hK _ _ (NewT.refl _) hF.1)
  · exact fun a wx hT hF K hK => rely_if (rely_gt hF.2.1) (NewT.refl _) hK fun hE hK => opr_fldY0 rfl hF.1 (hK _ _ (NewT.refl _) rfl)
  · exact fun a wx hT hF K hK => rely_if (rely_gt hF.2.1) (NewT.refl _) hK fun hE hK => opr_ldHs (hT.row RK.out) (by decide) rfl rfl (hF.1 hE) (hK _ _ (NewT.refl _) rfl)
  · intro a wx hT hF K hK
    obtain ⟨f16, f13, _⟩ := hF
    have f16 : q1_1 = true → a.tmps.getD 16 undef = pv := f16
    have f13 : a.tmps.getD 13 undef = .bool (q1_1) := f13
    refine rely_if (rely_gt f13) (NewT.refl _) hK (fun hE hK => ?_)
    exact opr_len_h rfl (by rw [eval_tmp, (f16 hE)]; exact (hT.hs HP.out)) (hK _ _ (NewT.refl _) rfl)
  · exact fun a wx hT hF K hK => rely_if (rely_gt hF.2.2.1) (NewT.refl _) hK fun hE hK => opr_cmp (b := decide (part < ((List.length (ps) : Int)))) (.inr (.inr (.inr (.inl ⟨rfl, rfl⟩)))) Tryd.underlying3 rfl (hF.1 hE) (hF.2.1 hE) (hK _ _ (NewT.refl _) rfl)
  · exact fun a wx hT hF K hK => rely_wp rfl (opr_pick_b rfl hF.1 (fun hb => hK _ _ (NewT.refl _) (pn_and1 Q2_1 (hF.2.1 hb) hb)) (fun hb => hK _ _ (NewT.refl _) (pn_and0 Q2_1 hb)))
  · exact fun a wx hT hF K hK => rely_wp rfl (opr_move (.inl rfl) (hK _ _ (NewT.refl _) hF.1))
  · exact fun a wx hT hF K hK => rely_if (rely_gt hF.2.1) (NewT.refl _) hK fun hE hK => opr_move (.inl rfl) (hK _ _ (NewT.refl _) hF.1)
  · exact fun a wx hT hF K hK => rely_if (rely_gt hF.2.1) (NewT.refl _) hK fun hE hK => opr_cmp (b := decide (0 ≤ epoch)) (.inr (.inr (.inr (.inr (.inr (⟨rfl, rfl⟩)))))) Tryd.underlying3 rfl (hF.1 hE) rfl (hK _ _ (NewT.refl _) rfl)
  · exact fun a wx hT hF K hK => rely_wp rfl (opr_pick_b rfl hF.1 (fun hb => hK _ _ (NewT.refl _) (pk_and1 (hF.2.1 hb) hb)) (fun hb => hK _ _ (NewT.refl _) (pk_and0 hb)))
  · exact fun a wx hT hF K hK => rely_wp rfl (opr_move (.inl rfl) (hK _ _ (NewT.refl _) hF.1))
  · exact fun a wx hT hF K hK => rely_if (rely_gt hF.2.1) (NewT.refl _) hK fun hE hK => opr_move (.inl rfl) (hK _ _ (NewT.refl _) hF.1)
  · exact fun a wx hT hF K hK => rely_if (rely_gt hF.2.1) (NewT.refl _) hK fun hE hK => opr_cmp (b := decide (epoch ≤ 400)) (.inr (.inr (.inl ⟨rfl, rfl⟩))) Tryd.underlying3 rfl (hF.1 hE) rfl (hK _ _ (NewT.refl _) rfl)
  · exact fun a wx hT hF K hK => rely_wp rfl (opr_pick_b rfl hF.1 (fun hb => hK _ _ (NewT.refl _) (pn_and1 Q3_1 (hF.2.1 hb) hb)) (fun hb => hK _ _ (NewT.refl _) (pn_and0 Q3_1 hb)))
  · exact fun a wx hT hF K hK => rely_wp rfl (opr_move (.inr rfl) (hK _ _ (NewT.refl _) hF.1))
  · intro wx hT
    iterate 3 (intro u h; obtain rfl := Eq.symm (h (by simp)); clear h)
    iterate 2 (intro _ _)
    iterate 2 (intro u h; obtain rfl := Eq.symm (h (by simp)); clear h)
    iterate 5 (intro _ _)
    iterate 2 (intro u h; obtain rfl := Eq.symm (h (by simp)); clear h)
    iterate 2 (intro _ _)
    iterate 2 (intro u h; obtain rfl := Eq.symm (h (by simp)); clear h)
    iterate 2 (intro _ _)
    iterate 2 (intro u h; obtain rfl := Eq.symm (h (by simp)); clear h)
    subst Q3_1 Q2_1 Q1_1
    refine relyEnd_nil rfl ?_
    refine wpList_end rfl ?_
    simp only [Act.put, List.setIfInBounds_toArray, List.set_cons_zero, List.set_cons_succ]
    go_simp
    go_wp2
    go_ret
    exact ⟨_, rfl, NewT.trans _ _ _ HN.out hT, rfl⟩
set_option maxHeartbeats 1000000 in
theorem RPart_cv {kf : Hs → List Int → Hs} {tg : Hs → Hs → Hs} {pf : Int → Hs → Hs} (hX : KeyH kf tg pf) (v : Value) (ps ws : List Hs) (need part epoch : Int) (w : World) (hT : Tables w) (hk : KeysV w v ps ws need) : Cv 15 #[v, .int .i64 part, .int .i64 epoch] w (.eq (.agg (rowA 32 (bF (partH kf ps ws need part epoch))))) := by
  unfold Cv
  obtain ⟨pv, wv, rfl, hpv, hwv⟩ := hk
  have HT := Lib.hid hT
  clear hT
  go_enter Tryd.func15, Tryd.ntmps15
  go_upto_region 1 with fail
  have rk := (rowIs_box w 24 3 (keyF pv wv need)).alloc (.cells (rowA 32 (bF fun _ => 0)) 26)
  have r0 := rowIs_box (w.alloc (.cells (rowA 3 (keyF pv wv need)) 24)) 26 32 (bF fun _ => 0)
  have hN : NewT w ((w.alloc (.cells (rowA 3 (keyF pv wv need)) 24)).alloc (.cells (rowA 32 (bF fun _ => 0)) 26)) := NewT.trans _ _ _ (NewT.alloc _ _) (NewT.alloc _ _)
  rw [World.size_alloc] at r0
  change Code.wp _ _ _ _ ((w.alloc (.cells (rowA 3 (keyF pv wv need)) 24)).alloc (.cells (rowA 32 (bF fun _ => 0)) 26))
  generalize (w.alloc (.cells (rowA 3 (keyF pv wv need)) 24)).alloc (.cells (rowA 32 (bF fun _ => 0)) 26) = W0 at rk r0 hN ⊢
  have RK := Lib.hid rk
  have R0 := Lib.hid r0
  have HN := Lib.hid hN
  replace HT := Lib.hid (hN.tables HT.out)
  have HK : Hid (KeysV W0 (.agg (rowA 3 (keyF pv wv need))) ps ws need) := Lib.hid (hN.keysV ⟨pv, wv, rfl, hpv, hwv⟩)
  have HP := Lib.hid (hN.hs hpv)
  have HW := Lib.hid (hN.hs hwv)
  clear rk r0 hpv hwv hN
  refine wp_region_steps0 NewT [SV.eq (.agg (rowA 3 (keyF pv wv need))), SV.eq (.int .i64 (part)), SV.eq (.int .i64 (epoch)), SV.eq (.bool (hasB ps ws need part epoch)), SV.eq (.bool (!(hasB ps ws need part epoch)))] [([(3, none)], none), ([(1, none)], none), ([(2, none)], none), ([(7, some 0), (8, some 1), (9, some 2)], none), ([(10, some 3)], none)] 21 5 rfl rfl (by kernel_rfl) NewT.trans (NewT.refl _) (Nat.le_of_ble_eq_true rfl) ⟨?_, ?_, ?_, ?_, ?_, trivial⟩ ?_
  · exact fun a wx hT hF K hK => rely_wp rfl (opr_ldY (hT.row RK.out) rfl hF.1 (hK _ _ (NewT.refl _) rfl))
  · exact fun a wx hT hF K hK => rely_wp rfl (opr_move (.inl rfl) (hK _ _ (NewT.refl _) hF.1))
  · exact fun a wx hT hF K hK => rely_wp rfl (opr_move (.inl rfl) (hK _ _ (NewT.refl _) hF.1))
  · exact fun a wx hT hF K hK => rely_wp rfl (opr_cv (RKnown_cv _ ps ws need part epoch wx (hT.keysV HK.out)) rfl Tryd.func29 (by kernel_rfl) (by kernel_rfl) (evs3 hF.1 hF.2.1 hF.2.2.1) hK)
  · exact fun a wx hT hF K hK => rely_wp rfl (opr_not rfl hF.1 (hK _ _ (NewT.refl _) rfl))
  · intro w1 k1
    iterate 5 (intro u h; obtain rfl := Eq.symm (h (by simp)); clear h)
    refine relyEnd_nil rfl ?_
    refine wpList_end rfl ?_
    simp only [Act.put, List.setIfInBounds_toArray, List.set_cons_zero, List.set_cons_succ]
    go_simp
    replace RK := Lib.hid (k1.row RK.out)
    replace R0 := Lib.hid (k1.row R0.out)
    replace HK := Lib.hid (k1.keysV HK.out)
    replace HP := Lib.hid (k1.hs HP.out)
    replace HW := Lib.hid (k1.hs HW.out)
    replace HT := Lib.hid (k1.tables HT.out)
    replace HN := Lib.hid (NewT.trans _ _ _ HN.out k1)
    clear k1
    cases hb : hasB ps ws need part epoch
    · have HE : Hid (partH kf ps ws need part epoch = z32) := Lib.hid (by unfold partH; rw [hb]; rfl)
      clear hb
      go_upto_region 2 with fail
      refine wp_region_steps0 NewT [SV.eq (.agg (rowA 32 (bF (z32))))] [([], none)] 21 1 rfl rfl (by kernel_rfl) NewT.trans (NewT.refl _) (Nat.le_of_ble_eq_true rfl) ⟨?_, trivial⟩ ?_
      · exact fun a wx hT hF K hK => rely_wp rfl (opr_build (pv := #[]) rfl (by simp) (build_z32 wx) (hK _ _ (NewT.refl _) rfl))
      · intro wx hT
        intro u h; obtain rfl := Eq.symm (h (by simp)); clear h
        refine relyEnd_nil rfl ?_
        simp only [Act.put, List.setIfInBounds_toArray, List.set_cons_zero, List.set_cons_succ]
        refine wpList_plain rfl (fun K hK => ?_)
        refine opr_store_new (B := w.heap.size) (W := w) info31 rfl rfl rfl (hT.row R0.out) (NewT.trans _ _ _ HN.out hT) (Nat.le_succ _) ?_
        intro w9 hB9 r9
        refine hK _ _ ?_
        refine wpList_end rfl ?_
        simp only [Act.put, List.setIfInBounds_toArray, List.set_cons_zero, List.set_cons_succ]
        go_simp
        go_wp2
        exact bodyPost_ret (results_row rfl _ rfl r9 Tryd.underlying26 info31) rfl ⟨_, rfl, hB9, by rw [HE.out]; rfl⟩
    · obtain ⟨i, rfl, _, hd⟩ := hasB_at hb
      obtain ⟨d, hdd⟩ := hid_ex (ps.getD ((i : Int)).toNat z32)
      have HD : Hid (ps[i]? = some d) := Lib.hid (by rw [hd, hdd.out])
      have HE : Hid (partH kf ps ws need (i : Int) epoch = kf d [1, epoch]) := Lib.hid (by unfold partH; rw [hb, if_pos rfl, hdd.out])
      clear hb hd hdd
      go_upto_region 3 with fail
      refine wp_region_steps0 NewT [SV.eq (.pointer (some ⟨w.heap.size, 0, none⟩)), SV.eq (pv), SV.eq (.int .i64 ((i : Int))), svP (d), SV.eq (.agg (rowA 32 (bF (d)))), SV.eq (.int .i64 (epoch)), svInts [1, epoch], SV.eq (.agg (rowA 32 (bF (kf (d) [1, epoch]))))] [([(3, none)], none), ([(13, some 0)], none), ([(1, none)], none), ([(14, some 1), (15, some 2)], none), ([(16, some 3)], none), ([(2, none)], none), ([(18, some 5)], none), ([(17, some 4), (19, some 6)], none)] 21 8 rfl rfl (by kernel_rfl) NewT.trans (NewT.refl _) (Nat.le_of_ble_eq_true rfl) ⟨?_, ?_, ?_, ?_, ?_, ?_, ?_, ?_, trivial⟩ ?_
      · exact fun a wx hT hF K hK => rely_wp rfl (opr_fldY0 rfl hF.1 (hK _ _ (NewT.refl _) rfl))
      · exact fun a wx hT hF K hK => rely_wp rfl (opr_ldHs (hT.row RK.out) (by decide) rfl rfl hF.1 (hK _ _ (NewT.refl _) rfl))
      · exact fun a wx hT hF K hK => rely_wp rfl (opr_move (.inl rfl) (hK _ _ (NewT.refl _) hF.1))
      · intro a wx hT hF K hK
        obtain ⟨f14, f15, _⟩ := hF
        have f14 : a.tmps.getD 14 undef = pv := f14
        have f15 : a.tmps.getD 15 undef = .int .i64 ((i : Int)) := f15
        refine rely_wp rfl ?_
        exact opr_idxH (i := i) (d := d) (HD.out) (rfl) rfl (by rw [eval_tmp, f14]; exact (hT.hs HP.out)) f15 (fun v hv => hK v _ (NewT.refl _) hv)
      · exact fun a wx hT hF K hK => rely_wp rfl (opr_ldP rfl hF.1 (hK _ _ (NewT.refl _) rfl))
      · exact fun a wx hT hF K hK => rely_wp rfl (opr_move (.inl rfl) (hK _ _ (NewT.refl _) hF.1))
      · exact fun a wx hT hF K hK => rely_wp rfl (opr_bsI2 rfl rfl hF.1 hK)
      · exact fun a wx hT hF K hK => rely_wp rfl (opr_cv (RKey_cv (d) _ [1, epoch] _ wx (hT.tables HT.out) hF.2.1 (by simp) (hX.key _ _)) rfl Tryd.func30 (by kernel_rfl) (by kernel_rfl) (evs2 hF.1 rfl) hK)
      · intro wx hT
        iterate 3 (intro u h; obtain rfl := Eq.symm (h (by simp)); clear h)
        intro _ _
        iterate 2 (intro u h; obtain rfl := Eq.symm (h (by simp)); clear h)
        intro _ _
        intro u h; obtain rfl := Eq.symm (h (by simp)); clear h
        refine relyEnd_nil rfl ?_
        simp only [Act.put, List.setIfInBounds_toArray, List.set_cons_zero, List.set_cons_succ]
        refine wpList_plain rfl (fun K hK => ?_)
        refine opr_store_new (B := w.heap.size) (W := w) info31 rfl rfl rfl (hT.row R0.out) (NewT.trans _ _ _ HN.out hT) (Nat.le_succ _) ?_
        intro w9 hB9 r9
        refine hK _ _ ?_
        refine wpList_end rfl ?_
        simp only [Act.put, List.setIfInBounds_toArray, List.set_cons_zero, List.set_cons_succ]
        go_simp
        go_wp2
        exact bodyPost_ret (results_row rfl _ rfl r9 Tryd.underlying26 info31) rfl ⟨_, rfl, hB9, by rw [HE.out]; rfl⟩
set_option maxHeartbeats 4000000 in
theorem RReceipt_cv {kf : Hs → List Int → Hs} {tg : Hs → Hs → Hs} {pf : Int → Hs → Hs} (hX : KeyH kf tg pf) (v u : Value) (ps ws : List Hs) (need : Int) (x : Rc) (w : World) (hT : Tables w) (hk : KeysV w v ps ws need) (hx : RecV w u x) : Cv 17 #[v, u] w (.eq (.agg (rowA 32 (bF (recpH kf ps ws need x))))) := by
  unfold Cv
  obtain ⟨pv, wv, rfl, hpv, hwv⟩ := hk
  obtain ⟨sv, dv, rfl, hs, hd⟩ := hx
  have HT := Lib.hid hT
  clear hT
  go_enter Tryd.func17, Tryd.ntmps17
  go_upto_region 1 with fail
  have rk := ((rowIs_box w 24 3 (keyF pv wv need)).alloc (.cells (rowA 109 (recF x sv dv)) 30)).alloc (.cells (rowA 32 (bF fun _ => 0)) 26)
  have r1 := (rowIs_box (w.alloc (.cells (rowA 3 (keyF pv wv need)) 24)) 30 109 (recF x sv dv)).alloc (.cells (rowA 32 (bF fun _ => 0)) 26)
  have r0 := rowIs_box ((w.alloc (.cells (rowA 3 (keyF pv wv need)) 24)).alloc (.cells (rowA 109 (recF x sv dv)) 30)) 26 32 (bF fun _ => 0)
  have hN : NewT w (((w.alloc (.cells (rowA 3 (keyF pv wv need)) 24)).alloc (.cells (rowA 109 (recF x sv dv)) 30)).alloc (.cells (rowA 32 (bF fun _ => 0)) 26)) := NewT.trans _ _ _ (NewT.alloc _ _) (NewT.trans _ _ _ (NewT.alloc _ _) (NewT.alloc _ _))
  rw [World.size_alloc] at r1
  rw [World.size_alloc, World.size_alloc] at r0
  change Code.wp _ _ _ _ (((w.alloc (.cells (rowA 3 (keyF pv wv need)) 24)).alloc (.cells (rowA 109 (recF x sv dv)) 30)).alloc (.cells (rowA 32 (bF fun _ => 0)) 26))
  generalize ((w.alloc (.cells (rowA 3 (keyF pv wv need)) 24)).alloc (.cells (rowA 109 (recF x sv dv)) 30)).alloc (.cells (rowA 32 (bF fun _ => 0)) 26) = W0 at rk r1 r0 hN ⊢
  have RK := Lib.hid rk
  have R1 := Lib.hid r1
  have R0 := Lib.hid r0
  have HN := Lib.hid hN
  replace HT := Lib.hid (hN.tables HT.out)
  have HK : Hid (KeysV W0 (.agg (rowA 3 (keyF pv wv need))) ps ws need) := Lib.hid (hN.keysV ⟨pv, wv, rfl, hpv, hwv⟩)
  have HP := Lib.hid (hN.hs hpv)
  have HW := Lib.hid (hN.hs hwv)
  have HX : Hid (RecV W0 (.agg (rowA 109 (recF x sv dv))) x) := Lib.hid (hN.recV ⟨sv, dv, rfl, hs, hd⟩)
  have HS := Lib.hid (hN.pairs hs)
  have HD := Lib.hid (hN.rd hd)
  clear rk r0 r1 hpv hwv hN hs hd
  obtain ⟨q1_1, Q1_1⟩ : ∃ bq_, ((x.kind != 3) || (!(hasB ps ws need x.part x.epoch))) = bq_ := ⟨_, rfl⟩
  refine wp_region_steps0 NewT [SV.eq (.pointer (some ⟨w.heap.size + 1, 0, none⟩)), SV.eq (.int .i64 (x.kind)), SV.eq (.bool (x.kind != 3)), SV.eq (.bool (x.kind != 3)), svIf ((!(x.kind != 3))) (SV.eq (.agg (rowA 3 (keyF pv wv need)))), svIf ((!(x.kind != 3))) (SV.eq (.pointer (some ⟨w.heap.size + 1, 8, none⟩))), svIf ((!(x.kind != 3))) (SV.eq (.int .i64 (x.part))), svIf ((!(x.kind != 3))) (SV.eq (.pointer (some ⟨w.heap.size + 1, 9, none⟩))), svIf ((!(x.kind != 3))) (SV.eq (.int .i64 (x.epoch))), svIf ((!(x.kind != 3))) (SV.eq (.bool (hasB ps ws need x.part x.epoch))), svIf ((!(x.kind != 3))) (SV.eq (.bool (!(hasB ps ws need x.part x.epoch)))), SV.eq (.bool (q1_1))] [([(3, none)], none), ([(7, some 0)], none), ([(8, some 1)], none), ([(9, some 2)], none), ([(2, none), (10, some 3)], some (10, false)), ([(3, none), (10, some 3)], some (10, false)), ([(12, some 5), (10, some 3)], some (10, false)), ([(3, none), (10, some 3)], some (10, false)), ([(14, some 7), (10, some 3)], some (10, false)), ([(11, some 4), (13, some 6), (15, some 8), (10, some 3)], some (10, false)), ([(16, some 9), (10, some 3)], some (10, false)), ([(10, some 3), (17, some 10)], none)] 38 12 rfl rfl (by kernel_rfl) NewT.trans (NewT.refl _) (Nat.le_of_ble_eq_true rfl) ⟨?_, ?_, ?_, ?_, ?_, ?_, ?_, ?_, ?_, ?_, ?_, ?_, trivial⟩ ?_
  · exact fun a wx hT hF K hK => rely_wp rfl (opr_fldR (by decide) rfl hF.1 (hK _ _ (NewT.refl _) rfl))
  · exact fun a wx hT hF K hK => rely_wp rfl (opr_ldI (hT.row R1.out) (by decide) rfl rfl hF.1 (hK _ _ (NewT.refl _) rfl))
  · exact fun a wx hT hF K hK => rely_wp rfl (opr_cmp (b := x.kind != 3) (.inr (.inl ⟨rfl, rfl⟩)) Tryd.underlying3 rfl hF.1 rfl (hK _ _ (NewT.refl _) rfl))
  · exact fun a wx hT hF K hK => rely_wp rfl (opr_move (.inl rfl) (hK _ _ (NewT.refl _) hF.1))
  · exact fun a wx hT hF K hK => rely_if (rely_gf hF.2.1) (NewT.refl _) hK fun hE hK => opr_ldY (hT.row RK.out) rfl hF.1 (hK _ _ (NewT.refl _) rfl)
  · exact fun a wx hT hF K hK => rely_if (rely_gf hF.2.1) (NewT.refl _) hK fun hE hK => opr_fldR (by decide) rfl hF.1 (hK _ _ (NewT.refl _) rfl)
  · exact fun a wx hT hF K hK => rely_if (rely_gf hF.2.1) (NewT.refl _) hK fun hE hK => opr_ldI (hT.row R1.out) (by decide) rfl rfl (hF.1 hE) (hK _ _ (NewT.refl _) rfl)
  · exact fun a wx hT hF K hK => rely_if (rely_gf hF.2.1) (NewT.refl _) hK fun hE hK => opr_fldR (by decide) rfl hF.1 (hK _ _ (NewT.refl _) rfl)
  · exact fun a wx hT hF K hK => rely_if (rely_gf hF.2.1) (NewT.refl _) hK fun hE hK => opr_ldI (hT.row R1.out) (by decide) rfl rfl (hF.1 hE) (hK _ _ (NewT.refl _) rfl)
  · exact fun a wx hT hF K hK => rely_if (rely_gf hF.2.2.2.1) (NewT.refl _) hK fun hE hK => opr_cv (RKnown_cv _ ps ws need x.part x.epoch wx (hT.keysV HK.out)) rfl Tryd.func29 (by kernel_rfl) (by kernel_rfl) (evs3 (hF.1 hE) (hF.2.1 hE) (hF.2.2.1 hE)) hK
  · exact fun a wx hT hF K hK => rely_if (rely_gf hF.2.1) (NewT.refl _) hK fun hE hK => opr_not rfl (hF.1 hE) (hK _ _ (NewT.refl _) rfl)
  · exact fun a wx hT hF K hK => rely_wp rfl (opr_pick_b rfl hF.1 (fun hb => hK _ _ (NewT.refl _) (pn_or1 Q1_1 hb)) (fun hb => hK _ _ (NewT.refl _) (pn_or0 Q1_1 (hF.2.1 (bnot hb)) hb)))
  · intro w1 k1
    iterate 4 (intro u h; obtain rfl := Eq.symm (h (by simp)); clear h)
    iterate 7 (intro _ _)
    intro u h; obtain rfl := Eq.symm (h (by simp)); clear h
    subst Q1_1
    refine relyEnd_nil rfl ?_
    refine wpList_end rfl ?_
    simp only [Act.put, List.setIfInBounds_toArray, List.set_cons_zero, List.set_cons_succ]
    go_simp
    replace RK := Lib.hid (k1.row RK.out)
    replace R1 := Lib.hid (k1.row R1.out)
    replace R0 := Lib.hid (k1.row R0.out)
    replace HK := Lib.hid (k1.keysV HK.out)
    replace HP := Lib.hid (k1.hs HP.out)
    replace HW := Lib.hid (k1.hs HW.out)
    replace HX := Lib.hid (k1.recV HX.out)
    replace HS := Lib.hid (k1.pairs HS.out)
    replace HD := Lib.hid (k1.rd HD.out)
    replace HT := Lib.hid (k1.tables HT.out)
    replace HN := Lib.hid (NewT.trans _ _ _ HN.out k1)
    clear k1
    cases hb : ((x.kind != 3) || !hasB ps ws need x.part x.epoch)
    · have HE0 : Hid (recpH kf ps ws need x = kf (partH kf ps ws need x.part x.epoch) [2, x.saga, x.step, bI x.back, bI x.good]) := Lib.hid (by unfold recpH; rw [or_not hb]; rfl)
      have c5 : w1.cell? ⟨w.heap.size + 1, 5, none⟩ = some (.bool x.back) := R1.out.cell (i := 5) (by omega)
      have c6 : w1.cell? ⟨w.heap.size + 1, 6, none⟩ = some (.bool x.good) := R1.out.cell (i := 6) (by omega)
      clear hb
      cases hbk : x.back <;> cases hgd : x.good
      · rw [hbk] at c5
        rw [hgd] at c6
        have HE : Hid (recpH kf ps ws need x = kf (partH kf ps ws need x.part x.epoch) [2, x.saga, x.step, 0, 0]) := Lib.hid (by rw [HE0.out, hbk, hgd]; rfl)
        clear hbk hgd
        go_upto_region 8 with fail
        clear c5 c6
        refine wp_region_rely (NewT) [SV.eq (.agg (rowA 3 (keyF pv wv need))), SV.eq (.pointer (some ⟨w.heap.size + 1, 8, none⟩)), SV.eq (.int .i64 (x.part)), SV.eq (.pointer (some ⟨w.heap.size + 1, 9, none⟩)), SV.eq (.int .i64 (x.epoch)), SV.eq (.agg (rowA 32 (bF (partH kf ps ws need x.part x.epoch)))), SV.eq (.pointer (some ⟨w.heap.size + 1, 1, none⟩)), SV.eq (.int .i64 (x.saga)), SV.eq (.pointer (some ⟨w.heap.size + 1, 3, none⟩)), SV.eq (.int .i64 (x.step)), SV.eq (.int .i64 (0)), SV.eq (.int .i64 (0)), svInts [2, x.saga, x.step, 0, 0], SV.eq (.agg (rowA 32 (bF (kf (partH kf ps ws need x.part x.epoch) [2, x.saga, x.step, 0, 0]))))] [([(2, none)], none), ([(3, none)], none), ([(25, some 1)], none), ([(3, none)], none), ([(27, some 3)], none), ([(24, some 0), (26, some 2), (28, some 4)], none), ([(3, none)], none), ([(30, some 6)], none), ([(3, none)], none), ([(32, some 8)], none), ([(5, none)], none), ([(6, none)], none), ([(31, some 7), (33, some 9), (34, some 10), (35, some 11)], none), ([(29, some 5), (36, some 12)], none)] 38 rfl (by kernel_rfl) rfl (by kernel_rfl) (by kernel_rfl) rfl NewT.trans (NewT.drew _) (Nat.le_of_ble_eq_true rfl) ⟨?_, ?_, ?_, ?_, ?_, ?_, ?_, ?_, ?_, ?_, ?_, ?_, ?_, ?_, trivial⟩ ?_
        · exact fun a wx hT hF K hK => rely_wp rfl (opr_ldY (hT.row RK.out) rfl hF.1 (hK _ _ (NewT.refl _) rfl))
        · exact fun a wx hT hF K hK => rely_wp rfl (opr_fldR (by decide) rfl hF.1 (hK _ _ (NewT.refl _) rfl))
        · exact fun a wx hT hF K hK => rely_wp rfl (opr_ldI (hT.row R1.out) (by decide) rfl rfl hF.1 (hK _ _ (NewT.refl _) rfl))
        · exact fun a wx hT hF K hK => rely_wp rfl (opr_fldR (by decide) rfl hF.1 (hK _ _ (NewT.refl _) rfl))
        · exact fun a wx hT hF K hK => rely_wp rfl (opr_ldI (hT.row R1.out) (by decide) rfl rfl hF.1 (hK _ _ (NewT.refl _) rfl))
        · exact fun a wx hT hF K hK => rely_wp rfl (opr_cv (RPart_cv hX _ ps ws need x.part x.epoch wx (hT.tables HT.out) (hT.keysV HK.out)) rfl Tryd.func15 (by kernel_rfl) (by kernel_rfl) (evs3 hF.1 hF.2.1 hF.2.2.1) hK)
        · exact fun a wx hT hF K hK => rely_wp rfl (opr_fldR (by decide) rfl hF.1 (hK _ _ (NewT.refl _) rfl))
        · exact fun a wx hT hF K hK => rely_wp rfl (opr_ldI (hT.row R1.out) (by decide) rfl rfl hF.1 (hK _ _ (NewT.refl _) rfl))
        · exact fun a wx hT hF K hK => rely_wp rfl (opr_fldR (by decide) rfl hF.1 (hK _ _ (NewT.refl _) rfl))
        · exact fun a wx hT hF K hK => rely_wp rfl (opr_ldI (hT.row R1.out) (by decide) rfl rfl hF.1 (hK _ _ (NewT.refl _) rfl))
        · exact fun a wx hT hF K hK => rely_wp rfl (opr_move (.inl rfl) (hK _ _ (NewT.refl _) hF.1))
        · exact fun a wx hT hF K hK => rely_wp rfl (opr_move (.inl rfl) (hK _ _ (NewT.refl _) hF.1))
        · exact fun a wx hT hF K hK => rely_wp rfl (opr_bsI5 rfl rfl hF.1 hF.2.1 hF.2.2.1 hF.2.2.2.1 hK)
        · exact fun a wx hT hF K hK => rely_wp rfl (opr_cv (RKey_cv (partH kf ps ws need x.part x.epoch) _ [2, x.saga, x.step, 0, 0] _ wx (hT.tables HT.out) hF.2.1 (by simp) (hX.key _ _)) rfl Tryd.func30 (by kernel_rfl) (by kernel_rfl) (evs2 hF.1 rfl) hK)
        · intro wx hT
          iterate 12 (intro u h; obtain rfl := Eq.symm (h (by simp)); clear h)
          intro _ _
          intro u h; obtain rfl := Eq.symm (h (by simp)); clear h
          refine relyEnd_nil rfl ?_
          simp only [Act.put, List.setIfInBounds_toArray, List.set_cons_zero, List.set_cons_succ]
          refine opr_store_new (B := w.heap.size) (W := w) info31 rfl rfl rfl (hT.row R0.out) (NewT.trans _ _ _ HN.out hT) (by omega) ?_
          intro w9 hB9 r9
          go_simp
          go_wp2
          exact bodyPost_ret (results_row rfl _ rfl r9 Tryd.underlying26 info31) rfl ⟨_, rfl, hB9, by rw [HE.out]; rfl⟩
      · rw [hbk] at c5
        rw [hgd] at c6
        have HE : Hid (recpH kf ps ws need x = kf (partH kf ps ws need x.part x.epoch) [2, x.saga, x.step, 0, 1]) := Lib.hid (by rw [HE0.out, hbk, hgd]; rfl)
        clear hbk hgd
        go_upto_region 8 with fail
        clear c5 c6
        refine wp_region_rely (NewT) [SV.eq (.agg (rowA 3 (keyF pv wv need))), SV.eq (.pointer (some ⟨w.heap.size + 1, 8, none⟩)), SV.eq (.int .i64 (x.part)), SV.eq (.pointer (some ⟨w.heap.size + 1, 9, none⟩)), SV.eq (.int .i64 (x.epoch)), SV.eq (.agg (rowA 32 (bF (partH kf ps ws need x.part x.epoch)))), SV.eq (.pointer (some ⟨w.heap.size + 1, 1, none⟩)), SV.eq (.int .i64 (x.saga)), SV.eq (.pointer (some ⟨w.heap.size + 1, 3, none⟩)), SV.eq (.int .i64 (x.step)), SV.eq (.int .i64 (0)), SV.eq (.int .i64 (1)), svInts [2, x.saga, x.step, 0, 1], SV.eq (.agg (rowA 32 (bF (kf (partH kf ps ws need x.part x.epoch) [2, x.saga, x.step, 0, 1]))))] [([(2, none)], none), ([(3, none)], none), ([(25, some 1)], none), ([(3, none)], none), ([(27, some 3)], none), ([(24, some 0), (26, some 2), (28, some 4)], none), ([(3, none)], none), ([(30, some 6)], none), ([(3, none)], none), ([(32, some 8)], none), ([(5, none)], none), ([(6, none)], none), ([(31, some 7), (33, some 9), (34, some 10), (35, some 11)], none), ([(29, some 5), (36, some 12)], none)] 38 rfl (by kernel_rfl) rfl (by kernel_rfl) (by kernel_rfl) rfl NewT.trans (NewT.drew _) (Nat.le_of_ble_eq_true rfl) ⟨?_, ?_, ?_, ?_, ?_, ?_, ?_, ?_, ?_, ?_, ?_, ?_, ?_, ?_, trivial⟩ ?_
        · exact fun a wx hT hF K hK => rely_wp rfl (opr_ldY (hT.row RK.out) rfl hF.1 (hK _ _ (NewT.refl _) rfl))
        · exact fun a wx hT hF K hK => rely_wp rfl (opr_fldR (by decide) rfl hF.1 (hK _ _ (NewT.refl _) rfl))
        · exact fun a wx hT hF K hK => rely_wp rfl (opr_ldI (hT.row R1.out) (by decide) rfl rfl hF.1 (hK _ _ (NewT.refl _) rfl))
        · exact fun a wx hT hF K hK => rely_wp rfl (opr_fldR (by decide) rfl hF.1 (hK _ _ (NewT.refl _) rfl))
        · exact fun a wx hT hF K hK => rely_wp rfl (opr_ldI (hT.row R1.out) (by decide) rfl rfl hF.1 (hK _ _ (NewT.refl _) rfl))
        · exact fun a wx hT hF K hK => rely_wp rfl (opr_cv (RPart_cv hX _ ps ws need x.part x.epoch wx (hT.tables HT.out) (hT.keysV HK.out)) rfl Tryd.func15 (by kernel_rfl) (by kernel_rfl) (evs3 hF.1 hF.2.1 hF.2.2.1) hK)
        · exact fun a wx hT hF K hK => rely_wp rfl (opr_fldR (by decide) rfl hF.1 (hK _ _ (NewT.refl _) rfl))
        · exact fun a wx hT hF K hK => rely_wp rfl (opr_ldI (hT.row R1.out) (by decide) rfl rfl hF.1 (hK _ _ (NewT.refl _) rfl))
        · exact fun a wx hT hF K hK => rely_wp rfl (opr_fldR (by decide) rfl hF.1 (hK _ _ (NewT.refl _) rfl))
        · exact fun a wx hT hF K hK => rely_wp rfl (opr_ldI (hT.row R1.out) (by decide) rfl rfl hF.1 (hK _ _ (NewT.refl _) rfl))
        · exact fun a wx hT hF K hK => rely_wp rfl (opr_move (.inl rfl) (hK _ _ (NewT.refl _) hF.1))
        · exact fun a wx hT hF K hK => rely_wp rfl (opr_move (.inl rfl) (hK _ _ (NewT.refl _) hF.1))
        · exact fun a wx hT hF K hK => rely_wp rfl (opr_bsI5 rfl rfl hF.1 hF.2.1 hF.2.2.1 hF.2.2.2.1 hK)
        · exact fun a wx hT hF K hK => rely_wp rfl (opr_cv (RKey_cv (partH kf ps ws need x.part x.epoch) _ [2, x.saga, x.step, 0, 1] _ wx (hT.tables HT.out) hF.2.1 (by simp) (hX.key _ _)) rfl Tryd.func30 (by kernel_rfl) (by kernel_rfl) (evs2 hF.1 rfl) hK)
        · intro wx hT
          iterate 12 (intro u h; obtain rfl := Eq.symm (h (by simp)); clear h)
          intro _ _
          intro u h; obtain rfl := Eq.symm (h (by simp)); clear h
          refine relyEnd_nil rfl ?_
          simp only [Act.put, List.setIfInBounds_toArray, List.set_cons_zero, List.set_cons_succ]
          refine opr_store_new (B := w.heap.size) (W := w) info31 rfl rfl rfl (hT.row R0.out) (NewT.trans _ _ _ HN.out hT) (by omega) ?_
          intro w9 hB9 r9
          go_simp
          go_wp2
          exact bodyPost_ret (results_row rfl _ rfl r9 Tryd.underlying26 info31) rfl ⟨_, rfl, hB9, by rw [HE.out]; rfl⟩
      · rw [hbk] at c5
        rw [hgd] at c6
        have HE : Hid (recpH kf ps ws need x = kf (partH kf ps ws need x.part x.epoch) [2, x.saga, x.step, 1, 0]) := Lib.hid (by rw [HE0.out, hbk, hgd]; rfl)
        clear hbk hgd
        go_upto_region 8 with fail
        clear c5 c6
        refine wp_region_rely (NewT) [SV.eq (.agg (rowA 3 (keyF pv wv need))), SV.eq (.pointer (some ⟨w.heap.size + 1, 8, none⟩)), SV.eq (.int .i64 (x.part)), SV.eq (.pointer (some ⟨w.heap.size + 1, 9, none⟩)), SV.eq (.int .i64 (x.epoch)), SV.eq (.agg (rowA 32 (bF (partH kf ps ws need x.part x.epoch)))), SV.eq (.pointer (some ⟨w.heap.size + 1, 1, none⟩)), SV.eq (.int .i64 (x.saga)), SV.eq (.pointer (some ⟨w.heap.size + 1, 3, none⟩)), SV.eq (.int .i64 (x.step)), SV.eq (.int .i64 (1)), SV.eq (.int .i64 (0)), svInts [2, x.saga, x.step, 1, 0], SV.eq (.agg (rowA 32 (bF (kf (partH kf ps ws need x.part x.epoch) [2, x.saga, x.step, 1, 0]))))] [([(2, none)], none), ([(3, none)], none), ([(25, some 1)], none), ([(3, none)], none), ([(27, some 3)], none), ([(24, some 0), (26, some 2), (28, some 4)], none), ([(3, none)], none), ([(30, some 6)], none), ([(3, none)], none), ([(32, some 8)], none), ([(5, none)], none), ([(6, none)], none), ([(31, some 7), (33, some 9), (34, some 10), (35, some 11)], none), ([(29, some 5), (36, some 12)], none)] 38 rfl (by kernel_rfl) rfl (by kernel_rfl) (by kernel_rfl) rfl NewT.trans (NewT.drew _) (Nat.le_of_ble_eq_true rfl) ⟨?_, ?_, ?_, ?_, ?_, ?_, ?_, ?_, ?_, ?_, ?_, ?_, ?_, ?_, trivial⟩ ?_
        · exact fun a wx hT hF K hK => rely_wp rfl (opr_ldY (hT.row RK.out) rfl hF.1 (hK _ _ (NewT.refl _) rfl))
        · exact fun a wx hT hF K hK => rely_wp rfl (opr_fldR (by decide) rfl hF.1 (hK _ _ (NewT.refl _) rfl))
        · exact fun a wx hT hF K hK => rely_wp rfl (opr_ldI (hT.row R1.out) (by decide) rfl rfl hF.1 (hK _ _ (NewT.refl _) rfl))
        · exact fun a wx hT hF K hK => rely_wp rfl (opr_fldR (by decide) rfl hF.1 (hK _ _ (NewT.refl _) rfl))
        · exact fun a wx hT hF K hK => rely_wp rfl (opr_ldI (hT.row R1.out) (by decide) rfl rfl hF.1 (hK _ _ (NewT.refl _) rfl))
        · exact fun a wx hT hF K hK => rely_wp rfl (opr_cv (RPart_cv hX _ ps ws need x.part x.epoch wx (hT.tables HT.out) (hT.keysV HK.out)) rfl Tryd.func15 (by kernel_rfl) (by kernel_rfl) (evs3 hF.1 hF.2.1 hF.2.2.1) hK)
        · exact fun a wx hT hF K hK => rely_wp rfl (opr_fldR (by decide) rfl hF.1 (hK _ _ (NewT.refl _) rfl))
        · exact fun a wx hT hF K hK => rely_wp rfl (opr_ldI (hT.row R1.out) (by decide) rfl rfl hF.1 (hK _ _ (NewT.refl _) rfl))
        · exact fun a wx hT hF K hK => rely_wp rfl (opr_fldR (by decide) rfl hF.1 (hK _ _ (NewT.refl _) rfl))
        · exact fun a wx hT hF K hK => rely_wp rfl (opr_ldI (hT.row R1.out) (by decide) rfl rfl hF.1 (hK _ _ (NewT.refl _) rfl))
        · exact fun a wx hT hF K hK => rely_wp rfl (opr_move (.inl rfl) (hK _ _ (NewT.refl _) hF.1))
        · exact fun a wx hT hF K hK => rely_wp rfl (opr_move (.inl rfl) (hK _ _ (NewT.refl _) hF.1))
        · exact fun a wx hT hF K hK => rely_wp rfl (opr_bsI5 rfl rfl hF.1 hF.2.1 hF.2.2.1 hF.2.2.2.1 hK)
        · exact fun a wx hT hF K hK => rely_wp rfl (opr_cv (RKey_cv (partH kf ps ws need x.part x.epoch) _ [2, x.saga, x.step, 1, 0] _ wx (hT.tables HT.out) hF.2.1 (by simp) (hX.key _ _)) rfl Tryd.func30 (by kernel_rfl) (by kernel_rfl) (evs2 hF.1 rfl) hK)
        · intro wx hT
          iterate 12 (intro u h; obtain rfl := Eq.symm (h (by simp)); clear h)
          intro _ _
          intro u h; obtain rfl := Eq.symm (h (by simp)); clear h
          refine relyEnd_nil rfl ?_
          simp only [Act.put, List.setIfInBounds_toArray, List.set_cons_zero, List.set_cons_succ]
          refine opr_store_new (B := w.heap.size) (W := w) info31 rfl rfl rfl (hT.row R0.out) (NewT.trans _ _ _ HN.out hT) (by omega) ?_
          intro w9 hB9 r9
          go_simp
          go_wp2
          exact bodyPost_ret (results_row rfl _ rfl r9 Tryd.underlying26 info31) rfl ⟨_, rfl, hB9, by rw [HE.out]; rfl⟩
      · rw [hbk] at c5
        rw [hgd] at c6
        have HE : Hid (recpH kf ps ws need x = kf (partH kf ps ws need x.part x.epoch) [2, x.saga, x.step, 1, 1]) := Lib.hid (by rw [HE0.out, hbk, hgd]; rfl)
        clear hbk hgd
        go_upto_region 8 with fail
        clear c5 c6
        refine wp_region_rely (NewT) [SV.eq (.agg (rowA 3 (keyF pv wv need))), SV.eq (.pointer (some ⟨w.heap.size + 1, 8, none⟩)), SV.eq (.int .i64 (x.part)), SV.eq (.pointer (some ⟨w.heap.size + 1, 9, none⟩)), SV.eq (.int .i64 (x.epoch)), SV.eq (.agg (rowA 32 (bF (partH kf ps ws need x.part x.epoch)))), SV.eq (.pointer (some ⟨w.heap.size + 1, 1, none⟩)), SV.eq (.int .i64 (x.saga)), SV.eq (.pointer (some ⟨w.heap.size + 1, 3, none⟩)), SV.eq (.int .i64 (x.step)), SV.eq (.int .i64 (1)), SV.eq (.int .i64 (1)), svInts [2, x.saga, x.step, 1, 1], SV.eq (.agg (rowA 32 (bF (kf (partH kf ps ws need x.part x.epoch) [2, x.saga, x.step, 1, 1]))))] [([(2, none)], none), ([(3, none)], none), ([(25, some 1)], none), ([(3, none)], none), ([(27, some 3)], none), ([(24, some 0), (26, some 2), (28, some 4)], none), ([(3, none)], none), ([(30, some 6)], none), ([(3, none)], none), ([(32, some 8)], none), ([(5, none)], none), ([(6, none)], none), ([(31, some 7), (33, some 9), (34, some 10), (35, some 11)], none), ([(29, some 5), (36, some 12)], none)] 38 rfl (by kernel_rfl) rfl (by kernel_rfl) (by kernel_rfl) rfl NewT.trans (NewT.drew _) (Nat.le_of_ble_eq_true rfl) ⟨?_, ?_, ?_, ?_, ?_, ?_, ?_, ?_, ?_, ?_, ?_, ?_, ?_, ?_, trivial⟩ ?_
        · exact fun a wx hT hF K hK => rely_wp rfl (opr_ldY (hT.row RK.out) rfl hF.1 (hK _ _ (NewT.refl _) rfl))
        · exact fun a wx hT hF K hK => rely_wp rfl (opr_fldR (by decide) rfl hF.1 (hK _ _ (NewT.refl _) rfl))
        · exact fun a wx hT hF K hK => rely_wp rfl (opr_ldI (hT.row R1.out) (by decide) rfl rfl hF.1 (hK _ _ (NewT.refl _) rfl))
        · exact fun a wx hT hF K hK => rely_wp rfl (opr_fldR (by decide) rfl hF.1 (hK _ _ (NewT.refl _) rfl))
        · exact fun a wx hT hF K hK => rely_wp rfl (opr_ldI (hT.row R1.out) (by decide) rfl rfl hF.1 (hK _ _ (NewT.refl _) rfl))
        · exact fun a wx hT hF K hK => rely_wp rfl (opr_cv (RPart_cv hX _ ps ws need x.part x.epoch wx (hT.tables HT.out) (hT.keysV HK.out)) rfl Tryd.func15 (by kernel_rfl) (by kernel_rfl) (evs3 hF.1 hF.2.1 hF.2.2.1) hK)
        · exact fun a wx hT hF K hK => rely_wp rfl (opr_fldR (by decide) rfl hF.1 (hK _ _ (NewT.refl _) rfl))
        · exact fun a wx hT hF K hK => rely_wp rfl (opr_ldI (hT.row R1.out) (by decide) rfl rfl hF.1 (hK _ _ (NewT.refl _) rfl))
        · exact fun a wx hT hF K hK => rely_wp rfl (opr_fldR (by decide) rfl hF.1 (hK _ _ (NewT.refl _) rfl))
        · exact fun a wx hT hF K hK => rely_wp rfl (opr_ldI (hT.row R1.out) (by decide) rfl rfl hF.1 (hK _ _ (NewT.refl _) rfl))
        · exact fun a wx hT hF K hK => rely_wp rfl (opr_move (.inl rfl) (hK _ _ (NewT.refl _) hF.1))
        · exact fun a wx hT hF K hK => rely_wp rfl (opr_move (.inl rfl) (hK _ _ (NewT.refl _) hF.1))
        · exact fun a wx hT hF K hK => rely_wp rfl (opr_bsI5 rfl rfl hF.1 hF.2.1 hF.2.2.1 hF.2.2.2.1 hK)
        · exact fun a wx hT hF K hK => rely_wp rfl (opr_cv (RKey_cv (partH kf ps ws need x.part x.epoch) _ [2, x.saga, x.step, 1, 1] _ wx (hT.tables HT.out) hF.2.1 (by simp) (hX.key _ _)) rfl Tryd.func30 (by kernel_rfl) (by kernel_rfl) (evs2 hF.1 rfl) hK)
        · intro wx hT
          iterate 12 (intro u h; obtain rfl := Eq.symm (h (by simp)); clear h)
          intro _ _
          intro u h; obtain rfl := Eq.symm (h (by simp)); clear h
          refine relyEnd_nil rfl ?_
          simp only [Act.put, List.setIfInBounds_toArray, List.set_cons_zero, List.set_cons_succ]
          refine opr_store_new (B := w.heap.size) (W := w) info31 rfl rfl rfl (hT.row R0.out) (NewT.trans _ _ _ HN.out hT) (by omega) ?_
          intro w9 hB9 r9
          go_simp
          go_wp2
          exact bodyPost_ret (results_row rfl _ rfl r9 Tryd.underlying26 info31) rfl ⟨_, rfl, hB9, by rw [HE.out]; rfl⟩
    · have HE : Hid (recpH kf ps ws need x = z32) := Lib.hid (by unfold recpH; rw [or_not hb]; rfl)
      clear hb
      go_upto_region 2 with fail
      refine wp_region_steps0 NewT [SV.eq (.agg (rowA 32 (bF (z32))))] [([], none)] 38 1 rfl rfl (by kernel_rfl) NewT.trans (NewT.refl _) (Nat.le_of_ble_eq_true rfl) ⟨?_, trivial⟩ ?_
      · exact fun a wx hT hF K hK => rely_wp rfl (opr_build (pv := #[]) rfl (by simp) (build_z32 wx) (hK _ _ (NewT.refl _) rfl))
      · intro wx hT
        intro u h; obtain rfl := Eq.symm (h (by simp)); clear h
        refine relyEnd_nil rfl ?_
        simp only [Act.put, List.setIfInBounds_toArray, List.set_cons_zero, List.set_cons_succ]
        refine wpList_plain rfl (fun K hK => ?_)
        refine opr_store_new (B := w.heap.size) (W := w) info31 rfl rfl rfl (hT.row R0.out) (NewT.trans _ _ _ HN.out hT) (by omega) ?_
        intro w9 hB9 r9
        refine hK _ _ ?_
        refine wpList_end rfl ?_
        simp only [Act.put, List.setIfInBounds_toArray, List.set_cons_zero, List.set_cons_succ]
        go_simp
        go_wp2
        exact bodyPost_ret (results_row rfl _ rfl r9 Tryd.underlying26 info31) rfl ⟨_, rfl, hB9, by rw [HE.out]; rfl⟩
theorem holds_ref (kf : Hs → List Int → Hs) (ps ws : List Hs) (need : Int) (x : Rc) : (((rightB x && (x.kind == 3)) && hasB ps ws need x.part x.epoch) && eqH x.tag (recpH kf ps ws need x)) = holdsB kf ps ws need x := by
  unfold holdsB
  rw [eqH_comm x.tag, Bool.and_comm (rightB x)]
set_option maxHeartbeats 2000000 in
theorem RHolds_cv {kf : Hs → List Int → Hs} {tg : Hs → Hs → Hs} {pf : Int → Hs → Hs} (hX : KeyH kf tg pf) (v u : Value) (ps ws : List Hs) (need : Int) (x : Rc) (w : World) (hT : Tables w) (hk : KeysV w v ps ws need) (hx : RecV w u x) : Cv 19 #[v, u] w (.eq (.bool (holdsB kf ps ws need x))) := by
  rw [← holds_ref]
  unfold Cv
  obtain ⟨pv, wv, rfl, hpv, hwv⟩ := hk
  obtain ⟨sv, dv, rfl, hs, hd⟩ := hx
  have HT := Lib.hid hT
  clear hT
  go_enter Tryd.func19, Tryd.ntmps19
  go_upto_region 1 with fail
  have rk := (rowIs_box w 24 3 (keyF pv wv need)).alloc (.cells (rowA 109 (recF x sv dv)) 30)
  have r1 := rowIs_box (w.alloc (.cells (rowA 3 (keyF pv wv need)) 24)) 30 109 (recF x sv dv)
  have hN : NewT w ((w.alloc (.cells (rowA 3 (keyF pv wv need)) 24)).alloc (.cells (rowA 109 (recF x sv dv)) 30)) := NewT.trans _ _ _ (NewT.alloc _ _) (NewT.alloc _ _)
  rw [World.size_alloc] at r1
  change Code.wp _ _ _ _ ((w.alloc (.cells (rowA 3 (keyF pv wv need)) 24)).alloc (.cells (rowA 109 (recF x sv dv)) 30))
  generalize (w.alloc (.cells (rowA 3 (keyF pv wv need)) 24)).alloc (.cells (rowA 109 (recF x sv dv)) 30) = W0 at rk r1 hN ⊢
  have RK := Lib.hid rk
  have R1 := Lib.hid r1
  have HN := Lib.hid hN
  replace HT := Lib.hid (hN.tables HT.out)
  have HK : Hid (KeysV W0 (.agg (rowA 3 (keyF pv wv need))) ps ws need) := Lib.hid (hN.keysV ⟨pv, wv, rfl, hpv, hwv⟩)
  have HP := Lib.hid (hN.hs hpv)
  have HW := Lib.hid (hN.hs hwv)
  have HX : Hid (RecV W0 (.agg (rowA 109 (recF x sv dv))) x) := Lib.hid (hN.recV ⟨sv, dv, rfl, hs, hd⟩)
  have HS := Lib.hid (hN.pairs hs)
  have HD := Lib.hid (hN.rd hd)
  clear rk r1 hpv hwv hN hs hd
  obtain ⟨q1_1, Q1_1⟩ : ∃ bq_, (((rightB x) && (x.kind == 3)) && (hasB ps ws need x.part x.epoch)) = bq_ := ⟨_, rfl⟩
  obtain ⟨q2_1, Q2_1⟩ : ∃ bq_, (q1_1 && (eqH (x.tag) (recpH kf ps ws need x))) = bq_ := ⟨_, rfl⟩
  refine wp_region_rely (NewT) [SV.eq (.agg (rowA 109 (recF x sv dv))), SV.eq (.bool (rightB x)), SV.eq (.bool (rightB x)), svIf (rightB x) (SV.eq (.pointer (some ⟨w.heap.size + 1, 0, none⟩))), svIf (rightB x) (SV.eq (.int .i64 (x.kind))), svIf (rightB x) (SV.eq (.bool (x.kind == 3))), SV.eq (.bool ((rightB x) && (x.kind == 3))), SV.eq (.bool ((rightB x) && (x.kind == 3))), svIf ((rightB x) && (x.kind == 3)) (SV.eq (.agg (rowA 3 (keyF pv wv need)))), svIf ((rightB x) && (x.kind == 3)) (SV.eq (.pointer (some ⟨w.heap.size + 1, 8, none⟩))), svIf ((rightB x) && (x.kind == 3)) (SV.eq (.int .i64 (x.part))), svIf ((rightB x) && (x.kind == 3)) (SV.eq (.pointer (some ⟨w.heap.size + 1, 9, none⟩))), svIf ((rightB x) && (x.kind == 3)) (SV.eq (.int .i64 (x.epoch))), svIf ((rightB x) && (x.kind == 3)) (SV.eq (.bool (hasB ps ws need x.part x.epoch))), SV.eq (.bool (q1_1)), SV.eq (.bool (q1_1)), svIf q1_1 (SV.eq (.pointer (some ⟨w.heap.size + 1, 10, none⟩))), svIf q1_1 (SV.eq (.agg (rowA 32 (bF (x.tag))))), svIf q1_1 (SV.eq (.agg (rowA 3 (keyF pv wv need)))), svIf q1_1 (SV.eq (.agg (rowA 109 (recF x sv dv)))), svIf q1_1 (SV.eq (.agg (rowA 32 (bF (recpH kf ps ws need x))))), svIf q1_1 (SV.eq (.bool (eqH (x.tag) (recpH kf ps ws need x)))), SV.eq (.bool (q2_1))] [([(3, none)], none), ([(5, some 0)], none), ([(6, some 1)], none), ([(3, none), (7, some 2)], some (7, true)), ([(8, some 3), (7, some 2)], some (7, true)), ([(9, some 4), (7, some 2)], some (7, true)), ([(7, some 2), (10, some 5)], none), ([(11, some 6)], none), ([(2, none), (12, some 7)], some (12, true)), ([(3, none), (12, some 7)], some (12, true)), ([(14, some 9), (12, some 7)], some (12, true)), ([(3, none), (12, some 7)], some (12, true)), ([(16, some 11), (12, some 7)], some (12, true)), ([(13, some 8), (15, some 10), (17, some 12), (12, some 7)], some (12, true)), ([(12, some 7), (18, some 13)], none), ([(19, some 14)], none), ([(3, none), (20, some 15)], some (20, true)), ([(21, some 16), (20, some 15)], some (20, true)), ([(2, none), (20, some 15)], some (20, true)), ([(3, none), (20, some 15)], some (20, true)), ([(23, some 18), (24, some 19), (20, some 15)], some (20, true)), ([(22, some 17), (25, some 20), (20, some 15)], some (20, true)), ([(20, some 15), (26, some 21)], none)] 28 rfl (by kernel_rfl) rfl (by kernel_rfl) (by kernel_rfl) rfl NewT.trans (NewT.drew _) (Nat.le_of_ble_eq_true rfl) ⟨?_, ?_, ?_, ?_, ?_, ?_, ?_, ?_, ?_, ?_, ?_, ?_, ?_, ?_, ?_, ?_, ?_, ?_, ?_, ?_, ?_, ?_, ?_, trivial⟩ ?_
  · exact fun a wx hT hF K hK => rely_wp rfl (opr_ldR (hT.row R1.out) rfl hF.1 (hK _ _ (NewT.refl _) rfl))
  · exact fun a wx hT hF K hK => rely_wp rfl (opr_cv (RRight_cv _ x wx (hT.recV HX.out)) rfl Tryd.func24 (by kernel_rfl) (by kernel_rfl) (evs1 hF.1) hK)
  · exact fun a wx hT hF K hK => rely_wp rfl (opr_move (.inl rfl) (hK _ _ (NewT.refl _) hF.1))
  · exact fun a wx hT hF K hK => rely_if (rely_gt hF.2.1) (NewT.refl _) hK fun hE hK => opr_fldR (by decide) rfl hF.1 (hK _ _ (NewT.refl _) rfl)
  · exact fun a wx hT hF K hK => rely_if (rely_gt hF.2.1) (NewT.refl _) hK fun hE hK => opr_ldI (hT.row R1.out) (by decide) rfl rfl (hF.1 hE) (hK _ _ (NewT.refl _) rfl)
  · exact fun a wx hT hF K hK => rely_if (rely_gt hF.2.1) (NewT.refl _) hK fun hE hK => opr_cmp (b := x.kind == 3) (.inl ⟨rfl, rfl⟩) Tryd.underlying3 rfl (hF.1 hE) rfl (hK _ _ (NewT.refl _) rfl)
  · exact fun a wx hT hF K hK => rely_wp rfl (opr_pick_b rfl hF.1 (fun hb => hK _ _ (NewT.refl _) (pk_and1 (hF.2.1 hb) hb)) (fun hb => hK _ _ (NewT.refl _) (pk_and0 hb)))
  · exact fun a wx hT hF K hK => rely_wp rfl (opr_move (.inl rfl) (hK _ _ (NewT.refl _) hF.1))
  · exact fun a wx hT hF K hK => rely_if (rely_gt hF.2.1) (NewT.refl _) hK fun hE hK => opr_ldY (hT.row RK.out) rfl hF.1 (hK _ _ (NewT.refl _) rfl)
  · exact fun a wx hT hF K hK => rely_if (rely_gt hF.2.1) (NewT.refl _) hK fun hE hK => opr_fldR (by decide) rfl hF.1 (hK _ _ (NewT.refl _) rfl)
  · exact fun a wx hT hF K hK => rely_if (rely_gt hF.2.1) (NewT.refl _) hK fun hE hK => opr_ldI (hT.row R1.out) (by decide) rfl rfl (hF.1 hE) (hK _ _ (NewT.refl _) rfl)
  · exact fun a wx hT hF K hK => rely_if (rely_gt hF.2.1) (NewT.refl _) hK fun hE hK => opr_fldR (by decide) rfl hF.1 (hK _ _ (NewT.refl _) rfl)
  · exact fun a wx hT hF K hK => rely_if (rely_gt hF.2.1) (NewT.refl _) hK fun hE hK => opr_ldI (hT.row R1.out) (by decide) rfl rfl (hF.1 hE) (hK _ _ (NewT.refl _) rfl)
  · exact fun a wx hT hF K hK => rely_if (rely_gt hF.2.2.2.1) (NewT.refl _) hK fun hE hK => opr_cv (RKnown_cv _ ps ws need x.part x.epoch wx (hT.keysV HK.out)) rfl Tryd.func29 (by kernel_rfl) (by kernel_rfl) (evs3 (hF.1 hE) (hF.2.1 hE) (hF.2.2.1 hE)) hK
  · exact fun a wx hT hF K hK => rely_wp rfl (opr_pick_b rfl hF.1 (fun hb => hK _ _ (NewT.refl _) (pn_and1 Q1_1 (hF.2.1 hb) hb)) (fun hb => hK _ _ (NewT.refl _) (pn_and0 Q1_1 hb)))
  · exact fun a wx hT hF K hK => rely_wp rfl (opr_move (.inl rfl) (hK _ _ (NewT.refl _) hF.1))
  · exact fun a wx hT hF K hK => rely_if (rely_gt hF.2.1) (NewT.refl _) hK fun hE hK => opr_fldR (by decide) rfl hF.1 (hK _ _ (NewT.refl _) rfl)
  · exact fun a wx hT hF K hK => rely_if (rely_gt hF.2.1) (NewT.refl _) hK fun hE hK => opr_ldH (hT.row R1.out) (by decide) (recF_tag x _ _) rfl (hF.1 hE) (hK _ _ (NewT.refl _) rfl)
  · exact fun a wx hT hF K hK => rely_if (rely_gt hF.2.1) (NewT.refl _) hK fun hE hK => opr_ldY (hT.row RK.out) rfl hF.1 (hK _ _ (NewT.refl _) rfl)
  · exact fun a wx hT hF K hK => rely_if (rely_gt hF.2.1) (NewT.refl _) hK fun hE hK => opr_ldR (hT.row R1.out) rfl hF.1 (hK _ _ (NewT.refl _) rfl)
  · exact fun a wx hT hF K hK => rely_if (rely_gt hF.2.2.1) (NewT.refl _) hK fun hE hK => opr_cv (RReceipt_cv hX _ _ ps ws need x wx (hT.tables HT.out) (hT.keysV HK.out) (hT.recV HX.out)) rfl Tryd.func17 (by kernel_rfl) (by kernel_rfl) (evs2 (hF.1 hE) (hF.2.1 hE)) hK
  · exact fun a wx hT hF K hK => rely_if (rely_gt hF.2.2.1) (NewT.refl _) hK fun hE hK => opr_eql_hash (b := eqH (x.tag) (recpH kf ps ws need x)) rfl (hF.1 hE) (hF.2.1 hE) (rfl) (hK _ _ (NewT.refl _) rfl)
  · exact fun a wx hT hF K hK => rely_wp rfl (opr_pick_b rfl hF.1 (fun hb => hK _ _ (NewT.refl _) (pn_and1 Q2_1 (hF.2.1 hb) hb)) (fun hb => hK _ _ (NewT.refl _) (pn_and0 Q2_1 hb)))
  · intro w1 k1
    iterate 3 (intro u h; obtain rfl := Eq.symm (h (by simp)); clear h)
    iterate 3 (intro _ _)
    iterate 2 (intro u h; obtain rfl := Eq.symm (h (by simp)); clear h)
    iterate 6 (intro _ _)
    iterate 2 (intro u h; obtain rfl := Eq.symm (h (by simp)); clear h)
    iterate 6 (intro _ _)
    intro u h; obtain rfl := Eq.symm (h (by simp)); clear h
    subst Q2_1 Q1_1
    refine relyEnd_nil rfl ?_
    simp only [Act.put, List.setIfInBounds_toArray, List.set_cons_zero, List.set_cons_succ]
    refine opr_move (.inr rfl) ?_
    go_simp
    go_wp2
    go_ret
    exact ⟨_, rfl, NewT.trans _ _ _ HN.out k1, rfl⟩
end Go.Proofs.YtcfogkimjbgjgaaDoor
/- The law KeysTags, walked: whether keys may be, every participant's key, every receipt's tag, and whether it holds, are the document's. -/
namespace Go.Proofs.YtcfogkimjbgjgaaDoor
open Go Go.RowKit
set_option maxRecDepth 8000
set_option linter.all false
set_option maxHeartbeats 4000000 in
theorem KeysTags_walk (v u : Value) (ps ws : List Hs) (need part epoch : Int) (x : Rc) (w : World) (hT : Tables w) (hk : KeysV w v ps ws need) (hx : RecV w u x) : Calls Tryd.prog 3 #[v, .int .i64 part, .int .i64 epoch, u] w fun e w' => e = .returned (.bool true) ∧ Below w.heap.size w w' := by
  obtain ⟨kf, tg, pf, hX⟩ := keyH_ex
  obtain ⟨pv, wv, rfl, hpv, hwv⟩ := hk
  obtain ⟨sv, dv, rfl, hs, hd⟩ := hx
  have HX : Hid (RecV w (.agg (rowA 109 (recF x sv dv))) x) := Lib.hid ⟨sv, dv, rfl, hs, hd⟩
  have HS := Lib.hid hs
  have HD := Lib.hid hd
  clear hs hd
  have HT := Lib.hid hT
  have HK : Hid (KeysV w (.agg (rowA 3 (keyF pv wv need))) ps ws need) := Lib.hid ⟨pv, wv, rfl, hpv, hwv⟩
  have HP := Lib.hid hpv
  have HW := Lib.hid hwv
  clear hT hpv hwv
  go_enter Tryd.func3, Tryd.ntmps3
  go_upto_region 1 with fail
  have rk := (rowIs_box w 24 3 (keyF pv wv need)).alloc (.cells (rowA 109 (recF x sv dv)) 30)
  have r2 := rowIs_box (w.alloc (.cells (rowA 3 (keyF pv wv need)) 24)) 30 109 (recF x sv dv)
  have hN : NewT w ((w.alloc (.cells (rowA 3 (keyF pv wv need)) 24)).alloc (.cells (rowA 109 (recF x sv dv)) 30)) := NewT.trans _ _ _ (NewT.alloc _ _) (NewT.alloc _ _)
  rw [World.size_alloc] at r2
  change Code.wp _ _ _ _ ((w.alloc (.cells (rowA 3 (keyF pv wv need)) 24)).alloc (.cells (rowA 109 (recF x sv dv)) 30))
  generalize (w.alloc (.cells (rowA 3 (keyF pv wv need)) 24)).alloc (.cells (rowA 109 (recF x sv dv)) 30) = W0 at rk r2 hN ⊢
  obtain ⟨g1, hg1⟩ : ∃ g1, w.heap.size = g1 := ⟨_, rfl⟩
  obtain ⟨g2, hg2⟩ : ∃ g2, w.heap.size + 1 = g2 := ⟨_, rfl⟩
  have HG12 : Hid (g1 < g2 ∧ w.heap.size ≤ g1) := Lib.hid (by omega)
  rw [hg1] at rk
  rw [hg2] at r2
  rw [hg2]
  simp only [hg1]
  have RK := Lib.hid rk
  have RX := Lib.hid r2
  have HM := Lib.hid hN
  clear rk r2 hN hg1 hg2
  refine wp_region_steps0 NewT [SV.eq (.bool true), SV.eq (.bool false)] [([], none), ([(9, some 0)], none)] 59 2 rfl rfl (by kernel_rfl) NewT.trans (NewT.refl _) (Nat.le_of_ble_eq_true rfl) ⟨?_, ?_, trivial⟩ ?_
  · exact fun a wx hT hF K hK => rely_wp rfl (opr_cv (alive10_c wx ((NewT.trans _ _ _ HM.out hT).tables HT.out)) rfl Tryd.func10 (by kernel_rfl) (by kernel_rfl) evs0 hK)
  · exact fun a wx hT hF K hK => rely_wp rfl (opr_not rfl hF.1 (hK _ _ (NewT.refl _) rfl))
  · intro w1 k1
    iterate 2 (intro u h; obtain rfl := Eq.symm (h (by simp)); clear h)
    refine relyEnd_nil rfl ?_
    refine wpList_end rfl ?_
    simp only [Act.put, List.setIfInBounds_toArray, List.set_cons_zero, List.set_cons_succ]
    go_simp
    replace RK := Lib.hid (k1.row RK.out)
    replace RX := Lib.hid (k1.row RX.out)
    replace HM := Lib.hid (NewT.trans _ _ _ HM.out k1)
    clear k1
    go_upto_region 3 with fail
    obtain ⟨q1_3, Q1_3⟩ : ∃ bq_, ((decide (20 < ((List.length (ps) : Int)))) || (decide (20 < ((List.length (ws) : Int))))) = bq_ := ⟨_, rfl⟩
    refine wp_region_steps0 NewT [SV.eq (.pointer (some ⟨g1, 0, none⟩)), SV.eq (pv), SV.eq (.int .i64 ((List.length (ps) : Int))), SV.eq (.bool (decide (20 < ((List.length (ps) : Int))))), SV.eq (.bool (decide (20 < ((List.length (ps) : Int))))), svIf ((!(decide (20 < ((List.length (ps) : Int)))))) (SV.eq (.pointer (some ⟨g1, 1, none⟩))), svIf ((!(decide (20 < ((List.length (ps) : Int)))))) (SV.eq (wv)), svIf ((!(decide (20 < ((List.length (ps) : Int)))))) (SV.eq (.int .i64 ((List.length (ws) : Int)))), svIf ((!(decide (20 < ((List.length (ps) : Int)))))) (SV.eq (.bool (decide (20 < ((List.length (ws) : Int)))))), SV.eq (.bool (q1_3)), SV.eq (.bool (q1_3)), svIf ((!q1_3)) (SV.eq (.agg (rowA 109 (recF x sv dv)))), svIf ((!q1_3)) (SV.eq (.bool (greatB x))), SV.eq (.bool (q1_3 || (greatB x)))] [([(4, none)], none), ([(11, some 0)], none), ([(12, some 1)], none), ([(13, some 2)], none), ([(14, some 3)], none), ([(4, none), (15, some 4)], some (15, false)), ([(16, some 5), (15, some 4)], some (15, false)), ([(17, some 6), (15, some 4)], some (15, false)), ([(18, some 7), (15, some 4)], some (15, false)), ([(15, some 4), (19, some 8)], none), ([(20, some 9)], none), ([(7, none), (21, some 10)], some (21, false)), ([(22, some 11), (21, some 10)], some (21, false)), ([(21, some 10), (23, some 12)], none)] 59 14 rfl rfl (by kernel_rfl) NewT.trans (NewT.refl _) (Nat.le_of_ble_eq_true rfl) ⟨?_, ?_, ?_, ?_, ?_, ?_, ?_, ?_, ?_, ?_, ?_, ?_, ?_, ?_, trivial⟩ ?_
    · exact fun a wx hT hF K hK => rely_wp rfl (opr_fldY0 rfl hF.1 (hK _ _ (NewT.refl _) rfl))
    · exact fun a wx hT hF K hK => rely_wp rfl (opr_ldHs (hT.row RK.out) (by decide) rfl rfl hF.1 (hK _ _ (NewT.refl _) rfl))
    · intro a wx hT hF K hK
      obtain ⟨f12, _⟩ := hF
      have f12 : a.tmps.getD 12 undef = pv := f12
      refine rely_wp rfl ?_
      exact opr_len_h rfl (by rw [eval_tmp, f12]; exact ((NewT.trans _ _ _ HM.out hT).hs HP.out)) (hK _ _ (NewT.refl _) rfl)
    · exact fun a wx hT hF K hK => rely_wp rfl (opr_cmp (b := decide (20 < ((List.length (ps) : Int)))) (.inr (.inr (.inr (.inr (.inl ⟨rfl, rfl⟩))))) Tryd.underlying3 rfl hF.1 rfl (hK _ _ (NewT.refl _) rfl))
    · exact fun a wx hT hF K hK => rely_wp rfl (opr_move (.inl rfl) (hK _ _ (NewT.refl _) hF.1))
    · exact fun a wx hT hF K hK => rely_if (rely_gf hF.2.1) (NewT.refl _) hK fun hE hK => opr_fldY1 rfl hF.1 (hK _ _ (NewT.refl _) rfl)
    · exact fun a wx hT hF K hK => rely_if (rely_gf hF.2.1) (NewT.refl _) hK fun hE hK => opr_ldHs (hT.row RK.out) (by decide) rfl rfl (hF.1 hE) (hK _ _ (NewT.refl _) rfl)
    · intro a wx hT hF K hK
      obtain ⟨f17, f15, _⟩ := hF
      have f17 : ((!(decide (20 < ((List.length (ps) : Int)))))) = true → a.tmps.getD 17 undef = wv := f17
      have f15 : a.tmps.getD 15 undef = .bool (decide (20 < ((List.length (ps) : Int)))) := f15
      refine rely_if (rely_gf f15) (NewT.refl _) hK (fun hE hK => ?_)
      exact opr_len_h rfl (by rw [eval_tmp, (f17 hE)]; exact ((NewT.trans _ _ _ HM.out hT).hs HW.out)) (hK _ _ (NewT.refl _) rfl)
    · exact fun a wx hT hF K hK => rely_if (rely_gf hF.2.1) (NewT.refl _) hK fun hE hK => opr_cmp (b := decide (20 < ((List.length (ws) : Int)))) (.inr (.inr (.inr (.inr (.inl ⟨rfl, rfl⟩))))) Tryd.underlying3 rfl (hF.1 hE) rfl (hK _ _ (NewT.refl _) rfl)
    · exact fun a wx hT hF K hK => rely_wp rfl (opr_pick_b rfl hF.1 (fun hb => hK _ _ (NewT.refl _) (pn_or1 Q1_3 hb)) (fun hb => hK _ _ (NewT.refl _) (pn_or0 Q1_3 (hF.2.1 (bnot hb)) hb)))
    · exact fun a wx hT hF K hK => rely_wp rfl (opr_move (.inl rfl) (hK _ _ (NewT.refl _) hF.1))
    · exact fun a wx hT hF K hK => rely_if (rely_gf hF.2.1) (NewT.refl _) hK fun hE hK => opr_ldR (hT.row RX.out) rfl hF.1 (hK _ _ (NewT.refl _) rfl)
    · exact fun a wx hT hF K hK => rely_if (rely_gf hF.2.1) (NewT.refl _) hK fun hE hK => opr_cv (Great_cv _ x wx ((NewT.trans _ _ _ HM.out hT).recV HX.out)) rfl Tryd.func11 (by kernel_rfl) (by kernel_rfl) (evs1 (hF.1 hE)) hK
    · exact fun a wx hT hF K hK => rely_wp rfl (opr_pick_b rfl hF.1 (fun hb => hK _ _ (NewT.refl _) (pk_or1 hb)) (fun hb => hK _ _ (NewT.refl _) (pk_or0 (hF.2.1 (bnot hb)) hb)))
    · intro w3 k3
      iterate 5 (intro u h; obtain rfl := Eq.symm (h (by simp)); clear h)
      iterate 4 (intro _ _)
      iterate 2 (intro u h; obtain rfl := Eq.symm (h (by simp)); clear h)
      iterate 2 (intro _ _)
      intro u h; obtain rfl := Eq.symm (h (by simp)); clear h
      subst Q1_3
      refine relyEnd_nil rfl ?_
      refine wpList_end rfl ?_
      simp only [Act.put, List.setIfInBounds_toArray, List.set_cons_zero, List.set_cons_succ]
      go_simp
      replace RK := Lib.hid (k3.row RK.out)
      replace RX := Lib.hid (k3.row RX.out)
      replace HM := Lib.hid (NewT.trans _ _ _ HM.out k3)
      clear k3
      cases hq : (((decide (20 < ((List.length (ps) : Int)))) || (decide (20 < ((List.length (ws) : Int))))) || (greatB x))
      · clear hq
        go_upto_region 5 with fail
        refine wp_region_rely (NewT) [SV.eq (.agg (rowA 3 (keyF pv wv need))), SV.eq (.bool (mayB ps ws need)), SV.eq (.agg (rowA 3 (keyF pv wv need))), SV.eq (.bool (mayB ps ws need)), SV.eq (.bool true), SV.eq (.bool true), SV.eq (.agg (rowA 3 (keyF pv wv need))), SV.eq (.int .i64 (part)), SV.eq (.int .i64 (epoch)), SV.eq (.agg (rowA 32 (bF (partH kf ps ws need part epoch)))), SV.eq (.agg (rowA 3 (keyF pv wv need))), SV.eq (.int .i64 (part)), SV.eq (.int .i64 (epoch)), SV.eq (.agg (rowA 32 (bF (partH kf ps ws need part epoch)))), SV.eq (.bool true), SV.eq (.bool true), SV.eq (.bool true), SV.eq (.agg (rowA 3 (keyF pv wv need))), SV.eq (.agg (rowA 109 (recF x sv dv))), SV.eq (.agg (rowA 32 (bF (recpH kf ps ws need x)))), SV.eq (.agg (rowA 3 (keyF pv wv need))), SV.eq (.agg (rowA 109 (recF x sv dv))), SV.eq (.agg (rowA 32 (bF (recpH kf ps ws need x)))), SV.eq (.bool true), SV.eq (.bool true), SV.eq (.bool true), SV.eq (.agg (rowA 3 (keyF pv wv need))), SV.eq (.agg (rowA 109 (recF x sv dv))), SV.eq (.bool (holdsB kf ps ws need x)), SV.eq (.agg (rowA 3 (keyF pv wv need))), SV.eq (.agg (rowA 109 (recF x sv dv))), SV.eq (.bool (holdsB kf ps ws need x)), SV.eq (.bool true), SV.eq (.bool true)] [([(4, none)], none), ([(25, some 0)], none), ([(4, none)], none), ([(27, some 2)], none), ([(26, some 1), (28, some 3)], none), ([(29, some 4)], none), ([(4, none), (30, some 5)], some (30, true)), ([(1, none), (30, some 5)], some (30, true)), ([(2, none), (30, some 5)], some (30, true)), ([(31, some 6), (32, some 7), (33, some 8), (30, some 5)], some (30, true)), ([(4, none), (30, some 5)], some (30, true)), ([(1, none), (30, some 5)], some (30, true)), ([(2, none), (30, some 5)], some (30, true)), ([(35, some 10), (36, some 11), (37, some 12), (30, some 5)], some (30, true)), ([(34, some 9), (38, some 13), (30, some 5)], some (30, true)), ([(30, some 5), (39, some 14)], none), ([(40, some 15)], none), ([(4, none), (41, some 16)], some (41, true)), ([(7, none), (41, some 16)], some (41, true)), ([(42, some 17), (43, some 18), (41, some 16)], some (41, true)), ([(4, none), (41, some 16)], some (41, true)), ([(7, none), (41, some 16)], some (41, true)), ([(45, some 20), (46, some 21), (41, some 16)], some (41, true)), ([(44, some 19), (47, some 22), (41, some 16)], some (41, true)), ([(41, some 16), (48, some 23)], none), ([(49, some 24)], none), ([(4, none), (50, some 25)], some (50, true)), ([(7, none), (50, some 25)], some (50, true)), ([(51, some 26), (52, some 27), (50, some 25)], some (50, true)), ([(4, none), (50, some 25)], some (50, true)), ([(7, none), (50, some 25)], some (50, true)), ([(54, some 29), (55, some 30), (50, some 25)], some (50, true)), ([(53, some 28), (56, some 31), (50, some 25)], some (50, true)), ([(50, some 25), (57, some 32)], none)] 59 rfl (by kernel_rfl) rfl (by kernel_rfl) (by kernel_rfl) rfl NewT.trans (NewT.drew _) (Nat.le_of_ble_eq_true rfl) ⟨?_, ?_, ?_, ?_, ?_, ?_, ?_, ?_, ?_, ?_, ?_, ?_, ?_, ?_, ?_, ?_, ?_, ?_, ?_, ?_, ?_, ?_, ?_, ?_, ?_, ?_, ?_, ?_, ?_, ?_, ?_, ?_, ?_, ?_, trivial⟩ ?_
        · exact fun a wx hT hF K hK => rely_wp rfl (opr_ldY (hT.row RK.out) rfl hF.1 (hK _ _ (NewT.refl _) rfl))
        · exact fun a wx hT hF K hK => rely_wp rfl (opr_cv (May_cv _ ps ws need wx ((NewT.trans _ _ _ HM.out hT).keysV HK.out)) rfl Tryd.func12 (by kernel_rfl) (by kernel_rfl) (evs1 hF.1) hK)
        · exact fun a wx hT hF K hK => rely_wp rfl (opr_ldY (hT.row RK.out) rfl hF.1 (hK _ _ (NewT.refl _) rfl))
        · exact fun a wx hT hF K hK => rely_wp rfl (opr_cv (RMay_cv _ ps ws need wx ((NewT.trans _ _ _ HM.out hT).keysV HK.out)) rfl Tryd.func13 (by kernel_rfl) (by kernel_rfl) (evs1 hF.1) hK)
        · exact fun a wx hT hF K hK => rely_wp rfl (opr_eqlQ (b := true) (beq_self_eq_true _) rfl hF.1 hF.2.1 (hK _ _ (NewT.refl _) rfl))
        · exact fun a wx hT hF K hK => rely_wp rfl (opr_move (.inl rfl) (hK _ _ (NewT.refl _) hF.1))
        · exact fun a wx hT hF K hK => rely_wp (rely_guard hF.2.1) (opr_ldY (hT.row RK.out) rfl hF.1 (hK _ _ (NewT.refl _) rfl))
        · exact fun a wx hT hF K hK => rely_wp (rely_guard hF.2.1) (opr_move (.inl rfl) (hK _ _ (NewT.refl _) hF.1))
        · exact fun a wx hT hF K hK => rely_wp (rely_guard hF.2.1) (opr_move (.inl rfl) (hK _ _ (NewT.refl _) hF.1))
        · exact fun a wx hT hF K hK => rely_wp (rely_guard hF.2.2.2.1) (opr_cv (Part_cv hX _ ps ws need part epoch wx ((NewT.trans _ _ _ HM.out hT).tables HT.out) ((NewT.trans _ _ _ HM.out hT).keysV HK.out)) rfl Tryd.func14 (by kernel_rfl) (by kernel_rfl) (evs3 hF.1 hF.2.1 hF.2.2.1) hK)
        · exact fun a wx hT hF K hK => rely_wp (rely_guard hF.2.1) (opr_ldY (hT.row RK.out) rfl hF.1 (hK _ _ (NewT.refl _) rfl))
        · exact fun a wx hT hF K hK => rely_wp (rely_guard hF.2.1) (opr_move (.inl rfl) (hK _ _ (NewT.refl _) hF.1))
        · exact fun a wx hT hF K hK => rely_wp (rely_guard hF.2.1) (opr_move (.inl rfl) (hK _ _ (NewT.refl _) hF.1))
        · exact fun a wx hT hF K hK => rely_wp (rely_guard hF.2.2.2.1) (opr_cv (RPart_cv hX _ ps ws need part epoch wx ((NewT.trans _ _ _ HM.out hT).tables HT.out) ((NewT.trans _ _ _ HM.out hT).keysV HK.out)) rfl Tryd.func15 (by kernel_rfl) (by kernel_rfl) (evs3 hF.1 hF.2.1 hF.2.2.1) hK)
        · exact fun a wx hT hF K hK => rely_wp (rely_guard hF.2.2.1) (opr_eql_hash (b := true) rfl hF.1 hF.2.1 (eqH_same _) (hK _ _ (NewT.refl _) rfl))
        · exact fun a wx hT hF K hK => rely_wp rfl (opr_pick_true rfl hF.1 (hK _ _ (NewT.refl _) hF.2.1))
        · exact fun a wx hT hF K hK => rely_wp rfl (opr_move (.inl rfl) (hK _ _ (NewT.refl _) hF.1))
        · exact fun a wx hT hF K hK => rely_wp (rely_guard hF.2.1) (opr_ldY (hT.row RK.out) rfl hF.1 (hK _ _ (NewT.refl _) rfl))
        · exact fun a wx hT hF K hK => rely_wp (rely_guard hF.2.1) (opr_ldR (hT.row RX.out) rfl hF.1 (hK _ _ (NewT.refl _) rfl))
        · exact fun a wx hT hF K hK => rely_wp (rely_guard hF.2.2.1) (opr_cv (Receipt_cv hX _ _ ps ws need x wx ((NewT.trans _ _ _ HM.out hT).tables HT.out) ((NewT.trans _ _ _ HM.out hT).keysV HK.out) ((NewT.trans _ _ _ HM.out hT).recV HX.out)) rfl Tryd.func16 (by kernel_rfl) (by kernel_rfl) (evs2 hF.1 hF.2.1) hK)
        · exact fun a wx hT hF K hK => rely_wp (rely_guard hF.2.1) (opr_ldY (hT.row RK.out) rfl hF.1 (hK _ _ (NewT.refl _) rfl))
        · exact fun a wx hT hF K hK => rely_wp (rely_guard hF.2.1) (opr_ldR (hT.row RX.out) rfl hF.1 (hK _ _ (NewT.refl _) rfl))
        · exact fun a wx hT hF K hK => rely_wp (rely_guard hF.2.2.1) (opr_cv (RReceipt_cv hX _ _ ps ws need x wx ((NewT.trans _ _ _ HM.out hT).tables HT.out) ((NewT.trans _ _ _ HM.out hT).keysV HK.out) ((NewT.trans _ _ _ HM.out hT).recV HX.out)) rfl Tryd.func17 (by kernel_rfl) (by kernel_rfl) (evs2 hF.1 hF.2.1) hK)
        · exact fun a wx hT hF K hK => rely_wp (rely_guard hF.2.2.1) (opr_eql_hash (b := true) rfl hF.1 hF.2.1 (eqH_same _) (hK _ _ (NewT.refl _) rfl))
        · exact fun a wx hT hF K hK => rely_wp rfl (opr_pick_true rfl hF.1 (hK _ _ (NewT.refl _) hF.2.1))
        · exact fun a wx hT hF K hK => rely_wp rfl (opr_move (.inl rfl) (hK _ _ (NewT.refl _) hF.1))
        · exact fun a wx hT hF K hK => rely_wp (rely_guard hF.2.1) (opr_ldY (hT.row RK.out) rfl hF.1 (hK _ _ (NewT.refl _) rfl))
        · exact fun a wx hT hF K hK => rely_wp (rely_guard hF.2.1) (opr_ldR (hT.row RX.out) rfl hF.1 (hK _ _ (NewT.refl _) rfl))
        · exact fun a wx hT hF K hK => rely_wp (rely_guard hF.2.2.1) (opr_cv (Holds_cv hX _ _ ps ws need x wx ((NewT.trans _ _ _ HM.out hT).tables HT.out) ((NewT.trans _ _ _ HM.out hT).keysV HK.out) ((NewT.trans _ _ _ HM.out hT).recV HX.out)) rfl Tryd.func18 (by kernel_rfl) (by kernel_rfl) (evs2 hF.1 hF.2.1) hK)
        · exact fun a wx hT hF K hK => rely_wp (rely_guard hF.2.1) (opr_ldY (hT.row RK.out) rfl hF.1 (hK _ _ (NewT.refl _) rfl))
        · exact fun a wx hT hF K hK => rely_wp (rely_guard hF.2.1) (opr_ldR (hT.row RX.out) rfl hF.1 (hK _ _ (NewT.refl _) rfl))
        · exact fun a wx hT hF K hK => rely_wp (rely_guard hF.2.2.1) (opr_cv (RHolds_cv hX _ _ ps ws need x wx ((NewT.trans _ _ _ HM.out hT).tables HT.out) ((NewT.trans _ _ _ HM.out hT).keysV HK.out) ((NewT.trans _ _ _ HM.out hT).recV HX.out)) rfl Tryd.func19 (by kernel_rfl) (by kernel_rfl) (evs2 hF.1 hF.2.1) hK)
        · exact fun a wx hT hF K hK => rely_wp (rely_guard hF.2.2.1) (opr_eqlQ (b := true) (beq_self_eq_true _) rfl hF.1 hF.2.1 (hK _ _ (NewT.refl _) rfl))
        · exact fun a wx hT hF K hK => rely_wp rfl (opr_pick_true rfl hF.1 (hK _ _ (NewT.refl _) hF.2.1))
        · intro w5 k5
          iterate 34 (intro u h; obtain rfl := Eq.symm (h (by simp)); clear h)
          refine relyEnd_nil rfl ?_
          simp only [Act.put, List.setIfInBounds_toArray, List.set_cons_zero, List.set_cons_succ]
          refine opr_move (.inr rfl) ?_
          go_simp
          go_wp2
          go_ret
          exact ⟨rfl, (NewT.trans _ _ _ HM.out k5).out⟩
      · clear hq
        go_wp2
        go_ret
        exact ⟨rfl, HM.out.out⟩
end Go.Proofs.YtcfogkimjbgjgaaDoor
