/- The law KeysNone, walked: keys that may not be have no tags, and say of no checkpoint that it holds. -/
import Derived.Test.YtcfogkimjbgjgaaDoorMf
set_option linter.all false
namespace Go.Proofs.YtcfogkimjbgjgaaDoor
open Go Go.RowKit
set_option maxRecDepth 8000
set_option linter.all false
theorem build_nX (w : World) : (Instr.build 30 #[(0, .int .i64 3), (2, .int .i64 1), (4, .int .i64 1)]).run Tryd.prog w = .ok (.agg (rowA 109 (recF { zR with kind := 3, seq := 1, tr := 1 } (.slice none 0 0) (.slice none 0 0)))) w := by kernel_rfl
set_option maxHeartbeats 4000000 in
theorem KeysNone_walk (v u : Value) (ps ws : List Hs) (need n epoch size : Int) (root : Hs) (l : List (Int × Hs)) (w : World) (hT : Tables w) (hk : KeysV w v ps ws need) (hp : PointV w u size root l) : Calls Tryd.prog 9 #[v, .int .i64 n, .int .i64 epoch, u] w fun e w' => e = .returned (.bool true) ∧ Below w.heap.size w w' := by
  obtain ⟨kf, tg, pf, hX⟩ := keyH_ex
  obtain ⟨pv, wv, rfl, hpv, hwv⟩ := hk
  obtain ⟨sv, rfl, hsv⟩ := hp
  have HPT : Hid (PointV w (.agg (rowA 34 (ptF size root sv))) size root l) := Lib.hid ⟨sv, rfl, hsv⟩
  have HG := Lib.hid hsv
  clear hsv
  have HT := Lib.hid hT
  have HK : Hid (KeysV w (.agg (rowA 3 (keyF pv wv need))) ps ws need) := Lib.hid ⟨pv, wv, rfl, hpv, hwv⟩
  have HP := Lib.hid hpv
  have HW := Lib.hid hwv
  clear hT hpv hwv
  go_enter Tryd.func9, Tryd.ntmps9
  go_upto_region 1 with fail
  have rk := (rowIs_box w 24 3 (keyF pv wv need)).alloc (.cells (rowA 34 (ptF size root sv)) 40)
  have r2 := rowIs_box (w.alloc (.cells (rowA 3 (keyF pv wv need)) 24)) 40 34 (ptF size root sv)
  have hN : NewT w ((w.alloc (.cells (rowA 3 (keyF pv wv need)) 24)).alloc (.cells (rowA 34 (ptF size root sv)) 40)) := NewT.trans _ _ _ (NewT.alloc _ _) (NewT.alloc _ _)
  rw [World.size_alloc] at r2
  change Code.wp _ _ _ _ ((w.alloc (.cells (rowA 3 (keyF pv wv need)) 24)).alloc (.cells (rowA 34 (ptF size root sv)) 40))
  generalize (w.alloc (.cells (rowA 3 (keyF pv wv need)) 24)).alloc (.cells (rowA 34 (ptF size root sv)) 40) = W0 at rk r2 hN ⊢
  obtain ⟨g1, hg1⟩ : ∃ g1, w.heap.size = g1 := ⟨_, rfl⟩
  obtain ⟨g2, hg2⟩ : ∃ g2, w.heap.size + 1 = g2 := ⟨_, rfl⟩
  have HG12 : Hid (g1 < g2 ∧ w.heap.size ≤ g1) := Lib.hid (by omega)
  rw [hg1] at rk
  rw [hg2] at r2
  rw [hg2]
  simp only [hg1]
  have RK := Lib.hid rk
  have RP := Lib.hid r2
  have HM := Lib.hid hN
  clear rk r2 hN hg1 hg2
  refine wp_region_steps0 NewT [SV.eq (.bool true), SV.eq (.bool false)] [([], none), ([(10, some 0)], none)] 66 2 rfl rfl (by kernel_rfl) NewT.trans (NewT.refl _) (Nat.le_of_ble_eq_true rfl) ⟨?_, ?_, trivial⟩ ?_
  · exact fun a wx hT hF K hK => rely_wp rfl (opr_cv (alive10_c wx ((NewT.trans _ _ _ HM.out hT).tables HT.out)) rfl Tryd.func10 (by kernel_rfl) (by kernel_rfl) evs0 hK)
  · exact fun a wx hT hF K hK => rely_wp rfl (opr_not rfl hF.1 (hK _ _ (NewT.refl _) rfl))
  · intro w1 k1
    iterate 2 (intro u h; obtain rfl := Eq.symm (h (by simp)); clear h)
    refine relyEnd_nil rfl ?_
    refine wpList_end rfl ?_
    simp only [Act.put, List.setIfInBounds_toArray, List.set_cons_zero, List.set_cons_succ]
    go_simp
    replace RK := Lib.hid (k1.row RK.out)
    replace RP := Lib.hid (k1.row RP.out)
    replace HM := Lib.hid (NewT.trans _ _ _ HM.out k1)
    clear k1
    go_upto_region 3 with fail
    obtain ⟨q1_3, Q1_3⟩ : ∃ bq_, ((decide (20 < ((List.length (ps) : Int)))) || (decide (20 < ((List.length (ws) : Int))))) = bq_ := ⟨_, rfl⟩
    obtain ⟨q2_3, Q2_3⟩ : ∃ bq_, (q1_3 || (decide (30 < ((List.length (l) : Int))))) = bq_ := ⟨_, rfl⟩
    refine wp_region_steps0 NewT [SV.eq (.pointer (some ⟨g1, 0, none⟩)), SV.eq (pv), SV.eq (.int .i64 ((List.length (ps) : Int))), SV.eq (.bool (decide (20 < ((List.length (ps) : Int))))), SV.eq (.bool (decide (20 < ((List.length (ps) : Int))))), svIf ((!(decide (20 < ((List.length (ps) : Int)))))) (SV.eq (.pointer (some ⟨g1, 1, none⟩))), svIf ((!(decide (20 < ((List.length (ps) : Int)))))) (SV.eq (wv)), svIf ((!(decide (20 < ((List.length (ps) : Int)))))) (SV.eq (.int .i64 ((List.length (ws) : Int)))), svIf ((!(decide (20 < ((List.length (ps) : Int)))))) (SV.eq (.bool (decide (20 < ((List.length (ws) : Int)))))), SV.eq (.bool (q1_3)), SV.eq (.bool (q1_3)), svIf ((!q1_3)) (SV.eq (.pointer (some ⟨g2, 33, none⟩))), svIf ((!q1_3)) (SV.eq (sv)), svIf ((!q1_3)) (SV.eq (.int .i64 ((List.length (l) : Int)))), svIf ((!q1_3)) (SV.eq (.bool (decide (30 < ((List.length (l) : Int)))))), SV.eq (.bool (q2_3)), SV.eq (.bool (q2_3)), svIf ((!q2_3)) (SV.eq (.agg (rowA 3 (keyF pv wv need)))), svIf ((!q2_3)) (SV.eq (.bool (mayB ps ws need))), SV.eq (.bool (q2_3 || (mayB ps ws need)))] [([(4, none)], none), ([(12, some 0)], none), ([(13, some 1)], none), ([(14, some 2)], none), ([(15, some 3)], none), ([(4, none), (16, some 4)], some (16, false)), ([(17, some 5), (16, some 4)], some (16, false)), ([(18, some 6), (16, some 4)], some (16, false)), ([(19, some 7), (16, some 4)], some (16, false)), ([(16, some 4), (20, some 8)], none), ([(21, some 9)], none), ([(7, none), (22, some 10)], some (22, false)), ([(23, some 11), (22, some 10)], some (22, false)), ([(24, some 12), (22, some 10)], some (22, false)), ([(25, some 13), (22, some 10)], some (22, false)), ([(22, some 10), (26, some 14)], none), ([(27, some 15)], none), ([(4, none), (28, some 16)], some (28, false)), ([(29, some 17), (28, some 16)], some (28, false)), ([(28, some 16), (30, some 18)], none)] 66 20 rfl rfl (by kernel_rfl) NewT.trans (NewT.refl _) (Nat.le_of_ble_eq_true rfl) ⟨?_, ?_, ?_, ?_, ?_, ?_, ?_, ?_, ?_, ?_, ?_, ?_, ?_, ?_, ?_, ?_, ?_, ?_, ?_, ?_, trivial⟩ ?_
    · exact fun a wx hT hF K hK => rely_wp rfl (opr_fldY0 rfl hF.1 (hK _ _ (NewT.refl _) rfl))
    · exact fun a wx hT hF K hK => rely_wp rfl (opr_ldHs (hT.row RK.out) (by decide) rfl rfl hF.1 (hK _ _ (NewT.refl _) rfl))
    · intro a wx hT hF K hK
      obtain ⟨f13, _⟩ := hF
      have f13 : a.tmps.getD 13 undef = pv := f13
      refine rely_wp rfl ?_
      exact opr_len_h rfl (by rw [eval_tmp, f13]; exact ((NewT.trans _ _ _ HM.out hT).hs HP.out)) (hK _ _ (NewT.refl _) rfl)
    · exact fun a wx hT hF K hK => rely_wp rfl (opr_cmp (b := decide (20 < ((List.length (ps) : Int)))) (.inr (.inr (.inr (.inr (.inl ⟨rfl, rfl⟩))))) Tryd.underlying3 rfl hF.1 rfl (hK _ _ (NewT.refl _) rfl))
    · exact fun a wx hT hF K hK => rely_wp rfl (opr_move (.inl rfl) (hK _ _ (NewT.refl _) hF.1))
    · exact fun a wx hT hF K hK => rely_if (rely_gf hF.2.1) (NewT.refl _) hK fun hE hK => opr_fldY1 rfl hF.1 (hK _ _ (NewT.refl _) rfl)
    · exact fun a wx hT hF K hK => rely_if (rely_gf hF.2.1) (NewT.refl _) hK fun hE hK => opr_ldHs (hT.row RK.out) (by decide) rfl rfl (hF.1 hE) (hK _ _ (NewT.refl _) rfl)
    · intro a wx hT hF K hK
      obtain ⟨f18, f16, _⟩ := hF
      have f18 : ((!(decide (20 < ((List.length (ps) : Int)))))) = true → a.tmps.getD 18 undef = wv := f18
      have f16 : a.tmps.getD 16 undef = .bool (decide (20 < ((List.length (ps) : Int)))) := f16
      refine rely_if (rely_gf f16) (NewT.refl _) hK (fun hE hK => ?_)
      exact opr_len_h rfl (by rw [eval_tmp, (f18 hE)]; exact ((NewT.trans _ _ _ HM.out hT).hs HW.out)) (hK _ _ (NewT.refl _) rfl)
    · exact fun a wx hT hF K hK => rely_if (rely_gf hF.2.1) (NewT.refl _) hK fun hE hK => opr_cmp (b := decide (20 < ((List.length (ws) : Int)))) (.inr (.inr (.inr (.inr (.inl ⟨rfl, rfl⟩))))) Tryd.underlying3 rfl (hF.1 hE) rfl (hK _ _ (NewT.refl _) rfl)
    · exact fun a wx hT hF K hK => rely_wp rfl (opr_pick_b rfl hF.1 (fun hb => hK _ _ (NewT.refl _) (pn_or1 Q1_3 hb)) (fun hb => hK _ _ (NewT.refl _) (pn_or0 Q1_3 (hF.2.1 (bnot hb)) hb)))
    · exact fun a wx hT hF K hK => rely_wp rfl (opr_move (.inl rfl) (hK _ _ (NewT.refl _) hF.1))
    · exact fun a wx hT hF K hK => rely_if (rely_gf hF.2.1) (NewT.refl _) hK fun hE hK => opr_fldZ2 rfl hF.1 (hK _ _ (NewT.refl _) rfl)
    · exact fun a wx hT hF K hK => rely_if (rely_gf hF.2.1) (NewT.refl _) hK fun hE hK => opr_ldGs (hT.row RP.out) (by decide) rfl rfl (hF.1 hE) (hK _ _ (NewT.refl _) rfl)
    · intro a wx hT hF K hK
      obtain ⟨f24, f22, _⟩ := hF
      have f24 : ((!q1_3)) = true → a.tmps.getD 24 undef = sv := f24
      have f22 : a.tmps.getD 22 undef = .bool (q1_3) := f22
      refine rely_if (rely_gf f22) (NewT.refl _) hK (fun hE hK => ?_)
      exact opr_len_g rfl (by rw [eval_tmp, (f24 hE)]; exact ((NewT.trans _ _ _ HM.out hT).sigs HG.out)) (hK _ _ (NewT.refl _) rfl)
    · exact fun a wx hT hF K hK => rely_if (rely_gf hF.2.1) (NewT.refl _) hK fun hE hK => opr_cmp (b := decide (30 < ((List.length (l) : Int)))) (.inr (.inr (.inr (.inr (.inl ⟨rfl, rfl⟩))))) Tryd.underlying3 rfl (hF.1 hE) rfl (hK _ _ (NewT.refl _) rfl)
    · exact fun a wx hT hF K hK => rely_wp rfl (opr_pick_b rfl hF.1 (fun hb => hK _ _ (NewT.refl _) (pn_or1 Q2_3 hb)) (fun hb => hK _ _ (NewT.refl _) (pn_or0 Q2_3 (hF.2.1 (bnot hb)) hb)))
    · exact fun a wx hT hF K hK => rely_wp rfl (opr_move (.inl rfl) (hK _ _ (NewT.refl _) hF.1))
    · exact fun a wx hT hF K hK => rely_if (rely_gf hF.2.1) (NewT.refl _) hK fun hE hK => opr_ldY (hT.row RK.out) rfl hF.1 (hK _ _ (NewT.refl _) rfl)
    · exact fun a wx hT hF K hK => rely_if (rely_gf hF.2.1) (NewT.refl _) hK fun hE hK => opr_cv (May_cv _ ps ws need wx ((NewT.trans _ _ _ HM.out hT).keysV HK.out)) rfl Tryd.func12 (by kernel_rfl) (by kernel_rfl) (evs1 (hF.1 hE)) hK
    · exact fun a wx hT hF K hK => rely_wp rfl (opr_pick_b rfl hF.1 (fun hb => hK _ _ (NewT.refl _) (pk_or1 hb)) (fun hb => hK _ _ (NewT.refl _) (pk_or0 (hF.2.1 (bnot hb)) hb)))
    · intro w3 k3
      iterate 5 (intro u h; obtain rfl := Eq.symm (h (by simp)); clear h)
      iterate 4 (intro _ _)
      iterate 2 (intro u h; obtain rfl := Eq.symm (h (by simp)); clear h)
      iterate 4 (intro _ _)
      iterate 2 (intro u h; obtain rfl := Eq.symm (h (by simp)); clear h)
      iterate 2 (intro _ _)
      intro u h; obtain rfl := Eq.symm (h (by simp)); clear h
      subst Q2_3 Q1_3
      refine relyEnd_nil rfl ?_
      refine wpList_end rfl ?_
      simp only [Act.put, List.setIfInBounds_toArray, List.set_cons_zero, List.set_cons_succ]
      go_simp
      replace RK := Lib.hid (k3.row RK.out)
      replace RP := Lib.hid (k3.row RP.out)
      replace HM := Lib.hid (NewT.trans _ _ _ HM.out k3)
      clear k3
      cases hq : ((((decide (20 < ((List.length (ps) : Int)))) || (decide (20 < ((List.length (ws) : Int))))) || (decide (30 < ((List.length (l) : Int))))) || (mayB ps ws need))
      · have hm : mayB ps ws need = false := by
          rw [Bool.or_eq_false_iff] at hq
          exact hq.2
        have HZ1 := Lib.hid (none_part (kf := kf) hm n epoch)
        obtain ⟨x0, hx0⟩ := hid_ex ({ zR with kind := 3, seq := 1, tr := 1 } : Rc)
        have HBX : Hid (∀ w, (Instr.build 30 #[(0, .int .i64 3), (2, .int .i64 1), (4, .int .i64 1)]).run Tryd.prog w = .ok (.agg (rowA 109 (recF x0 (.slice none 0 0) (.slice none 0 0)))) w) := Lib.hid (by rw [← hx0.out]; exact build_nX)
        have HE0 : Hid (x0.steps = [] ∧ x0.data = []) := Lib.hid (by rw [← hx0.out]; exact ⟨rfl, rfl⟩)
        have HZ2 := Lib.hid (none_recp (kf := kf) hm x0)
        have HZ3 := Lib.hid (none_holds (kf := kf) hm x0)
        have HZ4 := Lib.hid (none_sign (tg := tg) (pf := pf) hm n size root)
        have HZ5 := Lib.hid (none_check hm size (sgH tg pf ws size root) l)
        clear hm hq hx0
        go_upto_region 5 with fail
        refine wp_region_steps0 NewT [SV.eq ((.agg (rowA 109 (recF x0 (.slice none 0 0) (.slice none 0 0)))))] [([], none)] 66 1 rfl rfl (by kernel_rfl) NewT.trans (NewT.refl _) (Nat.le_of_ble_eq_true rfl) ⟨?_, trivial⟩ ?_
        · intro a wx hT hF K hK
          refine rely_wp rfl ?_
          exact opr_build (pv := #[(0, .int .i64 3), (2, .int .i64 1), (4, .int .i64 1)]) rfl (by simp only [List.map_toArray, List.map_cons, List.map_nil, eval_const]) (HBX.out wx) (hK _ _ (NewT.refl _) rfl)
        · intro wa ka
          intro u h; obtain rfl := Eq.symm (h (by simp)); clear h
          refine relyEnd_nil rfl ?_
          simp only [Act.put, List.setIfInBounds_toArray, List.set_cons_zero, List.set_cons_succ]
          refine wpList_new (n := 109) (f := recF x0 (.slice none 0 0) (.slice none 0 0)) rfl rfl rfl rfl rfl rfl (by first | (simp; done) | simp [Act.put]) run_alloc_rec info_rec (recF_one _ _ _ rfl rfl) rfl ?_
          intro wb hnb r5
          refine wpList_end rfl ?_
          simp only [Act.put, List.setIfInBounds_toArray, List.set_cons_zero, List.set_cons_succ]
          go_simp
          have kb := NewT.trans _ _ _ ka hnb
          obtain ⟨g5, hg5⟩ : ∃ g5, wa.heap.size = g5 := ⟨_, rfl⟩
          rw [hg5] at r5 ⊢
          have RX := Lib.hid r5
          replace RK := Lib.hid (kb.row RK.out)
          replace RP := Lib.hid (kb.row RP.out)
          replace HM := Lib.hid (NewT.trans _ _ _ HM.out kb)
          clear ka kb hnb r5 hg5
          go_upto_region 6 with fail
          refine wp_region_steps0 NewT [SV.eq (.agg (rowA 3 (keyF pv wv need))), SV.eq (.int .i64 (n)), SV.eq (.int .i64 (epoch)), SV.eq (.agg (rowA 32 (bF (partH kf ps ws need n epoch)))), SV.eq (.agg (rowA 32 (bF (z32)))), SV.eq (.bool true), SV.eq (.bool true), SV.eq (.agg (rowA 3 (keyF pv wv need))), SV.eq (.agg (rowA 109 (recF x0 (.slice none 0 0) (.slice none 0 0)))), SV.eq (.agg (rowA 32 (bF (recpH kf ps ws need x0)))), SV.eq (.agg (rowA 32 (bF (z32)))), SV.eq (.bool true), SV.eq (.bool true), SV.eq (.bool true), SV.eq (.agg (rowA 3 (keyF pv wv need))), SV.eq (.agg (rowA 109 (recF x0 (.slice none 0 0) (.slice none 0 0)))), SV.eq (.bool false), SV.eq (.bool true), SV.eq (.bool true), SV.eq (.bool true), SV.eq (.agg (rowA 3 (keyF pv wv need))), SV.eq (.int .i64 (n)), SV.eq (.agg (rowA 34 (ptF size root sv))), SV.eq (.agg (rowA 32 (bF (signH tg pf ps ws need n size root)))), SV.eq (.agg (rowA 32 (bF (z32)))), SV.eq (.bool true), SV.eq (.bool true), SV.eq (.bool true), SV.eq (.agg (rowA 3 (keyF pv wv need))), SV.eq (.agg (rowA 34 (ptF size root sv))), SV.eq (.int .i64 (1)), SV.eq (.bool true), SV.eq (.bool true), SV.eq (.bool true)] [([(4, none)], none), ([(1, none)], none), ([(2, none)], none), ([(33, some 0), (34, some 1), (35, some 2)], none), ([], none), ([(36, some 3), (37, some 4)], none), ([(38, some 5)], none), ([(4, none), (39, some 6)], some (39, true)), ([(9, none), (39, some 6)], some (39, true)), ([(40, some 7), (41, some 8), (39, some 6)], some (39, true)), ([(39, some 6)], some (39, true)), ([(42, some 9), (43, some 10), (39, some 6)], some (39, true)), ([(39, some 6), (44, some 11)], none), ([(45, some 12)], none), ([(4, none), (46, some 13)], some (46, true)), ([(9, none), (46, some 13)], some (46, true)), ([(47, some 14), (48, some 15), (46, some 13)], some (46, true)), ([(49, some 16), (46, some 13)], some (46, true)), ([(46, some 13), (50, some 17)], none), ([(51, some 18)], none), ([(4, none), (52, some 19)], some (52, true)), ([(1, none), (52, some 19)], some (52, true)), ([(7, none), (52, some 19)], some (52, true)), ([(53, some 20), (54, some 21), (55, some 22), (52, some 19)], some (52, true)), ([(52, some 19)], some (52, true)), ([(56, some 23), (57, some 24), (52, some 19)], some (52, true)), ([(52, some 19), (58, some 25)], none), ([(59, some 26)], none), ([(4, none), (60, some 27)], some (60, true)), ([(7, none), (60, some 27)], some (60, true)), ([(61, some 28), (62, some 29), (60, some 27)], some (60, true)), ([(63, some 30), (60, some 27)], some (60, true)), ([(60, some 27), (64, some 31)], none), ([(65, some 32)], none)] 66 34 rfl rfl (by kernel_rfl) NewT.trans (NewT.refl _) (Nat.le_of_ble_eq_true rfl) ⟨?_, ?_, ?_, ?_, ?_, ?_, ?_, ?_, ?_, ?_, ?_, ?_, ?_, ?_, ?_, ?_, ?_, ?_, ?_, ?_, ?_, ?_, ?_, ?_, ?_, ?_, ?_, ?_, ?_, ?_, ?_, ?_, ?_, ?_, trivial⟩ ?_
          · exact fun a wx hT hF K hK => rely_wp rfl (opr_ldY (hT.row RK.out) rfl hF.1 (hK _ _ (NewT.refl _) rfl))
          · exact fun a wx hT hF K hK => rely_wp rfl (opr_move (.inl rfl) (hK _ _ (NewT.refl _) hF.1))
          · exact fun a wx hT hF K hK => rely_wp rfl (opr_move (.inl rfl) (hK _ _ (NewT.refl _) hF.1))
          · exact fun a wx hT hF K hK => rely_wp rfl (opr_cv (Part_cv hX _ ps ws need n epoch wx ((NewT.trans _ _ _ HM.out hT).tables HT.out) ((NewT.trans _ _ _ HM.out hT).keysV HK.out)) rfl Tryd.func14 (by kernel_rfl) (by kernel_rfl) (evs3 hF.1 hF.2.1 hF.2.2.1) hK)
          · exact fun a wx hT hF K hK => rely_wp rfl (opr_build (pv := #[]) rfl (by simp) (build_z32 wx) (hK _ _ (NewT.refl _) rfl))
          · exact fun a wx hT hF K hK => rely_wp rfl (opr_eql_hash (b := true) rfl hF.1 hF.2.1 (HZ1.out) (hK _ _ (NewT.refl _) rfl))
          · exact fun a wx hT hF K hK => rely_wp rfl (opr_move (.inl rfl) (hK _ _ (NewT.refl _) hF.1))
          · exact fun a wx hT hF K hK => rely_wp (rely_guard hF.2.1) (opr_ldY (hT.row RK.out) rfl hF.1 (hK _ _ (NewT.refl _) rfl))
          · exact fun a wx hT hF K hK => rely_wp (rely_guard hF.2.1) (opr_ldR (hT.row RX.out) rfl hF.1 (hK _ _ (NewT.refl _) rfl))
          · exact fun a wx hT hF K hK => rely_wp (rely_guard hF.2.2.1) (opr_cv (Receipt_cv hX _ _ ps ws need x0 wx ((NewT.trans _ _ _ HM.out hT).tables HT.out) ((NewT.trans _ _ _ HM.out hT).keysV HK.out) (recV_nil wx x0 HE0.out.1 HE0.out.2)) rfl Tryd.func16 (by kernel_rfl) (by kernel_rfl) (evs2 hF.1 hF.2.1) hK)
          · exact fun a wx hT hF K hK => rely_wp (rely_guard hF.1) (opr_build (pv := #[]) rfl (by simp) (build_z32 wx) (hK _ _ (NewT.refl _) rfl))
          · exact fun a wx hT hF K hK => rely_wp (rely_guard hF.2.2.1) (opr_eql_hash (b := true) rfl hF.1 hF.2.1 (HZ2.out) (hK _ _ (NewT.refl _) rfl))
          · exact fun a wx hT hF K hK => rely_wp rfl (opr_pick_true rfl hF.1 (hK _ _ (NewT.refl _) hF.2.1))
          · exact fun a wx hT hF K hK => rely_wp rfl (opr_move (.inl rfl) (hK _ _ (NewT.refl _) hF.1))
          · exact fun a wx hT hF K hK => rely_wp (rely_guard hF.2.1) (opr_ldY (hT.row RK.out) rfl hF.1 (hK _ _ (NewT.refl _) rfl))
          · exact fun a wx hT hF K hK => rely_wp (rely_guard hF.2.1) (opr_ldR (hT.row RX.out) rfl hF.1 (hK _ _ (NewT.refl _) rfl))
          · exact fun a wx hT hF K hK => rely_wp (rely_guard hF.2.2.1) (opr_cv (HZ3.out ▸ Holds_cv hX _ _ ps ws need x0 wx ((NewT.trans _ _ _ HM.out hT).tables HT.out) ((NewT.trans _ _ _ HM.out hT).keysV HK.out) (recV_nil wx x0 HE0.out.1 HE0.out.2)) rfl Tryd.func18 (by kernel_rfl) (by kernel_rfl) (evs2 hF.1 hF.2.1) hK)
          · exact fun a wx hT hF K hK => rely_wp (rely_guard hF.2.1) (opr_not rfl hF.1 (hK _ _ (NewT.refl _) rfl))
          · exact fun a wx hT hF K hK => rely_wp rfl (opr_pick_true rfl hF.1 (hK _ _ (NewT.refl _) hF.2.1))
          · exact fun a wx hT hF K hK => rely_wp rfl (opr_move (.inl rfl) (hK _ _ (NewT.refl _) hF.1))
          · exact fun a wx hT hF K hK => rely_wp (rely_guard hF.2.1) (opr_ldY (hT.row RK.out) rfl hF.1 (hK _ _ (NewT.refl _) rfl))
          · exact fun a wx hT hF K hK => rely_wp (rely_guard hF.2.1) (opr_move (.inl rfl) (hK _ _ (NewT.refl _) hF.1))
          · exact fun a wx hT hF K hK => rely_wp (rely_guard hF.2.1) (opr_ldZ (hT.row RP.out) rfl hF.1 (hK _ _ (NewT.refl _) rfl))
          · exact fun a wx hT hF K hK => rely_wp (rely_guard hF.2.2.2.1) (opr_cv (Sign_cv hX _ _ ps ws need n size root l wx ((NewT.trans _ _ _ HM.out hT).tables HT.out) ((NewT.trans _ _ _ HM.out hT).keysV HK.out) ((NewT.trans _ _ _ HM.out hT).pointV HPT.out)) rfl Tryd.func20 (by kernel_rfl) (by kernel_rfl) (evs3 hF.1 hF.2.1 hF.2.2.1) hK)
          · exact fun a wx hT hF K hK => rely_wp (rely_guard hF.1) (opr_build (pv := #[]) rfl (by simp) (build_z32 wx) (hK _ _ (NewT.refl _) rfl))
          · exact fun a wx hT hF K hK => rely_wp (rely_guard hF.2.2.1) (opr_eql_hash (b := true) rfl hF.1 hF.2.1 (HZ4.out) (hK _ _ (NewT.refl _) rfl))
          · exact fun a wx hT hF K hK => rely_wp rfl (opr_pick_true rfl hF.1 (hK _ _ (NewT.refl _) hF.2.1))
          · exact fun a wx hT hF K hK => rely_wp rfl (opr_move (.inl rfl) (hK _ _ (NewT.refl _) hF.1))
          · exact fun a wx hT hF K hK => rely_wp (rely_guard hF.2.1) (opr_ldY (hT.row RK.out) rfl hF.1 (hK _ _ (NewT.refl _) rfl))
          · exact fun a wx hT hF K hK => rely_wp (rely_guard hF.2.1) (opr_ldZ (hT.row RP.out) rfl hF.1 (hK _ _ (NewT.refl _) rfl))
          · exact fun a wx hT hF K hK => rely_wp (rely_guard hF.2.2.1) (opr_cv (HZ5.out ▸ Check_cv hX _ _ ps ws need size root l wx ((NewT.trans _ _ _ HM.out hT).tables HT.out) ((NewT.trans _ _ _ HM.out hT).keysV HK.out) ((NewT.trans _ _ _ HM.out hT).pointV HPT.out)) rfl Tryd.func22 (by kernel_rfl) (by kernel_rfl) (evs2 hF.1 hF.2.1) hK)
          · exact fun a wx hT hF K hK => rely_wp (rely_guard hF.2.1) (opr_cmp (b := true) (.inl ⟨rfl, (by decide)⟩) Tryd.underlying42 rfl hF.1 rfl (hK _ _ (NewT.refl _) rfl))
          · exact fun a wx hT hF K hK => rely_wp rfl (opr_pick_true rfl hF.1 (hK _ _ (NewT.refl _) hF.2.1))
          · exact fun a wx hT hF K hK => rely_wp rfl (opr_move (.inr rfl) (hK _ _ (NewT.refl _) hF.1))
          · intro wc kc
            iterate 34 (intro u h; obtain rfl := Eq.symm (h (by simp)); clear h)
            refine relyEnd_nil rfl ?_
            refine wpList_end rfl ?_
            simp only [Act.put, List.setIfInBounds_toArray, List.set_cons_zero, List.set_cons_succ]
            go_simp
            go_wp2
            go_ret
            exact ⟨rfl, (NewT.trans _ _ _ HM.out kc).out⟩
      · clear hq
        go_wp2
        go_ret
        exact ⟨rfl, HM.out.out⟩
end Go.Proofs.YtcfogkimjbgjgaaDoor
