/- Package rec: ranges; steps; slices compared. -/
import Derived.Test.YtcfogkimjbgjgaaDoorMc
import Derived.Test.YtcfogkimjbgjgaaDoorMa
import Derived.Test.YtcfogkimjbgjgaaDoorMb
set_option linter.all false
namespace Go.Proofs.YtcfogkimjbgjgaaDoor
open Go Go.RowKit
set_option maxRecDepth 8000
set_option linter.all false
set_option maxHeartbeats 400000 in
theorem within_cv (n lo hi : Int) (w : World) : Cv 64 #[.int .i64 n, .int .i64 lo, .int .i64 hi] w (.eq (.bool (inR n lo hi))) := by
  unfold Cv
  go_enter Tryd.func64, Tryd.ntmps64
  go_upto_region 1 with fail
  obtain ⟨q1_1, Q1_1⟩ : ∃ bq_, ((decide (lo ≤ n)) && (decide (n ≤ hi))) = bq_ := ⟨_, rfl⟩
  refine wp_region_steps0 NewT [SV.eq (.int .i64 (lo)), SV.eq (.int .i64 (n)), SV.eq (.bool (decide (lo ≤ n))), SV.eq (.bool (decide (lo ≤ n))), svIf (decide (lo ≤ n)) (SV.eq (.int .i64 (n))), svIf (decide (lo ≤ n)) (SV.eq (.int .i64 (hi))), svIf (decide (lo ≤ n)) (SV.eq (.bool (decide (n ≤ hi)))), SV.eq (.bool (q1_1)), SV.eq (.bool (q1_1))] [([(1, none)], none), ([(0, none)], none), ([(7, some 0), (8, some 1)], none), ([(9, some 2)], none), ([(0, none), (10, some 3)], some (10, true)), ([(2, none), (10, some 3)], some (10, true)), ([(11, some 4), (12, some 5), (10, some 3)], some (10, true)), ([(10, some 3), (13, some 6)], none), ([(14, some 7)], none)] 15 9 rfl rfl (by kernel_rfl) NewT.trans (NewT.refl _) (Nat.le_of_ble_eq_true rfl) ⟨?_, ?_, ?_, ?_, ?_, ?_, ?_, ?_, ?_, trivial⟩ ?_
  · exact fun a wx hT hF K hK => rely_wp rfl (opr_move (.inl rfl) (hK _ _ (NewT.refl _) hF.1))
  · exact fun a wx hT hF K hK => rely_wp rfl (opr_move (.inl rfl) (hK _ _ (NewT.refl _) hF.1))
  · exact fun a wx hT hF K hK => rely_wp rfl (opr_cmp (b := decide (lo ≤ n)) (.inr (.inr (.inl ⟨rfl, rfl⟩))) Tryd.underlying3 rfl hF.1 hF.2.1 (hK _ _ (NewT.refl _) rfl))
  · exact fun a wx hT hF K hK => rely_wp rfl (opr_move (.inl rfl) (hK _ _ (NewT.refl _) hF.1))
  · exact fun a wx hT hF K hK => rely_if (rely_gt hF.2.1) (NewT.refl _) hK fun hE hK => opr_move (.inl rfl) (hK _ _ (NewT.refl _) hF.1)
  · exact fun a wx hT hF K hK => rely_if (rely_gt hF.2.1) (NewT.refl _) hK fun hE hK => opr_move (.inl rfl) (hK _ _ (NewT.refl _) hF.1)
  · exact fun a wx hT hF K hK => rely_if (rely_gt hF.2.2.1) (NewT.refl _) hK fun hE hK => opr_cmp (b := decide (n ≤ hi)) (.inr (.inr (.inl ⟨rfl, rfl⟩))) Tryd.underlying3 rfl (hF.1 hE) (hF.2.1 hE) (hK _ _ (NewT.refl _) rfl)
  · exact fun a wx hT hF K hK => rely_wp rfl (opr_pick_b rfl hF.1 (fun hb => hK _ _ (NewT.refl _) (pn_and1 Q1_1 (hF.2.1 hb) hb)) (fun hb => hK _ _ (NewT.refl _) (pn_and0 Q1_1 hb)))
  · exact fun a wx hT hF K hK => rely_wp rfl (opr_move (.inr rfl) (hK _ _ (NewT.refl _) hF.1))
  · intro wx hT
    iterate 4 (intro u h; obtain rfl := Eq.symm (h (by simp)); clear h)
    iterate 3 (intro _ _)
    iterate 2 (intro u h; obtain rfl := Eq.symm (h (by simp)); clear h)
    subst Q1_1
    refine relyEnd_nil rfl ?_
    refine wpList_end rfl ?_
    simp only [Act.put, List.setIfInBounds_toArray, List.set_cons_zero, List.set_cons_succ]
    go_simp
    go_wp2
    go_ret
    exact ⟨_, rfl, hT, rfl⟩
set_option maxHeartbeats 400000 in
theorem refIn_cv (n lo hi : Int) (w : World) : Cv 43 #[.int .i64 n, .int .i64 lo, .int .i64 hi] w (.eq (.bool (inR n lo hi))) := by
  unfold Cv
  go_enter Tryd.func43, Tryd.ntmps43
  go_upto_region 1 with fail
  obtain ⟨q1_1, Q1_1⟩ : ∃ bq_, ((decide (lo ≤ n)) && (decide (n ≤ hi))) = bq_ := ⟨_, rfl⟩
  refine wp_region_steps0 NewT [SV.eq (.int .i64 (n)), SV.eq (.int .i64 (lo)), SV.eq (.bool (decide (lo ≤ n))), SV.eq (.bool (decide (lo ≤ n))), svIf (decide (lo ≤ n)) (SV.eq (.int .i64 (n))), svIf (decide (lo ≤ n)) (SV.eq (.int .i64 (hi))), svIf (decide (lo ≤ n)) (SV.eq (.bool (decide (n ≤ hi)))), SV.eq (.bool (q1_1)), SV.eq (.bool (q1_1))] [([(0, none)], none), ([(1, none)], none), ([(7, some 0), (8, some 1)], none), ([(9, some 2)], none), ([(0, none), (10, some 3)], some (10, true)), ([(2, none), (10, some 3)], some (10, true)), ([(11, some 4), (12, some 5), (10, some 3)], some (10, true)), ([(10, some 3), (13, some 6)], none), ([(14, some 7)], none)] 15 9 rfl rfl (by kernel_rfl) NewT.trans (NewT.refl _) (Nat.le_of_ble_eq_true rfl) ⟨?_, ?_, ?_, ?_, ?_, ?_, ?_, ?_, ?_, trivial⟩ ?_
  · exact fun a wx hT hF K hK => rely_wp rfl (opr_move (.inl rfl) (hK _ _ (NewT.refl _) hF.1))
  · exact fun a wx hT hF K hK => rely_wp rfl (opr_move (.inl rfl) (hK _ _ (NewT.refl _) hF.1))
  · exact fun a wx hT hF K hK => rely_wp rfl (opr_cmp (b := decide (lo ≤ n)) (.inr (.inr (.inr (.inr (.inr (⟨rfl, rfl⟩)))))) Tryd.underlying3 rfl hF.1 hF.2.1 (hK _ _ (NewT.refl _) rfl))
  · exact fun a wx hT hF K hK => rely_wp rfl (opr_move (.inl rfl) (hK _ _ (NewT.refl _) hF.1))
  · exact fun a wx hT hF K hK => rely_if (rely_gt hF.2.1) (NewT.refl _) hK fun hE hK => opr_move (.inl rfl) (hK _ _ (NewT.refl _) hF.1)
  · exact fun a wx hT hF K hK => rely_if (rely_gt hF.2.1) (NewT.refl _) hK fun hE hK => opr_move (.inl rfl) (hK _ _ (NewT.refl _) hF.1)
  · exact fun a wx hT hF K hK => rely_if (rely_gt hF.2.2.1) (NewT.refl _) hK fun hE hK => opr_cmp (b := decide (n ≤ hi)) (.inr (.inr (.inl ⟨rfl, rfl⟩))) Tryd.underlying3 rfl (hF.1 hE) (hF.2.1 hE) (hK _ _ (NewT.refl _) rfl)
  · exact fun a wx hT hF K hK => rely_wp rfl (opr_pick_b rfl hF.1 (fun hb => hK _ _ (NewT.refl _) (pn_and1 Q1_1 (hF.2.1 hb) hb)) (fun hb => hK _ _ (NewT.refl _) (pn_and0 Q1_1 hb)))
  · exact fun a wx hT hF K hK => rely_wp rfl (opr_move (.inr rfl) (hK _ _ (NewT.refl _) hF.1))
  · intro wx hT
    iterate 4 (intro u h; obtain rfl := Eq.symm (h (by simp)); clear h)
    iterate 3 (intro _ _)
    iterate 2 (intro u h; obtain rfl := Eq.symm (h (by simp)); clear h)
    subst Q1_1
    refine relyEnd_nil rfl ?_
    refine wpList_end rfl ?_
    simp only [Act.put, List.setIfInBounds_toArray, List.set_cons_zero, List.set_cons_succ]
    go_simp
    go_wp2
    go_ret
    exact ⟨_, rfl, hT, rfl⟩
set_option maxHeartbeats 400000 in
theorem isSaga_cv (n : Int) (w : World) : Cv 61 #[.int .i64 n] w (.eq (.bool (inR n 0 11))) := by
  unfold Cv
  go_enter Tryd.func61, Tryd.ntmps61
  go_upto_region 1 with fail
  refine wp_region_steps0 NewT [SV.eq (.int .i64 (n)), SV.eq (.bool (inR n 0 11)), SV.eq (.bool (inR n 0 11))] [([(0, none)], none), ([(3, some 0)], none), ([(4, some 1)], none)] 5 3 rfl rfl (by kernel_rfl) NewT.trans (NewT.refl _) (Nat.le_of_ble_eq_true rfl) ⟨?_, ?_, ?_, trivial⟩ ?_
  · exact fun a wx hT hF K hK => rely_wp rfl (opr_move (.inl rfl) (hK _ _ (NewT.refl _) hF.1))
  · exact fun a wx hT hF K hK => rely_wp rfl (opr_cv (within_cv n 0 11 wx) rfl Tryd.func64 (by kernel_rfl) (by kernel_rfl) (evs3 hF.1 rfl rfl) hK)
  · exact fun a wx hT hF K hK => rely_wp rfl (opr_move (.inr rfl) (hK _ _ (NewT.refl _) hF.1))
  · intro wx hT
    iterate 3 (intro u h; obtain rfl := Eq.symm (h (by simp)); clear h)
    refine relyEnd_nil rfl ?_
    refine wpList_end rfl ?_
    simp only [Act.put, List.setIfInBounds_toArray, List.set_cons_zero, List.set_cons_succ]
    go_simp
    go_wp2
    go_ret
    exact ⟨_, rfl, hT, rfl⟩
set_option maxHeartbeats 400000 in
theorem isSeq_cv (n : Int) (w : World) : Cv 65 #[.int .i64 n] w (.eq (.bool (inR n 1 400))) := by
  unfold Cv
  go_enter Tryd.func65, Tryd.ntmps65
  go_upto_region 1 with fail
  refine wp_region_steps0 NewT [SV.eq (.int .i64 (n)), SV.eq (.bool (inR n 1 400)), SV.eq (.bool (inR n 1 400))] [([(0, none)], none), ([(3, some 0)], none), ([(4, some 1)], none)] 5 3 rfl rfl (by kernel_rfl) NewT.trans (NewT.refl _) (Nat.le_of_ble_eq_true rfl) ⟨?_, ?_, ?_, trivial⟩ ?_
  · exact fun a wx hT hF K hK => rely_wp rfl (opr_move (.inl rfl) (hK _ _ (NewT.refl _) hF.1))
  · exact fun a wx hT hF K hK => rely_wp rfl (opr_cv (within_cv n 1 400 wx) rfl Tryd.func64 (by kernel_rfl) (by kernel_rfl) (evs3 hF.1 rfl rfl) hK)
  · exact fun a wx hT hF K hK => rely_wp rfl (opr_move (.inr rfl) (hK _ _ (NewT.refl _) hF.1))
  · intro wx hT
    iterate 3 (intro u h; obtain rfl := Eq.symm (h (by simp)); clear h)
    refine relyEnd_nil rfl ?_
    refine wpList_end rfl ?_
    simp only [Act.put, List.setIfInBounds_toArray, List.set_cons_zero, List.set_cons_succ]
    go_simp
    go_wp2
    go_ret
    exact ⟨_, rfl, hT, rfl⟩
set_option maxHeartbeats 400000 in
theorem isPart_cv (n : Int) (w : World) : Cv 63 #[.int .i64 n] w (.eq (.bool (inR n 0 3))) := by
  unfold Cv
  go_enter Tryd.func63, Tryd.ntmps63
  go_upto_region 1 with fail
  refine wp_region_steps0 NewT [SV.eq (.int .i64 (n)), SV.eq (.bool (inR n 0 3)), SV.eq (.bool (inR n 0 3))] [([(0, none)], none), ([(3, some 0)], none), ([(4, some 1)], none)] 5 3 rfl rfl (by kernel_rfl) NewT.trans (NewT.refl _) (Nat.le_of_ble_eq_true rfl) ⟨?_, ?_, ?_, trivial⟩ ?_
  · exact fun a wx hT hF K hK => rely_wp rfl (opr_move (.inl rfl) (hK _ _ (NewT.refl _) hF.1))
  · exact fun a wx hT hF K hK => rely_wp rfl (opr_cv (within_cv n 0 3 wx) rfl Tryd.func64 (by kernel_rfl) (by kernel_rfl) (evs3 hF.1 rfl rfl) hK)
  · exact fun a wx hT hF K hK => rely_wp rfl (opr_move (.inr rfl) (hK _ _ (NewT.refl _) hF.1))
  · intro wx hT
    iterate 3 (intro u h; obtain rfl := Eq.symm (h (by simp)); clear h)
    refine relyEnd_nil rfl ?_
    refine wpList_end rfl ?_
    simp only [Act.put, List.setIfInBounds_toArray, List.set_cons_zero, List.set_cons_succ]
    go_simp
    go_wp2
    go_ret
    exact ⟨_, rfl, hT, rfl⟩
set_option maxHeartbeats 400000 in
theorem isStep_cv (s : Int × Int) (w : World) : Cv 75 #[.agg (rowA 2 (stepF s))] w (.eq (.bool (stepOk s))) := by
  unfold Cv
  go_enter Tryd.func75, Tryd.ntmps75
  go_upto_region 1 with fail
  have r1 := rowIs_box w 74 2 (stepF s)
  have hN := NewT.alloc w (.cells (rowA 2 (stepF s)) 74)
  change Code.wp _ _ _ _ (w.alloc (.cells (rowA 2 (stepF s)) 74))
  generalize w.alloc (.cells (rowA 2 (stepF s)) 74) = W0 at r1 hN ⊢
  have R1 := Lib.hid r1
  have HN := Lib.hid hN
  clear r1 hN
  refine wp_region_steps0 NewT [SV.eq (.pointer (some ⟨w.heap.size, 0 + 0, none⟩)), SV.eq (.int .i64 (s.1)), SV.eq (.bool (inR s.1 0 3)), SV.eq (.bool (inR s.1 0 3)), svIf (inR s.1 0 3) (SV.eq (.pointer (some ⟨w.heap.size, 0 + 1, none⟩))), svIf (inR s.1 0 3) (SV.eq (.int .i64 (s.2))), svIf (inR s.1 0 3) (SV.eq (.bool (inR s.2 1 3))), SV.eq (.bool ((inR s.1 0 3) && (inR s.2 1 3))), SV.eq (.bool ((inR s.1 0 3) && (inR s.2 1 3)))] [([(1, none)], none), ([(3, some 0)], none), ([(4, some 1)], none), ([(5, some 2)], none), ([(1, none), (6, some 3)], some (6, true)), ([(7, some 4), (6, some 3)], some (6, true)), ([(8, some 5), (6, some 3)], some (6, true)), ([(6, some 3), (9, some 6)], none), ([(10, some 7)], none)] 11 9 rfl rfl (by kernel_rfl) NewT.trans (NewT.refl _) (Nat.le_of_ble_eq_true rfl) ⟨?_, ?_, ?_, ?_, ?_, ?_, ?_, ?_, ?_, trivial⟩ ?_
  · exact fun a wx hT hF K hK => rely_wp rfl (opr_fldS (by decide) rfl hF.1 (hK _ _ (NewT.refl _) rfl))
  · exact fun a wx hT hF K hK => rely_wp rfl (opr_ldI (hT.row R1.out) (by decide) rfl rfl hF.1 (hK _ _ (NewT.refl _) rfl))
  · exact fun a wx hT hF K hK => rely_wp rfl (opr_cv (isPart_cv s.1 wx) rfl Tryd.func63 (by kernel_rfl) (by kernel_rfl) (evs1 hF.1) hK)
  · exact fun a wx hT hF K hK => rely_wp rfl (opr_move (.inl rfl) (hK _ _ (NewT.refl _) hF.1))
  · exact fun a wx hT hF K hK => rely_if (rely_gt hF.2.1) (NewT.refl _) hK fun hE hK => opr_fldS (by decide) rfl hF.1 (hK _ _ (NewT.refl _) rfl)
  · exact fun a wx hT hF K hK => rely_if (rely_gt hF.2.1) (NewT.refl _) hK fun hE hK => opr_ldI (hT.row R1.out) (by decide) rfl rfl (hF.1 hE) (hK _ _ (NewT.refl _) rfl)
  · exact fun a wx hT hF K hK => rely_if (rely_gt hF.2.1) (NewT.refl _) hK fun hE hK => opr_cv (within_cv s.2 1 3 wx) rfl Tryd.func64 (by kernel_rfl) (by kernel_rfl) (evs3 (hF.1 hE) rfl rfl) hK
  · exact fun a wx hT hF K hK => rely_wp rfl (opr_pick_b rfl hF.1 (fun hb => hK _ _ (NewT.refl _) (pk_and1 (hF.2.1 hb) hb)) (fun hb => hK _ _ (NewT.refl _) (pk_and0 hb)))
  · exact fun a wx hT hF K hK => rely_wp rfl (opr_move (.inr rfl) (hK _ _ (NewT.refl _) hF.1))
  · intro wx hT
    iterate 4 (intro u h; obtain rfl := Eq.symm (h (by simp)); clear h)
    iterate 3 (intro _ _)
    iterate 2 (intro u h; obtain rfl := Eq.symm (h (by simp)); clear h)
    refine relyEnd_nil rfl ?_
    refine wpList_end rfl ?_
    simp only [Act.put, List.setIfInBounds_toArray, List.set_cons_zero, List.set_cons_succ]
    go_simp
    go_wp2
    go_ret
    exact ⟨_, rfl, NewT.trans _ _ _ HN.out hT, rfl⟩
theorem all_next (l : List (Int × Int)) (k : Nat) (hk : k < l.length) : (l.take (k + 1)).all stepOk = ((l.take k).all stepOk && stepOk (l.getD k (0, 0))) := by
  have e : l.take (k + 1) = l.take k ++ [l[k]] := by rw [List.take_add_one, List.getElem?_eq_getElem hk]; rfl
  rw [e, List.all_append]
  simp [List.getD, hk]
theorem all_not (l : List (Int × Int)) (k : Nat) (hk : k < l.length) (h : stepOk (l.getD k (0, 0)) = false) : l.all stepOk = false := by
  rw [List.all_eq_false]
  refine ⟨l.getD k (0, 0), ?_, by rw [h]; simp⟩
  simp [List.getD, hk]
set_option maxHeartbeats 1000000 in
theorem areSteps_cv (v : Value) (l : List (Int × Int)) (w : World) (h : RdP w v l) : Cv 62 #[v] w (.eq (.bool (stepsOk l))) := by
  unfold Cv
  obtain ⟨A0, cap, rfl, h1, h2, h3⟩ := h
  have H3 := Lib.hid h3
  unfold maxLen at h2
  unfold stepsOk
  clear h3
  generalize hn : l.length = n at *
  have Hn := Lib.hid hn
  clear hn
  cases hin : inR (n : Int) 1 6
  · go_enter Tryd.func62, Tryd.ntmps62
    go_wp2_with (go_at_call 64; refine (within_cv n 1 6 w).eq.mono ?_; rintro _ w' ⟨rfl, hB⟩; rw [hin])
    go_ret
    exact ⟨_, rfl, hB, by rw [Bool.false_and]; rfl⟩
  rw [Bool.true_and]
  have hr := (inR_iff _ _ _).1 hin
  go_enter Tryd.func62, Tryd.ntmps62
  go_wp2_with (go_at_call 64; refine (within_cv n 1 6 w).eq.mono ?_; rintro _ w' ⟨rfl, hB⟩; rw [hin])
  go_loopw [11] (fun i wr => ∃ k : Nat, k ≤ n ∧ i = .int .i64 k ∧ Hid ((l.take k).all stepOk = true) ∧ Below w.heap.size w wr) (fun i _ => n - (intOf i).toNat)
  case atStart => exact ⟨0, by omega, rfl, Lib.hid (by simp), hB⟩
  case round =>
    clear hB hin
    obtain ⟨k, hk, rfl, Hs, qB⟩ := hrel
    by_cases hlt : k < n
    · obtain ⟨b, o, rfl, hcell⟩ := H3.out (by omega)
      obtain ⟨j0, j1⟩ := hcell k hlt
      have k0 := (qB.cell (p := ⟨b, o + 2 * k, none⟩) (World.block_lt_of_cell? _ _ j0)).trans j0
      have k1 := (qB.cell (p := ⟨b, o + 2 * k + 1, none⟩) (World.block_lt_of_cell? _ _ j1)).trans j1
      have Hal := Lib.hid (all_next l k (by rw [Hn.out]; exact hlt))
      have Hno := Lib.hid (all_not l k (by rw [Hn.out]; exact hlt))
      clear hcell j0 j1
      generalize l.getD k (0, 0) = s at k0 k1 Hal Hno
      have it : (k : Int) < (n : Int) := by omega
      cases hq : stepOk s
      · have Hq := Lib.hid hq
        clear hq
        go_upto_region 5 with fail
        refine wp_region_steps0 NewT [SV.eq (.pointer (some ⟨b, o + 2 * k, none⟩)), SV.eq (.agg (rowA 2 (stepF s)))] [([(9, none), (11, none)], none), ([(13, some 0)], none)] 19 2 rfl rfl (by kernel_rfl) NewT.trans (NewT.refl _) (Nat.le_of_ble_eq_true rfl) ⟨?_, ?_, trivial⟩ ?_
        · exact fun a wx hT hF K hK => rely_wp rfl (opr_idxS hlt rfl hF.1 hF.2.1 (hK _ _ (NewT.refl _) rfl))
        · exact fun a wx hT hF K hK => rely_wp rfl (opr_ld2 ((hT.out.cell (World.block_lt_of_cell? _ _ k0)).trans k0) ((hT.out.cell (World.block_lt_of_cell? _ _ k1)).trans k1) rfl hF.1 (hK _ _ (NewT.refl _) rfl))
        · intro w5 h5
          iterate 2 (intro u h; obtain rfl := Eq.symm (h (by simp)); clear h)
          refine relyEnd_nil rfl ?_
          simp only [Act.put, List.setIfInBounds_toArray, List.set_cons_zero, List.set_cons_succ]
          refine wpList_new (n := 2) rfl rfl rfl rfl rfl rfl (by simp) run_alloc_step info_step (stepF_one s) rfl ?_
          intro wn hNn rn
          refine wpList_end rfl ?_
          simp only [Act.put, List.setIfInBounds_toArray, List.set_cons_zero, List.set_cons_succ]
          go_simp
          clear k0 k1
          go_upto_region 6 with fail
          refine wp_region_steps0 NewT [SV.eq (.agg (rowA 2 (stepF s))), SV.eq (.bool false), SV.eq (.bool true)] [([(4, none)], none), ([(15, some 0)], none), ([(16, some 1)], none)] 19 3 rfl rfl (by kernel_rfl) NewT.trans (NewT.refl _) (Nat.le_of_ble_eq_true rfl) ⟨?_, ?_, ?_, trivial⟩ ?_
          · exact fun a wx hT hF K hK => rely_wp rfl (opr_ldSt (hT.row rn) rfl hF.1 (hK _ _ (NewT.refl _) rfl))
          · exact fun a wx hT hF K hK => rely_wp rfl (opr_cv (Hq.out ▸ isStep_cv s wx) rfl Tryd.func75 (by kernel_rfl) (by kernel_rfl) (evs1 hF.1) hK)
          · exact fun a wx hT hF K hK => rely_wp rfl (opr_not rfl hF.1 (hK _ _ (NewT.refl _) rfl))
          · intro wy hT2
            iterate 3 (intro u h; obtain rfl := Eq.symm (h (by simp)); clear h)
            refine relyEnd_nil rfl ?_
            refine wpList_end rfl ?_
            simp only [Act.put, List.setIfInBounds_toArray, List.set_cons_zero, List.set_cons_succ]
            go_simp
            have hB2 : Below w.heap.size w wy := qB.trans ((h5.out.mono qB.size).trans ((hNn.out.mono (Nat.le_trans qB.size h5.out.size)).trans (hT2.out.mono (Nat.le_trans qB.size (Nat.le_trans h5.out.size hNn.out.size)))))
            go_wp2
            go_ret
            exact ⟨_, rfl, hB2, by rw [Hno.out Hq.out]; rfl⟩
      · have Hq := Lib.hid hq
        clear hq
        go_upto_region 5 with fail
        refine wp_region_steps0 NewT [SV.eq (.pointer (some ⟨b, o + 2 * k, none⟩)), SV.eq (.agg (rowA 2 (stepF s)))] [([(9, none), (11, none)], none), ([(13, some 0)], none)] 19 2 rfl rfl (by kernel_rfl) NewT.trans (NewT.refl _) (Nat.le_of_ble_eq_true rfl) ⟨?_, ?_, trivial⟩ ?_
        · exact fun a wx hT hF K hK => rely_wp rfl (opr_idxS hlt rfl hF.1 hF.2.1 (hK _ _ (NewT.refl _) rfl))
        · exact fun a wx hT hF K hK => rely_wp rfl (opr_ld2 ((hT.out.cell (World.block_lt_of_cell? _ _ k0)).trans k0) ((hT.out.cell (World.block_lt_of_cell? _ _ k1)).trans k1) rfl hF.1 (hK _ _ (NewT.refl _) rfl))
        · intro w5 h5
          iterate 2 (intro u h; obtain rfl := Eq.symm (h (by simp)); clear h)
          refine relyEnd_nil rfl ?_
          simp only [Act.put, List.setIfInBounds_toArray, List.set_cons_zero, List.set_cons_succ]
          refine wpList_new (n := 2) rfl rfl rfl rfl rfl rfl (by simp) run_alloc_step info_step (stepF_one s) rfl ?_
          intro wn hNn rn
          refine wpList_end rfl ?_
          simp only [Act.put, List.setIfInBounds_toArray, List.set_cons_zero, List.set_cons_succ]
          go_simp
          clear k0 k1
          go_upto_region 6 with fail
          refine wp_region_steps0 NewT [SV.eq (.agg (rowA 2 (stepF s))), SV.eq (.bool true), SV.eq (.bool false)] [([(4, none)], none), ([(15, some 0)], none), ([(16, some 1)], none)] 19 3 rfl rfl (by kernel_rfl) NewT.trans (NewT.refl _) (Nat.le_of_ble_eq_true rfl) ⟨?_, ?_, ?_, trivial⟩ ?_
          · exact fun a wx hT hF K hK => rely_wp rfl (opr_ldSt (hT.row rn) rfl hF.1 (hK _ _ (NewT.refl _) rfl))
          · exact fun a wx hT hF K hK => rely_wp rfl (opr_cv (Hq.out ▸ isStep_cv s wx) rfl Tryd.func75 (by kernel_rfl) (by kernel_rfl) (evs1 hF.1) hK)
          · exact fun a wx hT hF K hK => rely_wp rfl (opr_not rfl hF.1 (hK _ _ (NewT.refl _) rfl))
          · intro wy hT2
            iterate 3 (intro u h; obtain rfl := Eq.symm (h (by simp)); clear h)
            refine relyEnd_nil rfl ?_
            refine wpList_end rfl ?_
            simp only [Act.put, List.setIfInBounds_toArray, List.set_cons_zero, List.set_cons_succ]
            go_simp
            have hB2 : Below w.heap.size w wy := qB.trans ((h5.out.mono qB.size).trans ((hNn.out.mono (Nat.le_trans qB.size h5.out.size)).trans (hT2.out.mono (Nat.le_trans qB.size (Nat.le_trans h5.out.size hNn.out.size)))))
            go_wp2
            go_roundw
            case rel => exact ⟨k + 1, by omega, by go_num, Lib.hid (by rw [Hal.out, Hs.out, Hq.out]; rfl), hB2⟩
            case measure => simp [intOf]; omega
    · obtain rfl : k = n := by omega
      go_wp2
      go_ret
      exact ⟨_, rfl, qB, by have := Hs.out; rw [← Hn.out, List.take_length] at this; rw [this]; rfl⟩
end Go.Proofs.YtcfogkimjbgjgaaDoor
/- The reference's Bytes, at whatever lists. -/
namespace Go.Proofs.YtcfogkimjbgjgaaDoor
open Go Go.RowKit
set_option maxRecDepth 8000
set_option linter.all false
theorem rd_cells {W : World} {A : Option Addr} {n c : Nat} {l : List UInt8} (h : RdV W [] (.slice A n c) l) : l.length = n ∧ ∀ i, i < n → ∃ b o, A = some ⟨b, o, none⟩ ∧ ∀ j, j < n → W.cell? ⟨b, o + j, none⟩ = some (.int .u8 (bN (bAt l j))) := by
  obtain ⟨A', c', hv, _, _, hc⟩ := h
  cases hv
  refine ⟨rfl, fun i hi => ?_⟩
  obtain ⟨b, o, h1, _, h2⟩ := hc (by omega)
  exact ⟨b, o, h1, h2⟩
/-- The same up to a place. -/
def sameTo (l m : List UInt8) (k : Nat) : Prop := ∀ i, i < k → bAt l i = bAt m i
theorem eq_of_sameTo {l m : List UInt8} (hl : l.length = m.length) (h : sameTo l m l.length) : l = m := by
  apply List.ext_getElem hl
  intro i h1 h2
  have := h i h1
  simpa [bAt, h1, h2] using this
end Go.Proofs.YtcfogkimjbgjgaaDoor
/- Slices compared and cloned. -/
namespace Go.Proofs.YtcfogkimjbgjgaaDoor
open Go Go.RowKit
set_option maxRecDepth 8000
set_option linter.all false
theorem strEq2 (l m : List UInt8) : (l == m) = decide (l = m) := by
  by_cases h : l = m
  · subst h; simp
  · simp [h]
set_option maxHeartbeats 400000 in
theorem BEqual_cv (v1 v2 : Value) (l m : List UInt8) (w : World) (h1 : RdV w [] v1 l) (h2 : RdV w [] v2 m) : Cv 67 #[v1, v2] w (.eq (.bool (decide (l = m)))) := by
  unfold Cv
  have k1 := conv_rd h1
  have k2 := conv_rd h2
  clear h1 h2
  rw [← strEq2]
  go_enter Tryd.func67, Tryd.ntmps67
  go_wp2
  go_ret
  exact ⟨_, rfl, NewT.refl _, rfl⟩
theorem pairs_ext {l m : List (Int × Int)} {n : Nat} (hl : l.length = n) (hm : m.length = n) (h : ∀ i, i < n → l.getD i (0, 0) = m.getD i (0, 0)) : l = m := by
  apply List.ext_getElem (by omega)
  intro i h1 h2
  have := h i (by omega)
  simpa [List.getD, h1, h2] using this
set_option maxHeartbeats 1000000 in
theorem SlEq_cv (v1 v2 : Value) (l m : List (Int × Int)) (w : World) (h1 : RdP w v1 l) (h2 : RdP w v2 m) : Cv 66 #[v1, v2] w (.eq (.bool (decide (l = m)))) := by
  unfold Cv
  obtain ⟨A1, c1, rfl, p1, p2, p3⟩ := h1
  obtain ⟨A2, c2, rfl, q1, q2, q3⟩ := h2
  unfold maxLen at p2 q2
  by_cases hne : l.length = m.length
  rotate_left
  · have hd : decide (l = m) = false := decide_eq_false fun h => hne (by rw [h])
    have ht : ((l.length : Int) != (m.length : Int)) = true := by simp; omega
    rw [hd]
    clear p3 q3 hd
    generalize l.length = n1 at *
    generalize m.length = n2 at *
    go_enter Tryd.func66, Tryd.ntmps66
    go_wp2
    go_ret
    exact ⟨_, rfl, NewT.refl _, rfl⟩
  have P3 := Lib.hid p3
  have Q3 := Lib.hid q3
  clear p3 q3
  generalize hn : l.length = n at *
  rw [← hne] at q1 Q3 ⊢
  have Hn := Lib.hid hn
  have Hm := Lib.hid hne
  clear hn hne
  go_enter Tryd.func66, Tryd.ntmps66
  go_wp2
  go_loopw [13] (fun i wr => ∃ k : Nat, k ≤ n ∧ i = .int .i64 k ∧ Hid (∀ i, i < k → l.getD i (0, 0) = m.getD i (0, 0)) ∧ Below w.heap.size w wr) (fun i _ => n - (intOf i).toNat)
  case atStart => exact ⟨0, by omega, rfl, Lib.hid (fun i hi => by omega), Below.refl _ _⟩
  case round =>
    obtain ⟨k, hk, rfl, Hs, qB⟩ := hrel
    by_cases hlt : k < n
    · obtain ⟨b1, o1, rfl, hc1⟩ := P3.out (by omega)
      obtain ⟨b2, o2, rfl, hc2⟩ := Q3.out (by omega)
      obtain ⟨j0, j1⟩ := hc1 k hlt
      obtain ⟨i0, i1⟩ := hc2 k hlt
      have k0 := (qB.cell (p := ⟨b1, o1 + 2 * k, none⟩) (World.block_lt_of_cell? _ _ j0)).trans j0
      have k1 := (qB.cell (p := ⟨b1, o1 + 2 * k + 1, none⟩) (World.block_lt_of_cell? _ _ j1)).trans j1
      have e0 := (qB.cell (p := ⟨b2, o2 + 2 * k, none⟩) (World.block_lt_of_cell? _ _ i0)).trans i0
      have e1 := (qB.cell (p := ⟨b2, o2 + 2 * k + 1, none⟩) (World.block_lt_of_cell? _ _ i1)).trans i1
      have Hno : Hid (l.getD k (0, 0) ≠ m.getD k (0, 0) → l ≠ m) := Lib.hid (fun h e => h (by rw [e]))
      have Hnx : Hid (l.getD k (0, 0) = m.getD k (0, 0) → ∀ i, i < k + 1 → l.getD i (0, 0) = m.getD i (0, 0)) := Lib.hid (fun h i hi => by
        rcases Nat.lt_succ_iff_lt_or_eq.1 hi with h1 | rfl
        · exact Hs.out i h1
        · exact h)
      clear hc1 hc2 j0 j1 i0 i1
      generalize l.getD k (0, 0) = s at k0 k1 Hno Hnx
      generalize m.getD k (0, 0) = t at e0 e1 Hno Hnx
      have it : (k : Int) < (n : Int) := by omega
      by_cases hq : s = t
      · go_upto_region 6 with fail
        generalize wr = W6 at *
        refine wp_region_rely (NewT) [SV.eq (.slice (some ⟨b1, o1, none⟩) n c1), SV.eq (.int .i64 ((k : Int))), SV.eq (.pointer (some ⟨b1, o1 + 2 * k, none⟩)), SV.eq (.agg (rowA 2 (stepF s))), SV.eq (.slice (some ⟨b2, o2, none⟩) n c2), SV.eq (.int .i64 ((k : Int))), SV.eq (.pointer (some ⟨b2, o2 + 2 * k, none⟩)), SV.eq (.agg (rowA 2 (stepF t)))] [([(0, none)], none), ([(5, none)], none), ([(16, some 0), (17, some 1)], none), ([(18, some 2)], none), ([(1, none)], none), ([(5, none)], none), ([(20, some 4), (21, some 5)], none), ([(22, some 6)], none)] 26 rfl (by kernel_rfl) rfl (by kernel_rfl) (by kernel_rfl) rfl NewT.trans (NewT.drew _) (Nat.le_of_ble_eq_true rfl) ⟨?_, ?_, ?_, ?_, ?_, ?_, ?_, ?_, trivial⟩ ?_
        · exact fun a wx hT hF K hK => rely_wp rfl (opr_move (.inl rfl) (hK _ _ (NewT.refl _) hF.1))
        · exact fun a wx hT hF K hK => rely_wp rfl (opr_move (.inl rfl) (hK _ _ (NewT.refl _) hF.1))
        · exact fun a wx hT hF K hK => rely_wp rfl (opr_idxS hlt rfl hF.1 hF.2.1 (hK _ _ (NewT.refl _) rfl))
        · exact fun a wx hT hF K hK => rely_wp rfl (opr_ld2 ((hT.out.cell (World.block_lt_of_cell? _ _ k0)).trans k0) ((hT.out.cell (World.block_lt_of_cell? _ _ k1)).trans k1) rfl hF.1 (hK _ _ (NewT.refl _) rfl))
        · exact fun a wx hT hF K hK => rely_wp rfl (opr_move (.inl rfl) (hK _ _ (NewT.refl _) hF.1))
        · exact fun a wx hT hF K hK => rely_wp rfl (opr_move (.inl rfl) (hK _ _ (NewT.refl _) hF.1))
        · exact fun a wx hT hF K hK => rely_wp rfl (opr_idxS hlt rfl hF.1 hF.2.1 (hK _ _ (NewT.refl _) rfl))
        · exact fun a wx hT hF K hK => rely_wp rfl (opr_ld2 ((hT.out.cell (World.block_lt_of_cell? _ _ e0)).trans e0) ((hT.out.cell (World.block_lt_of_cell? _ _ e1)).trans e1) rfl hF.1 (hK _ _ (NewT.refl _) rfl))
        · intro wy hT2
          iterate 8 (intro u h; obtain rfl := Eq.symm (h (by simp)); clear h)
          refine relyEnd_nil rfl ?_
          simp only [Act.put, List.setIfInBounds_toArray, List.set_cons_zero, List.set_cons_succ]
          refine opr_neqS (b := false) (by simp [hq]) rfl rfl rfl ?_
          go_simp
          go_wp2
          go_roundw
          case rel => exact ⟨k + 1, by omega, by go_num, Lib.hid (Hnx.out hq), qB.trans (hT2.out.mono qB.size)⟩
          case measure => simp [intOf]; omega
      · go_upto_region 6 with fail
        generalize wr = W6 at *
        refine wp_region_rely (NewT) [SV.eq (.slice (some ⟨b1, o1, none⟩) n c1), SV.eq (.int .i64 ((k : Int))), SV.eq (.pointer (some ⟨b1, o1 + 2 * k, none⟩)), SV.eq (.agg (rowA 2 (stepF s))), SV.eq (.slice (some ⟨b2, o2, none⟩) n c2), SV.eq (.int .i64 ((k : Int))), SV.eq (.pointer (some ⟨b2, o2 + 2 * k, none⟩)), SV.eq (.agg (rowA 2 (stepF t)))] [([(0, none)], none), ([(5, none)], none), ([(16, some 0), (17, some 1)], none), ([(18, some 2)], none), ([(1, none)], none), ([(5, none)], none), ([(20, some 4), (21, some 5)], none), ([(22, some 6)], none)] 26 rfl (by kernel_rfl) rfl (by kernel_rfl) (by kernel_rfl) rfl NewT.trans (NewT.drew _) (Nat.le_of_ble_eq_true rfl) ⟨?_, ?_, ?_, ?_, ?_, ?_, ?_, ?_, trivial⟩ ?_
        · exact fun a wx hT hF K hK => rely_wp rfl (opr_move (.inl rfl) (hK _ _ (NewT.refl _) hF.1))
        · exact fun a wx hT hF K hK => rely_wp rfl (opr_move (.inl rfl) (hK _ _ (NewT.refl _) hF.1))
        · exact fun a wx hT hF K hK => rely_wp rfl (opr_idxS hlt rfl hF.1 hF.2.1 (hK _ _ (NewT.refl _) rfl))
        · exact fun a wx hT hF K hK => rely_wp rfl (opr_ld2 ((hT.out.cell (World.block_lt_of_cell? _ _ k0)).trans k0) ((hT.out.cell (World.block_lt_of_cell? _ _ k1)).trans k1) rfl hF.1 (hK _ _ (NewT.refl _) rfl))
        · exact fun a wx hT hF K hK => rely_wp rfl (opr_move (.inl rfl) (hK _ _ (NewT.refl _) hF.1))
        · exact fun a wx hT hF K hK => rely_wp rfl (opr_move (.inl rfl) (hK _ _ (NewT.refl _) hF.1))
        · exact fun a wx hT hF K hK => rely_wp rfl (opr_idxS hlt rfl hF.1 hF.2.1 (hK _ _ (NewT.refl _) rfl))
        · exact fun a wx hT hF K hK => rely_wp rfl (opr_ld2 ((hT.out.cell (World.block_lt_of_cell? _ _ e0)).trans e0) ((hT.out.cell (World.block_lt_of_cell? _ _ e1)).trans e1) rfl hF.1 (hK _ _ (NewT.refl _) rfl))
        · intro wy hT2
          iterate 8 (intro u h; obtain rfl := Eq.symm (h (by simp)); clear h)
          refine relyEnd_nil rfl ?_
          simp only [Act.put, List.setIfInBounds_toArray, List.set_cons_zero, List.set_cons_succ]
          refine opr_neqS (b := true) (by simp [hq]) rfl rfl rfl ?_
          go_simp
          go_wp2
          go_ret
          exact ⟨_, rfl, qB.trans (hT2.out.mono qB.size), by rw [decide_eq_false (Hno.out hq)]; rfl⟩
    · obtain rfl : k = n := by omega
      go_wp2
      go_ret
      exact ⟨_, rfl, qB, by rw [decide_eq_true (pairs_ext Hn.out Hm.out.symm Hs.out)]; rfl⟩
end Go.Proofs.YtcfogkimjbgjgaaDoor
/- Package rec: Same; the reference's Same. -/
namespace Go.Proofs.YtcfogkimjbgjgaaDoor
open Go Go.RowKit
set_option maxRecDepth 8000
set_option linter.all false
set_option maxHeartbeats 2000000 in
theorem Same_cv (v1 v2 : Value) (x y : Rc) (w : World) (h1 : RecV w v1 x) (h2 : RecV w v2 y) : Cv 48 #[v1, v2] w (.eq (.bool (sameB x y))) := by
  obtain ⟨sv, dv, rfl, hs, hd⟩ := h1
  obtain ⟨su, du, rfl, hu, he⟩ := h2
  unfold Cv
  go_enter Tryd.func48, Tryd.ntmps48
  go_upto_region 1 with fail
  have r1 := (rowIs_box w 30 109 (recF x sv dv)).alloc (.cells (rowA 109 (recF y su du)) 30)
  have r2 := rowIs_box (w.alloc (.cells (rowA 109 (recF x sv dv)) 30)) 30 109 (recF y su du)
  have hN : NewT w ((w.alloc (.cells (rowA 109 (recF x sv dv)) 30)).alloc (.cells (rowA 109 (recF y su du)) 30)) := NewT.trans _ _ _ (NewT.alloc _ _) (NewT.alloc _ _)
  rw [World.size_alloc] at r2
  change Code.wp _ _ _ _ ((w.alloc (.cells (rowA 109 (recF x sv dv)) 30)).alloc (.cells (rowA 109 (recF y su du)) 30))
  generalize (w.alloc (.cells (rowA 109 (recF x sv dv)) 30)).alloc (.cells (rowA 109 (recF y su du)) 30) = W0 at r1 r2 hN ⊢
  have HS := Lib.hid (hN.pairs hs)
  have HD := Lib.hid (hN.rd hd)
  have HU := Lib.hid (hN.pairs hu)
  have HE := Lib.hid (hN.rd he)
  have R1 := Lib.hid r1
  have R2 := Lib.hid r2
  have HN := Lib.hid hN
  clear hs hd hu he r1 r2 hN
  obtain ⟨q1_1, Q1_1⟩ : ∃ bq_, ((x.kind == y.kind) && (x.saga == y.saga)) = bq_ := ⟨_, rfl⟩
  obtain ⟨q2_1, Q2_1⟩ : ∃ bq_, ((q1_1 && (x.seq == y.seq)) && (x.step == y.step)) = bq_ := ⟨_, rfl⟩
  obtain ⟨q3_1, Q3_1⟩ : ∃ bq_, ((q2_1 && (x.tr == y.tr)) && (x.back == y.back)) = bq_ := ⟨_, rfl⟩
  obtain ⟨q4_1, Q4_1⟩ : ∃ bq_, ((q3_1 && (x.good == y.good)) && (x.nd == y.nd)) = bq_ := ⟨_, rfl⟩
  obtain ⟨q5_1, Q5_1⟩ : ∃ bq_, ((q4_1 && (x.part == y.part)) && (x.epoch == y.epoch)) = bq_ := ⟨_, rfl⟩
  obtain ⟨q6_1, Q6_1⟩ : ∃ bq_, ((q5_1 && (eqH (x.tag) (y.tag))) && (decide (x.steps = y.steps))) = bq_ := ⟨_, rfl⟩
  obtain ⟨q7_1, Q7_1⟩ : ∃ bq_, (q6_1 && (decide (x.data = y.data))) = bq_ := ⟨_, rfl⟩
  obtain ⟨q8_1, Q8_1⟩ : ∃ bq_, (q7_1 && (eqH (x.salt) (y.salt))) = bq_ := ⟨_, rfl⟩
  obtain ⟨q9_1, Q9_1⟩ : ∃ bq_, ((q8_1 && (x.gone == y.gone)) && (eqH (x.com) (y.com))) = bq_ := ⟨_, rfl⟩
  refine wp_region_steps0 NewT [SV.eq (.pointer (some ⟨w.heap.size, 0, none⟩)), SV.eq (.int .i64 (x.kind)), SV.eq (.pointer (some ⟨w.heap.size + 1, 0, none⟩)), SV.eq (.int .i64 (y.kind)), SV.eq (.bool (x.kind == y.kind)), SV.eq (.bool (x.kind == y.kind)), svIf (x.kind == y.kind) (SV.eq (.pointer (some ⟨w.heap.size, 1, none⟩))), svIf (x.kind == y.kind) (SV.eq (.int .i64 (x.saga))), svIf (x.kind == y.kind) (SV.eq (.pointer (some ⟨w.heap.size + 1, 1, none⟩))), svIf (x.kind == y.kind) (SV.eq (.int .i64 (y.saga))), svIf (x.kind == y.kind) (SV.eq (.bool (x.saga == y.saga))), SV.eq (.bool (q1_1)), SV.eq (.bool (q1_1)), svIf q1_1 (SV.eq (.pointer (some ⟨w.heap.size, 2, none⟩))), svIf q1_1 (SV.eq (.int .i64 (x.seq))), svIf q1_1 (SV.eq (.pointer (some ⟨w.heap.size + 1, 2, none⟩))), svIf q1_1 (SV.eq (.int .i64 (y.seq))), svIf q1_1 (SV.eq (.bool (x.seq == y.seq))), SV.eq (.bool (q1_1 && (x.seq == y.seq))), SV.eq (.bool (q1_1 && (x.seq == y.seq))), svIf (q1_1 && (x.seq == y.seq)) (SV.eq (.pointer (some ⟨w.heap.size, 3, none⟩))), svIf (q1_1 && (x.seq == y.seq)) (SV.eq (.int .i64 (x.step))), svIf (q1_1 && (x.seq == y.seq)) (SV.eq (.pointer (some ⟨w.heap.size + 1, 3, none⟩))), svIf (q1_1 && (x.seq == y.seq)) (SV.eq (.int .i64 (y.step))), svIf (q1_1 && (x.seq == y.seq)) (SV.eq (.bool (x.step == y.step))), SV.eq (.bool (q2_1)), SV.eq (.bool (q2_1)), svIf q2_1 (SV.eq (.pointer (some ⟨w.heap.size, 4, none⟩))), svIf q2_1 (SV.eq (.int .i64 (x.tr))), svIf q2_1 (SV.eq (.pointer (some ⟨w.heap.size + 1, 4, none⟩))), svIf q2_1 (SV.eq (.int .i64 (y.tr))), svIf q2_1 (SV.eq (.bool (x.tr == y.tr))), SV.eq (.bool (q2_1 && (x.tr == y.tr))), SV.eq (.bool (q2_1 && (x.tr == y.tr))), svIf (q2_1 && (x.tr == y.tr)) (SV.eq (.pointer (some ⟨w.heap.size, 5, none⟩))), svIf (q2_1 && (x.tr == y.tr)) (SV.eq (.bool (x.back))), svIf (q2_1 && (x.tr == y.tr)) (SV.eq (.pointer (some ⟨w.heap.size + 1, 5, none⟩))), svIf (q2_1 && (x.tr == y.tr)) (SV.eq (.bool (y.back))), svIf (q2_1 && (x.tr == y.tr)) (SV.eq (.bool (x.back == y.back))), SV.eq (.bool (q3_1)), SV.eq (.bool (q3_1)), svIf q3_1 (SV.eq (.pointer (some ⟨w.heap.size, 6, none⟩))), svIf q3_1 (SV.eq (.bool (x.good))), svIf q3_1 (SV.eq (.pointer (some ⟨w.heap.size + 1, 6, none⟩))), svIf q3_1 (SV.eq (.bool (y.good))), svIf q3_1 (SV.eq (.bool (x.good == y.good))), SV.eq (.bool (q3_1 && (x.good == y.good))), SV.eq (.bool (q3_1 && (x.good == y.good))), svIf (q3_1 && (x.good == y.good)) (SV.eq (.pointer (some ⟨w.heap.size, 7, none⟩))), svIf (q3_1 && (x.good == y.good)) (SV.eq (.int .i64 (x.nd))), svIf (q3_1 && (x.good == y.good)) (SV.eq (.pointer (some ⟨w.heap.size + 1, 7, none⟩))), svIf (q3_1 && (x.good == y.good)) (SV.eq (.int .i64 (y.nd))), svIf (q3_1 && (x.good == y.good)) (SV.eq (.bool (x.nd == y.nd))), SV.eq (.bool (q4_1)), SV.eq (.bool (q4_1)), svIf q4_1 (SV.eq (.pointer (some ⟨w.heap.size, 8, none⟩))), svIf q4_1 (SV.eq (.int .i64 (x.part))), svIf q4_1 (SV.eq (.pointer (some ⟨w.heap.size + 1, 8, none⟩))), svIf q4_1 (SV.eq (.int .i64 (y.part))), svIf q4_1 (SV.eq (.bool (x.part == y.part))), SV.eq (.bool (q4_1 && (x.part == y.part))), SV.eq (.bool (q4_1 && (x.part == y.part))), svIf (q4_1 && (x.part == y.part)) (SV.eq (.pointer (some ⟨w.heap.size, 9, none⟩))), svIf (q4_1 && (x.part == y.part)) (SV.eq (.int .i64 (x.epoch))), svIf (q4_1 && (x.part == y.part)) (SV.eq (.pointer (some ⟨w.heap.size + 1, 9, none⟩))), svIf (q4_1 && (x.part == y.part)) (SV.eq (.int .i64 (y.epoch))), svIf (q4_1 && (x.part == y.part)) (SV.eq (.bool (x.epoch == y.epoch))), SV.eq (.bool (q5_1)), SV.eq (.bool (q5_1)), svIf q5_1 (SV.eq (.pointer (some ⟨w.heap.size, 10, none⟩))), svIf q5_1 (SV.eq (.agg (rowA 32 (bF (x.tag))))), svIf q5_1 (SV.eq (.pointer (some ⟨w.heap.size + 1, 10, none⟩))), svIf q5_1 (SV.eq (.agg (rowA 32 (bF (y.tag))))), svIf q5_1 (SV.eq (.bool (eqH (x.tag) (y.tag)))), SV.eq (.bool (q5_1 && (eqH (x.tag) (y.tag)))), SV.eq (.bool (q5_1 && (eqH (x.tag) (y.tag)))), svIf (q5_1 && (eqH (x.tag) (y.tag))) (SV.eq (.pointer (some ⟨w.heap.size, 42, none⟩))), svIf (q5_1 && (eqH (x.tag) (y.tag))) (SV.eq (sv)), svIf (q5_1 && (eqH (x.tag) (y.tag))) (SV.eq (.pointer (some ⟨w.heap.size + 1, 42, none⟩))), svIf (q5_1 && (eqH (x.tag) (y.tag))) (SV.eq (su)), svIf (q5_1 && (eqH (x.tag) (y.tag))) (SV.eq (.bool (decide (x.steps = y.steps)))), SV.eq (.bool (q6_1)), SV.eq (.bool (q6_1)), svIf q6_1 (SV.eq (.pointer (some ⟨w.heap.size, 43, none⟩))), svIf q6_1 (SV.eq (dv)), svIf q6_1 (SV.eq (.pointer (some ⟨w.heap.size + 1, 43, none⟩))), svIf q6_1 (SV.eq (du)), svIf q6_1 (SV.eq (.bool (decide (x.data = y.data)))), SV.eq (.bool (q7_1)), SV.eq (.bool (q7_1)), svIf q7_1 (SV.eq (.pointer (some ⟨w.heap.size, 44, none⟩))), svIf q7_1 (SV.eq (.agg (rowA 32 (bF (x.salt))))), svIf q7_1 (SV.eq (.pointer (some ⟨w.heap.size + 1, 44, none⟩))), svIf q7_1 (SV.eq (.agg (rowA 32 (bF (y.salt))))), svIf q7_1 (SV.eq (.bool (eqH (x.salt) (y.salt)))), SV.eq (.bool (q8_1)), SV.eq (.bool (q8_1)), svIf q8_1 (SV.eq (.pointer (some ⟨w.heap.size, 76, none⟩))), svIf q8_1 (SV.eq (.bool (x.gone))), svIf q8_1 (SV.eq (.pointer (some ⟨w.heap.size + 1, 76, none⟩))), svIf q8_1 (SV.eq (.bool (y.gone))), svIf q8_1 (SV.eq (.bool (x.gone == y.gone))), SV.eq (.bool (q8_1 && (x.gone == y.gone))), SV.eq (.bool (q8_1 && (x.gone == y.gone))), svIf (q8_1 && (x.gone == y.gone)) (SV.eq (.pointer (some ⟨w.heap.size, 77, none⟩))), svIf (q8_1 && (x.gone == y.gone)) (SV.eq (.agg (rowA 32 (bF (x.com))))), svIf (q8_1 && (x.gone == y.gone)) (SV.eq (.pointer (some ⟨w.heap.size + 1, 77, none⟩))), svIf (q8_1 && (x.gone == y.gone)) (SV.eq (.agg (rowA 32 (bF (y.com))))), svIf (q8_1 && (x.gone == y.gone)) (SV.eq (.bool (eqH (x.com) (y.com)))), SV.eq (.bool (q9_1))] [([(2, none)], none), ([(5, some 0)], none), ([(3, none)], none), ([(7, some 2)], none), ([(6, some 1), (8, some 3)], none), ([(9, some 4)], none), ([(2, none), (10, some 5)], some (10, true)), ([(11, some 6), (10, some 5)], some (10, true)), ([(3, none), (10, some 5)], some (10, true)), ([(13, some 8), (10, some 5)], some (10, true)), ([(12, some 7), (14, some 9), (10, some 5)], some (10, true)), ([(10, some 5), (15, some 10)], none), ([(16, some 11)], none), ([(2, none), (17, some 12)], some (17, true)), ([(18, some 13), (17, some 12)], some (17, true)), ([(3, none), (17, some 12)], some (17, true)), ([(20, some 15), (17, some 12)], some (17, true)), ([(19, some 14), (21, some 16), (17, some 12)], some (17, true)), ([(17, some 12), (22, some 17)], none), ([(23, some 18)], none), ([(2, none), (24, some 19)], some (24, true)), ([(25, some 20), (24, some 19)], some (24, true)), ([(3, none), (24, some 19)], some (24, true)), ([(27, some 22), (24, some 19)], some (24, true)), ([(26, some 21), (28, some 23), (24, some 19)], some (24, true)), ([(24, some 19), (29, some 24)], none), ([(30, some 25)], none), ([(2, none), (31, some 26)], some (31, true)), ([(32, some 27), (31, some 26)], some (31, true)), ([(3, none), (31, some 26)], some (31, true)), ([(34, some 29), (31, some 26)], some (31, true)), ([(33, some 28), (35, some 30), (31, some 26)], some (31, true)), ([(31, some 26), (36, some 31)], none), ([(37, some 32)], none), ([(2, none), (38, some 33)], some (38, true)), ([(39, some 34), (38, some 33)], some (38, true)), ([(3, none), (38, some 33)], some (38, true)), ([(41, some 36), (38, some 33)], some (38, true)), ([(40, some 35), (42, some 37), (38, some 33)], some (38, true)), ([(38, some 33), (43, some 38)], none), ([(44, some 39)], none), ([(2, none), (45, some 40)], some (45, true)), ([(46, some 41), (45, some 40)], some (45, true)), ([(3, none), (45, some 40)], some (45, true)), ([(48, some 43), (45, some 40)], some (45, true)), ([(47, some 42), (49, some 44), (45, some 40)], some (45, true)), ([(45, some 40), (50, some 45)], none), ([(51, some 46)], none), ([(2, none), (52, some 47)], some (52, true)), ([(53, some 48), (52, some 47)], some (52, true)), ([(3, none), (52, some 47)], some (52, true)), ([(55, some 50), (52, some 47)], some (52, true)), ([(54, some 49), (56, some 51), (52, some 47)], some (52, true)), ([(52, some 47), (57, some 52)], none), ([(58, some 53)], none), ([(2, none), (59, some 54)], some (59, true)), ([(60, some 55), (59, some 54)], some (59, true)), ([(3, none), (59, some 54)], some (59, true)), ([(62, some 57), (59, some 54)], some (59, true)), ([(61, some 56), (63, some 58), (59, some 54)], some (59, true)), ([(59, some 54), (64, some 59)], none), ([(65, some 60)], none), ([(2, none), (66, some 61)], some (66, true)), ([(67, some 62), (66, some 61)], some (66, true)), ([(3, none), (66, some 61)], some (66, true)), ([(69, some 64), (66, some 61)], some (66, true)), ([(68, some 63), (70, some 65), (66, some 61)], some (66, true)), ([(66, some 61), (71, some 66)], none), ([(72, some 67)], none), ([(2, none), (73, some 68)], some (73, true)), ([(74, some 69), (73, some 68)], some (73, true)), ([(3, none), (73, some 68)], some (73, true)), ([(76, some 71), (73, some 68)], some (73, true)), ([(75, some 70), (77, some 72), (73, some 68)], some (73, true)), ([(73, some 68), (78, some 73)], none), ([(79, some 74)], none), ([(2, none), (80, some 75)], some (80, true)), ([(81, some 76), (80, some 75)], some (80, true)), ([(3, none), (80, some 75)], some (80, true)), ([(83, some 78), (80, some 75)], some (80, true)), ([(82, some 77), (84, some 79), (80, some 75)], some (80, true)), ([(80, some 75), (85, some 80)], none), ([(86, some 81)], none), ([(2, none), (87, some 82)], some (87, true)), ([(88, some 83), (87, some 82)], some (87, true)), ([(3, none), (87, some 82)], some (87, true)), ([(90, some 85), (87, some 82)], some (87, true)), ([(89, some 84), (91, some 86), (87, some 82)], some (87, true)), ([(87, some 82), (92, some 87)], none), ([(93, some 88)], none), ([(2, none), (94, some 89)], some (94, true)), ([(95, some 90), (94, some 89)], some (94, true)), ([(3, none), (94, some 89)], some (94, true)), ([(97, some 92), (94, some 89)], some (94, true)), ([(96, some 91), (98, some 93), (94, some 89)], some (94, true)), ([(94, some 89), (99, some 94)], none), ([(100, some 95)], none), ([(2, none), (101, some 96)], some (101, true)), ([(102, some 97), (101, some 96)], some (101, true)), ([(3, none), (101, some 96)], some (101, true)), ([(104, some 99), (101, some 96)], some (101, true)), ([(103, some 98), (105, some 100), (101, some 96)], some (101, true)), ([(101, some 96), (106, some 101)], none), ([(107, some 102)], none), ([(2, none), (108, some 103)], some (108, true)), ([(109, some 104), (108, some 103)], some (108, true)), ([(3, none), (108, some 103)], some (108, true)), ([(111, some 106), (108, some 103)], some (108, true)), ([(110, some 105), (112, some 107), (108, some 103)], some (108, true)), ([(108, some 103), (113, some 108)], none)] 115 110 rfl rfl (by kernel_rfl) NewT.trans (NewT.refl _) (Nat.le_of_ble_eq_true rfl) ⟨?_, ?_, ?_, ?_, ?_, ?_, ?_, ?_, ?_, ?_, ?_, ?_, ?_, ?_, ?_, ?_, ?_, ?_, ?_, ?_, ?_, ?_, ?_, ?_, ?_, ?_, ?_, ?_, ?_, ?_, ?_, ?_, ?_, ?_, ?_, ?_, ?_, ?_, ?_, ?_, ?_, ?_, ?_, ?_, ?_, ?_, ?_, ?_, ?_, ?_, ?_, ?_, ?_, ?_, ?_, ?_, ?_, ?_, ?_, ?_, ?_, ?_, ?_, ?_, ?_, ?_, ?_, ?_, ?_, ?_, ?_, ?_, ?_, ?_, ?_, ?_, ?_, ?_, ?_, ?_, ?_, ?_, ?_, ?_, ?_, ?_, ?_, ?_, ?_, ?_, ?_, ?_, ?_, ?_, ?_, ?_, ?_, ?_, ?_, ?_, ?_, ?_, ?_, ?_, ?_, ?_, ?_, ?_, ?_, ?_, trivial⟩ ?_
  · exact fun a wx hT hF K hK => rely_wp rfl (opr_fldR (by decide) rfl hF.1 (hK _ _ (NewT.refl _) rfl))
  · exact fun a wx hT hF K hK => rely_wp rfl (opr_ldI (hT.row R1.out) (by decide) rfl rfl hF.1 (hK _ _ (NewT.refl _) rfl))
  · exact fun a wx hT hF K hK => rely_wp rfl (opr_fldR (by decide) rfl hF.1 (hK _ _ (NewT.refl _) rfl))
  · exact fun a wx hT hF K hK => rely_wp rfl (opr_ldI (hT.row R2.out) (by decide) rfl rfl hF.1 (hK _ _ (NewT.refl _) rfl))
  · exact fun a wx hT hF K hK => rely_wp rfl (opr_cmp (b := x.kind == y.kind) (.inl ⟨rfl, rfl⟩) Tryd.underlying3 rfl hF.1 hF.2.1 (hK _ _ (NewT.refl _) rfl))
  · exact fun a wx hT hF K hK => rely_wp rfl (opr_move (.inl rfl) (hK _ _ (NewT.refl _) hF.1))
  · exact fun a wx hT hF K hK => rely_if (rely_gt hF.2.1) (NewT.refl _) hK fun hE hK => opr_fldR (by decide) rfl hF.1 (hK _ _ (NewT.refl _) rfl)
  · exact fun a wx hT hF K hK => rely_if (rely_gt hF.2.1) (NewT.refl _) hK fun hE hK => opr_ldI (hT.row R1.out) (by decide) rfl rfl (hF.1 hE) (hK _ _ (NewT.refl _) rfl)
  · exact fun a wx hT hF K hK => rely_if (rely_gt hF.2.1) (NewT.refl _) hK fun hE hK => opr_fldR (by decide) rfl hF.1 (hK _ _ (NewT.refl _) rfl)
  · exact fun a wx hT hF K hK => rely_if (rely_gt hF.2.1) (NewT.refl _) hK fun hE hK => opr_ldI (hT.row R2.out) (by decide) rfl rfl (hF.1 hE) (hK _ _ (NewT.refl _) rfl)
  · exact fun a wx hT hF K hK => rely_if (rely_gt hF.2.2.1) (NewT.refl _) hK fun hE hK => opr_cmp (b := x.saga == y.saga) (.inl ⟨rfl, rfl⟩) Tryd.underlying3 rfl (hF.1 hE) (hF.2.1 hE) (hK _ _ (NewT.refl _) rfl)
  · exact fun a wx hT hF K hK => rely_wp rfl (opr_pick_b rfl hF.1 (fun hb => hK _ _ (NewT.refl _) (pn_and1 Q1_1 (hF.2.1 hb) hb)) (fun hb => hK _ _ (NewT.refl _) (pn_and0 Q1_1 hb)))
  · exact fun a wx hT hF K hK => rely_wp rfl (opr_move (.inl rfl) (hK _ _ (NewT.refl _) hF.1))
  · exact fun a wx hT hF K hK => rely_if (rely_gt hF.2.1) (NewT.refl _) hK fun hE hK => opr_fldR (by decide) rfl hF.1 (hK _ _ (NewT.refl _) rfl)
  · exact fun a wx hT hF K hK => rely_if (rely_gt hF.2.1) (NewT.refl _) hK fun hE hK => opr_ldI (hT.row R1.out) (by decide) rfl rfl (hF.1 hE) (hK _ _ (NewT.refl _) rfl)
  · exact fun a wx hT hF K hK => rely_if (rely_gt hF.2.1) (NewT.refl _) hK fun hE hK => opr_fldR (by decide) rfl hF.1 (hK _ _ (NewT.refl _) rfl)
  · exact fun a wx hT hF K hK => rely_if (rely_gt hF.2.1) (NewT.refl _) hK fun hE hK => opr_ldI (hT.row R2.out) (by decide) rfl rfl (hF.1 hE) (hK _ _ (NewT.refl _) rfl)
  · exact fun a wx hT hF K hK => rely_if (rely_gt hF.2.2.1) (NewT.refl _) hK fun hE hK => opr_cmp (b := x.seq == y.seq) (.inl ⟨rfl, rfl⟩) Tryd.underlying3 rfl (hF.1 hE) (hF.2.1 hE) (hK _ _ (NewT.refl _) rfl)
  · exact fun a wx hT hF K hK => rely_wp rfl (opr_pick_b rfl hF.1 (fun hb => hK _ _ (NewT.refl _) (pk_and1 (hF.2.1 hb) hb)) (fun hb => hK _ _ (NewT.refl _) (pk_and0 hb)))
  · exact fun a wx hT hF K hK => rely_wp rfl (opr_move (.inl rfl) (hK _ _ (NewT.refl _) hF.1))
  · exact fun a wx hT hF K hK => rely_if (rely_gt hF.2.1) (NewT.refl _) hK fun hE hK => opr_fldR (by decide) rfl hF.1 (hK _ _ (NewT.refl _) rfl)
  · exact fun a wx hT hF K hK => rely_if (rely_gt hF.2.1) (NewT.refl _) hK fun hE hK => opr_ldI (hT.row R1.out) (by decide) rfl rfl (hF.1 hE) (hK _ _ (NewT.refl _) rfl)
  · exact fun a wx hT hF K hK => rely_if (rely_gt hF.2.1) (NewT.refl _) hK fun hE hK => opr_fldR (by decide) rfl hF.1 (hK _ _ (NewT.refl _) rfl)
  · exact fun a wx hT hF K hK => rely_if (rely_gt hF.2.1) (NewT.refl _) hK fun hE hK => opr_ldI (hT.row R2.out) (by decide) rfl rfl (hF.1 hE) (hK _ _ (NewT.refl _) rfl)
  · exact fun a wx hT hF K hK => rely_if (rely_gt hF.2.2.1) (NewT.refl _) hK fun hE hK => opr_cmp (b := x.step == y.step) (.inl ⟨rfl, rfl⟩) Tryd.underlying3 rfl (hF.1 hE) (hF.2.1 hE) (hK _ _ (NewT.refl _) rfl)
  · exact fun a wx hT hF K hK => rely_wp rfl (opr_pick_b rfl hF.1 (fun hb => hK _ _ (NewT.refl _) (pn_and1 Q2_1 (hF.2.1 hb) hb)) (fun hb => hK _ _ (NewT.refl _) (pn_and0 Q2_1 hb)))
  · exact fun a wx hT hF K hK => rely_wp rfl (opr_move (.inl rfl) (hK _ _ (NewT.refl _) hF.1))
  · exact fun a wx hT hF K hK => rely_if (rely_gt hF.2.1) (NewT.refl _) hK fun hE hK => opr_fldR (by decide) rfl hF.1 (hK _ _ (NewT.refl _) rfl)
  · exact fun a wx hT hF K hK => rely_if (rely_gt hF.2.1) (NewT.refl _) hK fun hE hK => opr_ldI (hT.row R1.out) (by decide) rfl rfl (hF.1 hE) (hK _ _ (NewT.refl _) rfl)
  · exact fun a wx hT hF K hK => rely_if (rely_gt hF.2.1) (NewT.refl _) hK fun hE hK => opr_fldR (by decide) rfl hF.1 (hK _ _ (NewT.refl _) rfl)
  · exact fun a wx hT hF K hK => rely_if (rely_gt hF.2.1) (NewT.refl _) hK fun hE hK => opr_ldI (hT.row R2.out) (by decide) rfl rfl (hF.1 hE) (hK _ _ (NewT.refl _) rfl)
  · exact fun a wx hT hF K hK => rely_if (rely_gt hF.2.2.1) (NewT.refl _) hK fun hE hK => opr_cmp (b := x.tr == y.tr) (.inl ⟨rfl, rfl⟩) Tryd.underlying3 rfl (hF.1 hE) (hF.2.1 hE) (hK _ _ (NewT.refl _) rfl)
  · exact fun a wx hT hF K hK => rely_wp rfl (opr_pick_b rfl hF.1 (fun hb => hK _ _ (NewT.refl _) (pk_and1 (hF.2.1 hb) hb)) (fun hb => hK _ _ (NewT.refl _) (pk_and0 hb)))
  · exact fun a wx hT hF K hK => rely_wp rfl (opr_move (.inl rfl) (hK _ _ (NewT.refl _) hF.1))
  · exact fun a wx hT hF K hK => rely_if (rely_gt hF.2.1) (NewT.refl _) hK fun hE hK => opr_fldR (by decide) rfl hF.1 (hK _ _ (NewT.refl _) rfl)
  · exact fun a wx hT hF K hK => rely_if (rely_gt hF.2.1) (NewT.refl _) hK fun hE hK => opr_ldQ (hT.row R1.out) (by decide) rfl rfl (hF.1 hE) (hK _ _ (NewT.refl _) rfl)
  · exact fun a wx hT hF K hK => rely_if (rely_gt hF.2.1) (NewT.refl _) hK fun hE hK => opr_fldR (by decide) rfl hF.1 (hK _ _ (NewT.refl _) rfl)
  · exact fun a wx hT hF K hK => rely_if (rely_gt hF.2.1) (NewT.refl _) hK fun hE hK => opr_ldQ (hT.row R2.out) (by decide) rfl rfl (hF.1 hE) (hK _ _ (NewT.refl _) rfl)
  · exact fun a wx hT hF K hK => rely_if (rely_gt hF.2.2.1) (NewT.refl _) hK fun hE hK => opr_eqlQ (b := x.back == y.back) (rfl) rfl (hF.1 hE) (hF.2.1 hE) (hK _ _ (NewT.refl _) rfl)
  · exact fun a wx hT hF K hK => rely_wp rfl (opr_pick_b rfl hF.1 (fun hb => hK _ _ (NewT.refl _) (pn_and1 Q3_1 (hF.2.1 hb) hb)) (fun hb => hK _ _ (NewT.refl _) (pn_and0 Q3_1 hb)))
  · exact fun a wx hT hF K hK => rely_wp rfl (opr_move (.inl rfl) (hK _ _ (NewT.refl _) hF.1))
  · exact fun a wx hT hF K hK => rely_if (rely_gt hF.2.1) (NewT.refl _) hK fun hE hK => opr_fldR (by decide) rfl hF.1 (hK _ _ (NewT.refl _) rfl)
  · exact fun a wx hT hF K hK => rely_if (rely_gt hF.2.1) (NewT.refl _) hK fun hE hK => opr_ldQ (hT.row R1.out) (by decide) rfl rfl (hF.1 hE) (hK _ _ (NewT.refl _) rfl)
  · exact fun a wx hT hF K hK => rely_if (rely_gt hF.2.1) (NewT.refl _) hK fun hE hK => opr_fldR (by decide) rfl hF.1 (hK _ _ (NewT.refl _) rfl)
  · exact fun a wx hT hF K hK => rely_if (rely_gt hF.2.1) (NewT.refl _) hK fun hE hK => opr_ldQ (hT.row R2.out) (by decide) rfl rfl (hF.1 hE) (hK _ _ (NewT.refl _) rfl)
  · exact fun a wx hT hF K hK => rely_if (rely_gt hF.2.2.1) (NewT.refl _) hK fun hE hK => opr_eqlQ (b := x.good == y.good) (rfl) rfl (hF.1 hE) (hF.2.1 hE) (hK _ _ (NewT.refl _) rfl)
  · exact fun a wx hT hF K hK => rely_wp rfl (opr_pick_b rfl hF.1 (fun hb => hK _ _ (NewT.refl _) (pk_and1 (hF.2.1 hb) hb)) (fun hb => hK _ _ (NewT.refl _) (pk_and0 hb)))
  · exact fun a wx hT hF K hK => rely_wp rfl (opr_move (.inl rfl) (hK _ _ (NewT.refl _) hF.1))
  · exact fun a wx hT hF K hK => rely_if (rely_gt hF.2.1) (NewT.refl _) hK fun hE hK => opr_fldR (by decide) rfl hF.1 (hK _ _ (NewT.refl _) rfl)
  · exact fun a wx hT hF K hK => rely_if (rely_gt hF.2.1) (NewT.refl _) hK fun hE hK => opr_ldI (hT.row R1.out) (by decide) rfl rfl (hF.1 hE) (hK _ _ (NewT.refl _) rfl)
  · exact fun a wx hT hF K hK => rely_if (rely_gt hF.2.1) (NewT.refl _) hK fun hE hK => opr_fldR (by decide) rfl hF.1 (hK _ _ (NewT.refl _) rfl)
  · exact fun a wx hT hF K hK => rely_if (rely_gt hF.2.1) (NewT.refl _) hK fun hE hK => opr_ldI (hT.row R2.out) (by decide) rfl rfl (hF.1 hE) (hK _ _ (NewT.refl _) rfl)
  · exact fun a wx hT hF K hK => rely_if (rely_gt hF.2.2.1) (NewT.refl _) hK fun hE hK => opr_cmp (b := x.nd == y.nd) (.inl ⟨rfl, rfl⟩) Tryd.underlying3 rfl (hF.1 hE) (hF.2.1 hE) (hK _ _ (NewT.refl _) rfl)
  · exact fun a wx hT hF K hK => rely_wp rfl (opr_pick_b rfl hF.1 (fun hb => hK _ _ (NewT.refl _) (pn_and1 Q4_1 (hF.2.1 hb) hb)) (fun hb => hK _ _ (NewT.refl _) (pn_and0 Q4_1 hb)))
  · exact fun a wx hT hF K hK => rely_wp rfl (opr_move (.inl rfl) (hK _ _ (NewT.refl _) hF.1))
  · exact fun a wx hT hF K hK => rely_if (rely_gt hF.2.1) (NewT.refl _) hK fun hE hK => opr_fldR (by decide) rfl hF.1 (hK _ _ (NewT.refl _) rfl)
  · exact fun a wx hT hF K hK => rely_if (rely_gt hF.2.1) (NewT.refl _) hK fun hE hK => opr_ldI (hT.row R1.out) (by decide) rfl rfl (hF.1 hE) (hK _ _ (NewT.refl _) rfl)
  · exact fun a wx hT hF K hK => rely_if (rely_gt hF.2.1) (NewT.refl _) hK fun hE hK => opr_fldR (by decide) rfl hF.1 (hK _ _ (NewT.refl _) rfl)
  · exact fun a wx hT hF K hK => rely_if (rely_gt hF.2.1) (NewT.refl _) hK fun hE hK => opr_ldI (hT.row R2.out) (by decide) rfl rfl (hF.1 hE) (hK _ _ (NewT.refl _) rfl)
  · exact fun a wx hT hF K hK => rely_if (rely_gt hF.2.2.1) (NewT.refl _) hK fun hE hK => opr_cmp (b := x.part == y.part) (.inl ⟨rfl, rfl⟩) Tryd.underlying3 rfl (hF.1 hE) (hF.2.1 hE) (hK _ _ (NewT.refl _) rfl)
  · exact fun a wx hT hF K hK => rely_wp rfl (opr_pick_b rfl hF.1 (fun hb => hK _ _ (NewT.refl _) (pk_and1 (hF.2.1 hb) hb)) (fun hb => hK _ _ (NewT.refl _) (pk_and0 hb)))
  · exact fun a wx hT hF K hK => rely_wp rfl (opr_move (.inl rfl) (hK _ _ (NewT.refl _) hF.1))
  · exact fun a wx hT hF K hK => rely_if (rely_gt hF.2.1) (NewT.refl _) hK fun hE hK => opr_fldR (by decide) rfl hF.1 (hK _ _ (NewT.refl _) rfl)
  · exact fun a wx hT hF K hK => rely_if (rely_gt hF.2.1) (NewT.refl _) hK fun hE hK => opr_ldI (hT.row R1.out) (by decide) rfl rfl (hF.1 hE) (hK _ _ (NewT.refl _) rfl)
  · exact fun a wx hT hF K hK => rely_if (rely_gt hF.2.1) (NewT.refl _) hK fun hE hK => opr_fldR (by decide) rfl hF.1 (hK _ _ (NewT.refl _) rfl)
  · exact fun a wx hT hF K hK => rely_if (rely_gt hF.2.1) (NewT.refl _) hK fun hE hK => opr_ldI (hT.row R2.out) (by decide) rfl rfl (hF.1 hE) (hK _ _ (NewT.refl _) rfl)
  · exact fun a wx hT hF K hK => rely_if (rely_gt hF.2.2.1) (NewT.refl _) hK fun hE hK => opr_cmp (b := x.epoch == y.epoch) (.inl ⟨rfl, rfl⟩) Tryd.underlying3 rfl (hF.1 hE) (hF.2.1 hE) (hK _ _ (NewT.refl _) rfl)
  · exact fun a wx hT hF K hK => rely_wp rfl (opr_pick_b rfl hF.1 (fun hb => hK _ _ (NewT.refl _) (pn_and1 Q5_1 (hF.2.1 hb) hb)) (fun hb => hK _ _ (NewT.refl _) (pn_and0 Q5_1 hb)))
  · exact fun a wx hT hF K hK => rely_wp rfl (opr_move (.inl rfl) (hK _ _ (NewT.refl _) hF.1))
  · exact fun a wx hT hF K hK => rely_if (rely_gt hF.2.1) (NewT.refl _) hK fun hE hK => opr_fldR (by decide) rfl hF.1 (hK _ _ (NewT.refl _) rfl)
  · exact fun a wx hT hF K hK => rely_if (rely_gt hF.2.1) (NewT.refl _) hK fun hE hK => opr_ldH (hT.row R1.out) (by decide) (recF_tag x _ _) rfl (hF.1 hE) (hK _ _ (NewT.refl _) rfl)
  · exact fun a wx hT hF K hK => rely_if (rely_gt hF.2.1) (NewT.refl _) hK fun hE hK => opr_fldR (by decide) rfl hF.1 (hK _ _ (NewT.refl _) rfl)
  · exact fun a wx hT hF K hK => rely_if (rely_gt hF.2.1) (NewT.refl _) hK fun hE hK => opr_ldH (hT.row R2.out) (by decide) (recF_tag y _ _) rfl (hF.1 hE) (hK _ _ (NewT.refl _) rfl)
  · exact fun a wx hT hF K hK => rely_if (rely_gt hF.2.2.1) (NewT.refl _) hK fun hE hK => opr_eql_hash (b := eqH (x.tag) (y.tag)) rfl (hF.1 hE) (hF.2.1 hE) (rfl) (hK _ _ (NewT.refl _) rfl)
  · exact fun a wx hT hF K hK => rely_wp rfl (opr_pick_b rfl hF.1 (fun hb => hK _ _ (NewT.refl _) (pk_and1 (hF.2.1 hb) hb)) (fun hb => hK _ _ (NewT.refl _) (pk_and0 hb)))
  · exact fun a wx hT hF K hK => rely_wp rfl (opr_move (.inl rfl) (hK _ _ (NewT.refl _) hF.1))
  · exact fun a wx hT hF K hK => rely_if (rely_gt hF.2.1) (NewT.refl _) hK fun hE hK => opr_fldR (by decide) rfl hF.1 (hK _ _ (NewT.refl _) rfl)
  · exact fun a wx hT hF K hK => rely_if (rely_gt hF.2.1) (NewT.refl _) hK fun hE hK => opr_ldS (hT.row R1.out) (by decide) rfl rfl (hF.1 hE) (hK _ _ (NewT.refl _) rfl)
  · exact fun a wx hT hF K hK => rely_if (rely_gt hF.2.1) (NewT.refl _) hK fun hE hK => opr_fldR (by decide) rfl hF.1 (hK _ _ (NewT.refl _) rfl)
  · exact fun a wx hT hF K hK => rely_if (rely_gt hF.2.1) (NewT.refl _) hK fun hE hK => opr_ldS (hT.row R2.out) (by decide) rfl rfl (hF.1 hE) (hK _ _ (NewT.refl _) rfl)
  · exact fun a wx hT hF K hK => rely_if (rely_gt hF.2.2.1) (NewT.refl _) hK fun hE hK => opr_cv (SlEq_cv _ _ x.steps y.steps wx (hT.pairs HS.out) (hT.pairs HU.out)) rfl Tryd.func66 (by kernel_rfl) (by kernel_rfl) (evs2 (hF.1 hE) (hF.2.1 hE)) hK
  · exact fun a wx hT hF K hK => rely_wp rfl (opr_pick_b rfl hF.1 (fun hb => hK _ _ (NewT.refl _) (pn_and1 Q6_1 (hF.2.1 hb) hb)) (fun hb => hK _ _ (NewT.refl _) (pn_and0 Q6_1 hb)))
  · exact fun a wx hT hF K hK => rely_wp rfl (opr_move (.inl rfl) (hK _ _ (NewT.refl _) hF.1))
  · exact fun a wx hT hF K hK => rely_if (rely_gt hF.2.1) (NewT.refl _) hK fun hE hK => opr_fldR (by decide) rfl hF.1 (hK _ _ (NewT.refl _) rfl)
  · exact fun a wx hT hF K hK => rely_if (rely_gt hF.2.1) (NewT.refl _) hK fun hE hK => opr_ldB (hT.row R1.out) (by decide) rfl rfl (hF.1 hE) (hK _ _ (NewT.refl _) rfl)
  · exact fun a wx hT hF K hK => rely_if (rely_gt hF.2.1) (NewT.refl _) hK fun hE hK => opr_fldR (by decide) rfl hF.1 (hK _ _ (NewT.refl _) rfl)
  · exact fun a wx hT hF K hK => rely_if (rely_gt hF.2.1) (NewT.refl _) hK fun hE hK => opr_ldB (hT.row R2.out) (by decide) rfl rfl (hF.1 hE) (hK _ _ (NewT.refl _) rfl)
  · exact fun a wx hT hF K hK => rely_if (rely_gt hF.2.2.1) (NewT.refl _) hK fun hE hK => opr_cv (BEqual_cv _ _ x.data y.data wx (hT.rd HD.out) (hT.rd HE.out)) rfl Tryd.func67 (by kernel_rfl) (by kernel_rfl) (evs2 (hF.1 hE) (hF.2.1 hE)) hK
  · exact fun a wx hT hF K hK => rely_wp rfl (opr_pick_b rfl hF.1 (fun hb => hK _ _ (NewT.refl _) (pn_and1 Q7_1 (hF.2.1 hb) hb)) (fun hb => hK _ _ (NewT.refl _) (pn_and0 Q7_1 hb)))
  · exact fun a wx hT hF K hK => rely_wp rfl (opr_move (.inl rfl) (hK _ _ (NewT.refl _) hF.1))
  · exact fun a wx hT hF K hK => rely_if (rely_gt hF.2.1) (NewT.refl _) hK fun hE hK => opr_fldR (by decide) rfl hF.1 (hK _ _ (NewT.refl _) rfl)
  · exact fun a wx hT hF K hK => rely_if (rely_gt hF.2.1) (NewT.refl _) hK fun hE hK => opr_ldH (hT.row R1.out) (by decide) (recF_salt x _ _) rfl (hF.1 hE) (hK _ _ (NewT.refl _) rfl)
  · exact fun a wx hT hF K hK => rely_if (rely_gt hF.2.1) (NewT.refl _) hK fun hE hK => opr_fldR (by decide) rfl hF.1 (hK _ _ (NewT.refl _) rfl)
  · exact fun a wx hT hF K hK => rely_if (rely_gt hF.2.1) (NewT.refl _) hK fun hE hK => opr_ldH (hT.row R2.out) (by decide) (recF_salt y _ _) rfl (hF.1 hE) (hK _ _ (NewT.refl _) rfl)
  · exact fun a wx hT hF K hK => rely_if (rely_gt hF.2.2.1) (NewT.refl _) hK fun hE hK => opr_eql_hash (b := eqH (x.salt) (y.salt)) rfl (hF.1 hE) (hF.2.1 hE) (rfl) (hK _ _ (NewT.refl _) rfl)
  · exact fun a wx hT hF K hK => rely_wp rfl (opr_pick_b rfl hF.1 (fun hb => hK _ _ (NewT.refl _) (pn_and1 Q8_1 (hF.2.1 hb) hb)) (fun hb => hK _ _ (NewT.refl _) (pn_and0 Q8_1 hb)))
  · exact fun a wx hT hF K hK => rely_wp rfl (opr_move (.inl rfl) (hK _ _ (NewT.refl _) hF.1))
  · exact fun a wx hT hF K hK => rely_if (rely_gt hF.2.1) (NewT.refl _) hK fun hE hK => opr_fldR (by decide) rfl hF.1 (hK _ _ (NewT.refl _) rfl)
  · exact fun a wx hT hF K hK => rely_if (rely_gt hF.2.1) (NewT.refl _) hK fun hE hK => opr_ldQ (hT.row R1.out) (by decide) rfl rfl (hF.1 hE) (hK _ _ (NewT.refl _) rfl)
  · exact fun a wx hT hF K hK => rely_if (rely_gt hF.2.1) (NewT.refl _) hK fun hE hK => opr_fldR (by decide) rfl hF.1 (hK _ _ (NewT.refl _) rfl)
  · exact fun a wx hT hF K hK => rely_if (rely_gt hF.2.1) (NewT.refl _) hK fun hE hK => opr_ldQ (hT.row R2.out) (by decide) rfl rfl (hF.1 hE) (hK _ _ (NewT.refl _) rfl)
  · exact fun a wx hT hF K hK => rely_if (rely_gt hF.2.2.1) (NewT.refl _) hK fun hE hK => opr_eqlQ (b := x.gone == y.gone) (rfl) rfl (hF.1 hE) (hF.2.1 hE) (hK _ _ (NewT.refl _) rfl)
  · exact fun a wx hT hF K hK => rely_wp rfl (opr_pick_b rfl hF.1 (fun hb => hK _ _ (NewT.refl _) (pk_and1 (hF.2.1 hb) hb)) (fun hb => hK _ _ (NewT.refl _) (pk_and0 hb)))
  · exact fun a wx hT hF K hK => rely_wp rfl (opr_move (.inl rfl) (hK _ _ (NewT.refl _) hF.1))
  · exact fun a wx hT hF K hK => rely_if (rely_gt hF.2.1) (NewT.refl _) hK fun hE hK => opr_fldR (by decide) rfl hF.1 (hK _ _ (NewT.refl _) rfl)
  · exact fun a wx hT hF K hK => rely_if (rely_gt hF.2.1) (NewT.refl _) hK fun hE hK => opr_ldH (hT.row R1.out) (by decide) (recF_com x _ _) rfl (hF.1 hE) (hK _ _ (NewT.refl _) rfl)
  · exact fun a wx hT hF K hK => rely_if (rely_gt hF.2.1) (NewT.refl _) hK fun hE hK => opr_fldR (by decide) rfl hF.1 (hK _ _ (NewT.refl _) rfl)
  · exact fun a wx hT hF K hK => rely_if (rely_gt hF.2.1) (NewT.refl _) hK fun hE hK => opr_ldH (hT.row R2.out) (by decide) (recF_com y _ _) rfl (hF.1 hE) (hK _ _ (NewT.refl _) rfl)
  · exact fun a wx hT hF K hK => rely_if (rely_gt hF.2.2.1) (NewT.refl _) hK fun hE hK => opr_eql_hash (b := eqH (x.com) (y.com)) rfl (hF.1 hE) (hF.2.1 hE) (rfl) (hK _ _ (NewT.refl _) rfl)
  · exact fun a wx hT hF K hK => rely_wp rfl (opr_pick_b rfl hF.1 (fun hb => hK _ _ (NewT.refl _) (pn_and1 Q9_1 (hF.2.1 hb) hb)) (fun hb => hK _ _ (NewT.refl _) (pn_and0 Q9_1 hb)))
  · intro wx hT
    iterate 6 (intro u h; obtain rfl := Eq.symm (h (by simp)); clear h)
    iterate 5 (intro _ _)
    iterate 2 (intro u h; obtain rfl := Eq.symm (h (by simp)); clear h)
    iterate 5 (intro _ _)
    iterate 2 (intro u h; obtain rfl := Eq.symm (h (by simp)); clear h)
    iterate 5 (intro _ _)
    iterate 2 (intro u h; obtain rfl := Eq.symm (h (by simp)); clear h)
    iterate 5 (intro _ _)
    iterate 2 (intro u h; obtain rfl := Eq.symm (h (by simp)); clear h)
    iterate 5 (intro _ _)
    iterate 2 (intro u h; obtain rfl := Eq.symm (h (by simp)); clear h)
    iterate 5 (intro _ _)
    iterate 2 (intro u h; obtain rfl := Eq.symm (h (by simp)); clear h)
    iterate 5 (intro _ _)
    iterate 2 (intro u h; obtain rfl := Eq.symm (h (by simp)); clear h)
    iterate 5 (intro _ _)
    iterate 2 (intro u h; obtain rfl := Eq.symm (h (by simp)); clear h)
    iterate 5 (intro _ _)
    iterate 2 (intro u h; obtain rfl := Eq.symm (h (by simp)); clear h)
    iterate 5 (intro _ _)
    iterate 2 (intro u h; obtain rfl := Eq.symm (h (by simp)); clear h)
    iterate 5 (intro _ _)
    iterate 2 (intro u h; obtain rfl := Eq.symm (h (by simp)); clear h)
    iterate 5 (intro _ _)
    iterate 2 (intro u h; obtain rfl := Eq.symm (h (by simp)); clear h)
    iterate 5 (intro _ _)
    iterate 2 (intro u h; obtain rfl := Eq.symm (h (by simp)); clear h)
    iterate 5 (intro _ _)
    iterate 2 (intro u h; obtain rfl := Eq.symm (h (by simp)); clear h)
    iterate 5 (intro _ _)
    intro u h; obtain rfl := Eq.symm (h (by simp)); clear h
    subst Q9_1 Q8_1 Q7_1 Q6_1 Q5_1 Q4_1 Q3_1 Q2_1 Q1_1
    refine relyEnd_nil rfl ?_
    simp only [Act.put, List.setIfInBounds_toArray, List.set_cons_zero, List.set_cons_succ]
    refine wpList_plain rfl (fun K hK => ?_)
    refine opr_move (.inr rfl) (hK _ _ ?_)
    refine wpList_end rfl ?_
    go_simp
    go_wp2
    go_ret
    exact ⟨_, rfl, NewT.trans _ _ _ HN.out hT, rfl⟩
end Go.Proofs.YtcfogkimjbgjgaaDoor
/- Package rec: inRange. -/
namespace Go.Proofs.YtcfogkimjbgjgaaDoor
open Go Go.RowKit
set_option maxRecDepth 8000
set_option linter.all false
set_option maxHeartbeats 2000000 in
theorem inRange_cv (v : Value) (x : Rc) (w : World) (h : RecV w v x) : Cv 47 #[v] w (.eq (.bool (inRg x))) := by
  obtain ⟨sv, dv, rfl, hs, hd⟩ := h
  unfold Cv
  have HX : Hid (RecV w (.agg (rowA 109 (recF x sv dv))) x) := Lib.hid ⟨sv, dv, rfl, hs, hd⟩
  have HS := Lib.hid hs
  have HD := Lib.hid hd
  clear hs hd
  by_cases hk : x.kind = 1
  · have hI : inRg x = ((inR x.saga 0 11 && stepsOk x.steps) && decide ((x.data.length : Int) ≤ 60)) := by unfold inRg; simp only [hk]; simp
    rw [hI]
    clear hI
    go_enter Tryd.func47, Tryd.ntmps47
    go_upto_region 1 with fail
    have r1 := rowIs_box w 30 109 (recF x sv dv)
    have hN := NewT.alloc w (.cells (rowA 109 (recF x sv dv)) 30)
    change Code.wp _ _ _ _ (w.alloc (.cells (rowA 109 (recF x sv dv)) 30))
    generalize w.alloc (.cells (rowA 109 (recF x sv dv)) 30) = W0 at r1 hN ⊢
    have R1 := Lib.hid r1
    have HN := Lib.hid hN
    replace HX := Lib.hid (hN.recV HX.out)
    replace HS := Lib.hid (hN.pairs HS.out)
    replace HD := Lib.hid (hN.rd HD.out)
    clear r1 hN
    have c0 : W0.cell? ⟨w.heap.size, 0, none⟩ = some (.int .i64 x.kind) := R1.out.cell (by omega)
    rw [hk] at c0
    go_upto_region 8 with fail
    clear c0
    obtain ⟨q1_8, Q1_8⟩ : ∃ bq_, ((inR x.saga 0 11) && (stepsOk x.steps)) = bq_ := ⟨_, rfl⟩
    obtain ⟨q2_8, Q2_8⟩ : ∃ bq_, (q1_8 && (decide (((List.length (x.data) : Int)) ≤ 60))) = bq_ := ⟨_, rfl⟩
    refine wp_region_steps0 NewT [SV.eq (.pointer (some ⟨w.heap.size, 1, none⟩)), SV.eq (.int .i64 (x.saga)), SV.eq (.bool (inR x.saga 0 11)), SV.eq (.bool (inR x.saga 0 11)), svIf (inR x.saga 0 11) (SV.eq (.pointer (some ⟨w.heap.size, 42, none⟩))), svIf (inR x.saga 0 11) (SV.eq (sv)), svIf (inR x.saga 0 11) (SV.eq (.bool (stepsOk x.steps))), SV.eq (.bool (q1_8)), SV.eq (.bool (q1_8)), svIf q1_8 (SV.eq (.pointer (some ⟨w.heap.size, 43, none⟩))), svIf q1_8 (SV.eq (dv)), svIf q1_8 (SV.eq (.int .i64 ((List.length (x.data) : Int)))), svIf q1_8 (SV.eq (.bool (decide (((List.length (x.data) : Int)) ≤ 60)))), SV.eq (.bool (q2_8)), SV.eq (.bool (q2_8))] [([(1, none)], none), ([(16, some 0)], none), ([(17, some 1)], none), ([(18, some 2)], none), ([(1, none), (19, some 3)], some (19, true)), ([(20, some 4), (19, some 3)], some (19, true)), ([(21, some 5), (19, some 3)], some (19, true)), ([(19, some 3), (22, some 6)], none), ([(23, some 7)], none), ([(1, none), (24, some 8)], some (24, true)), ([(25, some 9), (24, some 8)], some (24, true)), ([(26, some 10), (24, some 8)], some (24, true)), ([(27, some 11), (24, some 8)], some (24, true)), ([(24, some 8), (28, some 12)], none), ([(29, some 13)], none)] 79 15 rfl rfl (by kernel_rfl) NewT.trans (NewT.refl _) (Nat.le_of_ble_eq_true rfl) ⟨?_, ?_, ?_, ?_, ?_, ?_, ?_, ?_, ?_, ?_, ?_, ?_, ?_, ?_, ?_, trivial⟩ ?_
    · exact fun a wx hT hF K hK => rely_wp rfl (opr_fldR (by decide) rfl hF.1 (hK _ _ (NewT.refl _) rfl))
    · exact fun a wx hT hF K hK => rely_wp rfl (opr_ldI (hT.row R1.out) (by decide) rfl rfl hF.1 (hK _ _ (NewT.refl _) rfl))
    · exact fun a wx hT hF K hK => rely_wp rfl (opr_cv (isSaga_cv x.saga wx) rfl Tryd.func61 (by kernel_rfl) (by kernel_rfl) (evs1 hF.1) hK)
    · exact fun a wx hT hF K hK => rely_wp rfl (opr_move (.inl rfl) (hK _ _ (NewT.refl _) hF.1))
    · exact fun a wx hT hF K hK => rely_if (rely_gt hF.2.1) (NewT.refl _) hK fun hE hK => opr_fldR (by decide) rfl hF.1 (hK _ _ (NewT.refl _) rfl)
    · exact fun a wx hT hF K hK => rely_if (rely_gt hF.2.1) (NewT.refl _) hK fun hE hK => opr_ldS (hT.row R1.out) (by decide) rfl rfl (hF.1 hE) (hK _ _ (NewT.refl _) rfl)
    · exact fun a wx hT hF K hK => rely_if (rely_gt hF.2.1) (NewT.refl _) hK fun hE hK => opr_cv (areSteps_cv _ x.steps wx (hT.pairs HS.out)) rfl Tryd.func62 (by kernel_rfl) (by kernel_rfl) (evs1 (hF.1 hE)) hK
    · exact fun a wx hT hF K hK => rely_wp rfl (opr_pick_b rfl hF.1 (fun hb => hK _ _ (NewT.refl _) (pn_and1 Q1_8 (hF.2.1 hb) hb)) (fun hb => hK _ _ (NewT.refl _) (pn_and0 Q1_8 hb)))
    · exact fun a wx hT hF K hK => rely_wp rfl (opr_move (.inl rfl) (hK _ _ (NewT.refl _) hF.1))
    · exact fun a wx hT hF K hK => rely_if (rely_gt hF.2.1) (NewT.refl _) hK fun hE hK => opr_fldR (by decide) rfl hF.1 (hK _ _ (NewT.refl _) rfl)
    · exact fun a wx hT hF K hK => rely_if (rely_gt hF.2.1) (NewT.refl _) hK fun hE hK => opr_ldB (hT.row R1.out) (by decide) rfl rfl (hF.1 hE) (hK _ _ (NewT.refl _) rfl)
    · intro a wx hT hF K hK
      obtain ⟨f26, f24, _⟩ := hF
      have f26 : q1_8 = true → a.tmps.getD 26 undef = dv := f26
      have f24 : a.tmps.getD 24 undef = .bool (q1_8) := f24
      refine rely_if (rely_gt f24) (NewT.refl _) hK (fun hE hK => ?_)
      exact opr_len_rd rfl (by rw [eval_tmp, (f26 hE)]; exact (hT.rd HD.out)) (hK _ _ (NewT.refl _) rfl)
    · exact fun a wx hT hF K hK => rely_if (rely_gt hF.2.1) (NewT.refl _) hK fun hE hK => opr_cmp (b := decide (((List.length (x.data) : Int)) ≤ 60)) (.inr (.inr (.inl ⟨rfl, rfl⟩))) Tryd.underlying3 rfl (hF.1 hE) rfl (hK _ _ (NewT.refl _) rfl)
    · exact fun a wx hT hF K hK => rely_wp rfl (opr_pick_b rfl hF.1 (fun hb => hK _ _ (NewT.refl _) (pn_and1 Q2_8 (hF.2.1 hb) hb)) (fun hb => hK _ _ (NewT.refl _) (pn_and0 Q2_8 hb)))
    · exact fun a wx hT hF K hK => rely_wp rfl (opr_move (.inr rfl) (hK _ _ (NewT.refl _) hF.1))
    · intro wx hT
      iterate 4 (intro u h; obtain rfl := Eq.symm (h (by simp)); clear h)
      iterate 3 (intro _ _)
      iterate 2 (intro u h; obtain rfl := Eq.symm (h (by simp)); clear h)
      iterate 4 (intro _ _)
      iterate 2 (intro u h; obtain rfl := Eq.symm (h (by simp)); clear h)
      subst Q2_8 Q1_8
      refine relyEnd_nil rfl ?_
      refine wpList_end rfl ?_
      simp only [Act.put, List.setIfInBounds_toArray, List.set_cons_zero, List.set_cons_succ]
      go_simp
      go_wp2
      go_ret
      exact ⟨_, rfl, NewT.trans _ _ _ HN.out hT, rfl⟩
  have k1 := hk
  clear hk
  by_cases hk : x.kind = 3
  · have hI : inRg x = ((!((!inR x.part 0 3) || !inR x.epoch 0 400)) && (((inR x.saga 0 11 && inR x.seq 1 400) && inR x.step 0 5) && inR x.tr 1 9)) := by unfold inRg; simp only [hk]; simp
    rw [hI]
    clear hI
    go_enter Tryd.func47, Tryd.ntmps47
    go_upto_region 1 with fail
    have r1 := rowIs_box w 30 109 (recF x sv dv)
    have hN := NewT.alloc w (.cells (rowA 109 (recF x sv dv)) 30)
    change Code.wp _ _ _ _ (w.alloc (.cells (rowA 109 (recF x sv dv)) 30))
    generalize w.alloc (.cells (rowA 109 (recF x sv dv)) 30) = W0 at r1 hN ⊢
    have R1 := Lib.hid r1
    have HN := Lib.hid hN
    replace HX := Lib.hid (hN.recV HX.out)
    replace HS := Lib.hid (hN.pairs HS.out)
    replace HD := Lib.hid (hN.rd HD.out)
    clear r1 hN
    have c0 : W0.cell? ⟨w.heap.size, 0, none⟩ = some (.int .i64 x.kind) := R1.out.cell (by omega)
    rw [hk] at c0
    go_upto_region 9 with fail
    clear c0
    obtain ⟨q1_9, Q1_9⟩ : ∃ bq_, ((!(inR x.part 0 3)) || (!(inR x.epoch 0 400))) = bq_ := ⟨_, rfl⟩
    refine wp_region_steps0 NewT [SV.eq (.pointer (some ⟨w.heap.size, 8, none⟩)), SV.eq (.int .i64 (x.part)), SV.eq (.bool (inR x.part 0 3)), SV.eq (.bool (!(inR x.part 0 3))), SV.eq (.bool (!(inR x.part 0 3))), svIf ((!(!(inR x.part 0 3)))) (SV.eq (.pointer (some ⟨w.heap.size, 9, none⟩))), svIf ((!(!(inR x.part 0 3)))) (SV.eq (.int .i64 (x.epoch))), svIf ((!(!(inR x.part 0 3)))) (SV.eq (.bool (inR x.epoch 0 400))), svIf ((!(!(inR x.part 0 3)))) (SV.eq (.bool (!(inR x.epoch 0 400)))), SV.eq (.bool (q1_9))] [([(1, none)], none), ([(30, some 0)], none), ([(31, some 1)], none), ([(32, some 2)], none), ([(33, some 3)], none), ([(1, none), (34, some 4)], some (34, false)), ([(35, some 5), (34, some 4)], some (34, false)), ([(36, some 6), (34, some 4)], some (34, false)), ([(37, some 7), (34, some 4)], some (34, false)), ([(34, some 4), (38, some 8)], none)] 79 10 rfl rfl (by kernel_rfl) NewT.trans (NewT.refl _) (Nat.le_of_ble_eq_true rfl) ⟨?_, ?_, ?_, ?_, ?_, ?_, ?_, ?_, ?_, ?_, trivial⟩ ?_
    · exact fun a wx hT hF K hK => rely_wp rfl (opr_fldR (by decide) rfl hF.1 (hK _ _ (NewT.refl _) rfl))
    · exact fun a wx hT hF K hK => rely_wp rfl (opr_ldI (hT.row R1.out) (by decide) rfl rfl hF.1 (hK _ _ (NewT.refl _) rfl))
    · exact fun a wx hT hF K hK => rely_wp rfl (opr_cv (isPart_cv x.part wx) rfl Tryd.func63 (by kernel_rfl) (by kernel_rfl) (evs1 hF.1) hK)
    · exact fun a wx hT hF K hK => rely_wp rfl (opr_not rfl hF.1 (hK _ _ (NewT.refl _) rfl))
    · exact fun a wx hT hF K hK => rely_wp rfl (opr_move (.inl rfl) (hK _ _ (NewT.refl _) hF.1))
    · exact fun a wx hT hF K hK => rely_if (rely_gf hF.2.1) (NewT.refl _) hK fun hE hK => opr_fldR (by decide) rfl hF.1 (hK _ _ (NewT.refl _) rfl)
    · exact fun a wx hT hF K hK => rely_if (rely_gf hF.2.1) (NewT.refl _) hK fun hE hK => opr_ldI (hT.row R1.out) (by decide) rfl rfl (hF.1 hE) (hK _ _ (NewT.refl _) rfl)
    · exact fun a wx hT hF K hK => rely_if (rely_gf hF.2.1) (NewT.refl _) hK fun hE hK => opr_cv (within_cv x.epoch 0 400 wx) rfl Tryd.func64 (by kernel_rfl) (by kernel_rfl) (evs3 (hF.1 hE) rfl rfl) hK
    · exact fun a wx hT hF K hK => rely_if (rely_gf hF.2.1) (NewT.refl _) hK fun hE hK => opr_not rfl (hF.1 hE) (hK _ _ (NewT.refl _) rfl)
    · exact fun a wx hT hF K hK => rely_wp rfl (opr_pick_b rfl hF.1 (fun hb => hK _ _ (NewT.refl _) (pn_or1 Q1_9 hb)) (fun hb => hK _ _ (NewT.refl _) (pn_or0 Q1_9 (hF.2.1 (bnot hb)) hb)))
    · intro w9 h9
      iterate 5 (intro u h; obtain rfl := Eq.symm (h (by simp)); clear h)
      iterate 4 (intro _ _)
      intro u h; obtain rfl := Eq.symm (h (by simp)); clear h
      subst Q1_9
      refine relyEnd_nil rfl ?_
      refine wpList_end rfl ?_
      simp only [Act.put, List.setIfInBounds_toArray, List.set_cons_zero, List.set_cons_succ]
      go_simp
      cases hb : ((!inR x.part 0 3) || !inR x.epoch 0 400)
      · go_upto_region 11 with fail
        obtain ⟨q1_11, Q1_11⟩ : ∃ bq_, ((inR x.saga 0 11) && (inR x.seq 1 400)) = bq_ := ⟨_, rfl⟩
        obtain ⟨q2_11, Q2_11⟩ : ∃ bq_, ((q1_11 && (inR x.step 0 5)) && (inR x.tr 1 9)) = bq_ := ⟨_, rfl⟩
        refine wp_region_steps0 NewT [SV.eq (.pointer (some ⟨w.heap.size, 1, none⟩)), SV.eq (.int .i64 (x.saga)), SV.eq (.bool (inR x.saga 0 11)), SV.eq (.bool (inR x.saga 0 11)), svIf (inR x.saga 0 11) (SV.eq (.pointer (some ⟨w.heap.size, 2, none⟩))), svIf (inR x.saga 0 11) (SV.eq (.int .i64 (x.seq))), svIf (inR x.saga 0 11) (SV.eq (.bool (inR x.seq 1 400))), SV.eq (.bool (q1_11)), SV.eq (.bool (q1_11)), svIf q1_11 (SV.eq (.pointer (some ⟨w.heap.size, 3, none⟩))), svIf q1_11 (SV.eq (.int .i64 (x.step))), svIf q1_11 (SV.eq (.bool (inR x.step 0 5))), SV.eq (.bool (q1_11 && (inR x.step 0 5))), SV.eq (.bool (q1_11 && (inR x.step 0 5))), svIf (q1_11 && (inR x.step 0 5)) (SV.eq (.pointer (some ⟨w.heap.size, 4, none⟩))), svIf (q1_11 && (inR x.step 0 5)) (SV.eq (.int .i64 (x.tr))), svIf (q1_11 && (inR x.step 0 5)) (SV.eq (.bool (inR x.tr 1 9))), SV.eq (.bool (q2_11)), SV.eq (.bool (q2_11))] [([(1, none)], none), ([(40, some 0)], none), ([(41, some 1)], none), ([(42, some 2)], none), ([(1, none), (43, some 3)], some (43, true)), ([(44, some 4), (43, some 3)], some (43, true)), ([(45, some 5), (43, some 3)], some (43, true)), ([(43, some 3), (46, some 6)], none), ([(47, some 7)], none), ([(1, none), (48, some 8)], some (48, true)), ([(49, some 9), (48, some 8)], some (48, true)), ([(50, some 10), (48, some 8)], some (48, true)), ([(48, some 8), (51, some 11)], none), ([(52, some 12)], none), ([(1, none), (53, some 13)], some (53, true)), ([(54, some 14), (53, some 13)], some (53, true)), ([(55, some 15), (53, some 13)], some (53, true)), ([(53, some 13), (56, some 16)], none), ([(57, some 17)], none)] 79 19 rfl rfl (by kernel_rfl) NewT.trans (NewT.refl _) (Nat.le_of_ble_eq_true rfl) ⟨?_, ?_, ?_, ?_, ?_, ?_, ?_, ?_, ?_, ?_, ?_, ?_, ?_, ?_, ?_, ?_, ?_, ?_, ?_, trivial⟩ ?_
        · exact fun a wx hT hF K hK => rely_wp rfl (opr_fldR (by decide) rfl hF.1 (hK _ _ (NewT.refl _) rfl))
        · exact fun a wx hT hF K hK => rely_wp rfl (opr_ldI (hT.row (NewT.row h9 R1.out)) (by decide) rfl rfl hF.1 (hK _ _ (NewT.refl _) rfl))
        · exact fun a wx hT hF K hK => rely_wp rfl (opr_cv (isSaga_cv x.saga wx) rfl Tryd.func61 (by kernel_rfl) (by kernel_rfl) (evs1 hF.1) hK)
        · exact fun a wx hT hF K hK => rely_wp rfl (opr_move (.inl rfl) (hK _ _ (NewT.refl _) hF.1))
        · exact fun a wx hT hF K hK => rely_if (rely_gt hF.2.1) (NewT.refl _) hK fun hE hK => opr_fldR (by decide) rfl hF.1 (hK _ _ (NewT.refl _) rfl)
        · exact fun a wx hT hF K hK => rely_if (rely_gt hF.2.1) (NewT.refl _) hK fun hE hK => opr_ldI (hT.row (NewT.row h9 R1.out)) (by decide) rfl rfl (hF.1 hE) (hK _ _ (NewT.refl _) rfl)
        · exact fun a wx hT hF K hK => rely_if (rely_gt hF.2.1) (NewT.refl _) hK fun hE hK => opr_cv (isSeq_cv x.seq wx) rfl Tryd.func65 (by kernel_rfl) (by kernel_rfl) (evs1 (hF.1 hE)) hK
        · exact fun a wx hT hF K hK => rely_wp rfl (opr_pick_b rfl hF.1 (fun hb => hK _ _ (NewT.refl _) (pn_and1 Q1_11 (hF.2.1 hb) hb)) (fun hb => hK _ _ (NewT.refl _) (pn_and0 Q1_11 hb)))
        · exact fun a wx hT hF K hK => rely_wp rfl (opr_move (.inl rfl) (hK _ _ (NewT.refl _) hF.1))
        · exact fun a wx hT hF K hK => rely_if (rely_gt hF.2.1) (NewT.refl _) hK fun hE hK => opr_fldR (by decide) rfl hF.1 (hK _ _ (NewT.refl _) rfl)
        · exact fun a wx hT hF K hK => rely_if (rely_gt hF.2.1) (NewT.refl _) hK fun hE hK => opr_ldI (hT.row (NewT.row h9 R1.out)) (by decide) rfl rfl (hF.1 hE) (hK _ _ (NewT.refl _) rfl)
        · exact fun a wx hT hF K hK => rely_if (rely_gt hF.2.1) (NewT.refl _) hK fun hE hK => opr_cv (within_cv x.step 0 5 wx) rfl Tryd.func64 (by kernel_rfl) (by kernel_rfl) (evs3 (hF.1 hE) rfl rfl) hK
        · exact fun a wx hT hF K hK => rely_wp rfl (opr_pick_b rfl hF.1 (fun hb => hK _ _ (NewT.refl _) (pk_and1 (hF.2.1 hb) hb)) (fun hb => hK _ _ (NewT.refl _) (pk_and0 hb)))
        · exact fun a wx hT hF K hK => rely_wp rfl (opr_move (.inl rfl) (hK _ _ (NewT.refl _) hF.1))
        · exact fun a wx hT hF K hK => rely_if (rely_gt hF.2.1) (NewT.refl _) hK fun hE hK => opr_fldR (by decide) rfl hF.1 (hK _ _ (NewT.refl _) rfl)
        · exact fun a wx hT hF K hK => rely_if (rely_gt hF.2.1) (NewT.refl _) hK fun hE hK => opr_ldI (hT.row (NewT.row h9 R1.out)) (by decide) rfl rfl (hF.1 hE) (hK _ _ (NewT.refl _) rfl)
        · exact fun a wx hT hF K hK => rely_if (rely_gt hF.2.1) (NewT.refl _) hK fun hE hK => opr_cv (within_cv x.tr 1 9 wx) rfl Tryd.func64 (by kernel_rfl) (by kernel_rfl) (evs3 (hF.1 hE) rfl rfl) hK
        · exact fun a wx hT hF K hK => rely_wp rfl (opr_pick_b rfl hF.1 (fun hb => hK _ _ (NewT.refl _) (pn_and1 Q2_11 (hF.2.1 hb) hb)) (fun hb => hK _ _ (NewT.refl _) (pn_and0 Q2_11 hb)))
        · exact fun a wx hT hF K hK => rely_wp rfl (opr_move (.inr rfl) (hK _ _ (NewT.refl _) hF.1))
        · intro wx hT
          iterate 4 (intro u h; obtain rfl := Eq.symm (h (by simp)); clear h)
          iterate 3 (intro _ _)
          iterate 2 (intro u h; obtain rfl := Eq.symm (h (by simp)); clear h)
          iterate 3 (intro _ _)
          iterate 2 (intro u h; obtain rfl := Eq.symm (h (by simp)); clear h)
          iterate 3 (intro _ _)
          iterate 2 (intro u h; obtain rfl := Eq.symm (h (by simp)); clear h)
          subst Q2_11 Q1_11
          refine relyEnd_nil rfl ?_
          refine wpList_end rfl ?_
          simp only [Act.put, List.setIfInBounds_toArray, List.set_cons_zero, List.set_cons_succ]
          go_simp
          go_wp2
          go_ret
          exact ⟨_, rfl, NewT.trans _ _ _ HN.out (NewT.trans _ _ _ h9 hT), rfl⟩
      · go_wp2
        go_ret
        exact ⟨_, rfl, NewT.trans _ _ _ HN.out h9, rfl⟩
  have k3 := hk
  clear hk
  by_cases hk : x.kind = 2
  · have hI : inRg x = (((inR x.saga 0 11 && inR x.seq 1 400) && inR x.step 0 5) && inR x.tr 1 9) := by unfold inRg; simp only [hk]; simp
    rw [hI]
    clear hI
    go_enter Tryd.func47, Tryd.ntmps47
    go_upto_region 1 with fail
    have r1 := rowIs_box w 30 109 (recF x sv dv)
    have hN := NewT.alloc w (.cells (rowA 109 (recF x sv dv)) 30)
    change Code.wp _ _ _ _ (w.alloc (.cells (rowA 109 (recF x sv dv)) 30))
    generalize w.alloc (.cells (rowA 109 (recF x sv dv)) 30) = W0 at r1 hN ⊢
    have R1 := Lib.hid r1
    have HN := Lib.hid hN
    replace HX := Lib.hid (hN.recV HX.out)
    replace HS := Lib.hid (hN.pairs HS.out)
    replace HD := Lib.hid (hN.rd HD.out)
    clear r1 hN
    have c0 : W0.cell? ⟨w.heap.size, 0, none⟩ = some (.int .i64 x.kind) := R1.out.cell (by omega)
    rw [hk] at c0
    go_upto_region 11 with fail
    clear c0
    obtain ⟨q1_11, Q1_11⟩ : ∃ bq_, ((inR x.saga 0 11) && (inR x.seq 1 400)) = bq_ := ⟨_, rfl⟩
    obtain ⟨q2_11, Q2_11⟩ : ∃ bq_, ((q1_11 && (inR x.step 0 5)) && (inR x.tr 1 9)) = bq_ := ⟨_, rfl⟩
    refine wp_region_steps0 NewT [SV.eq (.pointer (some ⟨w.heap.size, 1, none⟩)), SV.eq (.int .i64 (x.saga)), SV.eq (.bool (inR x.saga 0 11)), SV.eq (.bool (inR x.saga 0 11)), svIf (inR x.saga 0 11) (SV.eq (.pointer (some ⟨w.heap.size, 2, none⟩))), svIf (inR x.saga 0 11) (SV.eq (.int .i64 (x.seq))), svIf (inR x.saga 0 11) (SV.eq (.bool (inR x.seq 1 400))), SV.eq (.bool (q1_11)), SV.eq (.bool (q1_11)), svIf q1_11 (SV.eq (.pointer (some ⟨w.heap.size, 3, none⟩))), svIf q1_11 (SV.eq (.int .i64 (x.step))), svIf q1_11 (SV.eq (.bool (inR x.step 0 5))), SV.eq (.bool (q1_11 && (inR x.step 0 5))), SV.eq (.bool (q1_11 && (inR x.step 0 5))), svIf (q1_11 && (inR x.step 0 5)) (SV.eq (.pointer (some ⟨w.heap.size, 4, none⟩))), svIf (q1_11 && (inR x.step 0 5)) (SV.eq (.int .i64 (x.tr))), svIf (q1_11 && (inR x.step 0 5)) (SV.eq (.bool (inR x.tr 1 9))), SV.eq (.bool (q2_11)), SV.eq (.bool (q2_11))] [([(1, none)], none), ([(40, some 0)], none), ([(41, some 1)], none), ([(42, some 2)], none), ([(1, none), (43, some 3)], some (43, true)), ([(44, some 4), (43, some 3)], some (43, true)), ([(45, some 5), (43, some 3)], some (43, true)), ([(43, some 3), (46, some 6)], none), ([(47, some 7)], none), ([(1, none), (48, some 8)], some (48, true)), ([(49, some 9), (48, some 8)], some (48, true)), ([(50, some 10), (48, some 8)], some (48, true)), ([(48, some 8), (51, some 11)], none), ([(52, some 12)], none), ([(1, none), (53, some 13)], some (53, true)), ([(54, some 14), (53, some 13)], some (53, true)), ([(55, some 15), (53, some 13)], some (53, true)), ([(53, some 13), (56, some 16)], none), ([(57, some 17)], none)] 79 19 rfl rfl (by kernel_rfl) NewT.trans (NewT.refl _) (Nat.le_of_ble_eq_true rfl) ⟨?_, ?_, ?_, ?_, ?_, ?_, ?_, ?_, ?_, ?_, ?_, ?_, ?_, ?_, ?_, ?_, ?_, ?_, ?_, trivial⟩ ?_
    · exact fun a wx hT hF K hK => rely_wp rfl (opr_fldR (by decide) rfl hF.1 (hK _ _ (NewT.refl _) rfl))
    · exact fun a wx hT hF K hK => rely_wp rfl (opr_ldI (hT.row R1.out) (by decide) rfl rfl hF.1 (hK _ _ (NewT.refl _) rfl))
    · exact fun a wx hT hF K hK => rely_wp rfl (opr_cv (isSaga_cv x.saga wx) rfl Tryd.func61 (by kernel_rfl) (by kernel_rfl) (evs1 hF.1) hK)
    · exact fun a wx hT hF K hK => rely_wp rfl (opr_move (.inl rfl) (hK _ _ (NewT.refl _) hF.1))
    · exact fun a wx hT hF K hK => rely_if (rely_gt hF.2.1) (NewT.refl _) hK fun hE hK => opr_fldR (by decide) rfl hF.1 (hK _ _ (NewT.refl _) rfl)
    · exact fun a wx hT hF K hK => rely_if (rely_gt hF.2.1) (NewT.refl _) hK fun hE hK => opr_ldI (hT.row R1.out) (by decide) rfl rfl (hF.1 hE) (hK _ _ (NewT.refl _) rfl)
    · exact fun a wx hT hF K hK => rely_if (rely_gt hF.2.1) (NewT.refl _) hK fun hE hK => opr_cv (isSeq_cv x.seq wx) rfl Tryd.func65 (by kernel_rfl) (by kernel_rfl) (evs1 (hF.1 hE)) hK
    · exact fun a wx hT hF K hK => rely_wp rfl (opr_pick_b rfl hF.1 (fun hb => hK _ _ (NewT.refl _) (pn_and1 Q1_11 (hF.2.1 hb) hb)) (fun hb => hK _ _ (NewT.refl _) (pn_and0 Q1_11 hb)))
    · exact fun a wx hT hF K hK => rely_wp rfl (opr_move (.inl rfl) (hK _ _ (NewT.refl _) hF.1))
    · exact fun a wx hT hF K hK => rely_if (rely_gt hF.2.1) (NewT.refl _) hK fun hE hK => opr_fldR (by decide) rfl hF.1 (hK _ _ (NewT.refl _) rfl)
    · exact fun a wx hT hF K hK => rely_if (rely_gt hF.2.1) (NewT.refl _) hK fun hE hK => opr_ldI (hT.row R1.out) (by decide) rfl rfl (hF.1 hE) (hK _ _ (NewT.refl _) rfl)
    · exact fun a wx hT hF K hK => rely_if (rely_gt hF.2.1) (NewT.refl _) hK fun hE hK => opr_cv (within_cv x.step 0 5 wx) rfl Tryd.func64 (by kernel_rfl) (by kernel_rfl) (evs3 (hF.1 hE) rfl rfl) hK
    · exact fun a wx hT hF K hK => rely_wp rfl (opr_pick_b rfl hF.1 (fun hb => hK _ _ (NewT.refl _) (pk_and1 (hF.2.1 hb) hb)) (fun hb => hK _ _ (NewT.refl _) (pk_and0 hb)))
    · exact fun a wx hT hF K hK => rely_wp rfl (opr_move (.inl rfl) (hK _ _ (NewT.refl _) hF.1))
    · exact fun a wx hT hF K hK => rely_if (rely_gt hF.2.1) (NewT.refl _) hK fun hE hK => opr_fldR (by decide) rfl hF.1 (hK _ _ (NewT.refl _) rfl)
    · exact fun a wx hT hF K hK => rely_if (rely_gt hF.2.1) (NewT.refl _) hK fun hE hK => opr_ldI (hT.row R1.out) (by decide) rfl rfl (hF.1 hE) (hK _ _ (NewT.refl _) rfl)
    · exact fun a wx hT hF K hK => rely_if (rely_gt hF.2.1) (NewT.refl _) hK fun hE hK => opr_cv (within_cv x.tr 1 9 wx) rfl Tryd.func64 (by kernel_rfl) (by kernel_rfl) (evs3 (hF.1 hE) rfl rfl) hK
    · exact fun a wx hT hF K hK => rely_wp rfl (opr_pick_b rfl hF.1 (fun hb => hK _ _ (NewT.refl _) (pn_and1 Q2_11 (hF.2.1 hb) hb)) (fun hb => hK _ _ (NewT.refl _) (pn_and0 Q2_11 hb)))
    · exact fun a wx hT hF K hK => rely_wp rfl (opr_move (.inr rfl) (hK _ _ (NewT.refl _) hF.1))
    · intro wx hT
      iterate 4 (intro u h; obtain rfl := Eq.symm (h (by simp)); clear h)
      iterate 3 (intro _ _)
      iterate 2 (intro u h; obtain rfl := Eq.symm (h (by simp)); clear h)
      iterate 3 (intro _ _)
      iterate 2 (intro u h; obtain rfl := Eq.symm (h (by simp)); clear h)
      iterate 3 (intro _ _)
      iterate 2 (intro u h; obtain rfl := Eq.symm (h (by simp)); clear h)
      subst Q2_11 Q1_11
      refine relyEnd_nil rfl ?_
      refine wpList_end rfl ?_
      simp only [Act.put, List.setIfInBounds_toArray, List.set_cons_zero, List.set_cons_succ]
      go_simp
      go_wp2
      go_ret
      exact ⟨_, rfl, NewT.trans _ _ _ HN.out hT, rfl⟩
  have k2 := hk
  clear hk
  by_cases hk : x.kind = 4
  · have hI : inRg x = (((inR x.saga 0 11 && inR x.seq 1 400) && inR x.step 0 5) && inR x.tr 1 9) := by unfold inRg; simp only [hk]; simp
    rw [hI]
    clear hI
    go_enter Tryd.func47, Tryd.ntmps47
    go_upto_region 1 with fail
    have r1 := rowIs_box w 30 109 (recF x sv dv)
    have hN := NewT.alloc w (.cells (rowA 109 (recF x sv dv)) 30)
    change Code.wp _ _ _ _ (w.alloc (.cells (rowA 109 (recF x sv dv)) 30))
    generalize w.alloc (.cells (rowA 109 (recF x sv dv)) 30) = W0 at r1 hN ⊢
    have R1 := Lib.hid r1
    have HN := Lib.hid hN
    replace HX := Lib.hid (hN.recV HX.out)
    replace HS := Lib.hid (hN.pairs HS.out)
    replace HD := Lib.hid (hN.rd HD.out)
    clear r1 hN
    have c0 : W0.cell? ⟨w.heap.size, 0, none⟩ = some (.int .i64 x.kind) := R1.out.cell (by omega)
    rw [hk] at c0
    go_upto_region 11 with fail
    clear c0
    obtain ⟨q1_11, Q1_11⟩ : ∃ bq_, ((inR x.saga 0 11) && (inR x.seq 1 400)) = bq_ := ⟨_, rfl⟩
    obtain ⟨q2_11, Q2_11⟩ : ∃ bq_, ((q1_11 && (inR x.step 0 5)) && (inR x.tr 1 9)) = bq_ := ⟨_, rfl⟩
    refine wp_region_steps0 NewT [SV.eq (.pointer (some ⟨w.heap.size, 1, none⟩)), SV.eq (.int .i64 (x.saga)), SV.eq (.bool (inR x.saga 0 11)), SV.eq (.bool (inR x.saga 0 11)), svIf (inR x.saga 0 11) (SV.eq (.pointer (some ⟨w.heap.size, 2, none⟩))), svIf (inR x.saga 0 11) (SV.eq (.int .i64 (x.seq))), svIf (inR x.saga 0 11) (SV.eq (.bool (inR x.seq 1 400))), SV.eq (.bool (q1_11)), SV.eq (.bool (q1_11)), svIf q1_11 (SV.eq (.pointer (some ⟨w.heap.size, 3, none⟩))), svIf q1_11 (SV.eq (.int .i64 (x.step))), svIf q1_11 (SV.eq (.bool (inR x.step 0 5))), SV.eq (.bool (q1_11 && (inR x.step 0 5))), SV.eq (.bool (q1_11 && (inR x.step 0 5))), svIf (q1_11 && (inR x.step 0 5)) (SV.eq (.pointer (some ⟨w.heap.size, 4, none⟩))), svIf (q1_11 && (inR x.step 0 5)) (SV.eq (.int .i64 (x.tr))), svIf (q1_11 && (inR x.step 0 5)) (SV.eq (.bool (inR x.tr 1 9))), SV.eq (.bool (q2_11)), SV.eq (.bool (q2_11))] [([(1, none)], none), ([(40, some 0)], none), ([(41, some 1)], none), ([(42, some 2)], none), ([(1, none), (43, some 3)], some (43, true)), ([(44, some 4), (43, some 3)], some (43, true)), ([(45, some 5), (43, some 3)], some (43, true)), ([(43, some 3), (46, some 6)], none), ([(47, some 7)], none), ([(1, none), (48, some 8)], some (48, true)), ([(49, some 9), (48, some 8)], some (48, true)), ([(50, some 10), (48, some 8)], some (48, true)), ([(48, some 8), (51, some 11)], none), ([(52, some 12)], none), ([(1, none), (53, some 13)], some (53, true)), ([(54, some 14), (53, some 13)], some (53, true)), ([(55, some 15), (53, some 13)], some (53, true)), ([(53, some 13), (56, some 16)], none), ([(57, some 17)], none)] 79 19 rfl rfl (by kernel_rfl) NewT.trans (NewT.refl _) (Nat.le_of_ble_eq_true rfl) ⟨?_, ?_, ?_, ?_, ?_, ?_, ?_, ?_, ?_, ?_, ?_, ?_, ?_, ?_, ?_, ?_, ?_, ?_, ?_, trivial⟩ ?_
    · exact fun a wx hT hF K hK => rely_wp rfl (opr_fldR (by decide) rfl hF.1 (hK _ _ (NewT.refl _) rfl))
    · exact fun a wx hT hF K hK => rely_wp rfl (opr_ldI (hT.row R1.out) (by decide) rfl rfl hF.1 (hK _ _ (NewT.refl _) rfl))
    · exact fun a wx hT hF K hK => rely_wp rfl (opr_cv (isSaga_cv x.saga wx) rfl Tryd.func61 (by kernel_rfl) (by kernel_rfl) (evs1 hF.1) hK)
    · exact fun a wx hT hF K hK => rely_wp rfl (opr_move (.inl rfl) (hK _ _ (NewT.refl _) hF.1))
    · exact fun a wx hT hF K hK => rely_if (rely_gt hF.2.1) (NewT.refl _) hK fun hE hK => opr_fldR (by decide) rfl hF.1 (hK _ _ (NewT.refl _) rfl)
    · exact fun a wx hT hF K hK => rely_if (rely_gt hF.2.1) (NewT.refl _) hK fun hE hK => opr_ldI (hT.row R1.out) (by decide) rfl rfl (hF.1 hE) (hK _ _ (NewT.refl _) rfl)
    · exact fun a wx hT hF K hK => rely_if (rely_gt hF.2.1) (NewT.refl _) hK fun hE hK => opr_cv (isSeq_cv x.seq wx) rfl Tryd.func65 (by kernel_rfl) (by kernel_rfl) (evs1 (hF.1 hE)) hK
    · exact fun a wx hT hF K hK => rely_wp rfl (opr_pick_b rfl hF.1 (fun hb => hK _ _ (NewT.refl _) (pn_and1 Q1_11 (hF.2.1 hb) hb)) (fun hb => hK _ _ (NewT.refl _) (pn_and0 Q1_11 hb)))
    · exact fun a wx hT hF K hK => rely_wp rfl (opr_move (.inl rfl) (hK _ _ (NewT.refl _) hF.1))
    · exact fun a wx hT hF K hK => rely_if (rely_gt hF.2.1) (NewT.refl _) hK fun hE hK => opr_fldR (by decide) rfl hF.1 (hK _ _ (NewT.refl _) rfl)
    · exact fun a wx hT hF K hK => rely_if (rely_gt hF.2.1) (NewT.refl _) hK fun hE hK => opr_ldI (hT.row R1.out) (by decide) rfl rfl (hF.1 hE) (hK _ _ (NewT.refl _) rfl)
    · exact fun a wx hT hF K hK => rely_if (rely_gt hF.2.1) (NewT.refl _) hK fun hE hK => opr_cv (within_cv x.step 0 5 wx) rfl Tryd.func64 (by kernel_rfl) (by kernel_rfl) (evs3 (hF.1 hE) rfl rfl) hK
    · exact fun a wx hT hF K hK => rely_wp rfl (opr_pick_b rfl hF.1 (fun hb => hK _ _ (NewT.refl _) (pk_and1 (hF.2.1 hb) hb)) (fun hb => hK _ _ (NewT.refl _) (pk_and0 hb)))
    · exact fun a wx hT hF K hK => rely_wp rfl (opr_move (.inl rfl) (hK _ _ (NewT.refl _) hF.1))
    · exact fun a wx hT hF K hK => rely_if (rely_gt hF.2.1) (NewT.refl _) hK fun hE hK => opr_fldR (by decide) rfl hF.1 (hK _ _ (NewT.refl _) rfl)
    · exact fun a wx hT hF K hK => rely_if (rely_gt hF.2.1) (NewT.refl _) hK fun hE hK => opr_ldI (hT.row R1.out) (by decide) rfl rfl (hF.1 hE) (hK _ _ (NewT.refl _) rfl)
    · exact fun a wx hT hF K hK => rely_if (rely_gt hF.2.1) (NewT.refl _) hK fun hE hK => opr_cv (within_cv x.tr 1 9 wx) rfl Tryd.func64 (by kernel_rfl) (by kernel_rfl) (evs3 (hF.1 hE) rfl rfl) hK
    · exact fun a wx hT hF K hK => rely_wp rfl (opr_pick_b rfl hF.1 (fun hb => hK _ _ (NewT.refl _) (pn_and1 Q2_11 (hF.2.1 hb) hb)) (fun hb => hK _ _ (NewT.refl _) (pn_and0 Q2_11 hb)))
    · exact fun a wx hT hF K hK => rely_wp rfl (opr_move (.inr rfl) (hK _ _ (NewT.refl _) hF.1))
    · intro wx hT
      iterate 4 (intro u h; obtain rfl := Eq.symm (h (by simp)); clear h)
      iterate 3 (intro _ _)
      iterate 2 (intro u h; obtain rfl := Eq.symm (h (by simp)); clear h)
      iterate 3 (intro _ _)
      iterate 2 (intro u h; obtain rfl := Eq.symm (h (by simp)); clear h)
      iterate 3 (intro _ _)
      iterate 2 (intro u h; obtain rfl := Eq.symm (h (by simp)); clear h)
      subst Q2_11 Q1_11
      refine relyEnd_nil rfl ?_
      refine wpList_end rfl ?_
      simp only [Act.put, List.setIfInBounds_toArray, List.set_cons_zero, List.set_cons_succ]
      go_simp
      go_wp2
      go_ret
      exact ⟨_, rfl, NewT.trans _ _ _ HN.out hT, rfl⟩
  have k4 := hk
  clear hk
  by_cases hk : x.kind = 5
  · have hI : inRg x = ((inR x.saga 0 11 && inR x.seq 1 400) && inR x.nd 2 4) := by unfold inRg; simp only [hk]; simp
    rw [hI]
    clear hI
    go_enter Tryd.func47, Tryd.ntmps47
    go_upto_region 1 with fail
    have r1 := rowIs_box w 30 109 (recF x sv dv)
    have hN := NewT.alloc w (.cells (rowA 109 (recF x sv dv)) 30)
    change Code.wp _ _ _ _ (w.alloc (.cells (rowA 109 (recF x sv dv)) 30))
    generalize w.alloc (.cells (rowA 109 (recF x sv dv)) 30) = W0 at r1 hN ⊢
    have R1 := Lib.hid r1
    have HN := Lib.hid hN
    replace HX := Lib.hid (hN.recV HX.out)
    replace HS := Lib.hid (hN.pairs HS.out)
    replace HD := Lib.hid (hN.rd HD.out)
    clear r1 hN
    have c0 : W0.cell? ⟨w.heap.size, 0, none⟩ = some (.int .i64 x.kind) := R1.out.cell (by omega)
    rw [hk] at c0
    go_upto_region 12 with fail
    clear c0
    obtain ⟨q1_12, Q1_12⟩ : ∃ bq_, ((inR x.saga 0 11) && (inR x.seq 1 400)) = bq_ := ⟨_, rfl⟩
    refine wp_region_steps0 NewT [SV.eq (.pointer (some ⟨w.heap.size, 1, none⟩)), SV.eq (.int .i64 (x.saga)), SV.eq (.bool (inR x.saga 0 11)), SV.eq (.bool (inR x.saga 0 11)), svIf (inR x.saga 0 11) (SV.eq (.pointer (some ⟨w.heap.size, 2, none⟩))), svIf (inR x.saga 0 11) (SV.eq (.int .i64 (x.seq))), svIf (inR x.saga 0 11) (SV.eq (.bool (inR x.seq 1 400))), SV.eq (.bool (q1_12)), SV.eq (.bool (q1_12)), svIf q1_12 (SV.eq (.pointer (some ⟨w.heap.size, 7, none⟩))), svIf q1_12 (SV.eq (.int .i64 (x.nd))), svIf q1_12 (SV.eq (.bool (inR x.nd 2 4))), SV.eq (.bool (q1_12 && (inR x.nd 2 4))), SV.eq (.bool (q1_12 && (inR x.nd 2 4)))] [([(1, none)], none), ([(58, some 0)], none), ([(59, some 1)], none), ([(60, some 2)], none), ([(1, none), (61, some 3)], some (61, true)), ([(62, some 4), (61, some 3)], some (61, true)), ([(63, some 5), (61, some 3)], some (61, true)), ([(61, some 3), (64, some 6)], none), ([(65, some 7)], none), ([(1, none), (66, some 8)], some (66, true)), ([(67, some 9), (66, some 8)], some (66, true)), ([(68, some 10), (66, some 8)], some (66, true)), ([(66, some 8), (69, some 11)], none), ([(70, some 12)], none)] 79 14 rfl rfl (by kernel_rfl) NewT.trans (NewT.refl _) (Nat.le_of_ble_eq_true rfl) ⟨?_, ?_, ?_, ?_, ?_, ?_, ?_, ?_, ?_, ?_, ?_, ?_, ?_, ?_, trivial⟩ ?_
    · exact fun a wx hT hF K hK => rely_wp rfl (opr_fldR (by decide) rfl hF.1 (hK _ _ (NewT.refl _) rfl))
    · exact fun a wx hT hF K hK => rely_wp rfl (opr_ldI (hT.row R1.out) (by decide) rfl rfl hF.1 (hK _ _ (NewT.refl _) rfl))
    · exact fun a wx hT hF K hK => rely_wp rfl (opr_cv (isSaga_cv x.saga wx) rfl Tryd.func61 (by kernel_rfl) (by kernel_rfl) (evs1 hF.1) hK)
    · exact fun a wx hT hF K hK => rely_wp rfl (opr_move (.inl rfl) (hK _ _ (NewT.refl _) hF.1))
    · exact fun a wx hT hF K hK => rely_if (rely_gt hF.2.1) (NewT.refl _) hK fun hE hK => opr_fldR (by decide) rfl hF.1 (hK _ _ (NewT.refl _) rfl)
    · exact fun a wx hT hF K hK => rely_if (rely_gt hF.2.1) (NewT.refl _) hK fun hE hK => opr_ldI (hT.row R1.out) (by decide) rfl rfl (hF.1 hE) (hK _ _ (NewT.refl _) rfl)
    · exact fun a wx hT hF K hK => rely_if (rely_gt hF.2.1) (NewT.refl _) hK fun hE hK => opr_cv (isSeq_cv x.seq wx) rfl Tryd.func65 (by kernel_rfl) (by kernel_rfl) (evs1 (hF.1 hE)) hK
    · exact fun a wx hT hF K hK => rely_wp rfl (opr_pick_b rfl hF.1 (fun hb => hK _ _ (NewT.refl _) (pn_and1 Q1_12 (hF.2.1 hb) hb)) (fun hb => hK _ _ (NewT.refl _) (pn_and0 Q1_12 hb)))
    · exact fun a wx hT hF K hK => rely_wp rfl (opr_move (.inl rfl) (hK _ _ (NewT.refl _) hF.1))
    · exact fun a wx hT hF K hK => rely_if (rely_gt hF.2.1) (NewT.refl _) hK fun hE hK => opr_fldR (by decide) rfl hF.1 (hK _ _ (NewT.refl _) rfl)
    · exact fun a wx hT hF K hK => rely_if (rely_gt hF.2.1) (NewT.refl _) hK fun hE hK => opr_ldI (hT.row R1.out) (by decide) rfl rfl (hF.1 hE) (hK _ _ (NewT.refl _) rfl)
    · exact fun a wx hT hF K hK => rely_if (rely_gt hF.2.1) (NewT.refl _) hK fun hE hK => opr_cv (within_cv x.nd 2 4 wx) rfl Tryd.func64 (by kernel_rfl) (by kernel_rfl) (evs3 (hF.1 hE) rfl rfl) hK
    · exact fun a wx hT hF K hK => rely_wp rfl (opr_pick_b rfl hF.1 (fun hb => hK _ _ (NewT.refl _) (pk_and1 (hF.2.1 hb) hb)) (fun hb => hK _ _ (NewT.refl _) (pk_and0 hb)))
    · exact fun a wx hT hF K hK => rely_wp rfl (opr_move (.inr rfl) (hK _ _ (NewT.refl _) hF.1))
    · intro wx hT
      iterate 4 (intro u h; obtain rfl := Eq.symm (h (by simp)); clear h)
      iterate 3 (intro _ _)
      iterate 2 (intro u h; obtain rfl := Eq.symm (h (by simp)); clear h)
      iterate 3 (intro _ _)
      iterate 2 (intro u h; obtain rfl := Eq.symm (h (by simp)); clear h)
      subst Q1_12
      refine relyEnd_nil rfl ?_
      refine wpList_end rfl ?_
      simp only [Act.put, List.setIfInBounds_toArray, List.set_cons_zero, List.set_cons_succ]
      go_simp
      go_wp2
      go_ret
      exact ⟨_, rfl, NewT.trans _ _ _ HN.out hT, rfl⟩
  have k5 := hk
  clear hk
  by_cases hk : x.kind = 6
  · have hI : inRg x = (inR x.part 0 3 && inR x.epoch 1 400) := by unfold inRg; simp only [hk]; simp
    rw [hI]
    clear hI
    go_enter Tryd.func47, Tryd.ntmps47
    go_upto_region 1 with fail
    have r1 := rowIs_box w 30 109 (recF x sv dv)
    have hN := NewT.alloc w (.cells (rowA 109 (recF x sv dv)) 30)
    change Code.wp _ _ _ _ (w.alloc (.cells (rowA 109 (recF x sv dv)) 30))
    generalize w.alloc (.cells (rowA 109 (recF x sv dv)) 30) = W0 at r1 hN ⊢
    have R1 := Lib.hid r1
    have HN := Lib.hid hN
    replace HX := Lib.hid (hN.recV HX.out)
    replace HS := Lib.hid (hN.pairs HS.out)
    replace HD := Lib.hid (hN.rd HD.out)
    clear r1 hN
    have c0 : W0.cell? ⟨w.heap.size, 0, none⟩ = some (.int .i64 x.kind) := R1.out.cell (by omega)
    rw [hk] at c0
    go_upto_region 13 with fail
    clear c0
    obtain ⟨q1_13, Q1_13⟩ : ∃ bq_, ((inR x.part 0 3) && (inR x.epoch 1 400)) = bq_ := ⟨_, rfl⟩
    refine wp_region_steps0 NewT [SV.eq (.pointer (some ⟨w.heap.size, 8, none⟩)), SV.eq (.int .i64 (x.part)), SV.eq (.bool (inR x.part 0 3)), SV.eq (.bool (inR x.part 0 3)), svIf (inR x.part 0 3) (SV.eq (.pointer (some ⟨w.heap.size, 9, none⟩))), svIf (inR x.part 0 3) (SV.eq (.int .i64 (x.epoch))), svIf (inR x.part 0 3) (SV.eq (.bool (inR x.epoch 1 400))), SV.eq (.bool (q1_13)), SV.eq (.bool (q1_13))] [([(1, none)], none), ([(71, some 0)], none), ([(72, some 1)], none), ([(73, some 2)], none), ([(1, none), (74, some 3)], some (74, true)), ([(75, some 4), (74, some 3)], some (74, true)), ([(76, some 5), (74, some 3)], some (74, true)), ([(74, some 3), (77, some 6)], none), ([(78, some 7)], none)] 79 9 rfl rfl (by kernel_rfl) NewT.trans (NewT.refl _) (Nat.le_of_ble_eq_true rfl) ⟨?_, ?_, ?_, ?_, ?_, ?_, ?_, ?_, ?_, trivial⟩ ?_
    · exact fun a wx hT hF K hK => rely_wp rfl (opr_fldR (by decide) rfl hF.1 (hK _ _ (NewT.refl _) rfl))
    · exact fun a wx hT hF K hK => rely_wp rfl (opr_ldI (hT.row R1.out) (by decide) rfl rfl hF.1 (hK _ _ (NewT.refl _) rfl))
    · exact fun a wx hT hF K hK => rely_wp rfl (opr_cv (isPart_cv x.part wx) rfl Tryd.func63 (by kernel_rfl) (by kernel_rfl) (evs1 hF.1) hK)
    · exact fun a wx hT hF K hK => rely_wp rfl (opr_move (.inl rfl) (hK _ _ (NewT.refl _) hF.1))
    · exact fun a wx hT hF K hK => rely_if (rely_gt hF.2.1) (NewT.refl _) hK fun hE hK => opr_fldR (by decide) rfl hF.1 (hK _ _ (NewT.refl _) rfl)
    · exact fun a wx hT hF K hK => rely_if (rely_gt hF.2.1) (NewT.refl _) hK fun hE hK => opr_ldI (hT.row R1.out) (by decide) rfl rfl (hF.1 hE) (hK _ _ (NewT.refl _) rfl)
    · exact fun a wx hT hF K hK => rely_if (rely_gt hF.2.1) (NewT.refl _) hK fun hE hK => opr_cv (within_cv x.epoch 1 400 wx) rfl Tryd.func64 (by kernel_rfl) (by kernel_rfl) (evs3 (hF.1 hE) rfl rfl) hK
    · exact fun a wx hT hF K hK => rely_wp rfl (opr_pick_b rfl hF.1 (fun hb => hK _ _ (NewT.refl _) (pn_and1 Q1_13 (hF.2.1 hb) hb)) (fun hb => hK _ _ (NewT.refl _) (pn_and0 Q1_13 hb)))
    · exact fun a wx hT hF K hK => rely_wp rfl (opr_move (.inr rfl) (hK _ _ (NewT.refl _) hF.1))
    · intro wx hT
      iterate 4 (intro u h; obtain rfl := Eq.symm (h (by simp)); clear h)
      iterate 3 (intro _ _)
      iterate 2 (intro u h; obtain rfl := Eq.symm (h (by simp)); clear h)
      subst Q1_13
      refine relyEnd_nil rfl ?_
      refine wpList_end rfl ?_
      simp only [Act.put, List.setIfInBounds_toArray, List.set_cons_zero, List.set_cons_succ]
      go_simp
      go_wp2
      go_ret
      exact ⟨_, rfl, NewT.trans _ _ _ HN.out hT, rfl⟩
  have k6 := hk
  clear hk
  have hI : inRg x = false := by unfold inRg; simp [k1, k2, k3, k4, k5, k6]
  rw [hI]
  clear hI
  go_enter Tryd.func47, Tryd.ntmps47
  go_upto_region 1 with fail
  have r1 := rowIs_box w 30 109 (recF x sv dv)
  have hN := NewT.alloc w (.cells (rowA 109 (recF x sv dv)) 30)
  change Code.wp _ _ _ _ (w.alloc (.cells (rowA 109 (recF x sv dv)) 30))
  generalize w.alloc (.cells (rowA 109 (recF x sv dv)) 30) = W0 at r1 hN ⊢
  have R1 := Lib.hid r1
  have HN := Lib.hid hN
  replace HX := Lib.hid (hN.recV HX.out)
  replace HS := Lib.hid (hN.pairs HS.out)
  replace HD := Lib.hid (hN.rd HD.out)
  clear r1 hN
  have c0 : W0.cell? ⟨w.heap.size, 0, none⟩ = some (.int .i64 x.kind) := R1.out.cell (by omega)
  have q1 : (x.kind == 1) = false := by simpa using k1
  have q2 : (x.kind == 2) = false := by simpa using k2
  have q3 : (x.kind == 3) = false := by simpa using k3
  have q4 : (x.kind == 4) = false := by simpa using k4
  have q5 : (x.kind == 5) = false := by simpa using k5
  have q6 : (x.kind == 6) = false := by simpa using k6
  generalize x.kind = kd at c0 q1 q2 q3 q4 q5 q6
  clear k1 k2 k3 k4 k5 k6
  go_wp2
  go_ret
  exact ⟨_, rfl, HN.out, rfl⟩
end Go.Proofs.YtcfogkimjbgjgaaDoor
/- A region that draws its order and makes two arrays: beside the conditions of single operations a relation on the frame that each step keeps. -/
namespace Go.Proofs.YtcfogkimjbgjgaaDoor
open Go Go.RowKit
set_option maxRecDepth 8000
set_option linter.all false

def relyStepJ (P : Program) (Q : Exit → Act → World → Prop) (T : World → World → Prop) (V : List (SV T)) (J : Act → World → Prop) (a0 : Act) (w0 : World) (o : Oper) (dp : List (Tmp × Option Nat)) (g : Option (Tmp × Bool)) (c : SV T) : Prop :=
  ∀ (a : Act) (w : World), T w0 w → relyFacts V a0 a w dp → J a w → ∀ K : Act → World → Prop, (∀ v w', T w w' → c.pred v w' → J (a.put o.dst v) w' → K (a.put o.dst v) w') →
    if relyGuard g a then o.wp P a w K Q else K (a.put o.dst undef) w
def relyAllJ (P : Program) (Q : Exit → Act → World → Prop) (T : World → World → Prop) (V : List (SV T)) (J : Act → World → Prop) (a0 : Act) (w0 : World) : List Oper → Deps → List (SV T) → Prop
  | [], _, _ => True
  | o :: r, (dp, g) :: D, c :: C => relyStepJ P Q T V J a0 w0 o dp g c ∧ relyAllJ P Q T V J a0 w0 r D C
  | _, _, _ => False
section
variable {P : Program} {ops : Array Oper} {Q : Exit → Act → World → Prop} {T : World → World → Prop} {V : List (SV T)} {J : Act → World → Prop} {a0 : Act} {w0 : World} {n : Nat} {D : Deps} {init tail : List Oper}
/-- A step that keeps the relation whatever its value is. -/
theorem relyStepJ_of {o : Oper} {dp : List (Tmp × Option Nat)} {g : Option (Tmp × Bool)} {c : SV T} (hj : ∀ a w v w', J a w → T w w' → J (a.put o.dst v) w') (h : relyStep P Q T V a0 w0 o dp g c) : relyStepJ P Q T V J a0 w0 o dp g c :=
  fun a w hT hF hJ K hK => h a w hT hF K fun v w' h1 h2 => hK v w' h1 h2 (hj a w v w' hJ h1)
theorem relyAllJ_at : ∀ (l : List Oper) (D : Deps) (C : List (SV T)) (k : Nat) (o : Oper) dp g, relyAllJ P Q T V J a0 w0 l D C → l[k]? = some o → D[k]? = some (dp, g) → relyStepJ P Q T V J a0 w0 o dp g (C.getD k SV.any)
  | [], _, _, _, _, _, _, _, h, _ => by simp at h
  | x :: r, [], _, _, _, _, _, h, _, _ => h.elim
  | x :: r, y :: D, [], _, _, _, _, h, _, _ => h.elim
  | x :: r, (dp, g) :: D, c :: C, 0, o, dp', g', h, ho, hD => by
    simp at ho hD
    obtain ⟨rfl, rfl⟩ := hD
    subst ho
    exact h.1
  | x :: r, (dp, g) :: D, c :: C, k + 1, o, dp', g', h, ho, hD => by
    have := relyAllJ_at r D C k o dp' g' h.2 (by simpa using ho) (by simpa using hD)
    simpa using this
theorem rely_next (hn : a0.tmps.size = n) (ht : ∀ a b c : World, T a b → T b c → T a c) {i : Nat} {o : Oper} {dp : List (Tmp × Option Nat)} {g : Option (Tmp × Bool)} {listed : Array Bool} {a : Act} {w : World}
    (ho : ops[i]? = some o) (h1 : relyOne ops n i o dp g = true) (h0 : listed.getD i true = false)
    (hall : ∀ e ∈ o.after, Region.binds .any e = true → listed.getD e.on false = true) (inv : RelyInv ops T V a0 w0 listed a w) :
    relyFacts V a0 a w dp ∧ Region.wanted o (yielded ops a.tmps) = relyGuard g a ∧ ∀ v w', T w w' → (V.getD i SV.any).pred v w' → RelyInv ops T V a0 w0 (listed.setIfInBounds i true) (a.put o.dst v) w' := by
  simp only [relyOne, Bool.and_eq_true] at h1
  obtain ⟨⟨⟨hdst, hafter⟩, hdp⟩, hg⟩ := h1
  have waits : ∀ j, Region.waitsFor .any ops i j = true → listed.getD j false = true := fun j hj => by
    obtain ⟨oi, hoi, e, he, hb, hon⟩ := Region.waitsFor_spec hj
    have : oi = o := Option.some.inj (hoi.symm.trans ho)
    subst this
    rw [← hon]
    exact hall e he hb
  have i0 : listed.getD i false = false := getD_both h0
  have hfacts : relyFacts V a0 a w dp := by
      induction dp with
    | nil => trivial
    | cons x r ih2 =>
      simp only [List.all_cons, Bool.and_eq_true] at hdp
      obtain ⟨hx, hr⟩ := hdp
      obtain ⟨d, j⟩ := x
      cases j with
      | some j =>
        simp only [Bool.and_eq_true, beq_iff_eq] at hx
        exact ⟨inv.new j d hx.1 (waits j hx.2), ih2 hr⟩
      | none =>
        refine ⟨inv.old d fun j hj => ?_, ih2 hr⟩
        have hjlt : j < ops.size := by
          unfold relyDst at hj
          cases hoj : ops[j]? with
          | none => simp [hoj] at hj
          | some oj => exact (Array.getElem?_eq_some_iff.1 hoj).1
        have h2 := List.all_eq_true.1 hx j (List.mem_range.2 hjlt)
        simp only [hj, bne_self_eq_false, Bool.false_or, Bool.or_eq_true, decide_eq_true_eq] at h2
        rcases h2 with rfl | h2
        · exact i0
        · cases hlj : listed.getD j false with
          | false => rfl
          | true =>
            obtain ⟨oj, hoj, e, he, hb, hon⟩ := Region.waitsFor_spec h2
            have := inv.closed j oj hoj hlj e he hb
            rw [hon, i0] at this
            cases this
  have hguard : Region.wanted o (yielded ops a.tmps) = relyGuard g a := by
    unfold Region.wanted
    cases hgo : o.guard with
    | none =>
      rw [hgo] at hg
      cases g with
      | none => rfl
      | some x => cases hg
    | some kb =>
      obtain ⟨k, b⟩ := kb
      rw [hgo] at hg
      cases g with
      | none => cases hg
      | some x =>
        obtain ⟨d, b'⟩ := x
        simp only [Bool.and_eq_true, beq_iff_eq, decide_eq_true_eq] at hg
        obtain ⟨⟨⟨rfl, hd⟩, _⟩, hlt⟩ := hg
        have hlt' : d < a.tmps.size := by rw [inv.slots, hn]; exact hlt
        have hd' : (ops[k]?).bind (·.dst) = some d := hd
        simp only [yielded, hd', Option.bind_some, relyGuard, Array.getD_eq_getD_getElem?, Array.getElem?_eq_getElem hlt', Option.getD_some]
        cases a.tmps[d] <;> simp
        all_goals (rename_i x; cases x <;> cases b <;> rfl)
  have next : ∀ v w', T w w' → (V.getD i SV.any).pred v w' → RelyInv ops T V a0 w0 (listed.setIfInBounds i true) (a.put o.dst v) w' := fun v w' hT hv => by
    have hilt : i < listed.size := by rw [inv.size]; exact (Array.getElem?_eq_some_iff.1 ho).1
    refine ⟨by simp [inv.size], fun j oj hj hlj e he hb => ?_, ht _ _ _ inv.now hT, by cases o.dst <;> simp [Act.put, inv.slots], by cases o.dst <;> simp [Act.put, inv.defers], fun j d hj hlj => ?_, fun d hno => ?_⟩
    · by_cases hij : i = j
      · subst hij
        have : oj = o := Option.some.inj (hj.symm.trans ho)
        subst this
        exact getD_set_true (hall e he hb)
      · rw [getD_set_ne false hij] at hlj
        exact getD_set_true (inv.closed j oj hj hlj e he hb)
    · by_cases hij : i = j
      · subst hij
        have hd : o.dst = some d := by simpa [relyDst, ho] using hj
        rw [hd] at hdst
        simp only [Bool.and_eq_true, decide_eq_true_eq] at hdst
        have hlt : d < a.tmps.size := by rw [inv.slots, hn]; exact hdst.1
        rw [hd]
        simpa [Act.put, hlt] using hv
      · rw [getD_set_ne false hij] at hlj
        have h3 := (V.getD j SV.any).stable _ _ _ (inv.new j d hj hlj) hT
        cases hod : o.dst with
        | none => exact h3
        | some d0 =>
          rw [hod] at hdst
          simp only [Bool.and_eq_true, decide_eq_true_eq] at hdst
          have hjlt : j < ops.size := by
            unfold relyDst at hj
            cases hoj : ops[j]? with
            | none => simp [hoj] at hj
            | some oj => exact (Array.getElem?_eq_some_iff.1 hoj).1
          have h4 := List.all_eq_true.1 hdst.2 j (List.mem_range.2 hjlt)
          simp only [Bool.or_eq_true, decide_eq_true_eq, bne_iff_ne, ne_eq] at h4
          have hne : d0 ≠ d := fun e => by
            subst e
            rcases h4 with h4 | h4
            · exact hij h4.symm
            · exact h4 hj
          simpa [Act.put, Array.getElem?_setIfInBounds_ne hne] using h3
    · have hni : o.dst ≠ some d := fun hd => by
        have := hno i (by simp [relyDst, ho, hd])
        simp [hilt] at this
      have hold := inv.old d fun j hj => by
        have hij : i ≠ j := fun e => by subst e; exact hni (by simpa [relyDst, ho] using hj)
        have := hno j hj
        rwa [getD_set_ne false hij] at this
      cases hod : o.dst with
      | none => exact hold
      | some d0 =>
        have hne : d0 ≠ d := fun e => hni (by rw [hod, e])
        simpa [Act.put, Array.getElem?_setIfInBounds_ne hne] using hold
  exact ⟨hfacts, hguard, next⟩
theorem wpAny_relyJ_tail (hsplit : ops.toList = init ++ tail) (hpos : 0 < tail.length) (hn : a0.tmps.size = n) (hB : relyB ops n 0 init D = true) (hsink : Region.sinkB .any ops init.length = true) (htb : tailB ops tail init.length = true) (ht : ∀ a b c : World, T a b → T b c → T a c)
    (hl : init.length ≤ V.length) (hA : relyAllJ P Q T V J a0 w0 init D V) (hE : ∀ w, T w0 w → relyEnd (fun _ a w => J a w → wpList P ops Q tail a w) T init V a0 w) :
    ∀ (fuel : Nat) (listed : Array Bool) (a : Act) (w : World), (unl ops listed).length = fuel → (∀ j, init.length ≤ j → j < ops.size → listed.getD j true = false) → RelyInv ops T V a0 w0 listed a w → J a w → wpAny P .any ops Q fuel listed a w := by
  obtain ⟨hsz, hpre, htl⟩ := split_at hsplit
  have hat : ∀ i o, init[i]? = some o → ∃ dp g, relyOne ops n i o dp g = true ∧ relyStepJ P Q T V J a0 w0 o dp g (V.getD i SV.any) := fun i o hi => by
    obtain ⟨dp, g, hD, h1⟩ := relyB_at init D 0 i o hB hi
    rw [Nat.zero_add] at h1
    exact ⟨dp, g, h1, relyAllJ_at _ _ _ i o dp g hA hi hD⟩
  -- once all of the first ones have come up
  have fin : ∀ (fuel : Nat) (listed : Array Bool) (a : Act) (w : World), (unl ops listed).length = fuel → (∀ j, init.length ≤ j → j < ops.size → listed.getD j true = false) → RelyInv ops T V a0 w0 listed a w → J a w → (∀ j, j < init.length → listed.getD j false = true) → wpAny P .any ops Q fuel listed a w := fun fuel listed a w hu hun inv hJ hdone => by
    have h1 : wpList P ops Q tail a w := rely_all (Q' := fun a w => J a w → wpList P ops Q tail a w) inv
      (fun k o hk => ⟨hpre k o hk, hdone k (List.getElem?_eq_some_iff.1 hk).1⟩) (fun j hj => by
        rcases Nat.lt_or_ge j init.length with h | h
        · exact h
        · rcases Nat.lt_or_ge j ops.size with h' | h'
          · rw [getD_both (hun j h h')] at hj; cases hj
          · have : listed.getD j false = false := by simp [Array.getElem?_eq_none (show listed.size ≤ j by rw [inv.size]; omega)]
            rw [this] at hj; cases hj) hl (hE w inv.now) hJ
    have hf : fuel = tail.length := by
      rw [← hu]
      unfold unl
      have e : (List.range ops.size).filter (fun i => !listed.getD i true) = List.range' init.length tail.length := by
        rw [List.range_eq_range', show ops.size = init.length + tail.length from hsz, ← List.range'_append_1, List.filter_append, List.filter_eq_nil_iff.2, List.filter_eq_self.2]
        · simp
        · intro i hi
          simp only [List.mem_range'_1] at hi
          rw [hun i (by omega) (by omega)]; rfl
        · intro i hi
          simp only [List.mem_range'_1] at hi
          have h2 := hdone i (by omega)
          have h3 : listed.getD i true = true := by
            have hlt : i < listed.size := by rw [inv.size]; omega
            simp [hlt] at h2 ⊢; exact h2
          rw [h3]; simp
      rw [e]; simp
    subst hf
    exact tail_seq hsplit htb tail.length 0 listed a w (by omega) inv.size (by simpa using hdone) (by simpa using hun) (by simpa using h1)
  intro fuel
  induction fuel with
  | zero =>
    intro listed a w hu hun inv hJ
    have : init.length ∈ unl ops listed := by
      unfold unl; rw [List.mem_filter]; exact ⟨List.mem_range.2 (by omega), by rw [hun _ (Nat.le_refl _) (by omega)]; rfl⟩
    rw [List.eq_nil_of_length_eq_zero hu] at this
    cases this
  | succ fuel ih =>
    intro listed a w hu hun inv hJ
    by_cases hdone : ∀ j, j < init.length → listed.getD j false = true
    · exact fin _ listed a w hu hun inv hJ hdone
    · -- none of the last ones may come up yet
      have hlow : ∀ i, i ∈ Region.ready .any ops listed → i < init.length := fun i hi => by
        rcases Nat.lt_or_ge i init.length with h | h
        · exact h
        · exfalso
          obtain ⟨h0, o, ho, hall⟩ := mem_ready.1 hi
          have hilt := (Array.getElem?_eq_some_iff.1 ho).1
          by_cases him : i = init.length
          · subst him
            apply hdone
            have hd : ∀ (d j : Nat), init.length - j = d → j < init.length → listed.getD j false = true := fun d => by
              induction d using Nat.strongRecOn with
              | _ d ihd =>
                intro j hd hj
                have h1 := List.all_eq_true.1 hsink j (List.mem_range.2 hj)
                obtain ⟨t, ht1, ht2⟩ := List.any_eq_true.1 h1
                simp only [Bool.and_eq_true, decide_eq_true_eq] at ht2
                obtain ⟨ot, hot, e, he, hb, hon⟩ := Region.waitsFor_spec ht2.2
                have htle : t ≤ init.length := by have := List.mem_range.1 ht1; omega
                rw [← hon]
                by_cases htm : t = init.length
                · subst htm
                  have : ot = o := Option.some.inj (hot.symm.trans ho)
                  subst this
                  exact hall e he hb
                · exact inv.closed t ot hot (ihd (init.length - t) (by omega) t rfl (by omega)) e he hb
            exact fun j hj => hd _ j rfl hj
          · have h := List.all_eq_true.1 htb (i - init.length) (List.mem_range.2 (by omega))
            simp only [Bool.and_eq_true, Bool.or_eq_true, decide_eq_true_eq] at h
            rw [show init.length + (i - init.length) = i by omega] at h
            rcases h.2 with h | h
            · omega
            · obtain ⟨oi, hoi', e, he, hbe, hon⟩ := Region.waitsFor_spec h
              have : oi = o := Option.some.inj (hoi'.symm.trans ho)
              subst this
              have h1 := hall e he hbe
              rw [hon, getD_both (hun (i - 1) (by omega) (by omega))] at h1
              cases h1
      refine ⟨fun hr => ?_, fun i hi => ?_⟩
      · exfalso
        apply hdone
        intro i
        induction i using Nat.strongRecOn with
        | _ i ih =>
          intro hi
          cases hli : listed.getD i false with
          | true => rfl
          | false =>
            exfalso
            have hmem : i ∈ Region.ready .any ops listed := by
              rw [mem_ready]
              refine ⟨getD_in (by rw [inv.size]; omega) hli, init[i], hpre i _ (List.getElem?_eq_getElem hi), fun e he hb => ?_⟩
              obtain ⟨dp, g, h1, _⟩ := hat i init[i] (List.getElem?_eq_getElem hi)
              simp only [relyOne, Bool.and_eq_true] at h1
              have h2 := (Array.all_eq_true_iff_forall_mem.1 h1.1.1.2) e he
              simp only [hb, Bool.not_true, Bool.false_or, decide_eq_true_eq] at h2
              exact ih e.on h2 (by omega)
            rw [hr] at hmem
            cases hmem
      · have hi' := hlow i hi
        obtain ⟨h0, o, ho, hall⟩ := mem_ready.1 hi
        have hio : init[i]? = some o := by
          have := hpre i init[i] (List.getElem?_eq_getElem hi')
          rw [ho] at this
          rw [List.getElem?_eq_getElem hi', Option.some.inj this]
        obtain ⟨dp, g, h1, hstep⟩ := hat i o hio
        obtain ⟨hfacts, hguard, next⟩ := rely_next hn ht ho h1 h0 hall inv
        have hs := hstep a w inv.now hfacts hJ (fun a' w' => wpAny P .any ops Q fuel (listed.setIfInBounds i true) a' w') (fun v w' hT hv hJ' => ih _ _ w' (by have := unl_set inv.size h0; omega) (fun j hj hj2 => by rw [getD_set_ne true (by omega)]; exact hun j hj hj2) (next v w' hT hv) hJ')
        unfold wpOp
        simp only [ho, hguard]
        split
        · rename_i hw; rw [if_pos hw] at hs; exact .inl hs
        · rename_i hw; rw [if_neg hw] at hs; exact hs
/-- **A region that draws its order, the last operations (from place m on) one behind the other.** -/
theorem wp_region_relyJ_tail {id : Nat} (T : World → World → Prop) (V : List (SV T)) (D : Deps) (n m : Nat) (hm : P.follows .mixedOrders = true) (hn : a0.tmps.size = n) (hlen : (ops.toList.take m).length = m) (hpos : 0 < (ops.toList.drop m).length) (hB : relyB ops n 0 (ops.toList.take m) D = true)
    (hsink : Region.sinkB .any ops m = true) (htb : tailB ops (ops.toList.drop m) m = true) (ht : ∀ a b c : World, T a b → T b c → T a c) (hd : T w0 w0.drew) (hJ0 : J a0 w0.drew) (hl : m ≤ V.length)
    (hA : relyAllJ P Q T V J a0 w0 (ops.toList.take m) D V) (hE : ∀ w, T w0 w → relyEnd (fun _ a w => J a w → wpList P ops Q (ops.toList.drop m) a w) T (ops.toList.take m) V a0 w) : (Code.region id ops true).wp P Q a0 w0 := by
  refine wp_region_any hm ?_
  refine wpAny_relyJ_tail (List.take_append_drop m ops.toList).symm hpos hn hB (by rw [hlen]; exact hsink) (by rw [hlen]; exact htb) ht (by rw [hlen]; exact hl) hA hE ops.size _ a0 w0.drew unl_start (fun j _ hj => by simp [hj]) (rely_start hd) hJ0
end
/-- Two slots hold pointers to different blocks, both there. -/
def TwoPtr (p q : Tmp) (a : Act) (w : World) : Prop :=
  (∀ g, a.tmps.getD p undef = .pointer (some ⟨g, 0, none⟩) → g < w.heap.size) ∧ (∀ g, a.tmps.getD q undef = .pointer (some ⟨g, 0, none⟩) → g < w.heap.size) ∧
    ∀ g g', a.tmps.getD p undef = .pointer (some ⟨g, 0, none⟩) → a.tmps.getD q undef = .pointer (some ⟨g', 0, none⟩) → g ≠ g'
theorem put_other {a : Act} {d : Option Tmp} {p : Tmp} (v : Value) (h : d ≠ some p) : (a.put d v).tmps.getD p undef = a.tmps.getD p undef := by
  cases d with
  | none => rfl
  | some d =>
    have hne : d ≠ p := fun e => h (by rw [e])
    simp [Act.put, Array.getElem?_setIfInBounds_ne hne]
theorem TwoPtr.keep {p q : Tmp} {a : Act} {w w' : World} {d : Option Tmp} {v : Value} (h : TwoPtr p q a w) (hp : d ≠ some p) (hq : d ≠ some q) (hT : NewT w w') : TwoPtr p q (a.put d v) w' := by
  unfold TwoPtr
  rw [put_other v hp, put_other v hq]
  exact ⟨fun g hg => Nat.lt_of_lt_of_le (h.1 g hg) hT.out.size, fun g hg => Nat.lt_of_lt_of_le (h.2.1 g hg) hT.out.size, h.2.2⟩
theorem put_same {a : Act} {p : Tmp} {g g' : Nat} (h : (a.put (some p) (.pointer (some ⟨g, 0, none⟩))).tmps.getD p undef = .pointer (some ⟨g', 0, none⟩)) : g' = g := by
  rcases Nat.lt_or_ge p a.tmps.size with hlt | hge
  · simp [Act.put, hlt] at h; exact h.symm
  · simp [Act.put, undef, Nat.not_lt.2 hge] at h
theorem TwoPtr.first {p q : Tmp} {a : Act} {w : World} {o : Obj} (h : TwoPtr p q a w) (hpq : p ≠ q) : TwoPtr p q (a.put (some p) (.pointer (some ⟨w.heap.size, 0, none⟩))) (w.alloc o) := by
  unfold TwoPtr
  rw [put_other (p := q) (d := some p) _ (by simpa using hpq)]
  refine ⟨fun g hg => by rw [put_same hg]; simp, fun g hg => by have := h.2.1 g hg; simp; omega, fun g g' hg hg' => ?_⟩
  have := h.2.1 g' hg'
  rw [put_same hg]; omega
theorem TwoPtr.second {p q : Tmp} {a : Act} {w : World} {o : Obj} (h : TwoPtr p q a w) (hpq : p ≠ q) : TwoPtr p q (a.put (some q) (.pointer (some ⟨w.heap.size, 0, none⟩))) (w.alloc o) := by
  unfold TwoPtr
  rw [put_other (p := p) (d := some q) _ (by simpa using Ne.symm hpq)]
  refine ⟨fun g hg => by have := h.1 g hg; simp; omega, fun g hg => by rw [put_same hg]; simp, fun g g' hg hg' => ?_⟩
  have := h.1 g hg
  rw [put_same hg']; omega
theorem opr_alloc_at {a : Act} {w : World} {o : Oper} {K : Act → World → Prop} {Q : Exit → Act → World → Prop} (ho : o.op = .alloc 26) (h : K (a.put o.dst (.pointer (some ⟨w.heap.size, 0, none⟩))) (w.alloc (.cells (rowA 32 (bF fun _ => 0)) 26))) : o.wp Tryd.prog a w K Q := by
  obtain ⟨dst, op, type, pos, after, guard⟩ := o
  simp only at ho
  subst ho
  exact opr_val (s := Instr.alloc 26 true (.tuple #[])) rfl (run_alloc_hash w) h
end Go.Proofs.YtcfogkimjbgjgaaDoor
/- A region that draws its order, some of whose operations turn a state one behind the other (each waits for the one ahead): beside the conditions of single operations a statement on the world for each phase. No program is named here. -/
namespace Go.Proofs.YtcfogkimjbgjgaaDoor
open Go Go.RowKit
set_option maxRecDepth 8000
set_option linter.all false

/-- One operation: it turns phase k into the next one (some k), or keeps whatever phase there is (none). -/
def relyStepP (P : Program) (Q : Exit → Act → World → Prop) (T : World → World → Prop) (V : List (SV T)) (J : Nat → World → Prop) (a0 : Act) (w0 : World) (o : Oper) (dp : List (Tmp × Option Nat)) (g : Option (Tmp × Bool)) (c : SV T) : Option Nat → Prop
  | none => ∀ (a : Act) (w : World), T w0 w → relyFacts V a0 a w dp → ∀ K : Act → World → Prop, (∀ v w', T w w' → (∀ k, J k w → J k w') → c.pred v w' → K (a.put o.dst v) w') →
    if relyGuard g a then o.wp P a w K Q else K (a.put o.dst undef) w
  | some k => ∀ (a : Act) (w : World), T w0 w → relyFacts V a0 a w dp → J k w → ∀ K : Act → World → Prop, (∀ v w', T w w' → J (k + 1) w' → c.pred v w' → K (a.put o.dst v) w') →
    if relyGuard g a then o.wp P a w K Q else K (a.put o.dst undef) w
def relyAllP (P : Program) (Q : Exit → Act → World → Prop) (T : World → World → Prop) (V : List (SV T)) (J : Nat → World → Prop) (a0 : Act) (w0 : World) : List Oper → Deps → List (SV T) → List (Option Nat) → Prop
  | [], _, _, _ => True
  | o :: r, (dp, g) :: D, c :: C, s :: S => relyStepP P Q T V J a0 w0 o dp g c s ∧ relyAllP P Q T V J a0 w0 r D C S
  | _, _, _, _ => False
/-- Each of the path's operations waits for the one ahead. -/
def pathB (ops : Array Oper) : List Nat → Bool
  | i :: j :: r => Region.waitsFor .any ops j i && pathB ops (j :: r)
  | _ => true
def placesB (path : List Nat) (S : List (Option Nat)) : Bool := decide path.Nodup && (List.range S.length).all fun i => S.getD i none == path.findIdx? (· == i)
section
variable {P : Program} {ops : Array Oper} {Q : Exit → Act → World → Prop} {T : World → World → Prop} {V : List (SV T)} {J : Nat → World → Prop} {a0 : Act} {w0 : World} {n : Nat} {D : Deps} {S : List (Option Nat)} {path : List Nat} {init : List Oper} {last : Oper}
theorem pathB_at : ∀ (path : List Nat) (j i i' : Nat), pathB ops path = true → path[j]? = some i → path[j + 1]? = some i' → Region.waitsFor .any ops i' i = true
  | [], _, _, _, _, h, _ => by simp at h
  | [x], j, _, _, _, _, h => by simp at h
  | x :: y :: r, 0, i, i', h, h1, h2 => by
    simp only [pathB, Bool.and_eq_true] at h
    simp at h1 h2
    subst h1 h2
    exact h.1
  | x :: y :: r, j + 1, i, i', h, h1, h2 => by
    simp only [pathB, Bool.and_eq_true] at h
    exact pathB_at (y :: r) j i i' h.2 (by simpa using h1) (by simpa using h2)
theorem relyAllP_at : ∀ (l : List Oper) (D : Deps) (C : List (SV T)) (S : List (Option Nat)) (k : Nat) (o : Oper) dp g, relyAllP P Q T V J a0 w0 l D C S → l[k]? = some o → D[k]? = some (dp, g) → relyStepP P Q T V J a0 w0 o dp g (C.getD k SV.any) (S.getD k none)
  | [], _, _, _, _, _, _, _, _, h, _ => by simp at h
  | x :: r, [], _, _, _, _, _, _, h, _, _ => h.elim
  | x :: r, y :: D, [], _, _, _, _, _, h, _, _ => h.elim
  | x :: r, y :: D, c :: C, [], _, _, _, _, h, _, _ => h.elim
  | x :: r, (dp, g) :: D, c :: C, s :: S, 0, o, dp', g', h, ho, hD => by
    simp at ho hD
    obtain ⟨rfl, rfl⟩ := hD
    subst ho
    exact h.1
  | x :: r, (dp, g) :: D, c :: C, s :: S, k + 1, o, dp', g', h, ho, hD => by
    have := relyAllP_at r D C S k o dp' g' h.2 (by simpa using ho) (by simpa using hD)
    simpa using this
/-- So many of the path's operations have come up. -/
structure PhInv (path : List Nat) (J : Nat → World → Prop) (listed : Array Bool) (w : World) (k : Nat) : Prop where
  le : k ≤ path.length
  done : ∀ j i, j < k → path[j]? = some i → listed.getD i false = true
  left : ∀ j i, k ≤ j → path[j]? = some i → listed.getD i false = false
  now : J k w
theorem ph_other {listed : Array Bool} {w w' : World} {k i : Nat} (h : PhInv path J listed w k) (hi : i ∉ path) (hJ : J k w') : PhInv path J (listed.setIfInBounds i true) w' k := by
  have hne : ∀ (j x : Nat), path[j]? = some x → i ≠ x := fun j x hx e => hi (e ▸ List.mem_of_getElem? hx)
  exact ⟨h.le, fun j x hj hx => by rw [getD_set_ne false (hne j x hx)]; exact h.done j x hj hx, fun j x hj hx => by rw [getD_set_ne false (hne j x hx)]; exact h.left j x hj hx, hJ⟩
theorem ph_own (hnd : path.Nodup) {listed : Array Bool} {w w' : World} {k i : Nat} (hlt : i < listed.size) (h : PhInv path J listed w k) (hi : path[k]? = some i) (hJ : J (k + 1) w') : PhInv path J (listed.setIfInBounds i true) w' (k + 1) := by
  have hk : k < path.length := (List.getElem?_eq_some_iff.1 hi).1
  have hinj : ∀ (j x : Nat), path[j]? = some x → j ≠ k → i ≠ x := fun j x hx hjk e => by
    subst e
    obtain ⟨h1, h2⟩ := List.getElem?_eq_some_iff.1 hx
    obtain ⟨h3, h4⟩ := List.getElem?_eq_some_iff.1 hi
    exact hjk ((List.getElem_inj hnd).1 (h2.trans h4.symm))
  refine ⟨hk, fun j x hj hx => ?_, fun j x hj hx => ?_, hJ⟩
  · by_cases e : j = k
    · subst e
      rw [hi] at hx
      cases hx
      simp [hlt]
    · rw [getD_set_ne false (hinj j x hx e)]; exact h.done j x (by omega) hx
  · rw [getD_set_ne false (hinj j x hx (by omega))]; exact h.left j x (by omega) hx
theorem wpAny_relyP {Q2 : Exit → Act → World → Prop} (hQ : ∀ (o : Oper) (a : Act) (w : World) (K : Act → World → Prop), a.defers = a0.defers → o.wp P a w K Q2 → o.wp P a w K Q) (hsplit : ops.toList = init ++ [last]) (hn : a0.tmps.size = n) (hB : relyB ops n 0 init D = true) (hlast : lastB ops last init.length = true) (hg : last.guard = none) (ht : ∀ a b c : World, T a b → T b c → T a c)
    (hpath : pathB ops path = true) (hplace : placesB path S = true) (hSl : S.length = init.length) (hpl : ∀ i ∈ path, i < init.length)
    (hl : init.length ≤ V.length) (hA : relyAllP P Q2 T V J a0 w0 init D V S) (hE : ∀ w, T w0 w → J path.length w → relyEnd (fun _ a w => last.wp P a w (fun a' w' => Q .normal a' w') Q) T init V a0 w) :
    ∀ (fuel : Nat) (listed : Array Bool) (a : Act) (w : World) (k : Nat), (unl ops listed).length = fuel → listed.getD init.length true = false → RelyInv ops T V a0 w0 listed a w → PhInv path J listed w k → wpAny P .any ops Q fuel listed a w := by
  obtain ⟨hlo, hsz, hpre⟩ := last_at hsplit
  simp only [lastB, Bool.and_eq_true] at hlast
  simp only [placesB, Bool.and_eq_true, decide_eq_true_eq] at hplace
  obtain ⟨hnd, hpos⟩ := hplace
  have hS : ∀ i, i < init.length → S.getD i none = path.findIdx? (· == i) := fun i hi => by
    have := List.all_eq_true.1 hpos i (List.mem_range.2 (by omega))
    simpa using this
  have hat : ∀ i o, init[i]? = some o → ∃ dp g, relyOne ops n i o dp g = true ∧ relyStepP P Q2 T V J a0 w0 o dp g (V.getD i SV.any) (path.findIdx? (· == i)) := fun i o hi => by
    obtain ⟨dp, g, hD, h1⟩ := relyB_at init D 0 i o hB hi
    rw [Nat.zero_add] at h1
    refine ⟨dp, g, h1, ?_⟩
    rw [← hS i (List.getElem?_eq_some_iff.1 hi).1]
    exact relyAllP_at _ _ _ _ i o dp g hA hi hD
  intro fuel
  induction fuel with
  | zero =>
    intro listed a w k hu hun inv _
    have : init.length ∈ unl ops listed := by
      unfold unl; rw [List.mem_filter]; exact ⟨List.mem_range.2 (by omega), by rw [hun]; rfl⟩
    rw [List.eq_nil_of_length_eq_zero hu] at this
    cases this
  | succ fuel ih =>
    intro listed a w k hu hun inv ph
    refine ⟨fun hr => ?_, fun i hi => ?_⟩
    · exfalso
      have all : ∀ i, i < init.length → listed.getD i false = true := fun i => by
        induction i using Nat.strongRecOn with
        | _ i ih =>
          intro hi
          cases hli : listed.getD i false with
          | true => rfl
          | false =>
            exfalso
            have hmem : i ∈ Region.ready .any ops listed := by
              rw [mem_ready]
              refine ⟨getD_in (by rw [inv.size]; omega) hli, init[i], hpre i _ (List.getElem?_eq_getElem hi), fun e he hb => ?_⟩
              obtain ⟨dp, g, h1, _⟩ := hat i init[i] (List.getElem?_eq_getElem hi)
              simp only [relyOne, Bool.and_eq_true] at h1
              have h2 := (Array.all_eq_true_iff_forall_mem.1 h1.1.1.2) e he
              simp only [hb, Bool.not_true, Bool.false_or, decide_eq_true_eq] at h2
              exact ih e.on h2 (by omega)
            rw [hr] at hmem
            cases hmem
      have hmem : init.length ∈ Region.ready .any ops listed := by
        rw [mem_ready]
        refine ⟨hun, last, hlo, fun e he hb => ?_⟩
        have h2 := (Array.all_eq_true_iff_forall_mem.1 hlast.2) e he
        simp only [hb, Bool.not_true, Bool.false_or, decide_eq_true_eq] at h2
        exact all e.on h2
      rw [hr] at hmem
      cases hmem
    · obtain ⟨h0, o, ho, hall⟩ := mem_ready.1 hi
      have hilt := (Array.getElem?_eq_some_iff.1 ho).1
      by_cases him : i = init.length
      · subst him
        have hol : o = last := Option.some.inj (ho.symm.trans hlo)
        subst hol
        have hdone : ∀ (d j : Nat), init.length - j = d → j < init.length → listed.getD j false = true := fun d => by
          induction d using Nat.strongRecOn with
          | _ d ihd =>
            intro j hd hj
            have h1 := List.all_eq_true.1 hlast.1 j (List.mem_range.2 hj)
            obtain ⟨t, ht1, ht2⟩ := List.any_eq_true.1 h1
            simp only [Bool.and_eq_true, decide_eq_true_eq] at ht2
            obtain ⟨ot, hot, e, he, hb, hon⟩ := Region.waitsFor_spec ht2.2
            have htle : t ≤ init.length := by have := List.mem_range.1 ht1; omega
            rw [← hon]
            by_cases htm : t = init.length
            · subst htm
              have : ot = o := Option.some.inj (hot.symm.trans ho)
              subst this
              exact hall e he hb
            · exact inv.closed t ot hot (ihd (init.length - t) (by omega) t rfl (by omega)) e he hb
        replace hdone : ∀ j, j < init.length → listed.getD j false = true := fun j hj => hdone _ j rfl hj
        have hk : k = path.length := by
          rcases Nat.lt_or_ge k path.length with h | h
          · exfalso
            have h1 := ph.left k path[k] (Nat.le_refl _) (List.getElem?_eq_getElem h)
            rw [hdone _ (hpl _ (List.getElem_mem h))] at h1
            cases h1
          · have := ph.le; omega
        subst hk
        have hJ := ph.now
        have h1 : o.wp P a w (fun a' w' => Q .normal a' w') Q := rely_all (Q' := fun a w => o.wp P a w (fun a' w' => Q .normal a' w') Q) inv
          (fun k o hk => ⟨hpre k o hk, hdone k (List.getElem?_eq_some_iff.1 hk).1⟩) (fun j hj => by
            rcases Nat.lt_or_ge j init.length with h | h
            · exact h
            · rcases Nat.eq_or_lt_of_le h with h | h
              · subst h; rw [getD_both hun] at hj; cases hj
              · have : listed.getD j false = false := by simp [Array.getElem?_eq_none (show listed.size ≤ j by rw [inv.size]; omega)]
                rw [this] at hj; cases hj) hl (hE w inv.now hJ)
        have hK : ∀ a' w', Q .normal a' w' → wpAny P .any ops Q fuel (listed.setIfInBounds init.length true) a' w' := fun a' w' h => wpAny_done (ready_none fun j hj => by
          by_cases hj2 : j = init.length
          · subst hj2; simp [show init.length < listed.size by rw [inv.size]; exact hj]
          · exact getD_set_true (hdone j (by omega))) h _
        unfold wpOp
        simp only [hlo, Region.wanted, hg, if_true]
        exact .inl (Oper.wp_mono hK h1)
      · have hi' : i < init.length := by omega
        have hio : init[i]? = some o := by
          have := hpre i init[i] (List.getElem?_eq_getElem hi')
          rw [ho] at this
          rw [List.getElem?_eq_getElem hi', Option.some.inj this]
        obtain ⟨dp, g, h1, hstep⟩ := hat i o hio
        obtain ⟨hfacts, hguard, next⟩ := rely_next hn ht ho h1 h0 hall inv
        have i0 : listed.getD i false = false := getD_both h0
        have hs : if relyGuard g a then o.wp P a w (fun a' w' => wpAny P .any ops Q fuel (listed.setIfInBounds i true) a' w') Q2 else wpAny P .any ops Q fuel (listed.setIfInBounds i true) (a.put o.dst undef) w := by
          cases hf : path.findIdx? (· == i) with
          | none =>
            rw [hf] at hstep
            have hni : i ∉ path := fun hm => by
              rw [List.findIdx?_eq_none_iff] at hf
              have := hf i hm
              simp at this
            exact hstep a w inv.now hfacts (fun a' w' => wpAny P .any ops Q fuel (listed.setIfInBounds i true) a' w') (fun v w' hT hJ hv => ih _ _ w' k (by have := unl_set inv.size h0; omega) (by rw [getD_set_ne true him]; exact hun) (next v w' hT hv) (ph_other ph hni (hJ k ph.now)))
          | some j =>
            rw [hf] at hstep
            have hpj : path[j]? = some i := by
              obtain ⟨h1, h2, _⟩ := List.findIdx?_eq_some_iff_getElem.1 hf
              rw [List.getElem?_eq_getElem h1]
              simpa using h2
            have hkj : k = j := by
              rcases Nat.lt_trichotomy j k with h | h | h
              · have := ph.done j i h hpj
                rw [i0] at this; cases this
              · exact h.symm
              · exfalso
                obtain ⟨j', rfl⟩ : ∃ j', j = j' + 1 := ⟨j - 1, by omega⟩
                have hlj : j' < path.length := by have := (List.getElem?_eq_some_iff.1 hpj).1; omega
                have hw := pathB_at path j' path[j'] i hpath (List.getElem?_eq_getElem hlj) hpj
                obtain ⟨oi, hoi, e, he, hb, hon⟩ := Region.waitsFor_spec hw
                have : oi = o := Option.some.inj (hoi.symm.trans ho)
                subst this
                have h2 := hall e he hb
                rw [hon, ph.left j' _ (by omega) (List.getElem?_eq_getElem hlj)] at h2
                cases h2
            subst hkj
            exact hstep a w inv.now hfacts ph.now (fun a' w' => wpAny P .any ops Q fuel (listed.setIfInBounds i true) a' w') (fun v w' hT hJ hv => ih _ _ w' (k + 1) (by have := unl_set inv.size h0; omega) (by rw [getD_set_ne true him]; exact hun) (next v w' hT hv) (ph_own hnd (by rw [inv.size]; exact hilt) ph hpj hJ))
        unfold wpOp
        simp only [ho, hguard]
        split
        · rename_i hw; rw [if_pos hw] at hs; exact .inl (hQ _ _ _ _ inv.defers hs)
        · rename_i hw; rw [if_neg hw] at hs; exact hs
/-- **A region that draws its order and turns a state step by step.** -/
theorem wp_region_relyQ {id : Nat} {Q2 : Exit → Act → World → Prop} (hQ : ∀ (o : Oper) (a : Act) (w : World) (K : Act → World → Prop), a.defers = a0.defers → o.wp P a w K Q2 → o.wp P a w K Q) (T : World → World → Prop) (J : Nat → World → Prop) (V : List (SV T)) (D : Deps) (S : List (Option Nat)) (path : List Nat) (n : Nat) (hla : ops.toList.getLast? = some last) (hm : P.follows .mixedOrders = true) (hn : a0.tmps.size = n) (hB : relyB ops n 0 ops.toList.dropLast D = true)
    (hlast : lastB ops last ops.toList.dropLast.length = true) (hg : last.guard = none) (hpath : (pathB ops path && placesB path S && decide (S.length = ops.toList.dropLast.length) && path.all fun i => decide (i < ops.toList.dropLast.length)) = true)
    (ht : ∀ a b c : World, T a b → T b c → T a c) (hd : T w0 w0.drew) (hJ : J 0 w0.drew) (hl : ops.toList.dropLast.length ≤ V.length)
    (hA : relyAllP P Q2 T V J a0 w0 ops.toList.dropLast D V S) (hE : ∀ w, T w0 w → J path.length w → relyEnd (fun _ a w => last.wp P a w (fun a' w' => Q .normal a' w') Q) T ops.toList.dropLast V a0 w) : (Code.region id ops true).wp P Q a0 w0 := by
  have hsplit := split_last hla
  obtain ⟨_, hsz, _⟩ := last_at hsplit
  simp only [Bool.and_eq_true, decide_eq_true_eq] at hpath
  obtain ⟨⟨⟨h1, h2⟩, h3⟩, h4⟩ := hpath
  refine wp_region_any hm ?_
  exact wpAny_relyP hQ hsplit hn hB hlast hg ht h1 h2 h3 (fun i hi => by simpa using List.all_eq_true.1 h4 i hi) hl hA hE ops.size _ a0 w0.drew 0 unl_start (by
    have hlt : ops.toList.dropLast.length < ops.size := by omega
    generalize ops.toList.dropLast.length = m at hlt
    simp [hlt]) (rely_start hd) ⟨Nat.zero_le _, fun j i hj => by omega, fun j i _ _ => getD_replicate_false .., hJ⟩
theorem wp_region_relyP {id : Nat} (T : World → World → Prop) (J : Nat → World → Prop) (V : List (SV T)) (D : Deps) (S : List (Option Nat)) (path : List Nat) (n : Nat) (hla : ops.toList.getLast? = some last) (hm : P.follows .mixedOrders = true) (hn : a0.tmps.size = n) (hB : relyB ops n 0 ops.toList.dropLast D = true)
    (hlast : lastB ops last ops.toList.dropLast.length = true) (hg : last.guard = none) (hpath : (pathB ops path && placesB path S && decide (S.length = ops.toList.dropLast.length) && path.all fun i => decide (i < ops.toList.dropLast.length)) = true)
    (ht : ∀ a b c : World, T a b → T b c → T a c) (hd : T w0 w0.drew) (hJ : J 0 w0.drew) (hl : ops.toList.dropLast.length ≤ V.length)
    (hA : relyAllP P Q T V J a0 w0 ops.toList.dropLast D V S) (hE : ∀ w, T w0 w → J path.length w → relyEnd (fun _ a w => last.wp P a w (fun a' w' => Q .normal a' w') Q) T ops.toList.dropLast V a0 w) : (Code.region id ops true).wp P Q a0 w0 :=
  wp_region_relyQ (fun _ _ _ _ _ h => h) T J V D S path n hla hm hn hB hlast hg hpath ht hd hJ hl hA hE
/-- What a panic out of a region may lean on: nothing was deferred since. -/
def Qx (d : List Deferred) (Q : Exit → Act → World → Prop) : Exit → Act → World → Prop
  | .panic ch, a, w => a.defers = d → Q (.panic ch) a w
  | e, a, w => Q e a w
theorem wp_Qx {o : Oper} {a : Act} {w : World} {K : Act → World → Prop} {d : List Deferred} (hd : a.defers = d) (hh : o.wp P a w K (Qx d Q)) : o.wp P a w K Q := by
  unfold Oper.wp at *
  generalize (execOp a.eval o).run P w = r at *
  cases r with
  | ok n w' =>
    cases n <;> simp only [Oper.upon] at hh ⊢ <;>
      first
        | exact hh
        | exact Calls.mono hh (fun e w'' he => by cases e <;> first | exact he hd | exact he)
        | exact Rows.mono hh (fun _ _ he => he)
  | halt x w' => cases x <;> simp only [Oper.upon] at hh ⊢ <;> first | exact hh hd | exact hh
/-- Such a region out of which an operation may panic. -/
theorem wp_region_relyX {id : Nat} (T : World → World → Prop) (J : Nat → World → Prop) (V : List (SV T)) (D : Deps) (S : List (Option Nat)) (path : List Nat) (n : Nat) (hla : ops.toList.getLast? = some last) (hm : P.follows .mixedOrders = true) (hn : a0.tmps.size = n) (hB : relyB ops n 0 ops.toList.dropLast D = true)
    (hlast : lastB ops last ops.toList.dropLast.length = true) (hg : last.guard = none) (hpath : (pathB ops path && placesB path S && decide (S.length = ops.toList.dropLast.length) && path.all fun i => decide (i < ops.toList.dropLast.length)) = true)
    (ht : ∀ a b c : World, T a b → T b c → T a c) (hd : T w0 w0.drew) (hJ : J 0 w0.drew) (hl : ops.toList.dropLast.length ≤ V.length)
    (hA : relyAllP P (Qx a0.defers Q) T V J a0 w0 ops.toList.dropLast D V S) (hE : ∀ w, T w0 w → J path.length w → relyEnd (fun _ a w => last.wp P a w (fun a' w' => Q .normal a' w') Q) T ops.toList.dropLast V a0 w) : (Code.region id ops true).wp P Q a0 w0 :=
  wp_region_relyQ (fun _ _ _ _ hd h => wp_Qx hd h) T J V D S path n hla hm hn hB hlast hg hpath ht hd hJ hl hA hE
end
theorem liftK {T : World → World → Prop} {J : Nat → World → Prop} {c : SV T} {G : Value → World → Prop} {wx : World} (hK : ∀ v w', T wx w' → (∀ k, J k wx → J k w') → c.pred v w' → G v w') (h1 : ∀ w', NewT wx w' → T wx w') (h2 : ∀ k w', J k wx → NewT wx w' → J k w') : ∀ v w', NewT wx w' → c.pred v w' → G v w' :=
  fun v w' hN hv => hK v w' (h1 w' hN) (fun k h => h2 k w' h hN) hv
end Go.Proofs.YtcfogkimjbgjgaaDoor
/- Steps that write a block that is new. -/
namespace Go.Proofs.YtcfogkimjbgjgaaDoor
open Go Go.RowKit
set_option maxRecDepth 8000
set_option linter.all false
theorem put_all (F G : Nat → Value) : ∀ i, i < 109 → F i = if 0 ≤ i ∧ i < 0 + 109 then F (i - 0) else G i := fun i hi => by
  rw [if_pos (by omega), Nat.sub_zero]
theorem keepRow (R : Nat) (t : TypeId) (n : Nat) (Fs : Nat → Nat → Value) {wx w' : World} (hN : NewT wx w') : ∀ k, wx.rowIs R t n (Fs k) → w'.rowIs R t n (Fs k) := fun _ h => hN.row h
end Go.Proofs.YtcfogkimjbgjgaaDoor
