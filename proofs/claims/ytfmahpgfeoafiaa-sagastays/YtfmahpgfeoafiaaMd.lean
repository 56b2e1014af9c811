/- Package saga: whose call is due; what is due; whether a record goes; the saga behind it. -/
import Derived.Test.YtfmahpgfeoafiaaMc
import Derived.Test.YtfmahpgfeoafiaaMb
import Derived.Deep.CutRange
set_option linter.all false
namespace Go.Proofs.Ytfmahpgfeoafiaa
open Go Go.RowKit
set_option maxRecDepth 8000
set_option linter.all false
attribute [local go_sem] run_zero_rec
theorem results_tt {P : Program} {fn : Func} {tmps : Array Value} {w : World} {p q : Tmp} {x y : Value} (hf : fn.results = #[.tmp p, .tmp q]) (hp : tmps.getD p undef = x) (hq : tmps.getD q undef = y) : (results fn tmps).run P w = .ok (.tuple #[x, y]) w := by
  have hp' : tmps[p]?.getD undef = x := by simpa using hp
  have hq' : tmps[q]?.getD undef = y := by simpa using hq
  simp [results, hf, hp', hq']
theorem lastT_lt {f : Nat → Bool} {i : Nat} : ∀ {n : Nat}, lastT f n = some i → i < n ∧ f i = true
  | 0, h => by cases h
  | n + 1, h => by
    unfold lastT at h
    by_cases e : f n = true
    · rw [if_pos e] at h
      cases h
      exact ⟨Nat.lt_succ_self _, e⟩
    · rw [if_neg e] at h
      have := lastT_lt h
      exact ⟨by omega, this.2⟩
theorem next_range {l : List (Int × Int)} {g : Sg} (h : nextB l g = true) : 0 ≤ nextI l g ∧ nextI l g < l.length := by
  unfold nextB at h
  unfold nextI
  by_cases e : g.ph = 1
  · rw [if_pos e] at h ⊢
    cases ht : tgtO l g with
    | none => rw [ht] at h; cases h
    | some i => have := (lastT_lt ht).1; show 0 ≤ (i : Int) ∧ (i : Int) < _; omega
  · rw [if_neg e] at h ⊢
    rw [if_pos h]
    have := (inR_iff _ _ _).1 h
    omega
/-- A record that fits tells of a step that is there. -/
theorem fits_pre {l : List (Int × Int)} {lim : Int} {g : Sg} {x : Rc} (hl : 1 ≤ l.length) (h : fitsB l lim g x = true) : (0 ≤ x.step ∧ x.step < l.length) ∧ (x.kind = 2 ∨ x.kind = 5 ∨ x.kind = 3 ∨ x.kind = 4) := by
  unfold fitsB at h
  split at h
  · rename_i hk
    unfold isDueB at h
    simp only [Bool.and_eq_true, beq_iff_eq] at h
    refine ⟨?_, by omega⟩
    rw [h.1.1.1.2]
    unfold dueX
    split
    · split
      · rename_i hb
        split
        · exact next_range hb
        · show (0 : Int) ≤ 0 ∧ (0 : Int) < _; omega
      · split <;> (show (0 : Int) ≤ 0 ∧ (0 : Int) < _; omega)
    · show (0 : Int) ≤ 0 ∧ (0 : Int) < _; omega
  · split at h
    · rename_i hk
      unfold isOutB at h
      simp only [Bool.and_eq_true, beq_iff_eq] at h
      refine ⟨?_, by omega⟩
      rw [h.1.1.2]
      exact next_range h.1.1.1.2
    · cases h
set_option maxHeartbeats 4000000 in
theorem next_cv (sv : Value) (l : List (Int × Int)) (g : Sg) (w : World) (hs : RdP w sv l) (hl : l.length ≤ 6) : Cv 27 #[.agg (rowA 10 (sgF sv g))] w (.eq (.tuple #[.int .i64 (nextI l g), .bool (nextB l g)])) := by
  unfold Cv
  have HS := Lib.hid hs
  have HL6 := Lib.hid hl
  clear hs hl
  go_enter Try.func27, Try.ntmps27
  go_upto_region 1 with fail
  have r_g1 := rowIs_box w 27 10 (sgF sv g)
  have hN : NewT w (w.alloc (.cells (rowA 10 (sgF sv g)) 27)) := NewT.alloc _ _
  change Code.wp _ _ _ _ (w.alloc (.cells (rowA 10 (sgF sv g)) 27))
  generalize (w.alloc (.cells (rowA 10 (sgF sv g)) 27)) = W0 at r_g1 hN ⊢
  obtain ⟨g1, h_g1⟩ : ∃ g_, w.heap.size = g_ := ⟨_, rfl⟩
  have HG : Hid (w.heap.size ≤ g1) := Lib.hid (by omega)
  rw [h_g1] at r_g1
  simp only [h_g1]
  have Rg1 := Lib.hid r_g1
  have HM := Lib.hid hN
  clear r_g1 hN h_g1
  go_upto_region 1 with fail
  refine wp_region_steps0 NewT [SV.eq (.pointer (some ⟨g1, 1, none⟩)), SV.eq (.int .i64 (g.ph)), SV.eq (.bool (g.ph == 1))] [([(1, none)], none), ([(4, some 0)], none), ([(5, some 1)], none)] 21 3 rfl rfl (by kernel_rfl) NewT.trans (NewT.refl _) (Nat.le_of_ble_eq_true rfl) ⟨?_, ?_, ?_, trivial⟩ ?_
  · exact fun a wx hT hF K hK => rely_wp rfl (opr_fldU1 rfl hF.1 (hK _ _ (NewT.refl _) rfl))
  · exact fun a wx hT hF K hK => rely_wp rfl (opr_ldI (hT.row Rg1.out) (by decide) rfl rfl hF.1 (hK _ _ (NewT.refl _) rfl))
  · exact fun a wx hT hF K hK => rely_wp rfl (opr_cmp (b := g.ph == 1) (.inl ⟨rfl, rfl⟩) Try.underlying3 rfl hF.1 rfl (hK _ _ (NewT.refl _) rfl))
  · intro w1 k1
    iterate 3 (intro u h; obtain rfl := Eq.symm (h (by simp)); clear h)
    refine relyEnd_nil rfl ?_
    refine wpList_end rfl ?_
    simp only [Act.put, List.setIfInBounds_toArray, List.set_cons_zero, List.set_cons_succ]
    go_simp
    replace Rg1 := Lib.hid (k1.row Rg1.out)
    replace HM := Lib.hid (NewT.trans _ _ _ HM.out k1)
    clear k1
    cases hb : (g.ph == 1)
    · have HE : Hid (nextI l g = (if inR g.at_ 0 ((l.length : Int) - 1) = true then g.at_ else 0) ∧ nextB l g = inR g.at_ 0 ((l.length : Int) - 1)) := Lib.hid (by
        have hb' : ¬ g.ph = 1 := by simpa using hb
        exact ⟨by unfold nextI; rw [if_neg hb'], by unfold nextB; rw [if_neg hb']⟩)
      clear hb
      go_upto_region 3 with fail
      refine wp_region_steps0 NewT [SV.eq (.pointer (some ⟨g1, 2, none⟩)), SV.eq (.int .i64 (g.at_)), SV.eq (.pointer (some ⟨g1, 0, none⟩)), SV.eq (sv), SV.eq (.int .i64 ((List.length (l) : Int))), SV.eq (.int .i64 ((l.length : Int) - 1)), SV.eq (.bool (inR g.at_ 0 ((l.length : Int) - 1))), SV.eq (.bool (!(inR g.at_ 0 ((l.length : Int) - 1))))] [([(1, none)], none), ([(11, some 0)], none), ([(1, none)], none), ([(13, some 2)], none), ([(14, some 3)], none), ([(15, some 4)], none), ([(12, some 1), (16, some 5)], none), ([(17, some 6)], none)] 21 8 rfl rfl (by kernel_rfl) NewT.trans (NewT.refl _) (Nat.le_of_ble_eq_true rfl) ⟨?_, ?_, ?_, ?_, ?_, ?_, ?_, ?_, trivial⟩ ?_
      · exact fun a wx hT hF K hK => rely_wp rfl (opr_fldU2 rfl hF.1 (hK _ _ (NewT.refl _) rfl))
      · exact fun a wx hT hF K hK => rely_wp rfl (opr_ldI (hT.row Rg1.out) (by decide) rfl rfl hF.1 (hK _ _ (NewT.refl _) rfl))
      · exact fun a wx hT hF K hK => rely_wp rfl (opr_fldU0 rfl hF.1 (hK _ _ (NewT.refl _) rfl))
      · exact fun a wx hT hF K hK => rely_wp rfl (opr_ldS (hT.row Rg1.out) (by decide) rfl rfl hF.1 (hK _ _ (NewT.refl _) rfl))
      · intro a wx hT hF K hK
        obtain ⟨f14, _⟩ := hF
        have f14 : a.tmps.getD 14 undef = sv := f14
        refine rely_wp rfl ?_
        exact opr_len_pairs rfl (by rw [eval_tmp, f14]; exact ((NewT.trans _ _ _ HM.out hT).pairs HS.out)) (hK _ _ (NewT.refl _) rfl)
      · exact fun a wx hT hF K hK => rely_wp rfl (opr_sub (r := (l.length : Int) - 1) Try.underlying3 (by have := HL6.out; unfold wrap64; omega) rfl hF.1 rfl (hK _ _ (NewT.refl _) rfl))
      · exact fun a wx hT hF K hK => rely_wp rfl (opr_cv (gWithin_cv g.at_ 0 ((l.length : Int) - 1) wx) rfl Try.func20 (by kernel_rfl) (by kernel_rfl) (evs3 hF.1 rfl hF.2.1) hK)
      · exact fun a wx hT hF K hK => rely_wp rfl (opr_not rfl hF.1 (hK _ _ (NewT.refl _) rfl))
      · intro w2 k2
        iterate 8 (intro u h; obtain rfl := Eq.symm (h (by simp)); clear h)
        refine relyEnd_nil rfl ?_
        refine wpList_end rfl ?_
        simp only [Act.put, List.setIfInBounds_toArray, List.set_cons_zero, List.set_cons_succ]
        go_simp
        replace Rg1 := Lib.hid (k2.row Rg1.out)
        replace HM := Lib.hid (NewT.trans _ _ _ HM.out k2)
        clear k2
        cases hq : inR g.at_ 0 ((l.length : Int) - 1)
        · skip
          go_wp2
          exact bodyPost_ret (results_tt rfl rfl rfl) rfl ⟨_, rfl, HM.out, by show _ = Value.tuple _; rw [HE.out.1, HE.out.2, hq]; first | done | rfl⟩
        · skip
          have HQ := Lib.hid hq
          clear hq
          go_upto_region 5 with fail
          refine wp_region_steps0 NewT [SV.eq (.pointer (some ⟨g1, 2, none⟩)), SV.eq (.int .i64 (g.at_))] [([(1, none)], none), ([(19, some 0)], none)] 21 2 rfl rfl (by kernel_rfl) NewT.trans (NewT.refl _) (Nat.le_of_ble_eq_true rfl) ⟨?_, ?_, trivial⟩ ?_
          · exact fun a wx hT hF K hK => rely_wp rfl (opr_fldU2 rfl hF.1 (hK _ _ (NewT.refl _) rfl))
          · exact fun a wx hT hF K hK => rely_wp rfl (opr_ldI (hT.row Rg1.out) (by decide) rfl rfl hF.1 (hK _ _ (NewT.refl _) rfl))
          · intro w3 k3
            iterate 2 (intro u h; obtain rfl := Eq.symm (h (by simp)); clear h)
            refine relyEnd_nil rfl ?_
            simp only [Act.put, List.setIfInBounds_toArray, List.set_cons_zero, List.set_cons_succ]
            refine wpList_plain rfl (fun K hK => ?_)
            refine opr_move (.inr rfl) (hK _ _ ?_)
            clear hK K
            simp only [Act.put, List.setIfInBounds_toArray, List.set_cons_zero, List.set_cons_succ]
            refine wpList_plain rfl (fun K hK => ?_)
            refine opr_move (.inr rfl) (hK _ _ ?_)
            clear hK K
            refine wpList_end rfl ?_
            simp only [Act.put, List.setIfInBounds_toArray, List.set_cons_zero, List.set_cons_succ]
            go_simp
            replace Rg1 := Lib.hid (k3.row Rg1.out)
            replace HM := Lib.hid (NewT.trans _ _ _ HM.out k3)
            clear k3
            go_wp2
            exact bodyPost_ret (results_tt rfl rfl rfl) rfl ⟨_, rfl, HM.out, by show _ = Value.tuple _; rw [HE.out.1, HE.out.2, HQ.out]; first | done | rfl⟩
    · have HE : Hid (nextI l g = oI (tgtO l g) ∧ nextB l g = (tgtO l g).isSome) := Lib.hid (by
        have hb' : g.ph = 1 := by simpa using hb
        exact ⟨by unfold nextI; rw [if_pos hb'], by unfold nextB; rw [if_pos hb']⟩)
      clear hb
      go_upto_region 2 with fail
      refine wp_region_steps0 NewT [SV.eq (.agg (rowA 10 (sgF sv g))), SV.eq ((.tuple #[.int .i64 (oI (tgtO l g)), .bool (tgtO l g).isSome])), SV.eq (.int .i64 (oI (tgtO l g))), SV.eq (.bool ((tgtO l g).isSome))] [([(1, none)], none), ([(7, some 0)], none), ([(8, some 1)], none), ([(8, some 1)], none)] 21 4 rfl rfl (by kernel_rfl) NewT.trans (NewT.refl _) (Nat.le_of_ble_eq_true rfl) ⟨?_, ?_, ?_, ?_, trivial⟩ ?_
      · exact fun a wx hT hF K hK => rely_wp rfl (opr_ldU (hT.row Rg1.out) rfl hF.1 (hK _ _ (NewT.refl _) rfl))
      · exact fun a wx hT hF K hK => rely_wp rfl (opr_cv (target_cv sv l g wx ((NewT.trans _ _ _ HM.out hT).pairs HS.out) HL6.out) rfl Try.func34 (by kernel_rfl) (by kernel_rfl) (evs1 hF.1) hK)
      · exact fun a wx hT hF K hK => rely_wp rfl (opr_ext rfl hF.1 rfl (hK _ _ (NewT.refl _) rfl))
      · exact fun a wx hT hF K hK => rely_wp rfl (opr_ext rfl hF.1 rfl (hK _ _ (NewT.refl _) rfl))
      · intro w4 k4
        iterate 4 (intro u h; obtain rfl := Eq.symm (h (by simp)); clear h)
        refine relyEnd_nil rfl ?_
        simp only [Act.put, List.setIfInBounds_toArray, List.set_cons_zero, List.set_cons_succ]
        refine wpList_plain rfl (fun K hK => ?_)
        refine opr_move (.inr rfl) (hK _ _ ?_)
        clear hK K
        simp only [Act.put, List.setIfInBounds_toArray, List.set_cons_zero, List.set_cons_succ]
        refine wpList_plain rfl (fun K hK => ?_)
        refine opr_move (.inr rfl) (hK _ _ ?_)
        clear hK K
        refine wpList_end rfl ?_
        simp only [Act.put, List.setIfInBounds_toArray, List.set_cons_zero, List.set_cons_succ]
        go_simp
        replace Rg1 := Lib.hid (k4.row Rg1.out)
        replace HM := Lib.hid (NewT.trans _ _ _ HM.out k4)
        clear k4
        go_wp2
        exact bodyPost_ret (results_tt rfl rfl rfl) rfl ⟨_, rfl, HM.out, by show _ = Value.tuple _; rw [HE.out.1, HE.out.2]; first | done | rfl⟩
set_option maxHeartbeats 4000000 in
theorem Due_cv (sv : Value) (l : List (Int × Int)) (g : Sg) (lim : Int) (w : World) (hs : RdP w sv l) (ok : OkG l g) : Cv 18 #[.agg (rowA 10 (sgF sv g)), .int .i64 lim] w (.eq (.tuple #[.agg (rowA 109 (recF (dueX l lim g) (.slice none 0 0) (.slice none 0 0))), .bool (inG lim g)])) := by
  unfold Cv
  have HS := Lib.hid hs
  have HOK := Lib.hid ok
  have HL6 : Hid (l.length ≤ 6) := Lib.hid ok.len.2
  have HTR := Lib.hid ok.tr
  clear hs ok
  go_enter Try.func18, Try.ntmps18
  go_upto_region 1 with fail
  have r_g1 := (rowIs_box w 27 10 (sgF sv g)).alloc (.cells (rowA 109 (recF zR (.slice none 0 0) (.slice none 0 0))) 41)
  have r_g2 := rowIs_box (w.alloc (.cells (rowA 10 (sgF sv g)) 27)) 41 109 (recF zR (.slice none 0 0) (.slice none 0 0))
  rw [World.size_alloc] at r_g2
  have hN : NewT w ((w.alloc (.cells (rowA 10 (sgF sv g)) 27)).alloc (.cells (rowA 109 (recF zR (.slice none 0 0) (.slice none 0 0))) 41)) := (NewT.trans _ _ _ (NewT.alloc _ _) (NewT.alloc _ _))
  change Code.wp _ _ _ _ ((w.alloc (.cells (rowA 10 (sgF sv g)) 27)).alloc (.cells (rowA 109 (recF zR (.slice none 0 0) (.slice none 0 0))) 41))
  generalize ((w.alloc (.cells (rowA 10 (sgF sv g)) 27)).alloc (.cells (rowA 109 (recF zR (.slice none 0 0) (.slice none 0 0))) 41)) = W0 at r_g1 r_g2 hN ⊢
  obtain ⟨g1, h_g1⟩ : ∃ g_, w.heap.size = g_ := ⟨_, rfl⟩
  obtain ⟨g2, h_g2⟩ : ∃ g_, w.heap.size + 1 = g_ := ⟨_, rfl⟩
  have HG : Hid (w.heap.size ≤ g1 ∧ g1 < g2) := Lib.hid (by omega)
  rw [h_g1] at r_g1
  rw [h_g2] at r_g2
  try rw [h_g2]
  simp only [h_g1]
  have Rg1 := Lib.hid r_g1
  have Rg2 := Lib.hid r_g2
  have HM := Lib.hid hN
  clear r_g1 r_g2 hN h_g1 h_g2
  go_upto_region 1 with fail
  obtain ⟨q1_1, Q1_1⟩ : ∃ bq_, (((!(inR lim 1 9)) || g.wt) || (overB g.ph)) = bq_ := ⟨_, rfl⟩
  refine wp_region_steps0 NewT [SV.eq (.int .i64 (lim)), SV.eq (.bool (inR lim 1 9)), SV.eq (.bool (!(inR lim 1 9))), SV.eq (.bool (!(inR lim 1 9))), svIf ((!(!(inR lim 1 9)))) (SV.eq (.pointer (some ⟨g1, 4, none⟩))), svIf ((!(!(inR lim 1 9)))) (SV.eq (.bool (g.wt))), SV.eq (.bool ((!(inR lim 1 9)) || g.wt)), SV.eq (.bool ((!(inR lim 1 9)) || g.wt)), svIf ((!((!(inR lim 1 9)) || g.wt))) (SV.eq (.agg (rowA 10 (sgF sv g)))), svIf ((!((!(inR lim 1 9)) || g.wt))) (SV.eq (.bool (overB g.ph))), SV.eq (.bool (q1_1))] [([(1, none)], none), ([(9, some 0)], none), ([(10, some 1)], none), ([(11, some 2)], none), ([(2, none), (12, some 3)], some (12, false)), ([(13, some 4), (12, some 3)], some (12, false)), ([(12, some 3), (14, some 5)], none), ([(15, some 6)], none), ([(2, none), (16, some 7)], some (16, false)), ([(17, some 8), (16, some 7)], some (16, false)), ([(16, some 7), (18, some 9)], none)] 50 11 rfl rfl (by kernel_rfl) NewT.trans (NewT.refl _) (Nat.le_of_ble_eq_true rfl) ⟨?_, ?_, ?_, ?_, ?_, ?_, ?_, ?_, ?_, ?_, ?_, trivial⟩ ?_
  · exact fun a wx hT hF K hK => rely_wp rfl (opr_move (.inl rfl) (hK _ _ (NewT.refl _) hF.1))
  · exact fun a wx hT hF K hK => rely_wp rfl (opr_cv (gLimit_cv lim wx) rfl Try.func24 (by kernel_rfl) (by kernel_rfl) (evs1 hF.1) hK)
  · exact fun a wx hT hF K hK => rely_wp rfl (opr_not rfl hF.1 (hK _ _ (NewT.refl _) rfl))
  · exact fun a wx hT hF K hK => rely_wp rfl (opr_move (.inl rfl) (hK _ _ (NewT.refl _) hF.1))
  · exact fun a wx hT hF K hK => rely_if (rely_gf hF.2.1) (NewT.refl _) hK fun hE hK => opr_fldU4 rfl hF.1 (hK _ _ (NewT.refl _) rfl)
  · exact fun a wx hT hF K hK => rely_if (rely_gf hF.2.1) (NewT.refl _) hK fun hE hK => opr_ldQ (hT.row Rg1.out) (by decide) rfl rfl (hF.1 hE) (hK _ _ (NewT.refl _) rfl)
  · exact fun a wx hT hF K hK => rely_wp rfl (opr_pick_b rfl hF.1 (fun hb => hK _ _ (NewT.refl _) (pk_or1 hb)) (fun hb => hK _ _ (NewT.refl _) (pk_or0 (hF.2.1 (bnot hb)) hb)))
  · exact fun a wx hT hF K hK => rely_wp rfl (opr_move (.inl rfl) (hK _ _ (NewT.refl _) hF.1))
  · exact fun a wx hT hF K hK => rely_if (rely_gf hF.2.1) (NewT.refl _) hK fun hE hK => opr_ldU (hT.row Rg1.out) rfl hF.1 (hK _ _ (NewT.refl _) rfl)
  · exact fun a wx hT hF K hK => rely_if (rely_gf hF.2.1) (NewT.refl _) hK fun hE hK => opr_cv (Over_cv sv g wx) rfl Try.func19 (by kernel_rfl) (by kernel_rfl) (evs1 (hF.1 hE)) hK
  · exact fun a wx hT hF K hK => rely_wp rfl (opr_pick_b rfl hF.1 (fun hb => hK _ _ (NewT.refl _) (pn_or1 Q1_1 hb)) (fun hb => hK _ _ (NewT.refl _) (pn_or0 Q1_1 (hF.2.1 (bnot hb)) hb)))
  · intro w1 k1
    iterate 4 (intro u h; obtain rfl := Eq.symm (h (by simp)); clear h)
    iterate 2 (intro _ _)
    iterate 2 (intro u h; obtain rfl := Eq.symm (h (by simp)); clear h)
    iterate 2 (intro _ _)
    intro u h; obtain rfl := Eq.symm (h (by simp)); clear h
    subst Q1_1
    refine relyEnd_nil rfl ?_
    refine wpList_end rfl ?_
    simp only [Act.put, List.setIfInBounds_toArray, List.set_cons_zero, List.set_cons_succ]
    go_simp
    replace Rg1 := Lib.hid (k1.row Rg1.out)
    replace Rg2 := Lib.hid (k1.row Rg2.out)
    replace HM := Lib.hid (NewT.trans _ _ _ HM.out k1)
    clear k1
    cases hb : ((((!(inR lim 1 9)) || g.wt) || (overB g.ph)))
    · have HI : Hid (inG lim g = true) := Lib.hid (by unfold inG; rw [hb]; rfl)
      clear hb
      go_upto_region 3 with fail
      refine wp_region_steps0 NewT [SV.eq (.pointer (some ⟨g1, 1, none⟩)), SV.eq (.int .i64 (g.ph)), SV.eq (.bool (g.ph == 1)), SV.eq (.bool (g.ph == 1))] [([(2, none)], none), ([(21, some 0)], none), ([(22, some 1)], none), ([(23, some 2)], none)] 50 4 rfl rfl (by kernel_rfl) NewT.trans (NewT.refl _) (Nat.le_of_ble_eq_true rfl) ⟨?_, ?_, ?_, ?_, trivial⟩ ?_
      · exact fun a wx hT hF K hK => rely_wp rfl (opr_fldU1 rfl hF.1 (hK _ _ (NewT.refl _) rfl))
      · exact fun a wx hT hF K hK => rely_wp rfl (opr_ldI (hT.row Rg1.out) (by decide) rfl rfl hF.1 (hK _ _ (NewT.refl _) rfl))
      · exact fun a wx hT hF K hK => rely_wp rfl (opr_cmp (b := g.ph == 1) (.inl ⟨rfl, rfl⟩) Try.underlying3 rfl hF.1 rfl (hK _ _ (NewT.refl _) rfl))
      · exact fun a wx hT hF K hK => rely_wp rfl (opr_move (.inr rfl) (hK _ _ (NewT.refl _) hF.1))
      · intro w2 k2
        iterate 4 (intro u h; obtain rfl := Eq.symm (h (by simp)); clear h)
        refine relyEnd_nil rfl ?_
        refine wpList_end rfl ?_
        simp only [Act.put, List.setIfInBounds_toArray, List.set_cons_zero, List.set_cons_succ]
        go_simp
        replace Rg1 := Lib.hid (k2.row Rg1.out)
        replace Rg2 := Lib.hid (k2.row Rg2.out)
        replace HM := Lib.hid (NewT.trans _ _ _ HM.out k2)
        clear k2
        go_upto_region 4 with fail
        refine wp_region_steps0 NewT [SV.eq (.agg (rowA 10 (sgF sv g))), SV.eq ((.tuple #[.int .i64 (nextI l g), .bool (nextB l g)])), SV.eq ((.tuple #[.int .i64 (nextI l g), .bool (nextB l g)])), SV.eq (.int .i64 (nextI l g)), SV.eq (.bool (nextB l g))] [([(2, none)], none), ([(25, some 0)], none), ([(26, some 1)], none), ([(24, some 2)], none), ([(24, some 2)], none)] 50 5 rfl rfl (by kernel_rfl) NewT.trans (NewT.refl _) (Nat.le_of_ble_eq_true rfl) ⟨?_, ?_, ?_, ?_, ?_, trivial⟩ ?_
        · exact fun a wx hT hF K hK => rely_wp rfl (opr_ldU (hT.row Rg1.out) rfl hF.1 (hK _ _ (NewT.refl _) rfl))
        · exact fun a wx hT hF K hK => rely_wp rfl (opr_cv (next_cv sv l g wx ((NewT.trans _ _ _ HM.out hT).pairs HS.out) HL6.out) rfl Try.func27 (by kernel_rfl) (by kernel_rfl) (evs1 hF.1) hK)
        · exact fun a wx hT hF K hK => rely_wp rfl (opr_move (.inl rfl) (hK _ _ (NewT.refl _) hF.1))
        · exact fun a wx hT hF K hK => rely_wp rfl (opr_ext rfl hF.1 rfl (hK _ _ (NewT.refl _) rfl))
        · exact fun a wx hT hF K hK => rely_wp rfl (opr_ext rfl hF.1 rfl (hK _ _ (NewT.refl _) rfl))
        · intro w3 k3
          iterate 5 (intro u h; obtain rfl := Eq.symm (h (by simp)); clear h)
          refine relyEnd_nil rfl ?_
          simp only [Act.put, List.setIfInBounds_toArray, List.set_cons_zero, List.set_cons_succ]
          refine wpList_plain rfl (fun K hK => ?_)
          refine opr_move (.inr rfl) (hK _ _ ?_)
          clear hK K
          simp only [Act.put, List.setIfInBounds_toArray, List.set_cons_zero, List.set_cons_succ]
          refine wpList_plain rfl (fun K hK => ?_)
          refine opr_move (.inr rfl) (hK _ _ ?_)
          clear hK K
          refine wpList_end rfl ?_
          simp only [Act.put, List.setIfInBounds_toArray, List.set_cons_zero, List.set_cons_succ]
          go_simp
          replace Rg1 := Lib.hid (k3.row Rg1.out)
          replace Rg2 := Lib.hid (k3.row Rg2.out)
          replace HM := Lib.hid (NewT.trans _ _ _ HM.out k3)
          clear k3
          go_upto_region 5 with fail
          obtain ⟨q1_5, Q1_5⟩ : ∃ bq_, ((nextB l g) && (decide (g.tr < lim))) = bq_ := ⟨_, rfl⟩
          refine wp_region_steps0 NewT [SV.eq (.bool (nextB l g)), SV.eq (.bool (nextB l g)), svIf (nextB l g) (SV.eq (.pointer (some ⟨g1, 3, none⟩))), svIf (nextB l g) (SV.eq (.int .i64 (g.tr))), svIf (nextB l g) (SV.eq (.int .i64 (lim))), svIf (nextB l g) (SV.eq (.bool (decide (g.tr < lim)))), SV.eq (.bool (q1_5)), SV.eq (.bool (q1_5))] [([(8, none)], none), ([(30, some 0)], none), ([(2, none), (31, some 1)], some (31, true)), ([(32, some 2), (31, some 1)], some (31, true)), ([(1, none), (31, some 1)], some (31, true)), ([(33, some 3), (34, some 4), (31, some 1)], some (31, true)), ([(31, some 1), (35, some 5)], none), ([(36, some 6)], none)] 50 8 rfl rfl (by kernel_rfl) NewT.trans (NewT.refl _) (Nat.le_of_ble_eq_true rfl) ⟨?_, ?_, ?_, ?_, ?_, ?_, ?_, ?_, trivial⟩ ?_
          · exact fun a wx hT hF K hK => rely_wp rfl (opr_move (.inl rfl) (hK _ _ (NewT.refl _) hF.1))
          · exact fun a wx hT hF K hK => rely_wp rfl (opr_move (.inl rfl) (hK _ _ (NewT.refl _) hF.1))
          · exact fun a wx hT hF K hK => rely_if (rely_gt hF.2.1) (NewT.refl _) hK fun hE hK => opr_fldU3 rfl hF.1 (hK _ _ (NewT.refl _) rfl)
          · exact fun a wx hT hF K hK => rely_if (rely_gt hF.2.1) (NewT.refl _) hK fun hE hK => opr_ldI (hT.row Rg1.out) (by decide) rfl rfl (hF.1 hE) (hK _ _ (NewT.refl _) rfl)
          · exact fun a wx hT hF K hK => rely_if (rely_gt hF.2.1) (NewT.refl _) hK fun hE hK => opr_move (.inl rfl) (hK _ _ (NewT.refl _) hF.1)
          · exact fun a wx hT hF K hK => rely_if (rely_gt hF.2.2.1) (NewT.refl _) hK fun hE hK => opr_cmp (b := decide (g.tr < lim)) (.inr (.inr (.inr (.inl ⟨rfl, rfl⟩)))) Try.underlying3 rfl (hF.1 hE) (hF.2.1 hE) (hK _ _ (NewT.refl _) rfl)
          · exact fun a wx hT hF K hK => rely_wp rfl (opr_pick_b rfl hF.1 (fun hb => hK _ _ (NewT.refl _) (pn_and1 Q1_5 (hF.2.1 hb) hb)) (fun hb => hK _ _ (NewT.refl _) (pn_and0 Q1_5 hb)))
          · exact fun a wx hT hF K hK => rely_wp rfl (opr_move (.inr rfl) (hK _ _ (NewT.refl _) hF.1))
          · intro w4 k4
            iterate 2 (intro u h; obtain rfl := Eq.symm (h (by simp)); clear h)
            iterate 4 (intro _ _)
            iterate 2 (intro u h; obtain rfl := Eq.symm (h (by simp)); clear h)
            subst Q1_5
            refine relyEnd_nil rfl ?_
            refine wpList_end rfl ?_
            simp only [Act.put, List.setIfInBounds_toArray, List.set_cons_zero, List.set_cons_succ]
            go_simp
            replace Rg1 := Lib.hid (k4.row Rg1.out)
            replace Rg2 := Lib.hid (k4.row Rg2.out)
            replace HM := Lib.hid (NewT.trans _ _ _ HM.out k4)
            clear k4
            cases hq : (nextB l g && decide (g.tr < lim))
            · skip
              cases hn : nextB l g
              · cases hp : (g.ph == 1)
                · have HE : Hid (dueX l lim g = clR 2 ∧ inG lim g = true) := Lib.hid ⟨by unfold dueX; rw [HI.out, if_pos rfl, hn, if_neg (by simp), if_neg (by simpa using hp)], HI.out⟩
                  clear hq hn hp
                  go_upto_region 11 with fail
                  refine wp_region_steps0 NewT [SV.eq ((.agg (rowA 109 (recF (clR 2) (.slice none 0 0) (.slice none 0 0)))))] [([], none)] 50 1 rfl rfl (by kernel_rfl) NewT.trans (NewT.refl _) (Nat.le_of_ble_eq_true rfl) ⟨?_, trivial⟩ ?_
                  · exact fun a wx hT hF K hK => rely_wp rfl (opr_cv (gClosed_cv 2 wx) rfl Try.func28 (by kernel_rfl) (by kernel_rfl) (evs1 rfl) hK)
                  · intro w5 k5
                    intro u h; obtain rfl := Eq.symm (h (by simp)); clear h
                    refine relyEnd_nil rfl ?_
                    simp only [Act.put, List.setIfInBounds_toArray, List.set_cons_zero, List.set_cons_succ]
                    refine wpList_plain rfl (fun K hK => ?_)
                    refine opr_putm (g := g2) (o0 := 0) (m := 109) (f := recF (clR 2) (.slice none 0 0) (.slice none 0 0)) (F := recF (clR 2) (.slice none 0 0) (.slice none 0 0)) rfl rfl rfl (k5.row Rg2.out) (by decide) info_rec (recF_one _ _ _ rfl rfl) (put_allN _ _ _) ?_
                    intro W5 hR5 rr5
                    refine hK _ _ ?_
                    clear hK K
                    simp only [Act.put, List.setIfInBounds_toArray, List.set_cons_zero, List.set_cons_succ]
                    refine wpList_plain rfl (fun K hK => ?_)
                    refine opr_move (.inr rfl) (hK _ _ ?_)
                    clear hK K
                    refine wpList_end rfl ?_
                    simp only [Act.put, List.setIfInBounds_toArray, List.set_cons_zero, List.set_cons_succ]
                    go_simp
                    replace Rg2 := Lib.hid rr5
                    replace Rg1 := Lib.hid (hR5.row (by have h_0 := HG.out; omega) (k5.row Rg1.out))
                    replace HM := Lib.hid (NewT.rt (NewT.trans _ _ _ HM.out k5) hR5 (by have h_0 := HG.out; omega))
                    clear k5 hR5 rr5
                    go_wp2
                    exact bodyPost_ret (results_rt rfl rfl rfl Rg2.out Try.underlying41 rfl info_rec) rfl ⟨_, rfl, HM.out, by show _ = Value.tuple _; rw [HE.out.1, HE.out.2]; first | done | rfl⟩
                · have HE : Hid (dueX l lim g = clR 3 ∧ inG lim g = true) := Lib.hid ⟨by unfold dueX; rw [HI.out, if_pos rfl, hn, if_neg (by simp), if_pos (by simpa using hp)], HI.out⟩
                  clear hq hn hp
                  go_upto_region 10 with fail
                  refine wp_region_steps0 NewT [SV.eq ((.agg (rowA 109 (recF (clR 3) (.slice none 0 0) (.slice none 0 0)))))] [([], none)] 50 1 rfl rfl (by kernel_rfl) NewT.trans (NewT.refl _) (Nat.le_of_ble_eq_true rfl) ⟨?_, trivial⟩ ?_
                  · exact fun a wx hT hF K hK => rely_wp rfl (opr_cv (gClosed_cv 3 wx) rfl Try.func28 (by kernel_rfl) (by kernel_rfl) (evs1 rfl) hK)
                  · intro w6 k6
                    intro u h; obtain rfl := Eq.symm (h (by simp)); clear h
                    refine relyEnd_nil rfl ?_
                    simp only [Act.put, List.setIfInBounds_toArray, List.set_cons_zero, List.set_cons_succ]
                    refine wpList_plain rfl (fun K hK => ?_)
                    refine opr_putm (g := g2) (o0 := 0) (m := 109) (f := recF (clR 3) (.slice none 0 0) (.slice none 0 0)) (F := recF (clR 3) (.slice none 0 0) (.slice none 0 0)) rfl rfl rfl (k6.row Rg2.out) (by decide) info_rec (recF_one _ _ _ rfl rfl) (put_allN _ _ _) ?_
                    intro W6 hR6 rr6
                    refine hK _ _ ?_
                    clear hK K
                    simp only [Act.put, List.setIfInBounds_toArray, List.set_cons_zero, List.set_cons_succ]
                    refine wpList_plain rfl (fun K hK => ?_)
                    refine opr_move (.inr rfl) (hK _ _ ?_)
                    clear hK K
                    refine wpList_end rfl ?_
                    simp only [Act.put, List.setIfInBounds_toArray, List.set_cons_zero, List.set_cons_succ]
                    go_simp
                    replace Rg2 := Lib.hid rr6
                    replace Rg1 := Lib.hid (hR6.row (by have h_0 := HG.out; omega) (k6.row Rg1.out))
                    replace HM := Lib.hid (NewT.rt (NewT.trans _ _ _ HM.out k6) hR6 (by have h_0 := HG.out; omega))
                    clear k6 hR6 rr6
                    go_wp2
                    exact bodyPost_ret (results_rt rfl rfl rfl Rg2.out Try.underlying41 rfl info_rec) rfl ⟨_, rfl, HM.out, by show _ = Value.tuple _; rw [HE.out.1, HE.out.2]; first | done | rfl⟩
              · have HE : Hid (dueX l lim g = clR 4 ∧ inG lim g = true) := Lib.hid ⟨by unfold dueX; rw [HI.out, if_pos rfl, hn, if_pos rfl, if_neg (by rw [hn, Bool.true_and] at hq; simpa using hq)], HI.out⟩
                clear hq hn
                go_upto_region 8 with fail
                refine wp_region_steps0 NewT [SV.eq ((.agg (rowA 109 (recF (clR 4) (.slice none 0 0) (.slice none 0 0)))))] [([], none)] 50 1 rfl rfl (by kernel_rfl) NewT.trans (NewT.refl _) (Nat.le_of_ble_eq_true rfl) ⟨?_, trivial⟩ ?_
                · exact fun a wx hT hF K hK => rely_wp rfl (opr_cv (gClosed_cv 4 wx) rfl Try.func28 (by kernel_rfl) (by kernel_rfl) (evs1 rfl) hK)
                · intro w7 k7
                  intro u h; obtain rfl := Eq.symm (h (by simp)); clear h
                  refine relyEnd_nil rfl ?_
                  simp only [Act.put, List.setIfInBounds_toArray, List.set_cons_zero, List.set_cons_succ]
                  refine wpList_plain rfl (fun K hK => ?_)
                  refine opr_putm (g := g2) (o0 := 0) (m := 109) (f := recF (clR 4) (.slice none 0 0) (.slice none 0 0)) (F := recF (clR 4) (.slice none 0 0) (.slice none 0 0)) rfl rfl rfl (k7.row Rg2.out) (by decide) info_rec (recF_one _ _ _ rfl rfl) (put_allN _ _ _) ?_
                  intro W7 hR7 rr7
                  refine hK _ _ ?_
                  clear hK K
                  simp only [Act.put, List.setIfInBounds_toArray, List.set_cons_zero, List.set_cons_succ]
                  refine wpList_plain rfl (fun K hK => ?_)
                  refine opr_move (.inr rfl) (hK _ _ ?_)
                  clear hK K
                  refine wpList_end rfl ?_
                  simp only [Act.put, List.setIfInBounds_toArray, List.set_cons_zero, List.set_cons_succ]
                  go_simp
                  replace Rg2 := Lib.hid rr7
                  replace Rg1 := Lib.hid (hR7.row (by have h_0 := HG.out; omega) (k7.row Rg1.out))
                  replace HM := Lib.hid (NewT.rt (NewT.trans _ _ _ HM.out k7) hR7 (by have h_0 := HG.out; omega))
                  clear k7 hR7 rr7
                  go_wp2
                  exact bodyPost_ret (results_rt rfl rfl rfl Rg2.out Try.underlying41 rfl info_rec) rfl ⟨_, rfl, HM.out, by show _ = Value.tuple _; rw [HE.out.1, HE.out.2]; first | done | rfl⟩
            · have HE : Hid (dueX l lim g = { zR with kind := 2, step := nextI l g, tr := g.tr + 1, back := g.ph == 1 } ∧ inG lim g = true) := Lib.hid ⟨by
                rw [Bool.and_eq_true] at hq
                unfold dueX
                rw [HI.out, if_pos rfl, hq.1, if_pos rfl, if_pos (by simpa using hq.2)], HI.out⟩
              clear hq
              go_upto_region 6 with fail
              refine wp_region_steps0 NewT [SV.eq (.int .i64 (nextI l g)), SV.eq (.pointer (some ⟨g1, 3, none⟩)), SV.eq (.int .i64 (g.tr)), SV.eq (.int .i64 (g.tr + 1)), SV.eq (.bool (g.ph == 1)), SV.eq ((.agg (rowA 109 (recF { zR with kind := 2, step := nextI l g, tr := g.tr + 1, back := g.ph == 1 } (.slice none 0 0) (.slice none 0 0)))))] [([(7, none)], none), ([(2, none)], none), ([(38, some 1)], none), ([(39, some 2)], none), ([(6, none)], none), ([(37, some 0), (40, some 3), (41, some 4)], none)] 50 6 rfl rfl (by kernel_rfl) NewT.trans (NewT.refl _) (Nat.le_of_ble_eq_true rfl) ⟨?_, ?_, ?_, ?_, ?_, ?_, trivial⟩ ?_
              · exact fun a wx hT hF K hK => rely_wp rfl (opr_move (.inl rfl) (hK _ _ (NewT.refl _) hF.1))
              · exact fun a wx hT hF K hK => rely_wp rfl (opr_fldU3 rfl hF.1 (hK _ _ (NewT.refl _) rfl))
              · exact fun a wx hT hF K hK => rely_wp rfl (opr_ldI (hT.row Rg1.out) (by decide) rfl rfl hF.1 (hK _ _ (NewT.refl _) rfl))
              · exact fun a wx hT hF K hK => rely_wp rfl (opr_add (r := g.tr + 1) Try.underlying3 (by have := HTR.out; unfold wrap64; omega) rfl hF.1 rfl (hK _ _ (NewT.refl _) rfl))
              · exact fun a wx hT hF K hK => rely_wp rfl (opr_move (.inl rfl) (hK _ _ (NewT.refl _) hF.1))
              · intro a wx hT hF K hK
                obtain ⟨f37, f40, f41, _⟩ := hF
                have f37 : a.tmps.getD 37 undef = .int .i64 (nextI l g) := f37
                have f40 : a.tmps.getD 40 undef = .int .i64 (g.tr + 1) := f40
                have f41 : a.tmps.getD 41 undef = .bool (g.ph == 1) := f41
                refine rely_wp rfl ?_
                exact opr_build (pv := #[(0, .int .i64 2), (3, .int .i64 (nextI l g)), (4, .int .i64 (g.tr + 1)), (5, .bool (g.ph == 1))]) rfl (by simp only [List.map_toArray, List.map_cons, List.map_nil, eval_tmp, eval_const, f37, f40, f41]) (build_intent (nextI l g) (g.tr + 1) (g.ph == 1) wx) (hK _ _ (NewT.refl _) rfl)
              · intro w8 k8
                iterate 6 (intro u h; obtain rfl := Eq.symm (h (by simp)); clear h)
                refine relyEnd_nil rfl ?_
                simp only [Act.put, List.setIfInBounds_toArray, List.set_cons_zero, List.set_cons_succ]
                refine wpList_plain rfl (fun K hK => ?_)
                refine opr_putm (g := g2) (o0 := 0) (m := 109) (f := recF { zR with kind := 2, step := nextI l g, tr := g.tr + 1, back := g.ph == 1 } (.slice none 0 0) (.slice none 0 0)) (F := recF { zR with kind := 2, step := nextI l g, tr := g.tr + 1, back := g.ph == 1 } (.slice none 0 0) (.slice none 0 0)) rfl rfl rfl (k8.row Rg2.out) (by decide) info_rec (recF_one _ _ _ rfl rfl) (put_allN _ _ _) ?_
                intro W8 hR8 rr8
                refine hK _ _ ?_
                clear hK K
                simp only [Act.put, List.setIfInBounds_toArray, List.set_cons_zero, List.set_cons_succ]
                refine wpList_plain rfl (fun K hK => ?_)
                refine opr_move (.inr rfl) (hK _ _ ?_)
                clear hK K
                refine wpList_end rfl ?_
                simp only [Act.put, List.setIfInBounds_toArray, List.set_cons_zero, List.set_cons_succ]
                go_simp
                replace Rg2 := Lib.hid rr8
                replace Rg1 := Lib.hid (hR8.row (by have h_0 := HG.out; omega) (k8.row Rg1.out))
                replace HM := Lib.hid (NewT.rt (NewT.trans _ _ _ HM.out k8) hR8 (by have h_0 := HG.out; omega))
                clear k8 hR8 rr8
                go_wp2
                exact bodyPost_ret (results_rt rfl rfl rfl Rg2.out Try.underlying41 rfl info_rec) rfl ⟨_, rfl, HM.out, by show _ = Value.tuple _; rw [HE.out.1, HE.out.2]; first | done | rfl⟩
    · have HE : Hid (dueX l lim g = zR ∧ inG lim g = false) := Lib.hid (by
        have hI : inG lim g = false := by unfold inG; rw [hb]; rfl
        exact ⟨by unfold dueX; rw [hI, if_neg (by simp)], hI⟩)
      clear hb
      go_upto_region 2 with fail
      refine wp_region_steps0 NewT [SV.eq ((.agg (rowA 109 (recF zR (.slice none 0 0) (.slice none 0 0)))))] [([], none)] 50 1 rfl rfl (by kernel_rfl) NewT.trans (NewT.refl _) (Nat.le_of_ble_eq_true rfl) ⟨?_, trivial⟩ ?_
      · exact fun a wx hT hF K hK => rely_wp rfl (opr_build (pv := #[]) rfl (by simp) (build_rec0 wx) (hK _ _ (NewT.refl _) rfl))
      · intro w9 k9
        intro u h; obtain rfl := Eq.symm (h (by simp)); clear h
        refine relyEnd_nil rfl ?_
        simp only [Act.put, List.setIfInBounds_toArray, List.set_cons_zero, List.set_cons_succ]
        refine wpList_plain rfl (fun K hK => ?_)
        refine opr_putm (g := g2) (o0 := 0) (m := 109) (f := recF zR (.slice none 0 0) (.slice none 0 0)) (F := recF zR (.slice none 0 0) (.slice none 0 0)) rfl rfl rfl (k9.row Rg2.out) (by decide) info_rec (recF_one _ _ _ rfl rfl) (put_allN _ _ _) ?_
        intro W9 hR9 rr9
        refine hK _ _ ?_
        clear hK K
        simp only [Act.put, List.setIfInBounds_toArray, List.set_cons_zero, List.set_cons_succ]
        refine wpList_plain rfl (fun K hK => ?_)
        refine opr_move (.inr rfl) (hK _ _ ?_)
        clear hK K
        refine wpList_end rfl ?_
        simp only [Act.put, List.setIfInBounds_toArray, List.set_cons_zero, List.set_cons_succ]
        go_simp
        replace Rg2 := Lib.hid rr9
        replace Rg1 := Lib.hid (hR9.row (by have h_0 := HG.out; omega) (k9.row Rg1.out))
        replace HM := Lib.hid (NewT.rt (NewT.trans _ _ _ HM.out k9) hR9 (by have h_0 := HG.out; omega))
        clear k9 hR9 rr9
        go_wp2
        exact bodyPost_ret (results_rt rfl rfl rfl Rg2.out Try.underlying41 rfl info_rec) rfl ⟨_, rfl, HM.out, by show _ = Value.tuple _; rw [HE.out.1, HE.out.2]; first | done | rfl⟩
set_option maxHeartbeats 4000000 in
theorem isDue_cv (sv : Value) (l : List (Int × Int)) (g : Sg) (x : Rc) (v : Value) (lim : Int) (w : World) (hs : RdP w sv l) (hx : RecV w v x) (ok : OkG l g) : Cv 29 #[.agg (rowA 10 (sgF sv g)), v, .int .i64 lim] w (.eq (.bool (isDueB l lim g x))) := by
  obtain ⟨su, dv, rfl, hsx, hdx⟩ := hx
  have HX : Hid (RecV w (.agg (rowA 109 (recF x su dv))) x) := Lib.hid ⟨su, dv, rfl, hsx, hdx⟩
  have HSX := Lib.hid hsx
  have HD := Lib.hid hdx
  clear hsx hdx
  unfold Cv
  have HS := Lib.hid hs
  have HOK := Lib.hid ok
  have HL6 : Hid (l.length ≤ 6) := Lib.hid ok.len.2
  have HTR := Lib.hid ok.tr
  clear hs ok
  go_enter Try.func29, Try.ntmps29
  go_upto_region 1 with fail
  have r_g1 := (rowIs_box w 27 10 (sgF sv g)).alloc (.cells (rowA 109 (recF x su dv)) 41)
  have r_g2 := rowIs_box (w.alloc (.cells (rowA 10 (sgF sv g)) 27)) 41 109 (recF x su dv)
  rw [World.size_alloc] at r_g2
  have hN : NewT w ((w.alloc (.cells (rowA 10 (sgF sv g)) 27)).alloc (.cells (rowA 109 (recF x su dv)) 41)) := (NewT.trans _ _ _ (NewT.alloc _ _) (NewT.alloc _ _))
  change Code.wp _ _ _ _ ((w.alloc (.cells (rowA 10 (sgF sv g)) 27)).alloc (.cells (rowA 109 (recF x su dv)) 41))
  generalize ((w.alloc (.cells (rowA 10 (sgF sv g)) 27)).alloc (.cells (rowA 109 (recF x su dv)) 41)) = W0 at r_g1 r_g2 hN ⊢
  obtain ⟨g1, h_g1⟩ : ∃ g_, w.heap.size = g_ := ⟨_, rfl⟩
  obtain ⟨g2, h_g2⟩ : ∃ g_, w.heap.size + 1 = g_ := ⟨_, rfl⟩
  have HG : Hid (w.heap.size ≤ g1 ∧ g1 < g2) := Lib.hid (by omega)
  rw [h_g1] at r_g1
  rw [h_g2] at r_g2
  try rw [h_g2]
  simp only [h_g1]
  have Rg1 := Lib.hid r_g1
  have Rg2 := Lib.hid r_g2
  have HM := Lib.hid hN
  clear r_g1 r_g2 hN h_g1 h_g2
  go_upto_region 1 with fail
  refine wp_region_steps0 NewT [SV.eq (.agg (rowA 10 (sgF sv g))), SV.eq (.int .i64 (lim)), SV.eq ((.tuple #[.agg (rowA 109 (recF (dueX l lim g) (.slice none 0 0) (.slice none 0 0))), .bool (inG lim g)])), SV.eq ((.tuple #[.agg (rowA 109 (recF (dueX l lim g) (.slice none 0 0) (.slice none 0 0))), .bool (inG lim g)])), SV.eq ((.agg (rowA 109 (recF (dueX l lim g) (.slice none 0 0) (.slice none 0 0))))), SV.eq (.bool (inG lim g))] [([(3, none)], none), ([(2, none)], none), ([(10, some 0), (11, some 1)], none), ([(12, some 2)], none), ([(9, some 3)], none), ([(9, some 3)], none)] 51 6 rfl rfl (by kernel_rfl) NewT.trans (NewT.refl _) (Nat.le_of_ble_eq_true rfl) ⟨?_, ?_, ?_, ?_, ?_, ?_, trivial⟩ ?_
  · exact fun a wx hT hF K hK => rely_wp rfl (opr_ldU (hT.row Rg1.out) rfl hF.1 (hK _ _ (NewT.refl _) rfl))
  · exact fun a wx hT hF K hK => rely_wp rfl (opr_move (.inl rfl) (hK _ _ (NewT.refl _) hF.1))
  · exact fun a wx hT hF K hK => rely_wp rfl (opr_cv (Due_cv sv l g lim wx ((NewT.trans _ _ _ HM.out hT).pairs HS.out) HOK.out) rfl Try.func18 (by kernel_rfl) (by kernel_rfl) (evs2 hF.1 hF.2.1) hK)
  · exact fun a wx hT hF K hK => rely_wp rfl (opr_move (.inl rfl) (hK _ _ (NewT.refl _) hF.1))
  · exact fun a wx hT hF K hK => rely_wp rfl (opr_ext rfl hF.1 rfl (hK _ _ (NewT.refl _) rfl))
  · exact fun a wx hT hF K hK => rely_wp rfl (opr_ext rfl hF.1 rfl (hK _ _ (NewT.refl _) rfl))
  · intro w1 k1
    iterate 6 (intro u h; obtain rfl := Eq.symm (h (by simp)); clear h)
    refine relyEnd_nil rfl ?_
    simp only [Act.put, List.setIfInBounds_toArray, List.set_cons_zero, List.set_cons_succ]
    refine wpList_new (n := 109) (f := recF (dueX l lim g) (.slice none 0 0) (.slice none 0 0)) rfl rfl rfl rfl rfl rfl (by first | (simp; done) | simp [Act.put]) run_alloc_rec info_rec (recF_one _ _ _ rfl rfl) rfl ?_
    intro W1 hn1 rr1
    simp only [Act.put, List.setIfInBounds_toArray, List.set_cons_zero, List.set_cons_succ]
    refine wpList_plain rfl (fun K hK => ?_)
    refine opr_move (.inr rfl) (hK _ _ ?_)
    clear hK K
    refine wpList_end rfl ?_
    simp only [Act.put, List.setIfInBounds_toArray, List.set_cons_zero, List.set_cons_succ]
    go_simp
    obtain ⟨g3, h_g3⟩ : ∃ g_, w1.heap.size = g_ := ⟨_, rfl⟩
    rw [h_g3] at rr1
    simp only [h_g3]
    have HGg3 : Hid (g1 < g3 ∧ g2 < g3 ∧ w.heap.size ≤ g3) := Lib.hid (by rw [← h_g3]; exact ⟨(k1.row Rg1.out).lt, (k1.row Rg2.out).lt, (NewT.trans _ _ _ HM.out k1).out.size⟩)
    have q1 := NewT.trans _ _ _ k1 hn1
    clear k1 hn1 h_g3
    replace Rg1 := Lib.hid (q1.row Rg1.out)
    replace Rg2 := Lib.hid (q1.row Rg2.out)
    replace HM := Lib.hid (NewT.trans _ _ _ HM.out q1)
    clear q1
    have Rg3 := Lib.hid rr1
    clear rr1
    go_upto_region 2 with fail
    obtain ⟨q1_2, Q1_2⟩ : ∃ bq_, ((inG lim g) && (x.kind == ((dueX l lim g).kind))) = bq_ := ⟨_, rfl⟩
    obtain ⟨q2_2, Q2_2⟩ : ∃ bq_, (q1_2 && (x.step == ((dueX l lim g).step))) = bq_ := ⟨_, rfl⟩
    obtain ⟨q3_2, Q3_2⟩ : ∃ bq_, (q2_2 && (x.tr == ((dueX l lim g).tr))) = bq_ := ⟨_, rfl⟩
    obtain ⟨q4_2, Q4_2⟩ : ∃ bq_, (q3_2 && (x.back == ((dueX l lim g).back))) = bq_ := ⟨_, rfl⟩
    obtain ⟨q5_2, Q5_2⟩ : ∃ bq_, (q4_2 && (x.nd == ((dueX l lim g).nd))) = bq_ := ⟨_, rfl⟩
    refine wp_region_steps0 NewT [SV.eq (.bool (inG lim g)), SV.eq (.bool (inG lim g)), svIf (inG lim g) (SV.eq (.pointer (some ⟨g2, 0, none⟩))), svIf (inG lim g) (SV.eq (.int .i64 (x.kind))), svIf (inG lim g) (SV.eq (.pointer (some ⟨g3, 0, none⟩))), svIf (inG lim g) (SV.eq (.int .i64 ((dueX l lim g).kind))), svIf (inG lim g) (SV.eq (.bool (x.kind == ((dueX l lim g).kind)))), SV.eq (.bool (q1_2)), SV.eq (.bool (q1_2)), svIf q1_2 (SV.eq (.pointer (some ⟨g2, 3, none⟩))), svIf q1_2 (SV.eq (.int .i64 (x.step))), svIf q1_2 (SV.eq (.pointer (some ⟨g3, 3, none⟩))), svIf q1_2 (SV.eq (.int .i64 ((dueX l lim g).step))), svIf q1_2 (SV.eq (.bool (x.step == ((dueX l lim g).step)))), SV.eq (.bool (q2_2)), SV.eq (.bool (q2_2)), svIf q2_2 (SV.eq (.pointer (some ⟨g2, 4, none⟩))), svIf q2_2 (SV.eq (.int .i64 (x.tr))), svIf q2_2 (SV.eq (.pointer (some ⟨g3, 4, none⟩))), svIf q2_2 (SV.eq (.int .i64 ((dueX l lim g).tr))), svIf q2_2 (SV.eq (.bool (x.tr == ((dueX l lim g).tr)))), SV.eq (.bool (q3_2)), SV.eq (.bool (q3_2)), svIf q3_2 (SV.eq (.pointer (some ⟨g2, 5, none⟩))), svIf q3_2 (SV.eq (.bool (x.back))), svIf q3_2 (SV.eq (.pointer (some ⟨g3, 5, none⟩))), svIf q3_2 (SV.eq (.bool ((dueX l lim g).back))), svIf q3_2 (SV.eq (.bool (x.back == ((dueX l lim g).back)))), SV.eq (.bool (q4_2)), SV.eq (.bool (q4_2)), svIf q4_2 (SV.eq (.pointer (some ⟨g2, 7, none⟩))), svIf q4_2 (SV.eq (.int .i64 (x.nd))), svIf q4_2 (SV.eq (.pointer (some ⟨g3, 7, none⟩))), svIf q4_2 (SV.eq (.int .i64 ((dueX l lim g).nd))), svIf q4_2 (SV.eq (.bool (x.nd == ((dueX l lim g).nd)))), SV.eq (.bool (q5_2)), SV.eq (.bool (q5_2))] [([(8, none)], none), ([(15, some 0)], none), ([(4, none), (16, some 1)], some (16, true)), ([(17, some 2), (16, some 1)], some (16, true)), ([(7, none), (16, some 1)], some (16, true)), ([(19, some 4), (16, some 1)], some (16, true)), ([(18, some 3), (20, some 5), (16, some 1)], some (16, true)), ([(16, some 1), (21, some 6)], none), ([(22, some 7)], none), ([(4, none), (23, some 8)], some (23, true)), ([(24, some 9), (23, some 8)], some (23, true)), ([(7, none), (23, some 8)], some (23, true)), ([(26, some 11), (23, some 8)], some (23, true)), ([(25, some 10), (27, some 12), (23, some 8)], some (23, true)), ([(23, some 8), (28, some 13)], none), ([(29, some 14)], none), ([(4, none), (30, some 15)], some (30, true)), ([(31, some 16), (30, some 15)], some (30, true)), ([(7, none), (30, some 15)], some (30, true)), ([(33, some 18), (30, some 15)], some (30, true)), ([(32, some 17), (34, some 19), (30, some 15)], some (30, true)), ([(30, some 15), (35, some 20)], none), ([(36, some 21)], none), ([(4, none), (37, some 22)], some (37, true)), ([(38, some 23), (37, some 22)], some (37, true)), ([(7, none), (37, some 22)], some (37, true)), ([(40, some 25), (37, some 22)], some (37, true)), ([(39, some 24), (41, some 26), (37, some 22)], some (37, true)), ([(37, some 22), (42, some 27)], none), ([(43, some 28)], none), ([(4, none), (44, some 29)], some (44, true)), ([(45, some 30), (44, some 29)], some (44, true)), ([(7, none), (44, some 29)], some (44, true)), ([(47, some 32), (44, some 29)], some (44, true)), ([(46, some 31), (48, some 33), (44, some 29)], some (44, true)), ([(44, some 29), (49, some 34)], none), ([(50, some 35)], none)] 51 37 rfl rfl (by kernel_rfl) NewT.trans (NewT.refl _) (Nat.le_of_ble_eq_true rfl) ⟨?_, ?_, ?_, ?_, ?_, ?_, ?_, ?_, ?_, ?_, ?_, ?_, ?_, ?_, ?_, ?_, ?_, ?_, ?_, ?_, ?_, ?_, ?_, ?_, ?_, ?_, ?_, ?_, ?_, ?_, ?_, ?_, ?_, ?_, ?_, ?_, ?_, trivial⟩ ?_
    · exact fun a wx hT hF K hK => rely_wp rfl (opr_move (.inl rfl) (hK _ _ (NewT.refl _) hF.1))
    · exact fun a wx hT hF K hK => rely_wp rfl (opr_move (.inl rfl) (hK _ _ (NewT.refl _) hF.1))
    · exact fun a wx hT hF K hK => rely_if (rely_gt hF.2.1) (NewT.refl _) hK fun hE hK => opr_fldR (by decide) rfl hF.1 (hK _ _ (NewT.refl _) rfl)
    · exact fun a wx hT hF K hK => rely_if (rely_gt hF.2.1) (NewT.refl _) hK fun hE hK => opr_ldI (hT.row Rg2.out) (by decide) rfl rfl (hF.1 hE) (hK _ _ (NewT.refl _) rfl)
    · exact fun a wx hT hF K hK => rely_if (rely_gt hF.2.1) (NewT.refl _) hK fun hE hK => opr_fldR (by decide) rfl hF.1 (hK _ _ (NewT.refl _) rfl)
    · exact fun a wx hT hF K hK => rely_if (rely_gt hF.2.1) (NewT.refl _) hK fun hE hK => opr_ldI (hT.row Rg3.out) (by decide) rfl rfl (hF.1 hE) (hK _ _ (NewT.refl _) rfl)
    · exact fun a wx hT hF K hK => rely_if (rely_gt hF.2.2.1) (NewT.refl _) hK fun hE hK => opr_cmp (b := x.kind == ((dueX l lim g).kind)) (.inl ⟨rfl, rfl⟩) Try.underlying3 rfl (hF.1 hE) (hF.2.1 hE) (hK _ _ (NewT.refl _) rfl)
    · exact fun a wx hT hF K hK => rely_wp rfl (opr_pick_b rfl hF.1 (fun hb => hK _ _ (NewT.refl _) (pn_and1 Q1_2 (hF.2.1 hb) hb)) (fun hb => hK _ _ (NewT.refl _) (pn_and0 Q1_2 hb)))
    · exact fun a wx hT hF K hK => rely_wp rfl (opr_move (.inl rfl) (hK _ _ (NewT.refl _) hF.1))
    · exact fun a wx hT hF K hK => rely_if (rely_gt hF.2.1) (NewT.refl _) hK fun hE hK => opr_fldR (by decide) rfl hF.1 (hK _ _ (NewT.refl _) rfl)
    · exact fun a wx hT hF K hK => rely_if (rely_gt hF.2.1) (NewT.refl _) hK fun hE hK => opr_ldI (hT.row Rg2.out) (by decide) rfl rfl (hF.1 hE) (hK _ _ (NewT.refl _) rfl)
    · exact fun a wx hT hF K hK => rely_if (rely_gt hF.2.1) (NewT.refl _) hK fun hE hK => opr_fldR (by decide) rfl hF.1 (hK _ _ (NewT.refl _) rfl)
    · exact fun a wx hT hF K hK => rely_if (rely_gt hF.2.1) (NewT.refl _) hK fun hE hK => opr_ldI (hT.row Rg3.out) (by decide) rfl rfl (hF.1 hE) (hK _ _ (NewT.refl _) rfl)
    · exact fun a wx hT hF K hK => rely_if (rely_gt hF.2.2.1) (NewT.refl _) hK fun hE hK => opr_cmp (b := x.step == ((dueX l lim g).step)) (.inl ⟨rfl, rfl⟩) Try.underlying3 rfl (hF.1 hE) (hF.2.1 hE) (hK _ _ (NewT.refl _) rfl)
    · exact fun a wx hT hF K hK => rely_wp rfl (opr_pick_b rfl hF.1 (fun hb => hK _ _ (NewT.refl _) (pn_and1 Q2_2 (hF.2.1 hb) hb)) (fun hb => hK _ _ (NewT.refl _) (pn_and0 Q2_2 hb)))
    · exact fun a wx hT hF K hK => rely_wp rfl (opr_move (.inl rfl) (hK _ _ (NewT.refl _) hF.1))
    · exact fun a wx hT hF K hK => rely_if (rely_gt hF.2.1) (NewT.refl _) hK fun hE hK => opr_fldR (by decide) rfl hF.1 (hK _ _ (NewT.refl _) rfl)
    · exact fun a wx hT hF K hK => rely_if (rely_gt hF.2.1) (NewT.refl _) hK fun hE hK => opr_ldI (hT.row Rg2.out) (by decide) rfl rfl (hF.1 hE) (hK _ _ (NewT.refl _) rfl)
    · exact fun a wx hT hF K hK => rely_if (rely_gt hF.2.1) (NewT.refl _) hK fun hE hK => opr_fldR (by decide) rfl hF.1 (hK _ _ (NewT.refl _) rfl)
    · exact fun a wx hT hF K hK => rely_if (rely_gt hF.2.1) (NewT.refl _) hK fun hE hK => opr_ldI (hT.row Rg3.out) (by decide) rfl rfl (hF.1 hE) (hK _ _ (NewT.refl _) rfl)
    · exact fun a wx hT hF K hK => rely_if (rely_gt hF.2.2.1) (NewT.refl _) hK fun hE hK => opr_cmp (b := x.tr == ((dueX l lim g).tr)) (.inl ⟨rfl, rfl⟩) Try.underlying3 rfl (hF.1 hE) (hF.2.1 hE) (hK _ _ (NewT.refl _) rfl)
    · exact fun a wx hT hF K hK => rely_wp rfl (opr_pick_b rfl hF.1 (fun hb => hK _ _ (NewT.refl _) (pn_and1 Q3_2 (hF.2.1 hb) hb)) (fun hb => hK _ _ (NewT.refl _) (pn_and0 Q3_2 hb)))
    · exact fun a wx hT hF K hK => rely_wp rfl (opr_move (.inl rfl) (hK _ _ (NewT.refl _) hF.1))
    · exact fun a wx hT hF K hK => rely_if (rely_gt hF.2.1) (NewT.refl _) hK fun hE hK => opr_fldR (by decide) rfl hF.1 (hK _ _ (NewT.refl _) rfl)
    · exact fun a wx hT hF K hK => rely_if (rely_gt hF.2.1) (NewT.refl _) hK fun hE hK => opr_ldQ (hT.row Rg2.out) (by decide) rfl rfl (hF.1 hE) (hK _ _ (NewT.refl _) rfl)
    · exact fun a wx hT hF K hK => rely_if (rely_gt hF.2.1) (NewT.refl _) hK fun hE hK => opr_fldR (by decide) rfl hF.1 (hK _ _ (NewT.refl _) rfl)
    · exact fun a wx hT hF K hK => rely_if (rely_gt hF.2.1) (NewT.refl _) hK fun hE hK => opr_ldQ (hT.row Rg3.out) (by decide) rfl rfl (hF.1 hE) (hK _ _ (NewT.refl _) rfl)
    · exact fun a wx hT hF K hK => rely_if (rely_gt hF.2.2.1) (NewT.refl _) hK fun hE hK => opr_eqlQ (b := x.back == ((dueX l lim g).back)) (rfl) rfl (hF.1 hE) (hF.2.1 hE) (hK _ _ (NewT.refl _) rfl)
    · exact fun a wx hT hF K hK => rely_wp rfl (opr_pick_b rfl hF.1 (fun hb => hK _ _ (NewT.refl _) (pn_and1 Q4_2 (hF.2.1 hb) hb)) (fun hb => hK _ _ (NewT.refl _) (pn_and0 Q4_2 hb)))
    · exact fun a wx hT hF K hK => rely_wp rfl (opr_move (.inl rfl) (hK _ _ (NewT.refl _) hF.1))
    · exact fun a wx hT hF K hK => rely_if (rely_gt hF.2.1) (NewT.refl _) hK fun hE hK => opr_fldR (by decide) rfl hF.1 (hK _ _ (NewT.refl _) rfl)
    · exact fun a wx hT hF K hK => rely_if (rely_gt hF.2.1) (NewT.refl _) hK fun hE hK => opr_ldI (hT.row Rg2.out) (by decide) rfl rfl (hF.1 hE) (hK _ _ (NewT.refl _) rfl)
    · exact fun a wx hT hF K hK => rely_if (rely_gt hF.2.1) (NewT.refl _) hK fun hE hK => opr_fldR (by decide) rfl hF.1 (hK _ _ (NewT.refl _) rfl)
    · exact fun a wx hT hF K hK => rely_if (rely_gt hF.2.1) (NewT.refl _) hK fun hE hK => opr_ldI (hT.row Rg3.out) (by decide) rfl rfl (hF.1 hE) (hK _ _ (NewT.refl _) rfl)
    · exact fun a wx hT hF K hK => rely_if (rely_gt hF.2.2.1) (NewT.refl _) hK fun hE hK => opr_cmp (b := x.nd == ((dueX l lim g).nd)) (.inl ⟨rfl, rfl⟩) Try.underlying3 rfl (hF.1 hE) (hF.2.1 hE) (hK _ _ (NewT.refl _) rfl)
    · exact fun a wx hT hF K hK => rely_wp rfl (opr_pick_b rfl hF.1 (fun hb => hK _ _ (NewT.refl _) (pn_and1 Q5_2 (hF.2.1 hb) hb)) (fun hb => hK _ _ (NewT.refl _) (pn_and0 Q5_2 hb)))
    · exact fun a wx hT hF K hK => rely_wp rfl (opr_move (.inr rfl) (hK _ _ (NewT.refl _) hF.1))
    · intro w2 k2
      iterate 2 (intro u h; obtain rfl := Eq.symm (h (by simp)); clear h)
      iterate 5 (intro _ _)
      iterate 2 (intro u h; obtain rfl := Eq.symm (h (by simp)); clear h)
      iterate 5 (intro _ _)
      iterate 2 (intro u h; obtain rfl := Eq.symm (h (by simp)); clear h)
      iterate 5 (intro _ _)
      iterate 2 (intro u h; obtain rfl := Eq.symm (h (by simp)); clear h)
      iterate 5 (intro _ _)
      iterate 2 (intro u h; obtain rfl := Eq.symm (h (by simp)); clear h)
      iterate 5 (intro _ _)
      iterate 2 (intro u h; obtain rfl := Eq.symm (h (by simp)); clear h)
      subst Q5_2 Q4_2 Q3_2 Q2_2 Q1_2
      refine relyEnd_nil rfl ?_
      refine wpList_end rfl ?_
      simp only [Act.put, List.setIfInBounds_toArray, List.set_cons_zero, List.set_cons_succ]
      go_simp
      replace Rg1 := Lib.hid (k2.row Rg1.out)
      replace Rg2 := Lib.hid (k2.row Rg2.out)
      replace Rg3 := Lib.hid (k2.row Rg3.out)
      replace HM := Lib.hid (NewT.trans _ _ _ HM.out k2)
      clear k2
      go_wp2
      go_ret
      exact ⟨_, rfl, HM.out, rfl⟩
set_option maxHeartbeats 4000000 in
theorem isOut_cv (sv : Value) (l : List (Int × Int)) (g : Sg) (x : Rc) (v : Value) (w : World) (hs : RdP w sv l) (hx : RecV w v x) (ok : OkG l g) : Cv 30 #[.agg (rowA 10 (sgF sv g)), v] w (.eq (.bool (isOutB l g x))) := by
  obtain ⟨su, dv, rfl, hsx, hdx⟩ := hx
  have HX : Hid (RecV w (.agg (rowA 109 (recF x su dv))) x) := Lib.hid ⟨su, dv, rfl, hsx, hdx⟩
  have HSX := Lib.hid hsx
  have HD := Lib.hid hdx
  clear hsx hdx
  unfold Cv
  have HS := Lib.hid hs
  have HOK := Lib.hid ok
  have HL6 : Hid (l.length ≤ 6) := Lib.hid ok.len.2
  have HTR := Lib.hid ok.tr
  clear hs ok
  go_enter Try.func30, Try.ntmps30
  go_upto_region 1 with fail
  have r_g1 := (rowIs_box w 27 10 (sgF sv g)).alloc (.cells (rowA 109 (recF x su dv)) 41)
  have r_g2 := rowIs_box (w.alloc (.cells (rowA 10 (sgF sv g)) 27)) 41 109 (recF x su dv)
  rw [World.size_alloc] at r_g2
  have hN : NewT w ((w.alloc (.cells (rowA 10 (sgF sv g)) 27)).alloc (.cells (rowA 109 (recF x su dv)) 41)) := (NewT.trans _ _ _ (NewT.alloc _ _) (NewT.alloc _ _))
  change Code.wp _ _ _ _ ((w.alloc (.cells (rowA 10 (sgF sv g)) 27)).alloc (.cells (rowA 109 (recF x su dv)) 41))
  generalize ((w.alloc (.cells (rowA 10 (sgF sv g)) 27)).alloc (.cells (rowA 109 (recF x su dv)) 41)) = W0 at r_g1 r_g2 hN ⊢
  obtain ⟨g1, h_g1⟩ : ∃ g_, w.heap.size = g_ := ⟨_, rfl⟩
  obtain ⟨g2, h_g2⟩ : ∃ g_, w.heap.size + 1 = g_ := ⟨_, rfl⟩
  have HG : Hid (w.heap.size ≤ g1 ∧ g1 < g2) := Lib.hid (by omega)
  rw [h_g1] at r_g1
  rw [h_g2] at r_g2
  try rw [h_g2]
  simp only [h_g1]
  have Rg1 := Lib.hid r_g1
  have Rg2 := Lib.hid r_g2
  have HM := Lib.hid hN
  clear r_g1 r_g2 hN h_g1 h_g2
  go_upto_region 1 with fail
  refine wp_region_steps0 NewT [SV.eq (.agg (rowA 10 (sgF sv g))), SV.eq ((.tuple #[.int .i64 (nextI l g), .bool (nextB l g)])), SV.eq ((.tuple #[.int .i64 (nextI l g), .bool (nextB l g)])), SV.eq (.int .i64 (nextI l g)), SV.eq (.bool (nextB l g))] [([(2, none)], none), ([(8, some 0)], none), ([(9, some 1)], none), ([(7, some 2)], none), ([(7, some 2)], none)] 37 5 rfl rfl (by kernel_rfl) NewT.trans (NewT.refl _) (Nat.le_of_ble_eq_true rfl) ⟨?_, ?_, ?_, ?_, ?_, trivial⟩ ?_
  · exact fun a wx hT hF K hK => rely_wp rfl (opr_ldU (hT.row Rg1.out) rfl hF.1 (hK _ _ (NewT.refl _) rfl))
  · exact fun a wx hT hF K hK => rely_wp rfl (opr_cv (next_cv sv l g wx ((NewT.trans _ _ _ HM.out hT).pairs HS.out) HL6.out) rfl Try.func27 (by kernel_rfl) (by kernel_rfl) (evs1 hF.1) hK)
  · exact fun a wx hT hF K hK => rely_wp rfl (opr_move (.inl rfl) (hK _ _ (NewT.refl _) hF.1))
  · exact fun a wx hT hF K hK => rely_wp rfl (opr_ext rfl hF.1 rfl (hK _ _ (NewT.refl _) rfl))
  · exact fun a wx hT hF K hK => rely_wp rfl (opr_ext rfl hF.1 rfl (hK _ _ (NewT.refl _) rfl))
  · intro w1 k1
    iterate 5 (intro u h; obtain rfl := Eq.symm (h (by simp)); clear h)
    refine relyEnd_nil rfl ?_
    simp only [Act.put, List.setIfInBounds_toArray, List.set_cons_zero, List.set_cons_succ]
    refine wpList_plain rfl (fun K hK => ?_)
    refine opr_move (.inr rfl) (hK _ _ ?_)
    clear hK K
    simp only [Act.put, List.setIfInBounds_toArray, List.set_cons_zero, List.set_cons_succ]
    refine wpList_plain rfl (fun K hK => ?_)
    refine opr_move (.inr rfl) (hK _ _ ?_)
    clear hK K
    refine wpList_end rfl ?_
    simp only [Act.put, List.setIfInBounds_toArray, List.set_cons_zero, List.set_cons_succ]
    go_simp
    replace Rg1 := Lib.hid (k1.row Rg1.out)
    replace Rg2 := Lib.hid (k1.row Rg2.out)
    replace HM := Lib.hid (NewT.trans _ _ _ HM.out k1)
    clear k1
    go_upto_region 2 with fail
    obtain ⟨q1_2, Q1_2⟩ : ∃ bq_, ((g.wt && (nextB l g)) && (x.step == (nextI l g))) = bq_ := ⟨_, rfl⟩
    obtain ⟨q2_2, Q2_2⟩ : ∃ bq_, ((q1_2 && (x.tr == g.tr)) && (x.back == g.bk)) = bq_ := ⟨_, rfl⟩
    refine wp_region_steps0 NewT [SV.eq (.pointer (some ⟨g1, 4, none⟩)), SV.eq (.bool (g.wt)), SV.eq (.bool (g.wt)), svIf (g.wt) (SV.eq (.bool (nextB l g))), SV.eq (.bool (g.wt && (nextB l g))), SV.eq (.bool (g.wt && (nextB l g))), svIf (g.wt && (nextB l g)) (SV.eq (.pointer (some ⟨g2, 3, none⟩))), svIf (g.wt && (nextB l g)) (SV.eq (.int .i64 (x.step))), svIf (g.wt && (nextB l g)) (SV.eq (.int .i64 (nextI l g))), svIf (g.wt && (nextB l g)) (SV.eq (.bool (x.step == (nextI l g)))), SV.eq (.bool (q1_2)), SV.eq (.bool (q1_2)), svIf q1_2 (SV.eq (.pointer (some ⟨g2, 4, none⟩))), svIf q1_2 (SV.eq (.int .i64 (x.tr))), svIf q1_2 (SV.eq (.pointer (some ⟨g1, 3, none⟩))), svIf q1_2 (SV.eq (.int .i64 (g.tr))), svIf q1_2 (SV.eq (.bool (x.tr == g.tr))), SV.eq (.bool (q1_2 && (x.tr == g.tr))), SV.eq (.bool (q1_2 && (x.tr == g.tr))), svIf (q1_2 && (x.tr == g.tr)) (SV.eq (.pointer (some ⟨g2, 5, none⟩))), svIf (q1_2 && (x.tr == g.tr)) (SV.eq (.bool (x.back))), svIf (q1_2 && (x.tr == g.tr)) (SV.eq (.pointer (some ⟨g1, 5, none⟩))), svIf (q1_2 && (x.tr == g.tr)) (SV.eq (.bool (g.bk))), svIf (q1_2 && (x.tr == g.tr)) (SV.eq (.bool (x.back == g.bk))), SV.eq (.bool (q2_2)), SV.eq (.bool (q2_2))] [([(2, none)], none), ([(12, some 0)], none), ([(13, some 1)], none), ([(6, none), (14, some 2)], some (14, true)), ([(14, some 2), (15, some 3)], none), ([(16, some 4)], none), ([(3, none), (17, some 5)], some (17, true)), ([(18, some 6), (17, some 5)], some (17, true)), ([(5, none), (17, some 5)], some (17, true)), ([(19, some 7), (20, some 8), (17, some 5)], some (17, true)), ([(17, some 5), (21, some 9)], none), ([(22, some 10)], none), ([(3, none), (23, some 11)], some (23, true)), ([(24, some 12), (23, some 11)], some (23, true)), ([(2, none), (23, some 11)], some (23, true)), ([(26, some 14), (23, some 11)], some (23, true)), ([(25, some 13), (27, some 15), (23, some 11)], some (23, true)), ([(23, some 11), (28, some 16)], none), ([(29, some 17)], none), ([(3, none), (30, some 18)], some (30, true)), ([(31, some 19), (30, some 18)], some (30, true)), ([(2, none), (30, some 18)], some (30, true)), ([(33, some 21), (30, some 18)], some (30, true)), ([(32, some 20), (34, some 22), (30, some 18)], some (30, true)), ([(30, some 18), (35, some 23)], none), ([(36, some 24)], none)] 37 26 rfl rfl (by kernel_rfl) NewT.trans (NewT.refl _) (Nat.le_of_ble_eq_true rfl) ⟨?_, ?_, ?_, ?_, ?_, ?_, ?_, ?_, ?_, ?_, ?_, ?_, ?_, ?_, ?_, ?_, ?_, ?_, ?_, ?_, ?_, ?_, ?_, ?_, ?_, ?_, trivial⟩ ?_
    · exact fun a wx hT hF K hK => rely_wp rfl (opr_fldU4 rfl hF.1 (hK _ _ (NewT.refl _) rfl))
    · exact fun a wx hT hF K hK => rely_wp rfl (opr_ldQ (hT.row Rg1.out) (by decide) rfl rfl hF.1 (hK _ _ (NewT.refl _) rfl))
    · exact fun a wx hT hF K hK => rely_wp rfl (opr_move (.inl rfl) (hK _ _ (NewT.refl _) hF.1))
    · exact fun a wx hT hF K hK => rely_if (rely_gt hF.2.1) (NewT.refl _) hK fun hE hK => opr_move (.inl rfl) (hK _ _ (NewT.refl _) hF.1)
    · exact fun a wx hT hF K hK => rely_wp rfl (opr_pick_b rfl hF.1 (fun hb => hK _ _ (NewT.refl _) (pk_and1 (hF.2.1 hb) hb)) (fun hb => hK _ _ (NewT.refl _) (pk_and0 hb)))
    · exact fun a wx hT hF K hK => rely_wp rfl (opr_move (.inl rfl) (hK _ _ (NewT.refl _) hF.1))
    · exact fun a wx hT hF K hK => rely_if (rely_gt hF.2.1) (NewT.refl _) hK fun hE hK => opr_fldR (by decide) rfl hF.1 (hK _ _ (NewT.refl _) rfl)
    · exact fun a wx hT hF K hK => rely_if (rely_gt hF.2.1) (NewT.refl _) hK fun hE hK => opr_ldI (hT.row Rg2.out) (by decide) rfl rfl (hF.1 hE) (hK _ _ (NewT.refl _) rfl)
    · exact fun a wx hT hF K hK => rely_if (rely_gt hF.2.1) (NewT.refl _) hK fun hE hK => opr_move (.inl rfl) (hK _ _ (NewT.refl _) hF.1)
    · exact fun a wx hT hF K hK => rely_if (rely_gt hF.2.2.1) (NewT.refl _) hK fun hE hK => opr_cmp (b := x.step == (nextI l g)) (.inl ⟨rfl, rfl⟩) Try.underlying3 rfl (hF.1 hE) (hF.2.1 hE) (hK _ _ (NewT.refl _) rfl)
    · exact fun a wx hT hF K hK => rely_wp rfl (opr_pick_b rfl hF.1 (fun hb => hK _ _ (NewT.refl _) (pn_and1 Q1_2 (hF.2.1 hb) hb)) (fun hb => hK _ _ (NewT.refl _) (pn_and0 Q1_2 hb)))
    · exact fun a wx hT hF K hK => rely_wp rfl (opr_move (.inl rfl) (hK _ _ (NewT.refl _) hF.1))
    · exact fun a wx hT hF K hK => rely_if (rely_gt hF.2.1) (NewT.refl _) hK fun hE hK => opr_fldR (by decide) rfl hF.1 (hK _ _ (NewT.refl _) rfl)
    · exact fun a wx hT hF K hK => rely_if (rely_gt hF.2.1) (NewT.refl _) hK fun hE hK => opr_ldI (hT.row Rg2.out) (by decide) rfl rfl (hF.1 hE) (hK _ _ (NewT.refl _) rfl)
    · exact fun a wx hT hF K hK => rely_if (rely_gt hF.2.1) (NewT.refl _) hK fun hE hK => opr_fldU3 rfl hF.1 (hK _ _ (NewT.refl _) rfl)
    · exact fun a wx hT hF K hK => rely_if (rely_gt hF.2.1) (NewT.refl _) hK fun hE hK => opr_ldI (hT.row Rg1.out) (by decide) rfl rfl (hF.1 hE) (hK _ _ (NewT.refl _) rfl)
    · exact fun a wx hT hF K hK => rely_if (rely_gt hF.2.2.1) (NewT.refl _) hK fun hE hK => opr_cmp (b := x.tr == g.tr) (.inl ⟨rfl, rfl⟩) Try.underlying3 rfl (hF.1 hE) (hF.2.1 hE) (hK _ _ (NewT.refl _) rfl)
    · exact fun a wx hT hF K hK => rely_wp rfl (opr_pick_b rfl hF.1 (fun hb => hK _ _ (NewT.refl _) (pk_and1 (hF.2.1 hb) hb)) (fun hb => hK _ _ (NewT.refl _) (pk_and0 hb)))
    · exact fun a wx hT hF K hK => rely_wp rfl (opr_move (.inl rfl) (hK _ _ (NewT.refl _) hF.1))
    · exact fun a wx hT hF K hK => rely_if (rely_gt hF.2.1) (NewT.refl _) hK fun hE hK => opr_fldR (by decide) rfl hF.1 (hK _ _ (NewT.refl _) rfl)
    · exact fun a wx hT hF K hK => rely_if (rely_gt hF.2.1) (NewT.refl _) hK fun hE hK => opr_ldQ (hT.row Rg2.out) (by decide) rfl rfl (hF.1 hE) (hK _ _ (NewT.refl _) rfl)
    · exact fun a wx hT hF K hK => rely_if (rely_gt hF.2.1) (NewT.refl _) hK fun hE hK => opr_fldU5 rfl hF.1 (hK _ _ (NewT.refl _) rfl)
    · exact fun a wx hT hF K hK => rely_if (rely_gt hF.2.1) (NewT.refl _) hK fun hE hK => opr_ldQ (hT.row Rg1.out) (by decide) rfl rfl (hF.1 hE) (hK _ _ (NewT.refl _) rfl)
    · exact fun a wx hT hF K hK => rely_if (rely_gt hF.2.2.1) (NewT.refl _) hK fun hE hK => opr_eqlQ (b := x.back == g.bk) (rfl) rfl (hF.1 hE) (hF.2.1 hE) (hK _ _ (NewT.refl _) rfl)
    · exact fun a wx hT hF K hK => rely_wp rfl (opr_pick_b rfl hF.1 (fun hb => hK _ _ (NewT.refl _) (pn_and1 Q2_2 (hF.2.1 hb) hb)) (fun hb => hK _ _ (NewT.refl _) (pn_and0 Q2_2 hb)))
    · exact fun a wx hT hF K hK => rely_wp rfl (opr_move (.inr rfl) (hK _ _ (NewT.refl _) hF.1))
    · intro w2 k2
      iterate 3 (intro u h; obtain rfl := Eq.symm (h (by simp)); clear h)
      intro _ _
      iterate 2 (intro u h; obtain rfl := Eq.symm (h (by simp)); clear h)
      iterate 4 (intro _ _)
      iterate 2 (intro u h; obtain rfl := Eq.symm (h (by simp)); clear h)
      iterate 5 (intro _ _)
      iterate 2 (intro u h; obtain rfl := Eq.symm (h (by simp)); clear h)
      iterate 5 (intro _ _)
      iterate 2 (intro u h; obtain rfl := Eq.symm (h (by simp)); clear h)
      subst Q2_2 Q1_2
      refine relyEnd_nil rfl ?_
      refine wpList_end rfl ?_
      simp only [Act.put, List.setIfInBounds_toArray, List.set_cons_zero, List.set_cons_succ]
      go_simp
      replace Rg1 := Lib.hid (k2.row Rg1.out)
      replace Rg2 := Lib.hid (k2.row Rg2.out)
      replace HM := Lib.hid (NewT.trans _ _ _ HM.out k2)
      clear k2
      go_wp2
      go_ret
      exact ⟨_, rfl, HM.out, rfl⟩
set_option maxHeartbeats 4000000 in
theorem fits_cv (sv : Value) (l : List (Int × Int)) (g : Sg) (x : Rc) (v : Value) (lim : Int) (w : World) (hs : RdP w sv l) (hx : RecV w v x) (ok : OkG l g) : Cv 25 #[.agg (rowA 10 (sgF sv g)), v, .int .i64 lim] w (.eq (.bool (fitsB l lim g x))) := by
  obtain ⟨su, dv, rfl, hsx, hdx⟩ := hx
  have HX : Hid (RecV w (.agg (rowA 109 (recF x su dv))) x) := Lib.hid ⟨su, dv, rfl, hsx, hdx⟩
  have HSX := Lib.hid hsx
  have HD := Lib.hid hdx
  clear hsx hdx
  unfold Cv
  have HS := Lib.hid hs
  have HOK := Lib.hid ok
  have HL6 : Hid (l.length ≤ 6) := Lib.hid ok.len.2
  have HTR := Lib.hid ok.tr
  clear hs ok
  go_enter Try.func25, Try.ntmps25
  go_upto_region 1 with fail
  have r_g1 := (rowIs_box w 27 10 (sgF sv g)).alloc (.cells (rowA 109 (recF x su dv)) 41)
  have r_g2 := rowIs_box (w.alloc (.cells (rowA 10 (sgF sv g)) 27)) 41 109 (recF x su dv)
  rw [World.size_alloc] at r_g2
  have hN : NewT w ((w.alloc (.cells (rowA 10 (sgF sv g)) 27)).alloc (.cells (rowA 109 (recF x su dv)) 41)) := (NewT.trans _ _ _ (NewT.alloc _ _) (NewT.alloc _ _))
  change Code.wp _ _ _ _ ((w.alloc (.cells (rowA 10 (sgF sv g)) 27)).alloc (.cells (rowA 109 (recF x su dv)) 41))
  generalize ((w.alloc (.cells (rowA 10 (sgF sv g)) 27)).alloc (.cells (rowA 109 (recF x su dv)) 41)) = W0 at r_g1 r_g2 hN ⊢
  obtain ⟨g1, h_g1⟩ : ∃ g_, w.heap.size = g_ := ⟨_, rfl⟩
  obtain ⟨g2, h_g2⟩ : ∃ g_, w.heap.size + 1 = g_ := ⟨_, rfl⟩
  have HG : Hid (w.heap.size ≤ g1 ∧ g1 < g2) := Lib.hid (by omega)
  rw [h_g1] at r_g1
  rw [h_g2] at r_g2
  try rw [h_g2]
  simp only [h_g1]
  have Rg1 := Lib.hid r_g1
  have Rg2 := Lib.hid r_g2
  have HM := Lib.hid hN
  clear r_g1 r_g2 hN h_g1 h_g2
  have c0 : W0.cell? ⟨g2, 0, none⟩ = some (.int .i64 x.kind) := Rg2.out.cell (i := 0) (by omega)
  by_cases hk : x.kind = 2
  · have HE : Hid (fitsB l lim g x = isDueB l lim g x) := Lib.hid (by unfold fitsB; rw [if_pos (.inl hk)])
    rw [hk] at c0
    clear hk
    go_upto_region 4 with fail
    clear c0
    refine wp_region_steps0 NewT [SV.eq (.agg (rowA 10 (sgF sv g))), SV.eq (.agg (rowA 109 (recF x su dv))), SV.eq (.int .i64 (lim)), SV.eq (.bool (isDueB l lim g x)), SV.eq (.bool (isDueB l lim g x))] [([(3, none)], none), ([(4, none)], none), ([(2, none)], none), ([(12, some 0), (13, some 1), (14, some 2)], none), ([(15, some 3)], none)] 22 5 rfl rfl (by kernel_rfl) NewT.trans (NewT.refl _) (Nat.le_of_ble_eq_true rfl) ⟨?_, ?_, ?_, ?_, ?_, trivial⟩ ?_
    · exact fun a wx hT hF K hK => rely_wp rfl (opr_ldU (hT.row Rg1.out) rfl hF.1 (hK _ _ (NewT.refl _) rfl))
    · exact fun a wx hT hF K hK => rely_wp rfl (opr_ldR (hT.row Rg2.out) rfl hF.1 (hK _ _ (NewT.refl _) rfl))
    · exact fun a wx hT hF K hK => rely_wp rfl (opr_move (.inl rfl) (hK _ _ (NewT.refl _) hF.1))
    · exact fun a wx hT hF K hK => rely_wp rfl (opr_cv (isDue_cv sv l g x _ lim wx ((NewT.trans _ _ _ HM.out hT).pairs HS.out) ((NewT.trans _ _ _ HM.out hT).recV HX.out) HOK.out) rfl Try.func29 (by kernel_rfl) (by kernel_rfl) (evs3 hF.1 hF.2.1 hF.2.2.1) hK)
    · exact fun a wx hT hF K hK => rely_wp rfl (opr_move (.inr rfl) (hK _ _ (NewT.refl _) hF.1))
    · intro w1 k1
      iterate 5 (intro u h; obtain rfl := Eq.symm (h (by simp)); clear h)
      refine relyEnd_nil rfl ?_
      refine wpList_end rfl ?_
      simp only [Act.put, List.setIfInBounds_toArray, List.set_cons_zero, List.set_cons_succ]
      go_simp
      replace Rg1 := Lib.hid (k1.row Rg1.out)
      replace Rg2 := Lib.hid (k1.row Rg2.out)
      replace HM := Lib.hid (NewT.trans _ _ _ HM.out k1)
      clear k1
      go_wp2
      go_ret
      exact ⟨_, rfl, HM.out, by show _ = Value.bool _; rw [HE.out]; first | done | rfl⟩
  have k2 := hk
  clear hk
  by_cases hk : x.kind = 5
  · have HE : Hid (fitsB l lim g x = isDueB l lim g x) := Lib.hid (by unfold fitsB; rw [if_pos (.inr hk)])
    rw [hk] at c0
    clear hk k2
    go_upto_region 4 with fail
    clear c0
    refine wp_region_steps0 NewT [SV.eq (.agg (rowA 10 (sgF sv g))), SV.eq (.agg (rowA 109 (recF x su dv))), SV.eq (.int .i64 (lim)), SV.eq (.bool (isDueB l lim g x)), SV.eq (.bool (isDueB l lim g x))] [([(3, none)], none), ([(4, none)], none), ([(2, none)], none), ([(12, some 0), (13, some 1), (14, some 2)], none), ([(15, some 3)], none)] 22 5 rfl rfl (by kernel_rfl) NewT.trans (NewT.refl _) (Nat.le_of_ble_eq_true rfl) ⟨?_, ?_, ?_, ?_, ?_, trivial⟩ ?_
    · exact fun a wx hT hF K hK => rely_wp rfl (opr_ldU (hT.row Rg1.out) rfl hF.1 (hK _ _ (NewT.refl _) rfl))
    · exact fun a wx hT hF K hK => rely_wp rfl (opr_ldR (hT.row Rg2.out) rfl hF.1 (hK _ _ (NewT.refl _) rfl))
    · exact fun a wx hT hF K hK => rely_wp rfl (opr_move (.inl rfl) (hK _ _ (NewT.refl _) hF.1))
    · exact fun a wx hT hF K hK => rely_wp rfl (opr_cv (isDue_cv sv l g x _ lim wx ((NewT.trans _ _ _ HM.out hT).pairs HS.out) ((NewT.trans _ _ _ HM.out hT).recV HX.out) HOK.out) rfl Try.func29 (by kernel_rfl) (by kernel_rfl) (evs3 hF.1 hF.2.1 hF.2.2.1) hK)
    · exact fun a wx hT hF K hK => rely_wp rfl (opr_move (.inr rfl) (hK _ _ (NewT.refl _) hF.1))
    · intro w2 k2
      iterate 5 (intro u h; obtain rfl := Eq.symm (h (by simp)); clear h)
      refine relyEnd_nil rfl ?_
      refine wpList_end rfl ?_
      simp only [Act.put, List.setIfInBounds_toArray, List.set_cons_zero, List.set_cons_succ]
      go_simp
      replace Rg1 := Lib.hid (k2.row Rg1.out)
      replace Rg2 := Lib.hid (k2.row Rg2.out)
      replace HM := Lib.hid (NewT.trans _ _ _ HM.out k2)
      clear k2
      go_wp2
      go_ret
      exact ⟨_, rfl, HM.out, by show _ = Value.bool _; rw [HE.out]; first | done | rfl⟩
  have k5 := hk
  clear hk
  by_cases hk : x.kind = 3
  · have HE : Hid (fitsB l lim g x = isOutB l g x) := Lib.hid (by unfold fitsB; rw [if_neg (by omega), if_pos (.inl hk)])
    rw [hk] at c0
    clear hk k2 k5
    go_upto_region 7 with fail
    clear c0
    refine wp_region_steps0 NewT [SV.eq (.agg (rowA 10 (sgF sv g))), SV.eq (.agg (rowA 109 (recF x su dv))), SV.eq (.bool (isOutB l g x)), SV.eq (.bool (isOutB l g x))] [([(3, none)], none), ([(4, none)], none), ([(19, some 0), (20, some 1)], none), ([(21, some 2)], none)] 22 4 rfl rfl (by kernel_rfl) NewT.trans (NewT.refl _) (Nat.le_of_ble_eq_true rfl) ⟨?_, ?_, ?_, ?_, trivial⟩ ?_
    · exact fun a wx hT hF K hK => rely_wp rfl (opr_ldU (hT.row Rg1.out) rfl hF.1 (hK _ _ (NewT.refl _) rfl))
    · exact fun a wx hT hF K hK => rely_wp rfl (opr_ldR (hT.row Rg2.out) rfl hF.1 (hK _ _ (NewT.refl _) rfl))
    · exact fun a wx hT hF K hK => rely_wp rfl (opr_cv (isOut_cv sv l g x _ wx ((NewT.trans _ _ _ HM.out hT).pairs HS.out) ((NewT.trans _ _ _ HM.out hT).recV HX.out) HOK.out) rfl Try.func30 (by kernel_rfl) (by kernel_rfl) (evs2 hF.1 hF.2.1) hK)
    · exact fun a wx hT hF K hK => rely_wp rfl (opr_move (.inr rfl) (hK _ _ (NewT.refl _) hF.1))
    · intro w3 k3
      iterate 4 (intro u h; obtain rfl := Eq.symm (h (by simp)); clear h)
      refine relyEnd_nil rfl ?_
      refine wpList_end rfl ?_
      simp only [Act.put, List.setIfInBounds_toArray, List.set_cons_zero, List.set_cons_succ]
      go_simp
      replace Rg1 := Lib.hid (k3.row Rg1.out)
      replace Rg2 := Lib.hid (k3.row Rg2.out)
      replace HM := Lib.hid (NewT.trans _ _ _ HM.out k3)
      clear k3
      go_wp2
      go_ret
      exact ⟨_, rfl, HM.out, by show _ = Value.bool _; rw [HE.out]; first | done | rfl⟩
  have k3 := hk
  clear hk
  by_cases hk : x.kind = 4
  · have HE : Hid (fitsB l lim g x = isOutB l g x) := Lib.hid (by unfold fitsB; rw [if_neg (by omega), if_pos (.inr hk)])
    rw [hk] at c0
    clear hk k2 k5 k3
    go_upto_region 7 with fail
    clear c0
    refine wp_region_steps0 NewT [SV.eq (.agg (rowA 10 (sgF sv g))), SV.eq (.agg (rowA 109 (recF x su dv))), SV.eq (.bool (isOutB l g x)), SV.eq (.bool (isOutB l g x))] [([(3, none)], none), ([(4, none)], none), ([(19, some 0), (20, some 1)], none), ([(21, some 2)], none)] 22 4 rfl rfl (by kernel_rfl) NewT.trans (NewT.refl _) (Nat.le_of_ble_eq_true rfl) ⟨?_, ?_, ?_, ?_, trivial⟩ ?_
    · exact fun a wx hT hF K hK => rely_wp rfl (opr_ldU (hT.row Rg1.out) rfl hF.1 (hK _ _ (NewT.refl _) rfl))
    · exact fun a wx hT hF K hK => rely_wp rfl (opr_ldR (hT.row Rg2.out) rfl hF.1 (hK _ _ (NewT.refl _) rfl))
    · exact fun a wx hT hF K hK => rely_wp rfl (opr_cv (isOut_cv sv l g x _ wx ((NewT.trans _ _ _ HM.out hT).pairs HS.out) ((NewT.trans _ _ _ HM.out hT).recV HX.out) HOK.out) rfl Try.func30 (by kernel_rfl) (by kernel_rfl) (evs2 hF.1 hF.2.1) hK)
    · exact fun a wx hT hF K hK => rely_wp rfl (opr_move (.inr rfl) (hK _ _ (NewT.refl _) hF.1))
    · intro w4 k4
      iterate 4 (intro u h; obtain rfl := Eq.symm (h (by simp)); clear h)
      refine relyEnd_nil rfl ?_
      refine wpList_end rfl ?_
      simp only [Act.put, List.setIfInBounds_toArray, List.set_cons_zero, List.set_cons_succ]
      go_simp
      replace Rg1 := Lib.hid (k4.row Rg1.out)
      replace Rg2 := Lib.hid (k4.row Rg2.out)
      replace HM := Lib.hid (NewT.trans _ _ _ HM.out k4)
      clear k4
      go_wp2
      go_ret
      exact ⟨_, rfl, HM.out, by show _ = Value.bool _; rw [HE.out]; first | done | rfl⟩
  have k4 := hk
  clear hk
  have HE : Hid (fitsB l lim g x = false) := Lib.hid (by unfold fitsB; rw [if_neg (by omega), if_neg (by omega)])
  have q2 : (x.kind == 2) = false := by simpa using k2
  have q3 : (x.kind == 3) = false := by simpa using k3
  have q4 : (x.kind == 4) = false := by simpa using k4
  have q5 : (x.kind == 5) = false := by simpa using k5
  clear k2 k3 k4 k5
  go_wp2
  go_ret
  exact ⟨_, rfl, HM.out, by show _ = Value.bool _; rw [HE.out]; first | done | rfl⟩
set_option maxHeartbeats 4000000 in
theorem Go_cv (sv : Value) (l : List (Int × Int)) (g : Sg) (x : Rc) (v : Value) (lim : Int) (w : World) (hs : RdP w sv l) (hx : RecV w v x) (ok : OkG l g) : Cv 17 #[.agg (rowA 10 (sgF sv g)), v, .int .i64 lim] w (.eq (.tuple #[.agg (rowA 10 (sgF sv (wentG l lim g x))), .bool (goesB l lim g x)])) := by
  obtain ⟨su, dv, rfl, hsx, hdx⟩ := hx
  have HX : Hid (RecV w (.agg (rowA 109 (recF x su dv))) x) := Lib.hid ⟨su, dv, rfl, hsx, hdx⟩
  have HSX := Lib.hid hsx
  have HD := Lib.hid hdx
  clear hsx hdx
  unfold Cv
  have HS := Lib.hid hs
  have HOK := Lib.hid ok
  have HL6 : Hid (l.length ≤ 6) := Lib.hid ok.len.2
  have HTR := Lib.hid ok.tr
  clear hs ok
  go_enter Try.func17, Try.ntmps17
  go_upto_region 1 with fail
  have r_g1 := ((rowIs_box w 27 10 (sgF sv g)).alloc (.cells (rowA 109 (recF x su dv)) 41)).alloc (.cells (rowA 10 (sgF (.slice none 0 0) zG)) 27)
  have r_g2 := (rowIs_box (w.alloc (.cells (rowA 10 (sgF sv g)) 27)) 41 109 (recF x su dv)).alloc (.cells (rowA 10 (sgF (.slice none 0 0) zG)) 27)
  rw [World.size_alloc] at r_g2
  have r_g3 := rowIs_box ((w.alloc (.cells (rowA 10 (sgF sv g)) 27)).alloc (.cells (rowA 109 (recF x su dv)) 41)) 27 10 (sgF (.slice none 0 0) zG)
  rw [World.size_alloc, World.size_alloc] at r_g3
  have hN : NewT w (((w.alloc (.cells (rowA 10 (sgF sv g)) 27)).alloc (.cells (rowA 109 (recF x su dv)) 41)).alloc (.cells (rowA 10 (sgF (.slice none 0 0) zG)) 27)) := (NewT.trans _ _ _ ((NewT.trans _ _ _ (NewT.alloc _ _) (NewT.alloc _ _))) (NewT.alloc _ _))
  change Code.wp _ _ _ _ (((w.alloc (.cells (rowA 10 (sgF sv g)) 27)).alloc (.cells (rowA 109 (recF x su dv)) 41)).alloc (.cells (rowA 10 (sgF (.slice none 0 0) zG)) 27))
  generalize (((w.alloc (.cells (rowA 10 (sgF sv g)) 27)).alloc (.cells (rowA 109 (recF x su dv)) 41)).alloc (.cells (rowA 10 (sgF (.slice none 0 0) zG)) 27)) = W0 at r_g1 r_g2 r_g3 hN ⊢
  obtain ⟨g1, h_g1⟩ : ∃ g_, w.heap.size = g_ := ⟨_, rfl⟩
  obtain ⟨g2, h_g2⟩ : ∃ g_, w.heap.size + 1 = g_ := ⟨_, rfl⟩
  obtain ⟨g3, h_g3⟩ : ∃ g_, w.heap.size + 1 + 1 = g_ := ⟨_, rfl⟩
  have HG : Hid (w.heap.size ≤ g1 ∧ g1 < g2 ∧ g2 < g3) := Lib.hid (by omega)
  rw [h_g1] at r_g1
  rw [h_g2] at r_g2
  rw [h_g3] at r_g3
  try rw [h_g3]
  try rw [h_g2]
  simp only [h_g1]
  have Rg1 := Lib.hid r_g1
  have Rg2 := Lib.hid r_g2
  have Rg3 := Lib.hid r_g3
  have HM := Lib.hid hN
  clear r_g1 r_g2 r_g3 hN h_g1 h_g2 h_g3
  go_upto_region 1 with fail
  obtain ⟨q1_1, Q1_1⟩ : ∃ bq_, ((!(inR lim 1 9)) || (x.seq != g.sq)) = bq_ := ⟨_, rfl⟩
  refine wp_region_steps0 NewT [SV.eq (.int .i64 (lim)), SV.eq (.bool (inR lim 1 9)), SV.eq (.bool (!(inR lim 1 9))), SV.eq (.bool (!(inR lim 1 9))), svIf ((!(!(inR lim 1 9)))) (SV.eq (.pointer (some ⟨g2, 2, none⟩))), svIf ((!(!(inR lim 1 9)))) (SV.eq (.int .i64 (x.seq))), svIf ((!(!(inR lim 1 9)))) (SV.eq (.pointer (some ⟨g1, 9, none⟩))), svIf ((!(!(inR lim 1 9)))) (SV.eq (.int .i64 (g.sq))), svIf ((!(!(inR lim 1 9)))) (SV.eq (.bool (x.seq != g.sq))), SV.eq (.bool (q1_1)), SV.eq (.bool (q1_1)), svIf ((!q1_1)) (SV.eq (.agg (rowA 10 (sgF sv g)))), svIf ((!q1_1)) (SV.eq (.agg (rowA 109 (recF x su dv)))), svIf ((!q1_1)) (SV.eq (.int .i64 (lim))), svIf ((!q1_1)) (SV.eq (.bool (fitsB l lim g x))), svIf ((!q1_1)) (SV.eq (.bool (!(fitsB l lim g x)))), SV.eq (.bool (q1_1 || (!(fitsB l lim g x))))] [([(2, none)], none), ([(8, some 0)], none), ([(9, some 1)], none), ([(10, some 2)], none), ([(4, none), (11, some 3)], some (11, false)), ([(12, some 4), (11, some 3)], some (11, false)), ([(3, none), (11, some 3)], some (11, false)), ([(14, some 6), (11, some 3)], some (11, false)), ([(13, some 5), (15, some 7), (11, some 3)], some (11, false)), ([(11, some 3), (16, some 8)], none), ([(17, some 9)], none), ([(3, none), (18, some 10)], some (18, false)), ([(4, none), (18, some 10)], some (18, false)), ([(2, none), (18, some 10)], some (18, false)), ([(19, some 11), (20, some 12), (21, some 13), (18, some 10)], some (18, false)), ([(22, some 14), (18, some 10)], some (18, false)), ([(18, some 10), (23, some 15)], none)] 30 17 rfl rfl (by kernel_rfl) NewT.trans (NewT.refl _) (Nat.le_of_ble_eq_true rfl) ⟨?_, ?_, ?_, ?_, ?_, ?_, ?_, ?_, ?_, ?_, ?_, ?_, ?_, ?_, ?_, ?_, ?_, trivial⟩ ?_
  · exact fun a wx hT hF K hK => rely_wp rfl (opr_move (.inl rfl) (hK _ _ (NewT.refl _) hF.1))
  · exact fun a wx hT hF K hK => rely_wp rfl (opr_cv (gLimit_cv lim wx) rfl Try.func24 (by kernel_rfl) (by kernel_rfl) (evs1 hF.1) hK)
  · exact fun a wx hT hF K hK => rely_wp rfl (opr_not rfl hF.1 (hK _ _ (NewT.refl _) rfl))
  · exact fun a wx hT hF K hK => rely_wp rfl (opr_move (.inl rfl) (hK _ _ (NewT.refl _) hF.1))
  · exact fun a wx hT hF K hK => rely_if (rely_gf hF.2.1) (NewT.refl _) hK fun hE hK => opr_fldR (by decide) rfl hF.1 (hK _ _ (NewT.refl _) rfl)
  · exact fun a wx hT hF K hK => rely_if (rely_gf hF.2.1) (NewT.refl _) hK fun hE hK => opr_ldI (hT.row Rg2.out) (by decide) rfl rfl (hF.1 hE) (hK _ _ (NewT.refl _) rfl)
  · exact fun a wx hT hF K hK => rely_if (rely_gf hF.2.1) (NewT.refl _) hK fun hE hK => opr_fldU9 rfl hF.1 (hK _ _ (NewT.refl _) rfl)
  · exact fun a wx hT hF K hK => rely_if (rely_gf hF.2.1) (NewT.refl _) hK fun hE hK => opr_ldI (hT.row Rg1.out) (by decide) rfl rfl (hF.1 hE) (hK _ _ (NewT.refl _) rfl)
  · exact fun a wx hT hF K hK => rely_if (rely_gf hF.2.2.1) (NewT.refl _) hK fun hE hK => opr_cmp (b := x.seq != g.sq) (.inr (.inl ⟨rfl, rfl⟩)) Try.underlying3 rfl (hF.1 hE) (hF.2.1 hE) (hK _ _ (NewT.refl _) rfl)
  · exact fun a wx hT hF K hK => rely_wp rfl (opr_pick_b rfl hF.1 (fun hb => hK _ _ (NewT.refl _) (pn_or1 Q1_1 hb)) (fun hb => hK _ _ (NewT.refl _) (pn_or0 Q1_1 (hF.2.1 (bnot hb)) hb)))
  · exact fun a wx hT hF K hK => rely_wp rfl (opr_move (.inl rfl) (hK _ _ (NewT.refl _) hF.1))
  · exact fun a wx hT hF K hK => rely_if (rely_gf hF.2.1) (NewT.refl _) hK fun hE hK => opr_ldU (hT.row Rg1.out) rfl hF.1 (hK _ _ (NewT.refl _) rfl)
  · exact fun a wx hT hF K hK => rely_if (rely_gf hF.2.1) (NewT.refl _) hK fun hE hK => opr_ldR (hT.row Rg2.out) rfl hF.1 (hK _ _ (NewT.refl _) rfl)
  · exact fun a wx hT hF K hK => rely_if (rely_gf hF.2.1) (NewT.refl _) hK fun hE hK => opr_move (.inl rfl) (hK _ _ (NewT.refl _) hF.1)
  · exact fun a wx hT hF K hK => rely_if (rely_gf hF.2.2.2.1) (NewT.refl _) hK fun hE hK => opr_cv (fits_cv sv l g x _ lim wx ((NewT.trans _ _ _ HM.out hT).pairs HS.out) ((NewT.trans _ _ _ HM.out hT).recV HX.out) HOK.out) rfl Try.func25 (by kernel_rfl) (by kernel_rfl) (evs3 (hF.1 hE) (hF.2.1 hE) (hF.2.2.1 hE)) hK
  · exact fun a wx hT hF K hK => rely_if (rely_gf hF.2.1) (NewT.refl _) hK fun hE hK => opr_not rfl (hF.1 hE) (hK _ _ (NewT.refl _) rfl)
  · exact fun a wx hT hF K hK => rely_wp rfl (opr_pick_b rfl hF.1 (fun hb => hK _ _ (NewT.refl _) (pk_or1 hb)) (fun hb => hK _ _ (NewT.refl _) (pk_or0 (hF.2.1 (bnot hb)) hb)))
  · intro w1 k1
    iterate 4 (intro u h; obtain rfl := Eq.symm (h (by simp)); clear h)
    iterate 5 (intro _ _)
    iterate 2 (intro u h; obtain rfl := Eq.symm (h (by simp)); clear h)
    iterate 5 (intro _ _)
    intro u h; obtain rfl := Eq.symm (h (by simp)); clear h
    subst Q1_1
    refine relyEnd_nil rfl ?_
    refine wpList_end rfl ?_
    simp only [Act.put, List.setIfInBounds_toArray, List.set_cons_zero, List.set_cons_succ]
    go_simp
    replace Rg1 := Lib.hid (k1.row Rg1.out)
    replace Rg2 := Lib.hid (k1.row Rg2.out)
    replace Rg3 := Lib.hid (k1.row Rg3.out)
    replace HM := Lib.hid (NewT.trans _ _ _ HM.out k1)
    clear k1
    cases hb : (((!(inR lim 1 9)) || (x.seq != g.sq)) || (!(fitsB l lim g x)))
    · have HE : Hid (goesB l lim g x = true ∧ wentG l lim g x = behG l lim g x) := Lib.hid (by
        have hI : goesB l lim g x = true := by unfold goesB; rw [hb]; rfl
        exact ⟨hI, by unfold wentG; rw [hI, if_pos rfl]⟩)
      have hf : fitsB l lim g x = true := by
        rw [Bool.or_eq_false_iff] at hb
        simpa using hb.2
      have HST := Lib.hid (fits_pre HOK.out.len.1 hf).1
      have HKD := Lib.hid (fits_pre HOK.out.len.1 hf).2
      have HAT := Lib.hid HOK.out.at_
      have HSQ := Lib.hid HOK.out.sq
      clear hb hf
      go_upto_region 3 with fail
      refine wp_region_steps0 NewT [SV.eq (.agg (rowA 10 (sgF sv g))), SV.eq (.agg (rowA 109 (recF x su dv))), SV.eq (.int .i64 (lim)), SV.eq ((.agg (rowA 10 (sgF sv (behG l lim g x)))))] [([(3, none)], none), ([(4, none)], none), ([(2, none)], none), ([(26, some 0), (27, some 1), (28, some 2)], none)] 30 4 rfl rfl (by kernel_rfl) NewT.trans (NewT.refl _) (Nat.le_of_ble_eq_true rfl) ⟨?_, ?_, ?_, ?_, trivial⟩ ?_
      · exact fun a wx hT hF K hK => rely_wp rfl (opr_ldU (hT.row Rg1.out) rfl hF.1 (hK _ _ (NewT.refl _) rfl))
      · exact fun a wx hT hF K hK => rely_wp rfl (opr_ldR (hT.row Rg2.out) rfl hF.1 (hK _ _ (NewT.refl _) rfl))
      · exact fun a wx hT hF K hK => rely_wp rfl (opr_move (.inl rfl) (hK _ _ (NewT.refl _) hF.1))
      · exact fun a wx hT hF K hK => rely_wp rfl (opr_cv (behind_cv sv l g x _ lim wx ((NewT.trans _ _ _ HM.out hT).pairs HS.out) ((NewT.trans _ _ _ HM.out hT).recV HX.out) HL6.out HST.out HKD.out HAT.out HSQ.out) rfl Try.func26 (by kernel_rfl) (by kernel_rfl) (evs3 hF.1 hF.2.1 hF.2.2.1) hK)
      · intro w2 k2
        iterate 4 (intro u h; obtain rfl := Eq.symm (h (by simp)); clear h)
        refine relyEnd_nil rfl ?_
        simp only [Act.put, List.setIfInBounds_toArray, List.set_cons_zero, List.set_cons_succ]
        refine wpList_plain rfl (fun K hK => ?_)
        refine opr_putm (g := g3) (o0 := 0) (m := 10) (f := sgF sv (behG l lim g x)) (F := sgF sv (behG l lim g x)) rfl rfl rfl (k2.row Rg3.out) (by decide) info_saga (sgF_one _ _ (oneP HS.out)) (put_allN _ _ _) ?_
        intro W2 hR2 rr2
        refine hK _ _ ?_
        clear hK K
        simp only [Act.put, List.setIfInBounds_toArray, List.set_cons_zero, List.set_cons_succ]
        refine wpList_plain rfl (fun K hK => ?_)
        refine opr_move (.inr rfl) (hK _ _ ?_)
        clear hK K
        refine wpList_end rfl ?_
        simp only [Act.put, List.setIfInBounds_toArray, List.set_cons_zero, List.set_cons_succ]
        go_simp
        replace Rg3 := Lib.hid rr2
        replace Rg1 := Lib.hid (hR2.row (by have h_0 := HG.out; omega) (k2.row Rg1.out))
        replace Rg2 := Lib.hid (hR2.row (by have h_0 := HG.out; omega) (k2.row Rg2.out))
        replace HM := Lib.hid (NewT.rt (NewT.trans _ _ _ HM.out k2) hR2 (by have h_0 := HG.out; omega))
        clear k2 hR2 rr2
        go_wp2
        exact bodyPost_ret (results_rt rfl rfl rfl Rg3.out Try.underlying27 rfl info_saga) rfl ⟨_, rfl, HM.out, by show _ = Value.tuple _; rw [HE.out.1, HE.out.2]; first | done | rfl⟩
    · have HE : Hid (goesB l lim g x = false ∧ wentG l lim g x = g) := Lib.hid (by
        have hI : goesB l lim g x = false := by unfold goesB; rw [hb]; rfl
        exact ⟨hI, by unfold wentG; rw [hI, if_neg (by simp)]⟩)
      clear hb
      go_upto_region 2 with fail
      refine wp_region_steps0 NewT [SV.eq (.agg (rowA 10 (sgF sv g)))] [([(3, none)], none)] 30 1 rfl rfl (by kernel_rfl) NewT.trans (NewT.refl _) (Nat.le_of_ble_eq_true rfl) ⟨?_, trivial⟩ ?_
      · exact fun a wx hT hF K hK => rely_wp rfl (opr_ldU (hT.row Rg1.out) rfl hF.1 (hK _ _ (NewT.refl _) rfl))
      · intro w3 k3
        intro u h; obtain rfl := Eq.symm (h (by simp)); clear h
        refine relyEnd_nil rfl ?_
        simp only [Act.put, List.setIfInBounds_toArray, List.set_cons_zero, List.set_cons_succ]
        refine wpList_plain rfl (fun K hK => ?_)
        refine opr_putm (g := g3) (o0 := 0) (m := 10) (f := sgF sv g) (F := sgF sv g) rfl rfl rfl (k3.row Rg3.out) (by decide) info_saga (sgF_one _ _ (oneP HS.out)) (put_allN _ _ _) ?_
        intro W3 hR3 rr3
        refine hK _ _ ?_
        clear hK K
        simp only [Act.put, List.setIfInBounds_toArray, List.set_cons_zero, List.set_cons_succ]
        refine wpList_plain rfl (fun K hK => ?_)
        refine opr_move (.inr rfl) (hK _ _ ?_)
        clear hK K
        refine wpList_end rfl ?_
        simp only [Act.put, List.setIfInBounds_toArray, List.set_cons_zero, List.set_cons_succ]
        go_simp
        replace Rg3 := Lib.hid rr3
        replace Rg1 := Lib.hid (hR3.row (by have h_0 := HG.out; omega) (k3.row Rg1.out))
        replace Rg2 := Lib.hid (hR3.row (by have h_0 := HG.out; omega) (k3.row Rg2.out))
        replace HM := Lib.hid (NewT.rt (NewT.trans _ _ _ HM.out k3) hR3 (by have h_0 := HG.out; omega))
        clear k3 hR3 rr3
        go_wp2
        exact bodyPost_ret (results_rt rfl rfl rfl Rg3.out Try.underlying27 rfl info_saga) rfl ⟨_, rfl, HM.out, by show _ = Value.tuple _; rw [HE.out.1, HE.out.2]; first | done | rfl⟩
end Go.Proofs.Ytfmahpgfeoafiaa
/- Slices compared and cloned. -/
namespace Go.Proofs.Ytfmahpgfeoafiaa
open Go Go.RowKit
set_option maxRecDepth 8000
set_option linter.all false
theorem pairs_ext {l m : List (Int × Int)} {n : Nat} (hl : l.length = n) (hm : m.length = n) (h : ∀ i, i < n → l.getD i (0, 0) = m.getD i (0, 0)) : l = m := by
  apply List.ext_getElem (by omega)
  intro i h1 h2
  have := h i (by omega)
  simpa [List.getD, h1, h2] using this
set_option maxHeartbeats 1000000 in
theorem SlEq_cv (v1 v2 : Value) (l m : List (Int × Int)) (w : World) (h1 : RdP w v1 l) (h2 : RdP w v2 m) : Cv 21 #[v1, v2] w (.eq (.bool (decide (l = m)))) := by
  unfold Cv
  obtain ⟨A1, c1, rfl, p1, p2, p3⟩ := h1
  obtain ⟨A2, c2, rfl, q1, q2, q3⟩ := h2
  unfold maxLen at p2 q2
  by_cases hne : l.length = m.length
  rotate_left
  · have hd : decide (l = m) = false := decide_eq_false fun h => hne (by rw [h])
    have ht : ((l.length : Int) != (m.length : Int)) = true := by simp; omega
    rw [hd]
    clear p3 q3 hd
    generalize l.length = n1 at *
    generalize m.length = n2 at *
    go_enter Try.func21, Try.ntmps21
    go_wp2
    go_ret
    exact ⟨_, rfl, NewT.refl _, rfl⟩
  have P3 := Lib.hid p3
  have Q3 := Lib.hid q3
  clear p3 q3
  generalize hn : l.length = n at *
  rw [← hne] at q1 Q3 ⊢
  have Hn := Lib.hid hn
  have Hm := Lib.hid hne
  clear hn hne
  go_enter Try.func21, Try.ntmps21
  go_wp2
  go_loopw [13] (fun i wr => ∃ k : Nat, k ≤ n ∧ i = .int .i64 k ∧ Hid (∀ i, i < k → l.getD i (0, 0) = m.getD i (0, 0)) ∧ Below w.heap.size w wr) (fun i _ => n - (intOf i).toNat)
  case atStart => exact ⟨0, by omega, rfl, Lib.hid (fun i hi => by omega), Below.refl _ _⟩
  case round =>
    obtain ⟨k, hk, rfl, Hs, qB⟩ := hrel
    by_cases hlt : k < n
    · obtain ⟨b1, o1, rfl, hc1⟩ := P3.out (by omega)
      obtain ⟨b2, o2, rfl, hc2⟩ := Q3.out (by omega)
      obtain ⟨j0, j1⟩ := hc1 k hlt
      obtain ⟨i0, i1⟩ := hc2 k hlt
      have k0 := (qB.cell (p := ⟨b1, o1 + 2 * k, none⟩) (World.block_lt_of_cell? _ _ j0)).trans j0
      have k1 := (qB.cell (p := ⟨b1, o1 + 2 * k + 1, none⟩) (World.block_lt_of_cell? _ _ j1)).trans j1
      have e0 := (qB.cell (p := ⟨b2, o2 + 2 * k, none⟩) (World.block_lt_of_cell? _ _ i0)).trans i0
      have e1 := (qB.cell (p := ⟨b2, o2 + 2 * k + 1, none⟩) (World.block_lt_of_cell? _ _ i1)).trans i1
      have Hno : Hid (l.getD k (0, 0) ≠ m.getD k (0, 0) → l ≠ m) := Lib.hid (fun h e => h (by rw [e]))
      have Hnx : Hid (l.getD k (0, 0) = m.getD k (0, 0) → ∀ i, i < k + 1 → l.getD i (0, 0) = m.getD i (0, 0)) := Lib.hid (fun h i hi => by
        rcases Nat.lt_succ_iff_lt_or_eq.1 hi with h1 | rfl
        · exact Hs.out i h1
        · exact h)
      clear hc1 hc2 j0 j1 i0 i1
      generalize l.getD k (0, 0) = s at k0 k1 Hno Hnx
      generalize m.getD k (0, 0) = t at e0 e1 Hno Hnx
      have it : (k : Int) < (n : Int) := by omega
      by_cases hq : s = t
      · go_upto_region 6 with fail
        generalize wr = W6 at *
        refine wp_region_rely (NewT) [SV.eq (.slice (some ⟨b1, o1, none⟩) n c1), SV.eq (.int .i64 ((k : Int))), SV.eq (.pointer (some ⟨b1, o1 + 2 * k, none⟩)), SV.eq (.agg (rowA 2 (stepF s))), SV.eq (.slice (some ⟨b2, o2, none⟩) n c2), SV.eq (.int .i64 ((k : Int))), SV.eq (.pointer (some ⟨b2, o2 + 2 * k, none⟩)), SV.eq (.agg (rowA 2 (stepF t)))] [([(0, none)], none), ([(5, none)], none), ([(16, some 0), (17, some 1)], none), ([(18, some 2)], none), ([(1, none)], none), ([(5, none)], none), ([(20, some 4), (21, some 5)], none), ([(22, some 6)], none)] 26 rfl (by kernel_rfl) rfl (by kernel_rfl) (by kernel_rfl) rfl NewT.trans (NewT.drew _) (Nat.le_of_ble_eq_true rfl) ⟨?_, ?_, ?_, ?_, ?_, ?_, ?_, ?_, trivial⟩ ?_
        · exact fun a wx hT hF K hK => rely_wp rfl (opr_move (.inl rfl) (hK _ _ (NewT.refl _) hF.1))
        · exact fun a wx hT hF K hK => rely_wp rfl (opr_move (.inl rfl) (hK _ _ (NewT.refl _) hF.1))
        · exact fun a wx hT hF K hK => rely_wp rfl (opr_idxS hlt rfl hF.1 hF.2.1 (hK _ _ (NewT.refl _) rfl))
        · exact fun a wx hT hF K hK => rely_wp rfl (opr_ld2 ((hT.out.cell (World.block_lt_of_cell? _ _ k0)).trans k0) ((hT.out.cell (World.block_lt_of_cell? _ _ k1)).trans k1) rfl hF.1 (hK _ _ (NewT.refl _) rfl))
        · exact fun a wx hT hF K hK => rely_wp rfl (opr_move (.inl rfl) (hK _ _ (NewT.refl _) hF.1))
        · exact fun a wx hT hF K hK => rely_wp rfl (opr_move (.inl rfl) (hK _ _ (NewT.refl _) hF.1))
        · exact fun a wx hT hF K hK => rely_wp rfl (opr_idxS hlt rfl hF.1 hF.2.1 (hK _ _ (NewT.refl _) rfl))
        · exact fun a wx hT hF K hK => rely_wp rfl (opr_ld2 ((hT.out.cell (World.block_lt_of_cell? _ _ e0)).trans e0) ((hT.out.cell (World.block_lt_of_cell? _ _ e1)).trans e1) rfl hF.1 (hK _ _ (NewT.refl _) rfl))
        · intro wy hT2
          iterate 8 (intro u h; obtain rfl := Eq.symm (h (by simp)); clear h)
          refine relyEnd_nil rfl ?_
          simp only [Act.put, List.setIfInBounds_toArray, List.set_cons_zero, List.set_cons_succ]
          refine opr_neqS (b := false) (by simp [hq]) rfl rfl rfl ?_
          go_simp
          go_wp2
          go_roundw
          case rel => exact ⟨k + 1, by omega, by go_num, Lib.hid (Hnx.out hq), qB.trans (hT2.out.mono qB.size)⟩
          case measure => simp [intOf]; omega
      · go_upto_region 6 with fail
        generalize wr = W6 at *
        refine wp_region_rely (NewT) [SV.eq (.slice (some ⟨b1, o1, none⟩) n c1), SV.eq (.int .i64 ((k : Int))), SV.eq (.pointer (some ⟨b1, o1 + 2 * k, none⟩)), SV.eq (.agg (rowA 2 (stepF s))), SV.eq (.slice (some ⟨b2, o2, none⟩) n c2), SV.eq (.int .i64 ((k : Int))), SV.eq (.pointer (some ⟨b2, o2 + 2 * k, none⟩)), SV.eq (.agg (rowA 2 (stepF t)))] [([(0, none)], none), ([(5, none)], none), ([(16, some 0), (17, some 1)], none), ([(18, some 2)], none), ([(1, none)], none), ([(5, none)], none), ([(20, some 4), (21, some 5)], none), ([(22, some 6)], none)] 26 rfl (by kernel_rfl) rfl (by kernel_rfl) (by kernel_rfl) rfl NewT.trans (NewT.drew _) (Nat.le_of_ble_eq_true rfl) ⟨?_, ?_, ?_, ?_, ?_, ?_, ?_, ?_, trivial⟩ ?_
        · exact fun a wx hT hF K hK => rely_wp rfl (opr_move (.inl rfl) (hK _ _ (NewT.refl _) hF.1))
        · exact fun a wx hT hF K hK => rely_wp rfl (opr_move (.inl rfl) (hK _ _ (NewT.refl _) hF.1))
        · exact fun a wx hT hF K hK => rely_wp rfl (opr_idxS hlt rfl hF.1 hF.2.1 (hK _ _ (NewT.refl _) rfl))
        · exact fun a wx hT hF K hK => rely_wp rfl (opr_ld2 ((hT.out.cell (World.block_lt_of_cell? _ _ k0)).trans k0) ((hT.out.cell (World.block_lt_of_cell? _ _ k1)).trans k1) rfl hF.1 (hK _ _ (NewT.refl _) rfl))
        · exact fun a wx hT hF K hK => rely_wp rfl (opr_move (.inl rfl) (hK _ _ (NewT.refl _) hF.1))
        · exact fun a wx hT hF K hK => rely_wp rfl (opr_move (.inl rfl) (hK _ _ (NewT.refl _) hF.1))
        · exact fun a wx hT hF K hK => rely_wp rfl (opr_idxS hlt rfl hF.1 hF.2.1 (hK _ _ (NewT.refl _) rfl))
        · exact fun a wx hT hF K hK => rely_wp rfl (opr_ld2 ((hT.out.cell (World.block_lt_of_cell? _ _ e0)).trans e0) ((hT.out.cell (World.block_lt_of_cell? _ _ e1)).trans e1) rfl hF.1 (hK _ _ (NewT.refl _) rfl))
        · intro wy hT2
          iterate 8 (intro u h; obtain rfl := Eq.symm (h (by simp)); clear h)
          refine relyEnd_nil rfl ?_
          simp only [Act.put, List.setIfInBounds_toArray, List.set_cons_zero, List.set_cons_succ]
          refine opr_neqS (b := true) (by simp [hq]) rfl rfl rfl ?_
          go_simp
          go_wp2
          go_ret
          exact ⟨_, rfl, qB.trans (hT2.out.mono qB.size), by rw [decide_eq_false (Hno.out hq)]; rfl⟩
    · obtain rfl : k = n := by omega
      go_wp2
      go_ret
      exact ⟨_, rfl, qB, by rw [decide_eq_true (pairs_ext Hn.out Hm.out.symm Hs.out)]; rfl⟩
end Go.Proofs.Ytfmahpgfeoafiaa
/- Package saga: whether steps may be, new sagas, whether two are the same. -/
namespace Go.Proofs.Ytfmahpgfeoafiaa
open Go Go.RowKit
set_option maxRecDepth 8000
set_option linter.all false
set_option maxHeartbeats 4000000 in
theorem gMay_cv (v : Value) (l : List (Int × Int)) (w : World) (h : RdP w v l) : Cv 9 #[v] w (.eq (.bool (mayL l))) := by
  unfold Cv
  have HS := Lib.hid h
  obtain ⟨A0, cap, rfl, h1, h2, h3⟩ := h
  unfold maxLen at h2
  clear h3
  obtain ⟨n, hn⟩ : ∃ n, l.length = n := ⟨_, rfl⟩
  rw [hn] at h1 HS ⊢
  have Hn := Lib.hid hn
  clear hn
  cases hin : inR (n : Int) 1 6
  · have HE : Hid (mayL l = false) := Lib.hid (by unfold mayL; rw [Hn.out, hin]; rfl)
    go_enter Try.func9, Try.ntmps9
    go_wp2_with (go_at_call 20; refine (gWithin_cv n 1 6 w).eq.mono ?_; rintro _ w' ⟨rfl, hB⟩; rw [hin])
    go_ret
    exact ⟨_, rfl, hB, by show _ = Value.bool _; rw [HE.out]; first | done | rfl⟩
  have hr := (inR_iff _ _ _).1 hin
  go_enter Try.func9, Try.ntmps9
  go_wp2_with (go_at_call 20; refine (gWithin_cv n 1 6 w).eq.mono ?_; rintro _ w' ⟨rfl, hB⟩; rw [hin])
  go_loopw [3, 12] (fun m i wr => ∃ k : Nat, k ≤ n ∧ m = .int .i64 (leastN l k) ∧ i = .int .i64 k ∧ Hid (upMay l k = true) ∧ Hid (NewT w wr)) (fun _ i _ => n - (intOf i).toNat)
  case atStart => exact ⟨0, by omega, rfl, rfl, Lib.hid rfl, Lib.hid hB⟩
  case round =>
    clear hB
    have HI := Lib.hid hin
    clear hin
    obtain ⟨k, hk, rfl, rfl, HU, HM⟩ := hrel
    by_cases hlt : k < n
    · have HKL : Hid (k < l.length) := Lib.hid (by rw [Hn.out]; exact hlt)
      obtain ⟨d, HDD⟩ := hid_ex (l.getD k (0, 0))
      have it : (k : Int) < (n : Int) := by omega
      go_upto_region 6 with fail
      refine wp_region_steps0 NewT [svStp (d), SV.eq ((.agg (rowA 2 (stepF (d)))))] [([(10, none), (12, none)], none), ([(14, some 0)], none)] 32 2 rfl rfl (by kernel_rfl) NewT.trans (NewT.refl _) (Nat.le_of_ble_eq_true rfl) ⟨?_, ?_, trivial⟩ ?_
      · intro a wx hT hF K hK
        obtain ⟨f10, f12, _⟩ := hF
        have f10 : a.tmps.getD 10 undef = (.slice A0 n cap) := f10
        have f12 : a.tmps.getD 12 undef = .int .i64 ((k : Int)) := f12
        refine rely_wp rfl ?_
        exact opr_idxSt (k := k) (d := d) (⟨HKL.out, HDD.out⟩) (rfl) rfl (by rw [eval_tmp, f10]; exact ((NewT.trans _ _ _ HM.out hT).pairs HS.out)) f12 (fun v hv => hK v _ (NewT.refl _) hv)
      · exact fun a wx hT hF K hK => rely_wp rfl (opr_ldStp rfl hF.1 (hK _ _ (NewT.refl _) rfl))
      · intro w1 k1
        intro _ _
        intro u h; obtain rfl := Eq.symm (h (by simp)); clear h
        refine relyEnd_nil rfl ?_
        simp only [Act.put, List.setIfInBounds_toArray, List.set_cons_zero, List.set_cons_succ]
        refine wpList_new (n := 2) (f := stepF d) rfl rfl rfl rfl rfl rfl (by first | (simp; done) | simp [Act.put]) run_alloc_step info_step (stepF_one d) rfl ?_
        intro W1 hn1 rr1
        refine wpList_end rfl ?_
        simp only [Act.put, List.setIfInBounds_toArray, List.set_cons_zero, List.set_cons_succ]
        go_simp
        obtain ⟨g5, h_g5⟩ : ∃ g_, w1.heap.size = g_ := ⟨_, rfl⟩
        rw [h_g5] at rr1
        simp only [h_g5]
        have HGg5 : Hid (w.heap.size ≤ g5) := Lib.hid (by rw [← h_g5]; exact (NewT.trans _ _ _ HM.out k1).out.size)
        have q1 := NewT.trans _ _ _ k1 hn1
        clear k1 hn1 h_g5
        replace HM := Lib.hid (NewT.trans _ _ _ HM.out q1)
        clear q1
        have Rg5 := Lib.hid rr1
        clear rr1
        go_upto_region 7 with fail
        obtain ⟨q1_7, Q1_7⟩ : ∃ bq_, ((!(inR d.1 0 3)) || (!(inR d.2 (leastN l k) 3))) = bq_ := ⟨_, rfl⟩
        refine wp_region_steps0 NewT [SV.eq (.pointer (some ⟨g5, 0 + 0, none⟩)), SV.eq (.int .i64 (d.1)), SV.eq (.bool (inR d.1 0 3)), SV.eq (.bool (!(inR d.1 0 3))), SV.eq (.bool (!(inR d.1 0 3))), svIf ((!(!(inR d.1 0 3)))) (SV.eq (.pointer (some ⟨g5, 0 + 1, none⟩))), svIf ((!(!(inR d.1 0 3)))) (SV.eq (.int .i64 (d.2))), svIf ((!(!(inR d.1 0 3)))) (SV.eq (.int .i64 (leastN l k))), svIf ((!(!(inR d.1 0 3)))) (SV.eq (.bool (inR d.2 (leastN l k) 3))), svIf ((!(!(inR d.1 0 3)))) (SV.eq (.bool (!(inR d.2 (leastN l k) 3)))), SV.eq (.bool (q1_7))] [([(5, none)], none), ([(16, some 0)], none), ([(17, some 1)], none), ([(18, some 2)], none), ([(19, some 3)], none), ([(5, none), (20, some 4)], some (20, false)), ([(21, some 5), (20, some 4)], some (20, false)), ([(3, none), (20, some 4)], some (20, false)), ([(22, some 6), (23, some 7), (20, some 4)], some (20, false)), ([(24, some 8), (20, some 4)], some (20, false)), ([(20, some 4), (25, some 9)], none)] 32 11 rfl rfl (by kernel_rfl) NewT.trans (NewT.refl _) (Nat.le_of_ble_eq_true rfl) ⟨?_, ?_, ?_, ?_, ?_, ?_, ?_, ?_, ?_, ?_, ?_, trivial⟩ ?_
        · exact fun a wx hT hF K hK => rely_wp rfl (opr_fldS (by decide) rfl hF.1 (hK _ _ (NewT.refl _) rfl))
        · exact fun a wx hT hF K hK => rely_wp rfl (opr_ldI (hT.row Rg5.out) (by decide) rfl rfl hF.1 (hK _ _ (NewT.refl _) rfl))
        · exact fun a wx hT hF K hK => rely_wp rfl (opr_cv (gWithin_cv d.1 0 3 wx) rfl Try.func20 (by kernel_rfl) (by kernel_rfl) (evs3 hF.1 rfl rfl) hK)
        · exact fun a wx hT hF K hK => rely_wp rfl (opr_not rfl hF.1 (hK _ _ (NewT.refl _) rfl))
        · exact fun a wx hT hF K hK => rely_wp rfl (opr_move (.inl rfl) (hK _ _ (NewT.refl _) hF.1))
        · exact fun a wx hT hF K hK => rely_if (rely_gf hF.2.1) (NewT.refl _) hK fun hE hK => opr_fldS (by decide) rfl hF.1 (hK _ _ (NewT.refl _) rfl)
        · exact fun a wx hT hF K hK => rely_if (rely_gf hF.2.1) (NewT.refl _) hK fun hE hK => opr_ldI (hT.row Rg5.out) (by decide) rfl rfl (hF.1 hE) (hK _ _ (NewT.refl _) rfl)
        · exact fun a wx hT hF K hK => rely_if (rely_gf hF.2.1) (NewT.refl _) hK fun hE hK => opr_move (.inl rfl) (hK _ _ (NewT.refl _) hF.1)
        · exact fun a wx hT hF K hK => rely_if (rely_gf hF.2.2.1) (NewT.refl _) hK fun hE hK => opr_cv (gWithin_cv d.2 (leastN l k) 3 wx) rfl Try.func20 (by kernel_rfl) (by kernel_rfl) (evs3 (hF.1 hE) (hF.2.1 hE) rfl) hK
        · exact fun a wx hT hF K hK => rely_if (rely_gf hF.2.1) (NewT.refl _) hK fun hE hK => opr_not rfl (hF.1 hE) (hK _ _ (NewT.refl _) rfl)
        · exact fun a wx hT hF K hK => rely_wp rfl (opr_pick_b rfl hF.1 (fun hb => hK _ _ (NewT.refl _) (pn_or1 Q1_7 hb)) (fun hb => hK _ _ (NewT.refl _) (pn_or0 Q1_7 (hF.2.1 (bnot hb)) hb)))
        · intro w2 k2
          iterate 5 (intro u h; obtain rfl := Eq.symm (h (by simp)); clear h)
          iterate 5 (intro _ _)
          intro u h; obtain rfl := Eq.symm (h (by simp)); clear h
          subst Q1_7
          refine relyEnd_nil rfl ?_
          refine wpList_end rfl ?_
          simp only [Act.put, List.setIfInBounds_toArray, List.set_cons_zero, List.set_cons_succ]
          go_simp
          replace Rg5 := Lib.hid (k2.row Rg5.out)
          replace HM := Lib.hid (NewT.trans _ _ _ HM.out k2)
          clear k2
          have HQ : Hid ((!inR d.1 0 3 || !inR d.2 (leastN l k) 3) = !stepMay l k) := Lib.hid (by have := step_prog HU.out; unfold ptL kdL at this; rw [HDD.out] at this; exact this)
          cases hq : (!inR d.1 0 3 || !inR d.2 (leastN l k) 3)
          · have HOKS : Hid (stepMay l k = true) := Lib.hid (by have := HQ.out; rw [hq] at this; simpa using this.symm)
            clear hq HQ
            go_upto_region 9 with fail
            refine wp_region_steps0 NewT [SV.eq (.pointer (some ⟨g5, 0 + 1, none⟩)), SV.eq (.int .i64 (d.2)), SV.eq (.int .i64 (d.2))] [([(5, none)], none), ([(27, some 0)], none), ([(28, some 1)], none)] 32 3 rfl rfl (by kernel_rfl) NewT.trans (NewT.refl _) (Nat.le_of_ble_eq_true rfl) ⟨?_, ?_, ?_, trivial⟩ ?_
            · exact fun a wx hT hF K hK => rely_wp rfl (opr_fldS (by decide) rfl hF.1 (hK _ _ (NewT.refl _) rfl))
            · exact fun a wx hT hF K hK => rely_wp rfl (opr_ldI (hT.row Rg5.out) (by decide) rfl rfl hF.1 (hK _ _ (NewT.refl _) rfl))
            · exact fun a wx hT hF K hK => rely_wp rfl (opr_move (.inr rfl) (hK _ _ (NewT.refl _) hF.1))
            · intro w3 k3
              iterate 3 (intro u h; obtain rfl := Eq.symm (h (by simp)); clear h)
              refine relyEnd_nil rfl ?_
              refine wpList_end rfl ?_
              simp only [Act.put, List.setIfInBounds_toArray, List.set_cons_zero, List.set_cons_succ]
              go_simp
              replace Rg5 := Lib.hid (k3.row Rg5.out)
              replace HM := Lib.hid (NewT.trans _ _ _ HM.out k3)
              clear k3
              have HLN : Hid (leastN l (k + 1) = if d.2 = 2 then 3 else d.2) := Lib.hid (by rw [least_next]; unfold kdL; rw [HDD.out])
              have HUN : Hid (upMay l (k + 1) = true) := Lib.hid (by rw [upMay_succ, HU.out, HOKS.out]; rfl)
              cases h2 : (d.2 == 2)
              · go_wp2
                go_roundw
                case rel => exact ⟨k + 1, by omega, by rw [HLN.out, if_neg (by simpa using h2)], by go_num, HUN, HM⟩
                case measure => simp [intOf]; omega
              · go_wp2
                go_roundw
                case rel => exact ⟨k + 1, by omega, by rw [HLN.out, if_pos (by simpa using h2)], by go_num, HUN, HM⟩
                case measure => simp [intOf]; omega
          · have HE : Hid (mayL l = false) := Lib.hid (by
              have hs : stepMay l k = false := by have := HQ.out; rw [hq] at this; simpa using this.symm
              unfold mayL; rw [upMay_no HKL.out hs, Bool.and_false])
            clear hq HQ
            go_wp2
            go_ret
            exact ⟨_, rfl, HM.out, by show _ = Value.bool _; rw [HE.out]; first | done | rfl⟩
    · obtain rfl : k = n := by omega
      have HE : Hid (mayL l = true) := Lib.hid (by unfold mayL; rw [Hn.out, HI.out, HU.out]; rfl)
      go_wp2
      go_ret
      exact ⟨_, rfl, HM.out, by show _ = Value.bool _; rw [HE.out]; first | done | rfl⟩
/-- A saga whose steps lie in a block from B on. -/
def SgVN (w : World) (B : Nat) (v : Value) (l : List (Int × Int)) (g : Sg) : Prop := ∃ sv, v = .agg (rowA 10 (sgF sv g)) ∧ RdPB w B sv l
theorem NewT.sgVN {w w' : World} (h : NewT w w') {B : Nat} {v : Value} {l : List (Int × Int)} {g : Sg} (hr : SgVN w B v l g) : SgVN w' B v l g := by
  obtain ⟨sv, h1, h2⟩ := hr
  exact ⟨sv, h1, h2.new h⟩
def svSgN (B : Nat) (l : List (Int × Int)) (g : Sg) : SV NewT := ⟨fun v w => SgVN w B v l g, fun _ _ _ h hT => hT.sgVN h⟩
theorem rdPB_nil (w : World) (B : Nat) : RdPB w B (.slice none 0 0) [] := ⟨rdP_nil w, fun h => absurd h (by simp)⟩
theorem opr_bldU {a : Act} {w : World} {o : Oper} {K : Act → World → Prop} {Q : Exit → Act → World → Prop} {x : Operand} {B : Nat} {l : List (Int × Int)} (ho : o.op = .build 27 #[(0, x), (1, .const (.int .i64 0)), (9, .const (.int .i64 1))]) (hx : RdPB w B (a.eval x) l) (h : ∀ v, SgVN w B v l (ofSt st0 1) → K (a.put o.dst v) w) : o.wp Try.prog a w K Q := by
  obtain ⟨A0, c, hv, _⟩ := hx.1
  exact opr_build (pv := #[(0, .slice A0 l.length c), (1, .int .i64 0), (9, .int .i64 1)]) ho (by simp only [List.map_toArray, List.map_cons, List.map_nil, eval_const, hv]) (build_saga A0 l.length c w) (h _ ⟨_, rfl, by rw [← hv]; exact hx⟩)
theorem opr_bldU2 {a : Act} {w : World} {o : Oper} {K : Act → World → Prop} {Q : Exit → Act → World → Prop} {x : Operand} {B : Nat} {l : List (Int × Int)} (ho : o.op = .build 27 #[(0, x), (9, .const (.int .i64 1))]) (hx : RdPB w B (a.eval x) l) (h : ∀ v, SgVN w B v l (ofSt st0 1) → K (a.put o.dst v) w) : o.wp Try.prog a w K Q := by
  obtain ⟨A0, c, hv, _⟩ := hx.1
  exact opr_build (pv := #[(0, .slice A0 l.length c), (9, .int .i64 1)]) ho (by simp only [List.map_toArray, List.map_cons, List.map_nil, eval_const, hv]) (build_sagaS A0 l.length c w) (h _ ⟨_, rfl, by rw [← hv]; exact hx⟩)
theorem CloneS_cvM (v : Value) (l : List (Int × Int)) (B : Nat) (w : World) (hB : B ≤ w.heap.size) (h : RdP w v l) (hl : l.length ≤ 900000) : Cv 22 #[v] w (svPairsN B l) :=
  (CloneS_cvN v l w h hl).mono fun _ _ ⟨v', h1, h2, h3⟩ => ⟨v', h1, h2, RdPB.mono h3 hB⟩
set_option maxHeartbeats 4000000 in
theorem gNew_cv (v : Value) (l : List (Int × Int)) (w : World) (h : RdP w v l) : Cv 12 #[v] w (svSgN w.heap.size (newL l) (newG l)) := by
  unfold Cv
  have HS := Lib.hid h
  clear h
  go_enter Try.func12, Try.ntmps12
  go_upto_region 1 with fail
  have r_g1 := rowIs_box w 27 10 (sgF (.slice none 0 0) zG)
  have hN : NewT w (w.alloc (.cells (rowA 10 (sgF (.slice none 0 0) zG)) 27)) := NewT.alloc _ _
  change Code.wp _ _ _ _ (w.alloc (.cells (rowA 10 (sgF (.slice none 0 0) zG)) 27))
  generalize (w.alloc (.cells (rowA 10 (sgF (.slice none 0 0) zG)) 27)) = W0 at r_g1 hN ⊢
  obtain ⟨g1, h_g1⟩ : ∃ g_, w.heap.size = g_ := ⟨_, rfl⟩
  have HG : Hid (w.heap.size ≤ g1) := Lib.hid (by omega)
  rw [h_g1] at r_g1
  simp only [h_g1]
  have Rg1 := Lib.hid r_g1
  have HM := Lib.hid hN
  clear r_g1 hN h_g1
  go_upto_region 1 with fail
  refine wp_region_steps0 NewT [SV.eq (v), SV.eq (.bool (mayL l)), SV.eq (.bool (!(mayL l)))] [([(0, none)], none), ([(3, some 0)], none), ([(4, some 1)], none)] 10 3 rfl rfl (by kernel_rfl) NewT.trans (NewT.refl _) (Nat.le_of_ble_eq_true rfl) ⟨?_, ?_, ?_, trivial⟩ ?_
  · exact fun a wx hT hF K hK => rely_wp rfl (opr_move (.inl rfl) (hK _ _ (NewT.refl _) hF.1))
  · exact fun a wx hT hF K hK => rely_wp rfl (opr_cv (gMay_cv _ l wx ((NewT.trans _ _ _ HM.out hT).pairs HS.out)) rfl Try.func9 (by kernel_rfl) (by kernel_rfl) (evs1 hF.1) hK)
  · exact fun a wx hT hF K hK => rely_wp rfl (opr_not rfl hF.1 (hK _ _ (NewT.refl _) rfl))
  · intro w1 k1
    iterate 3 (intro u h; obtain rfl := Eq.symm (h (by simp)); clear h)
    refine relyEnd_nil rfl ?_
    refine wpList_end rfl ?_
    simp only [Act.put, List.setIfInBounds_toArray, List.set_cons_zero, List.set_cons_succ]
    go_simp
    replace Rg1 := Lib.hid (k1.row Rg1.out)
    replace HM := Lib.hid (NewT.trans _ _ _ HM.out k1)
    clear k1
    cases hb : mayL l
    · have HE : Hid (newL l = [] ∧ newG l = zG) := Lib.hid ⟨by unfold newL; rw [hb, if_neg (by simp)], by unfold newG; rw [hb, if_neg (by simp)]⟩
      clear hb
      go_upto_region 2 with fail
      refine wp_region_steps0 NewT [SV.eq ((.agg (rowA 10 (sgF (.slice none 0 0) zG))))] [([], none)] 10 1 rfl rfl (by kernel_rfl) NewT.trans (NewT.refl _) (Nat.le_of_ble_eq_true rfl) ⟨?_, trivial⟩ ?_
      · exact fun a wx hT hF K hK => rely_wp rfl (opr_build (pv := #[]) rfl (by simp) (build_saga0 wx) (hK _ _ (NewT.refl _) rfl))
      · intro w2 k2
        intro u h; obtain rfl := Eq.symm (h (by simp)); clear h
        refine relyEnd_nil rfl ?_
        simp only [Act.put, List.setIfInBounds_toArray, List.set_cons_zero, List.set_cons_succ]
        refine wpList_plain rfl (fun K hK => ?_)
        refine opr_putm (g := g1) (o0 := 0) (m := 10) (f := sgF (.slice none 0 0) zG) (F := sgF (.slice none 0 0) zG) rfl rfl rfl (k2.row Rg1.out) (by decide) info_saga (sgF_one _ _ rfl) (put_allN _ _ _) ?_
        intro W2 hR2 rr2
        refine hK _ _ ?_
        clear hK K
        refine wpList_end rfl ?_
        simp only [Act.put, List.setIfInBounds_toArray, List.set_cons_zero, List.set_cons_succ]
        go_simp
        replace Rg1 := Lib.hid rr2
        replace HM := Lib.hid (NewT.rt (NewT.trans _ _ _ HM.out k2) hR2 (by have h_0 := HG.out; omega))
        clear k2 hR2 rr2
        go_wp2
        exact bodyPost_ret (results_agg rfl _ rfl Rg1.out Try.underlying27 rfl info_saga) rfl ⟨_, rfl, HM.out, by rw [HE.out.1, HE.out.2]; exact ⟨_, rfl, rdPB_nil _ _⟩⟩
    · have HE : Hid (newL l = l ∧ newG l = ofSt st0 1) := Lib.hid ⟨by unfold newL; rw [hb, if_pos rfl], by unfold newG; rw [hb, if_pos rfl]⟩
      have HL9 : Hid (l.length ≤ 900000) := Lib.hid (by have := may_len hb; omega)
      have HGM : Hid (g1 < w1.heap.size) := Lib.hid (Nat.lt_of_lt_of_le Rg1.out.lt (Nat.le_refl _))
      clear hb
      go_upto_region 3 with fail
      refine wp_region_steps0 NewT [SV.eq (v), svPairsN (g1 + 1) l, svSgN (g1 + 1) l (ofSt st0 1)] [([(0, none)], none), ([(7, some 0)], none), ([(8, some 1)], none)] 10 3 rfl rfl (by kernel_rfl) NewT.trans (NewT.refl _) (Nat.le_of_ble_eq_true rfl) ⟨?_, ?_, ?_, trivial⟩ ?_
      · exact fun a wx hT hF K hK => rely_wp rfl (opr_move (.inl rfl) (hK _ _ (NewT.refl _) hF.1))
      · exact fun a wx hT hF K hK => rely_wp rfl (opr_cv (CloneS_cvM _ l (g1 + 1) wx (Nat.le_trans (Nat.succ_le_of_lt HGM.out) hT.out.size) ((NewT.trans _ _ _ HM.out hT).pairs HS.out) HL9.out) rfl Try.func22 (by kernel_rfl) (by kernel_rfl) (evs1 hF.1) hK)
      · exact fun a wx hT hF K hK => rely_wp rfl (opr_bldU rfl hF.1 (fun v hv => hK v _ (NewT.refl _) hv))
      · intro w3 k3
        intro u h; obtain rfl := Eq.symm (h (by simp)); clear h
        intro _ _
        intro u9 h; have g9 := h (by simp); clear h; replace g9 := show (svSgN (g1 + 1) l (ofSt st0 1)).pred u9 w3 from g9
        refine relyEnd_nil rfl ?_
        simp only [Act.put, List.setIfInBounds_toArray, List.set_cons_zero, List.set_cons_succ]
        obtain ⟨sv, rfl, hsv⟩ := (show SgVN w3 (g1 + 1) u9 l (ofSt st0 1) from g9)
        refine wpList_plain rfl (fun K hK => ?_)
        refine opr_putm (g := g1) (o0 := 0) (m := 10) (f := sgF sv (ofSt st0 1)) (F := sgF sv (ofSt st0 1)) rfl rfl rfl (k3.row Rg1.out) (by decide) info_saga (sgF_one _ _ (oneP hsv.1)) (put_allN _ _ _) ?_
        intro W3 hR3 rr3
        refine hK _ _ ?_
        clear hK K
        refine wpList_end rfl ?_
        simp only [Act.put, List.setIfInBounds_toArray, List.set_cons_zero, List.set_cons_succ]
        go_simp
        replace Rg1 := Lib.hid rr3
        replace HM := Lib.hid (NewT.rt (NewT.trans _ _ _ HM.out k3) hR3 (by have h_0 := HG.out; omega))
        have hsf := (hsv.rt hR3 (Nat.lt_succ_self _)).mono (B' := w.heap.size) (by have h_0 := HG.out; omega)
        clear k3 hR3 rr3
        go_wp2
        exact bodyPost_ret (results_agg rfl _ rfl Rg1.out Try.underlying27 rfl info_saga) rfl ⟨_, rfl, HM.out, by rw [HE.out.1, HE.out.2]; exact ⟨_, rfl, hsf⟩⟩
def sameG (l m : List (Int × Int)) (g h : Sg) : Bool := ((((((((decide (l = m) && g.ph == h.ph) && g.at_ == h.at_) && g.tr == h.tr) && g.wt == h.wt) && g.bk == h.bk) && g.dn == h.dn) && g.un == h.un) && g.so == h.so) && g.sq == h.sq
theorem sameG_self (l : List (Int × Int)) (g : Sg) : sameG l l g g = true := by simp [sameG]
set_option maxHeartbeats 4000000 in
theorem sSame_cv (sv tv : Value) (l m : List (Int × Int)) (g h : Sg) (w : World) (hs : RdP w sv l) (hm : RdP w tv m) : Cv 11 #[.agg (rowA 10 (sgF sv g)), .agg (rowA 10 (sgF tv h))] w (.eq (.bool (sameG l m g h))) := by
  unfold Cv
  have HS := Lib.hid hs
  have HSM := Lib.hid hm
  clear hs hm
  go_enter Try.func11, Try.ntmps11
  go_upto_region 1 with fail
  have r_g1 := (rowIs_box w 27 10 (sgF sv g)).alloc (.cells (rowA 10 (sgF tv h)) 27)
  have r_g2 := rowIs_box (w.alloc (.cells (rowA 10 (sgF sv g)) 27)) 27 10 (sgF tv h)
  rw [World.size_alloc] at r_g2
  have hN : NewT w ((w.alloc (.cells (rowA 10 (sgF sv g)) 27)).alloc (.cells (rowA 10 (sgF tv h)) 27)) := (NewT.trans _ _ _ (NewT.alloc _ _) (NewT.alloc _ _))
  change Code.wp _ _ _ _ ((w.alloc (.cells (rowA 10 (sgF sv g)) 27)).alloc (.cells (rowA 10 (sgF tv h)) 27))
  generalize ((w.alloc (.cells (rowA 10 (sgF sv g)) 27)).alloc (.cells (rowA 10 (sgF tv h)) 27)) = W0 at r_g1 r_g2 hN ⊢
  obtain ⟨g1, h_g1⟩ : ∃ g_, w.heap.size = g_ := ⟨_, rfl⟩
  obtain ⟨g2, h_g2⟩ : ∃ g_, w.heap.size + 1 = g_ := ⟨_, rfl⟩
  have HG : Hid (w.heap.size ≤ g1 ∧ g1 < g2) := Lib.hid (by omega)
  rw [h_g1] at r_g1
  rw [h_g2] at r_g2
  try rw [h_g2]
  simp only [h_g1]
  have Rg1 := Lib.hid r_g1
  have Rg2 := Lib.hid r_g2
  have HM := Lib.hid hN
  clear r_g1 r_g2 hN h_g1 h_g2
  go_upto_region 1 with fail
  obtain ⟨q1_1, Q1_1⟩ : ∃ bq_, ((decide (l = m)) && (g.ph == h.ph)) = bq_ := ⟨_, rfl⟩
  obtain ⟨q2_1, Q2_1⟩ : ∃ bq_, ((q1_1 && (g.at_ == h.at_)) && (g.tr == h.tr)) = bq_ := ⟨_, rfl⟩
  obtain ⟨q3_1, Q3_1⟩ : ∃ bq_, ((q2_1 && (g.wt == h.wt)) && (g.bk == h.bk)) = bq_ := ⟨_, rfl⟩
  obtain ⟨q4_1, Q4_1⟩ : ∃ bq_, ((q3_1 && (g.dn == h.dn)) && (g.un == h.un)) = bq_ := ⟨_, rfl⟩
  obtain ⟨q5_1, Q5_1⟩ : ∃ bq_, ((q4_1 && (g.so == h.so)) && (g.sq == h.sq)) = bq_ := ⟨_, rfl⟩
  refine wp_region_steps0 NewT [SV.eq (.pointer (some ⟨g1, 0, none⟩)), SV.eq (sv), SV.eq (.pointer (some ⟨g2, 0, none⟩)), SV.eq (tv), SV.eq (.bool (decide (l = m))), SV.eq (.bool (decide (l = m))), svIf (decide (l = m)) (SV.eq (.pointer (some ⟨g1, 1, none⟩))), svIf (decide (l = m)) (SV.eq (.int .i64 (g.ph))), svIf (decide (l = m)) (SV.eq (.pointer (some ⟨g2, 1, none⟩))), svIf (decide (l = m)) (SV.eq (.int .i64 (h.ph))), svIf (decide (l = m)) (SV.eq (.bool (g.ph == h.ph))), SV.eq (.bool (q1_1)), SV.eq (.bool (q1_1)), svIf q1_1 (SV.eq (.pointer (some ⟨g1, 2, none⟩))), svIf q1_1 (SV.eq (.int .i64 (g.at_))), svIf q1_1 (SV.eq (.pointer (some ⟨g2, 2, none⟩))), svIf q1_1 (SV.eq (.int .i64 (h.at_))), svIf q1_1 (SV.eq (.bool (g.at_ == h.at_))), SV.eq (.bool (q1_1 && (g.at_ == h.at_))), SV.eq (.bool (q1_1 && (g.at_ == h.at_))), svIf (q1_1 && (g.at_ == h.at_)) (SV.eq (.pointer (some ⟨g1, 3, none⟩))), svIf (q1_1 && (g.at_ == h.at_)) (SV.eq (.int .i64 (g.tr))), svIf (q1_1 && (g.at_ == h.at_)) (SV.eq (.pointer (some ⟨g2, 3, none⟩))), svIf (q1_1 && (g.at_ == h.at_)) (SV.eq (.int .i64 (h.tr))), svIf (q1_1 && (g.at_ == h.at_)) (SV.eq (.bool (g.tr == h.tr))), SV.eq (.bool (q2_1)), SV.eq (.bool (q2_1)), svIf q2_1 (SV.eq (.pointer (some ⟨g1, 4, none⟩))), svIf q2_1 (SV.eq (.bool (g.wt))), svIf q2_1 (SV.eq (.pointer (some ⟨g2, 4, none⟩))), svIf q2_1 (SV.eq (.bool (h.wt))), svIf q2_1 (SV.eq (.bool (g.wt == h.wt))), SV.eq (.bool (q2_1 && (g.wt == h.wt))), SV.eq (.bool (q2_1 && (g.wt == h.wt))), svIf (q2_1 && (g.wt == h.wt)) (SV.eq (.pointer (some ⟨g1, 5, none⟩))), svIf (q2_1 && (g.wt == h.wt)) (SV.eq (.bool (g.bk))), svIf (q2_1 && (g.wt == h.wt)) (SV.eq (.pointer (some ⟨g2, 5, none⟩))), svIf (q2_1 && (g.wt == h.wt)) (SV.eq (.bool (h.bk))), svIf (q2_1 && (g.wt == h.wt)) (SV.eq (.bool (g.bk == h.bk))), SV.eq (.bool (q3_1)), SV.eq (.bool (q3_1)), svIf q3_1 (SV.eq (.pointer (some ⟨g1, 6, none⟩))), svIf q3_1 (SV.eq (.int .i64 (g.dn))), svIf q3_1 (SV.eq (.pointer (some ⟨g2, 6, none⟩))), svIf q3_1 (SV.eq (.int .i64 (h.dn))), svIf q3_1 (SV.eq (.bool (g.dn == h.dn))), SV.eq (.bool (q3_1 && (g.dn == h.dn))), SV.eq (.bool (q3_1 && (g.dn == h.dn))), svIf (q3_1 && (g.dn == h.dn)) (SV.eq (.pointer (some ⟨g1, 7, none⟩))), svIf (q3_1 && (g.dn == h.dn)) (SV.eq (.int .i64 (g.un))), svIf (q3_1 && (g.dn == h.dn)) (SV.eq (.pointer (some ⟨g2, 7, none⟩))), svIf (q3_1 && (g.dn == h.dn)) (SV.eq (.int .i64 (h.un))), svIf (q3_1 && (g.dn == h.dn)) (SV.eq (.bool (g.un == h.un))), SV.eq (.bool (q4_1)), SV.eq (.bool (q4_1)), svIf q4_1 (SV.eq (.pointer (some ⟨g1, 8, none⟩))), svIf q4_1 (SV.eq (.int .i64 (g.so))), svIf q4_1 (SV.eq (.pointer (some ⟨g2, 8, none⟩))), svIf q4_1 (SV.eq (.int .i64 (h.so))), svIf q4_1 (SV.eq (.bool (g.so == h.so))), SV.eq (.bool (q4_1 && (g.so == h.so))), SV.eq (.bool (q4_1 && (g.so == h.so))), svIf (q4_1 && (g.so == h.so)) (SV.eq (.pointer (some ⟨g1, 9, none⟩))), svIf (q4_1 && (g.so == h.so)) (SV.eq (.int .i64 (g.sq))), svIf (q4_1 && (g.so == h.so)) (SV.eq (.pointer (some ⟨g2, 9, none⟩))), svIf (q4_1 && (g.so == h.so)) (SV.eq (.int .i64 (h.sq))), svIf (q4_1 && (g.so == h.so)) (SV.eq (.bool (g.sq == h.sq))), SV.eq (.bool (q5_1)), SV.eq (.bool (q5_1))] [([(2, none)], none), ([(5, some 0)], none), ([(3, none)], none), ([(7, some 2)], none), ([(6, some 1), (8, some 3)], none), ([(9, some 4)], none), ([(2, none), (10, some 5)], some (10, true)), ([(11, some 6), (10, some 5)], some (10, true)), ([(3, none), (10, some 5)], some (10, true)), ([(13, some 8), (10, some 5)], some (10, true)), ([(12, some 7), (14, some 9), (10, some 5)], some (10, true)), ([(10, some 5), (15, some 10)], none), ([(16, some 11)], none), ([(2, none), (17, some 12)], some (17, true)), ([(18, some 13), (17, some 12)], some (17, true)), ([(3, none), (17, some 12)], some (17, true)), ([(20, some 15), (17, some 12)], some (17, true)), ([(19, some 14), (21, some 16), (17, some 12)], some (17, true)), ([(17, some 12), (22, some 17)], none), ([(23, some 18)], none), ([(2, none), (24, some 19)], some (24, true)), ([(25, some 20), (24, some 19)], some (24, true)), ([(3, none), (24, some 19)], some (24, true)), ([(27, some 22), (24, some 19)], some (24, true)), ([(26, some 21), (28, some 23), (24, some 19)], some (24, true)), ([(24, some 19), (29, some 24)], none), ([(30, some 25)], none), ([(2, none), (31, some 26)], some (31, true)), ([(32, some 27), (31, some 26)], some (31, true)), ([(3, none), (31, some 26)], some (31, true)), ([(34, some 29), (31, some 26)], some (31, true)), ([(33, some 28), (35, some 30), (31, some 26)], some (31, true)), ([(31, some 26), (36, some 31)], none), ([(37, some 32)], none), ([(2, none), (38, some 33)], some (38, true)), ([(39, some 34), (38, some 33)], some (38, true)), ([(3, none), (38, some 33)], some (38, true)), ([(41, some 36), (38, some 33)], some (38, true)), ([(40, some 35), (42, some 37), (38, some 33)], some (38, true)), ([(38, some 33), (43, some 38)], none), ([(44, some 39)], none), ([(2, none), (45, some 40)], some (45, true)), ([(46, some 41), (45, some 40)], some (45, true)), ([(3, none), (45, some 40)], some (45, true)), ([(48, some 43), (45, some 40)], some (45, true)), ([(47, some 42), (49, some 44), (45, some 40)], some (45, true)), ([(45, some 40), (50, some 45)], none), ([(51, some 46)], none), ([(2, none), (52, some 47)], some (52, true)), ([(53, some 48), (52, some 47)], some (52, true)), ([(3, none), (52, some 47)], some (52, true)), ([(55, some 50), (52, some 47)], some (52, true)), ([(54, some 49), (56, some 51), (52, some 47)], some (52, true)), ([(52, some 47), (57, some 52)], none), ([(58, some 53)], none), ([(2, none), (59, some 54)], some (59, true)), ([(60, some 55), (59, some 54)], some (59, true)), ([(3, none), (59, some 54)], some (59, true)), ([(62, some 57), (59, some 54)], some (59, true)), ([(61, some 56), (63, some 58), (59, some 54)], some (59, true)), ([(59, some 54), (64, some 59)], none), ([(65, some 60)], none), ([(2, none), (66, some 61)], some (66, true)), ([(67, some 62), (66, some 61)], some (66, true)), ([(3, none), (66, some 61)], some (66, true)), ([(69, some 64), (66, some 61)], some (66, true)), ([(68, some 63), (70, some 65), (66, some 61)], some (66, true)), ([(66, some 61), (71, some 66)], none), ([(72, some 67)], none)] 73 69 rfl rfl (by kernel_rfl) NewT.trans (NewT.refl _) (Nat.le_of_ble_eq_true rfl) ⟨?_, ?_, ?_, ?_, ?_, ?_, ?_, ?_, ?_, ?_, ?_, ?_, ?_, ?_, ?_, ?_, ?_, ?_, ?_, ?_, ?_, ?_, ?_, ?_, ?_, ?_, ?_, ?_, ?_, ?_, ?_, ?_, ?_, ?_, ?_, ?_, ?_, ?_, ?_, ?_, ?_, ?_, ?_, ?_, ?_, ?_, ?_, ?_, ?_, ?_, ?_, ?_, ?_, ?_, ?_, ?_, ?_, ?_, ?_, ?_, ?_, ?_, ?_, ?_, ?_, ?_, ?_, ?_, ?_, trivial⟩ ?_
  · exact fun a wx hT hF K hK => rely_wp rfl (opr_fldU0 rfl hF.1 (hK _ _ (NewT.refl _) rfl))
  · exact fun a wx hT hF K hK => rely_wp rfl (opr_ldS (hT.row Rg1.out) (by decide) rfl rfl hF.1 (hK _ _ (NewT.refl _) rfl))
  · exact fun a wx hT hF K hK => rely_wp rfl (opr_fldU0 rfl hF.1 (hK _ _ (NewT.refl _) rfl))
  · exact fun a wx hT hF K hK => rely_wp rfl (opr_ldS (hT.row Rg2.out) (by decide) rfl rfl hF.1 (hK _ _ (NewT.refl _) rfl))
  · exact fun a wx hT hF K hK => rely_wp rfl (opr_cv (SlEq_cv _ _ l m wx ((NewT.trans _ _ _ HM.out hT).pairs HS.out) ((NewT.trans _ _ _ HM.out hT).pairs HSM.out)) rfl Try.func21 (by kernel_rfl) (by kernel_rfl) (evs2 hF.1 hF.2.1) hK)
  · exact fun a wx hT hF K hK => rely_wp rfl (opr_move (.inl rfl) (hK _ _ (NewT.refl _) hF.1))
  · exact fun a wx hT hF K hK => rely_if (rely_gt hF.2.1) (NewT.refl _) hK fun hE hK => opr_fldU1 rfl hF.1 (hK _ _ (NewT.refl _) rfl)
  · exact fun a wx hT hF K hK => rely_if (rely_gt hF.2.1) (NewT.refl _) hK fun hE hK => opr_ldI (hT.row Rg1.out) (by decide) rfl rfl (hF.1 hE) (hK _ _ (NewT.refl _) rfl)
  · exact fun a wx hT hF K hK => rely_if (rely_gt hF.2.1) (NewT.refl _) hK fun hE hK => opr_fldU1 rfl hF.1 (hK _ _ (NewT.refl _) rfl)
  · exact fun a wx hT hF K hK => rely_if (rely_gt hF.2.1) (NewT.refl _) hK fun hE hK => opr_ldI (hT.row Rg2.out) (by decide) rfl rfl (hF.1 hE) (hK _ _ (NewT.refl _) rfl)
  · exact fun a wx hT hF K hK => rely_if (rely_gt hF.2.2.1) (NewT.refl _) hK fun hE hK => opr_cmp (b := g.ph == h.ph) (.inl ⟨rfl, rfl⟩) Try.underlying3 rfl (hF.1 hE) (hF.2.1 hE) (hK _ _ (NewT.refl _) rfl)
  · exact fun a wx hT hF K hK => rely_wp rfl (opr_pick_b rfl hF.1 (fun hb => hK _ _ (NewT.refl _) (pn_and1 Q1_1 (hF.2.1 hb) hb)) (fun hb => hK _ _ (NewT.refl _) (pn_and0 Q1_1 hb)))
  · exact fun a wx hT hF K hK => rely_wp rfl (opr_move (.inl rfl) (hK _ _ (NewT.refl _) hF.1))
  · exact fun a wx hT hF K hK => rely_if (rely_gt hF.2.1) (NewT.refl _) hK fun hE hK => opr_fldU2 rfl hF.1 (hK _ _ (NewT.refl _) rfl)
  · exact fun a wx hT hF K hK => rely_if (rely_gt hF.2.1) (NewT.refl _) hK fun hE hK => opr_ldI (hT.row Rg1.out) (by decide) rfl rfl (hF.1 hE) (hK _ _ (NewT.refl _) rfl)
  · exact fun a wx hT hF K hK => rely_if (rely_gt hF.2.1) (NewT.refl _) hK fun hE hK => opr_fldU2 rfl hF.1 (hK _ _ (NewT.refl _) rfl)
  · exact fun a wx hT hF K hK => rely_if (rely_gt hF.2.1) (NewT.refl _) hK fun hE hK => opr_ldI (hT.row Rg2.out) (by decide) rfl rfl (hF.1 hE) (hK _ _ (NewT.refl _) rfl)
  · exact fun a wx hT hF K hK => rely_if (rely_gt hF.2.2.1) (NewT.refl _) hK fun hE hK => opr_cmp (b := g.at_ == h.at_) (.inl ⟨rfl, rfl⟩) Try.underlying3 rfl (hF.1 hE) (hF.2.1 hE) (hK _ _ (NewT.refl _) rfl)
  · exact fun a wx hT hF K hK => rely_wp rfl (opr_pick_b rfl hF.1 (fun hb => hK _ _ (NewT.refl _) (pk_and1 (hF.2.1 hb) hb)) (fun hb => hK _ _ (NewT.refl _) (pk_and0 hb)))
  · exact fun a wx hT hF K hK => rely_wp rfl (opr_move (.inl rfl) (hK _ _ (NewT.refl _) hF.1))
  · exact fun a wx hT hF K hK => rely_if (rely_gt hF.2.1) (NewT.refl _) hK fun hE hK => opr_fldU3 rfl hF.1 (hK _ _ (NewT.refl _) rfl)
  · exact fun a wx hT hF K hK => rely_if (rely_gt hF.2.1) (NewT.refl _) hK fun hE hK => opr_ldI (hT.row Rg1.out) (by decide) rfl rfl (hF.1 hE) (hK _ _ (NewT.refl _) rfl)
  · exact fun a wx hT hF K hK => rely_if (rely_gt hF.2.1) (NewT.refl _) hK fun hE hK => opr_fldU3 rfl hF.1 (hK _ _ (NewT.refl _) rfl)
  · exact fun a wx hT hF K hK => rely_if (rely_gt hF.2.1) (NewT.refl _) hK fun hE hK => opr_ldI (hT.row Rg2.out) (by decide) rfl rfl (hF.1 hE) (hK _ _ (NewT.refl _) rfl)
  · exact fun a wx hT hF K hK => rely_if (rely_gt hF.2.2.1) (NewT.refl _) hK fun hE hK => opr_cmp (b := g.tr == h.tr) (.inl ⟨rfl, rfl⟩) Try.underlying3 rfl (hF.1 hE) (hF.2.1 hE) (hK _ _ (NewT.refl _) rfl)
  · exact fun a wx hT hF K hK => rely_wp rfl (opr_pick_b rfl hF.1 (fun hb => hK _ _ (NewT.refl _) (pn_and1 Q2_1 (hF.2.1 hb) hb)) (fun hb => hK _ _ (NewT.refl _) (pn_and0 Q2_1 hb)))
  · exact fun a wx hT hF K hK => rely_wp rfl (opr_move (.inl rfl) (hK _ _ (NewT.refl _) hF.1))
  · exact fun a wx hT hF K hK => rely_if (rely_gt hF.2.1) (NewT.refl _) hK fun hE hK => opr_fldU4 rfl hF.1 (hK _ _ (NewT.refl _) rfl)
  · exact fun a wx hT hF K hK => rely_if (rely_gt hF.2.1) (NewT.refl _) hK fun hE hK => opr_ldQ (hT.row Rg1.out) (by decide) rfl rfl (hF.1 hE) (hK _ _ (NewT.refl _) rfl)
  · exact fun a wx hT hF K hK => rely_if (rely_gt hF.2.1) (NewT.refl _) hK fun hE hK => opr_fldU4 rfl hF.1 (hK _ _ (NewT.refl _) rfl)
  · exact fun a wx hT hF K hK => rely_if (rely_gt hF.2.1) (NewT.refl _) hK fun hE hK => opr_ldQ (hT.row Rg2.out) (by decide) rfl rfl (hF.1 hE) (hK _ _ (NewT.refl _) rfl)
  · exact fun a wx hT hF K hK => rely_if (rely_gt hF.2.2.1) (NewT.refl _) hK fun hE hK => opr_eqlQ (b := g.wt == h.wt) (rfl) rfl (hF.1 hE) (hF.2.1 hE) (hK _ _ (NewT.refl _) rfl)
  · exact fun a wx hT hF K hK => rely_wp rfl (opr_pick_b rfl hF.1 (fun hb => hK _ _ (NewT.refl _) (pk_and1 (hF.2.1 hb) hb)) (fun hb => hK _ _ (NewT.refl _) (pk_and0 hb)))
  · exact fun a wx hT hF K hK => rely_wp rfl (opr_move (.inl rfl) (hK _ _ (NewT.refl _) hF.1))
  · exact fun a wx hT hF K hK => rely_if (rely_gt hF.2.1) (NewT.refl _) hK fun hE hK => opr_fldU5 rfl hF.1 (hK _ _ (NewT.refl _) rfl)
  · exact fun a wx hT hF K hK => rely_if (rely_gt hF.2.1) (NewT.refl _) hK fun hE hK => opr_ldQ (hT.row Rg1.out) (by decide) rfl rfl (hF.1 hE) (hK _ _ (NewT.refl _) rfl)
  · exact fun a wx hT hF K hK => rely_if (rely_gt hF.2.1) (NewT.refl _) hK fun hE hK => opr_fldU5 rfl hF.1 (hK _ _ (NewT.refl _) rfl)
  · exact fun a wx hT hF K hK => rely_if (rely_gt hF.2.1) (NewT.refl _) hK fun hE hK => opr_ldQ (hT.row Rg2.out) (by decide) rfl rfl (hF.1 hE) (hK _ _ (NewT.refl _) rfl)
  · exact fun a wx hT hF K hK => rely_if (rely_gt hF.2.2.1) (NewT.refl _) hK fun hE hK => opr_eqlQ (b := g.bk == h.bk) (rfl) rfl (hF.1 hE) (hF.2.1 hE) (hK _ _ (NewT.refl _) rfl)
  · exact fun a wx hT hF K hK => rely_wp rfl (opr_pick_b rfl hF.1 (fun hb => hK _ _ (NewT.refl _) (pn_and1 Q3_1 (hF.2.1 hb) hb)) (fun hb => hK _ _ (NewT.refl _) (pn_and0 Q3_1 hb)))
  · exact fun a wx hT hF K hK => rely_wp rfl (opr_move (.inl rfl) (hK _ _ (NewT.refl _) hF.1))
  · exact fun a wx hT hF K hK => rely_if (rely_gt hF.2.1) (NewT.refl _) hK fun hE hK => opr_fldU6 rfl hF.1 (hK _ _ (NewT.refl _) rfl)
  · exact fun a wx hT hF K hK => rely_if (rely_gt hF.2.1) (NewT.refl _) hK fun hE hK => opr_ldI (hT.row Rg1.out) (by decide) rfl rfl (hF.1 hE) (hK _ _ (NewT.refl _) rfl)
  · exact fun a wx hT hF K hK => rely_if (rely_gt hF.2.1) (NewT.refl _) hK fun hE hK => opr_fldU6 rfl hF.1 (hK _ _ (NewT.refl _) rfl)
  · exact fun a wx hT hF K hK => rely_if (rely_gt hF.2.1) (NewT.refl _) hK fun hE hK => opr_ldI (hT.row Rg2.out) (by decide) rfl rfl (hF.1 hE) (hK _ _ (NewT.refl _) rfl)
  · exact fun a wx hT hF K hK => rely_if (rely_gt hF.2.2.1) (NewT.refl _) hK fun hE hK => opr_cmp (b := g.dn == h.dn) (.inl ⟨rfl, rfl⟩) Try.underlying3 rfl (hF.1 hE) (hF.2.1 hE) (hK _ _ (NewT.refl _) rfl)
  · exact fun a wx hT hF K hK => rely_wp rfl (opr_pick_b rfl hF.1 (fun hb => hK _ _ (NewT.refl _) (pk_and1 (hF.2.1 hb) hb)) (fun hb => hK _ _ (NewT.refl _) (pk_and0 hb)))
  · exact fun a wx hT hF K hK => rely_wp rfl (opr_move (.inl rfl) (hK _ _ (NewT.refl _) hF.1))
  · exact fun a wx hT hF K hK => rely_if (rely_gt hF.2.1) (NewT.refl _) hK fun hE hK => opr_fldU7 rfl hF.1 (hK _ _ (NewT.refl _) rfl)
  · exact fun a wx hT hF K hK => rely_if (rely_gt hF.2.1) (NewT.refl _) hK fun hE hK => opr_ldI (hT.row Rg1.out) (by decide) rfl rfl (hF.1 hE) (hK _ _ (NewT.refl _) rfl)
  · exact fun a wx hT hF K hK => rely_if (rely_gt hF.2.1) (NewT.refl _) hK fun hE hK => opr_fldU7 rfl hF.1 (hK _ _ (NewT.refl _) rfl)
  · exact fun a wx hT hF K hK => rely_if (rely_gt hF.2.1) (NewT.refl _) hK fun hE hK => opr_ldI (hT.row Rg2.out) (by decide) rfl rfl (hF.1 hE) (hK _ _ (NewT.refl _) rfl)
  · exact fun a wx hT hF K hK => rely_if (rely_gt hF.2.2.1) (NewT.refl _) hK fun hE hK => opr_cmp (b := g.un == h.un) (.inl ⟨rfl, rfl⟩) Try.underlying3 rfl (hF.1 hE) (hF.2.1 hE) (hK _ _ (NewT.refl _) rfl)
  · exact fun a wx hT hF K hK => rely_wp rfl (opr_pick_b rfl hF.1 (fun hb => hK _ _ (NewT.refl _) (pn_and1 Q4_1 (hF.2.1 hb) hb)) (fun hb => hK _ _ (NewT.refl _) (pn_and0 Q4_1 hb)))
  · exact fun a wx hT hF K hK => rely_wp rfl (opr_move (.inl rfl) (hK _ _ (NewT.refl _) hF.1))
  · exact fun a wx hT hF K hK => rely_if (rely_gt hF.2.1) (NewT.refl _) hK fun hE hK => opr_fldU8 rfl hF.1 (hK _ _ (NewT.refl _) rfl)
  · exact fun a wx hT hF K hK => rely_if (rely_gt hF.2.1) (NewT.refl _) hK fun hE hK => opr_ldI (hT.row Rg1.out) (by decide) rfl rfl (hF.1 hE) (hK _ _ (NewT.refl _) rfl)
  · exact fun a wx hT hF K hK => rely_if (rely_gt hF.2.1) (NewT.refl _) hK fun hE hK => opr_fldU8 rfl hF.1 (hK _ _ (NewT.refl _) rfl)
  · exact fun a wx hT hF K hK => rely_if (rely_gt hF.2.1) (NewT.refl _) hK fun hE hK => opr_ldI (hT.row Rg2.out) (by decide) rfl rfl (hF.1 hE) (hK _ _ (NewT.refl _) rfl)
  · exact fun a wx hT hF K hK => rely_if (rely_gt hF.2.2.1) (NewT.refl _) hK fun hE hK => opr_cmp (b := g.so == h.so) (.inl ⟨rfl, rfl⟩) Try.underlying3 rfl (hF.1 hE) (hF.2.1 hE) (hK _ _ (NewT.refl _) rfl)
  · exact fun a wx hT hF K hK => rely_wp rfl (opr_pick_b rfl hF.1 (fun hb => hK _ _ (NewT.refl _) (pk_and1 (hF.2.1 hb) hb)) (fun hb => hK _ _ (NewT.refl _) (pk_and0 hb)))
  · exact fun a wx hT hF K hK => rely_wp rfl (opr_move (.inl rfl) (hK _ _ (NewT.refl _) hF.1))
  · exact fun a wx hT hF K hK => rely_if (rely_gt hF.2.1) (NewT.refl _) hK fun hE hK => opr_fldU9 rfl hF.1 (hK _ _ (NewT.refl _) rfl)
  · exact fun a wx hT hF K hK => rely_if (rely_gt hF.2.1) (NewT.refl _) hK fun hE hK => opr_ldI (hT.row Rg1.out) (by decide) rfl rfl (hF.1 hE) (hK _ _ (NewT.refl _) rfl)
  · exact fun a wx hT hF K hK => rely_if (rely_gt hF.2.1) (NewT.refl _) hK fun hE hK => opr_fldU9 rfl hF.1 (hK _ _ (NewT.refl _) rfl)
  · exact fun a wx hT hF K hK => rely_if (rely_gt hF.2.1) (NewT.refl _) hK fun hE hK => opr_ldI (hT.row Rg2.out) (by decide) rfl rfl (hF.1 hE) (hK _ _ (NewT.refl _) rfl)
  · exact fun a wx hT hF K hK => rely_if (rely_gt hF.2.2.1) (NewT.refl _) hK fun hE hK => opr_cmp (b := g.sq == h.sq) (.inl ⟨rfl, rfl⟩) Try.underlying3 rfl (hF.1 hE) (hF.2.1 hE) (hK _ _ (NewT.refl _) rfl)
  · exact fun a wx hT hF K hK => rely_wp rfl (opr_pick_b rfl hF.1 (fun hb => hK _ _ (NewT.refl _) (pn_and1 Q5_1 (hF.2.1 hb) hb)) (fun hb => hK _ _ (NewT.refl _) (pn_and0 Q5_1 hb)))
  · exact fun a wx hT hF K hK => rely_wp rfl (opr_move (.inr rfl) (hK _ _ (NewT.refl _) hF.1))
  · intro w1 k1
    iterate 6 (intro u h; obtain rfl := Eq.symm (h (by simp)); clear h)
    iterate 5 (intro _ _)
    iterate 2 (intro u h; obtain rfl := Eq.symm (h (by simp)); clear h)
    iterate 5 (intro _ _)
    iterate 2 (intro u h; obtain rfl := Eq.symm (h (by simp)); clear h)
    iterate 5 (intro _ _)
    iterate 2 (intro u h; obtain rfl := Eq.symm (h (by simp)); clear h)
    iterate 5 (intro _ _)
    iterate 2 (intro u h; obtain rfl := Eq.symm (h (by simp)); clear h)
    iterate 5 (intro _ _)
    iterate 2 (intro u h; obtain rfl := Eq.symm (h (by simp)); clear h)
    iterate 5 (intro _ _)
    iterate 2 (intro u h; obtain rfl := Eq.symm (h (by simp)); clear h)
    iterate 5 (intro _ _)
    iterate 2 (intro u h; obtain rfl := Eq.symm (h (by simp)); clear h)
    iterate 5 (intro _ _)
    iterate 2 (intro u h; obtain rfl := Eq.symm (h (by simp)); clear h)
    iterate 5 (intro _ _)
    iterate 2 (intro u h; obtain rfl := Eq.symm (h (by simp)); clear h)
    subst Q5_1 Q4_1 Q3_1 Q2_1 Q1_1
    refine relyEnd_nil rfl ?_
    refine wpList_end rfl ?_
    simp only [Act.put, List.setIfInBounds_toArray, List.set_cons_zero, List.set_cons_succ]
    go_simp
    replace Rg1 := Lib.hid (k1.row Rg1.out)
    replace Rg2 := Lib.hid (k1.row Rg2.out)
    replace HM := Lib.hid (NewT.trans _ _ _ HM.out k1)
    clear k1
    go_wp2
    go_ret
    exact ⟨_, rfl, HM.out, rfl⟩
end Go.Proofs.Ytfmahpgfeoafiaa
/- The laws' own way to go a saga, walked: what is due goes, each call is answered as is told, until it is over. -/
namespace Go.Proofs.Ytfmahpgfeoafiaa
open Go Go.RowKit
set_option maxRecDepth 8000
set_option linter.all false
attribute [local go_sem] run_zero_rec
theorem gNew_cvB (v : Value) (l : List (Int × Int)) (B : Nat) (w : World) (hB : B ≤ w.heap.size) (h : RdP w v l) : Cv 12 #[v] w (svSgN B (newL l) (newG l)) :=
  (gNew_cv v l w h).mono fun _ _ ⟨v', h1, h2, sv, h3, h4⟩ => ⟨v', h1, h2, sv, h3, h4.mono hB⟩
theorem seq_cnt {ks : List Int} {lim : Nat} {ans : Nat → Nat} : ∀ n, (seqA ks lim ans n).2 ≤ n
  | 0 => Nat.le_refl _
  | n + 1 => by
    have := seq_cnt (ks := ks) (lim := lim) (ans := ans) n
    show (if (seqA ks lim ans n).1.w = true then (seqA ks lim ans n).2 + 1 else (seqA ks lim ans n).2) ≤ n + 1
    split <;> omega
theorem due_nil (l : List (Int × Int)) (lim : Int) (g : Sg) : (dueX l lim g).steps = [] := by
  unfold dueX clR
  repeat' split
  all_goals rfl
theorem due_nil2 (l : List (Int × Int)) (lim : Int) (g : Sg) : (dueX l lim g).data = [] := by
  unfold dueX clR
  repeat' split
  all_goals rfl
def RunL (l : List (Int × Int)) (lim : Nat) (lb : List UInt8) (sv : Value) (g6 g9 : Nat) (w1 : World) (a i : Value) (wr : World) : Prop := ∃ n : Nat, n ≤ 4 * lim * l.length + 1 ∧ a = .int .i64 (((seqA (kks l) lim (ansN lb) n).2 : Nat) : Int) ∧ i = .int .i64 (n : Int) ∧ Hid (∀ m, m < n → (seqA (kks l) lim (ansN lb) m).1.ph < 2) ∧ Hid (NewT w1 wr) ∧ Hid (wr.rowIs g9 27 10 (sgF sv (ofSt (seqA (kks l) lim (ansN lb) n).1 ((n : Int) + 1)))) ∧ Hid (wr.rowIs g6 27 10 (sgF (.slice none 0 0) zG))
set_option maxHeartbeats 8000000 in
theorem run_cv (v bv : Value) (l : List (Int × Int)) (lb : List UInt8) (lim : Nat) (w : World) (h : RdP w v l) (hb : RdV w [] bv lb) (hm : mayL l = true) (hlim : 1 ≤ lim ∧ lim ≤ 9) : Cv 14 #[v, .int .i64 (lim : Int), bv] w (svRun l lim (ansN lb)) := by
  unfold Cv
  have HS := Lib.hid h
  have Hb := Lib.hid hb
  have Hm := Lib.hid hm
  have Hlim := Lib.hid hlim
  have HL6 := Lib.hid (may_len hm)
  have HNL : Hid (newL l = l) := Lib.hid (by unfold newL; rw [if_pos hm])
  have HNG : Hid (newG l = ofSt st0 1) := Lib.hid (by unfold newG; rw [if_pos hm])
  clear h hb hm hlim
  go_enter Try.func14, Try.ntmps14
  go_upto_region 1 with fail
  have r_g6 := rowIs_box w 27 10 (sgF (.slice none 0 0) zG)
  have hN : NewT w (w.alloc (.cells (rowA 10 (sgF (.slice none 0 0) zG)) 27)) := NewT.alloc _ _
  change Code.wp _ _ _ _ (w.alloc (.cells (rowA 10 (sgF (.slice none 0 0) zG)) 27))
  generalize (w.alloc (.cells (rowA 10 (sgF (.slice none 0 0) zG)) 27)) = W0 at r_g6 hN ⊢
  obtain ⟨g6, h_g6⟩ : ∃ g_, w.heap.size = g_ := ⟨_, rfl⟩
  have HG : Hid (w.heap.size ≤ g6) := Lib.hid (by omega)
  rw [h_g6] at r_g6
  simp only [h_g6]
  have Rg6 := Lib.hid r_g6
  have HM := Lib.hid hN
  clear r_g6 hN h_g6
  go_upto_region 1 with fail
  refine wp_region_steps0 NewT [SV.eq (v), svSgN (g6 + 1) (newL l) (newG l)] [([(0, none)], none), ([(18, some 0)], none)] 81 2 rfl rfl (by kernel_rfl) NewT.trans (NewT.refl _) (Nat.le_of_ble_eq_true rfl) ⟨?_, ?_, trivial⟩ ?_
  · exact fun a wx hT hF K hK => rely_wp rfl (opr_move (.inl rfl) (hK _ _ (NewT.refl _) hF.1))
  · exact fun a wx hT hF K hK => rely_wp rfl (opr_cv (gNew_cvB _ l (g6 + 1) wx (Nat.le_trans (Nat.succ_le_of_lt Rg6.out.lt) hT.out.size) ((NewT.trans _ _ _ HM.out hT).pairs HS.out)) rfl Try.func12 (by kernel_rfl) (by kernel_rfl) (evs1 hF.1) hK)
  · intro w1 k1
    intro u h; obtain rfl := Eq.symm (h (by simp)); clear h
    intro u19 h; have g19 := h (by simp); clear h; replace g19 := show (svSgN (g6 + 1) (newL l) (newG l)).pred u19 w1 from g19
    refine relyEnd_nil rfl ?_
    simp only [Act.put, List.setIfInBounds_toArray, List.set_cons_zero, List.set_cons_succ]
    obtain ⟨sv, rfl, hsv⟩ := (show SgVN w1 (g6 + 1) u19 (newL l) (newG l) from g19)
    rw [HNL.out] at hsv
    refine wpList_new (n := 10) (f := sgF sv (newG l)) rfl rfl rfl rfl rfl rfl (by first | (simp; done) | simp [Act.put]) run_alloc_saga info_saga (sgF_one _ _ (oneP hsv.1)) rfl ?_
    intro W1 hn1 r9
    refine wpList_end rfl ?_
    simp only [Act.put, List.setIfInBounds_toArray, List.set_cons_zero, List.set_cons_succ]
    go_simp
    replace HS := Lib.hid hsv
    have HB : Hid (Below w.heap.size w w1) := Lib.hid (NewT.trans _ _ _ HM.out k1).out
    have HBV := Lib.hid ((NewT.trans _ _ _ HM.out k1).rd Hb.out)
    obtain ⟨g9, h_g9⟩ : ∃ g_, w1.heap.size = g_ := ⟨_, rfl⟩
    rw [h_g9] at r9
    simp only [h_g9]
    have HG9 : Hid (w1.heap.size ≤ g9 ∧ g6 < g9) := Lib.hid (by rw [← h_g9]; exact ⟨Nat.le_refl _, (k1.row Rg6.out).lt⟩)
    replace Rg6 := Lib.hid (hn1.row (k1.row Rg6.out))
    replace HM := Lib.hid hn1
    have Rg9 : Hid (W1.rowIs g9 27 10 (sgF sv (ofSt st0 1))) := Lib.hid (by rw [← HNG.out]; exact r9)
    clear hsv k1 hn1 h_g9 r9
    go_wp2
    go_loopw [10, 11] (fun a i wr => RunL l lim lb sv g6 g9 w1 a i wr) (fun _ i _ => 400 - (intOf i).toNat)
    case atStart => exact ⟨0, by omega, rfl, rfl, Lib.hid (fun m hm => by omega), HM, Rg9, Rg6⟩
    case round =>
      clear HM Rg9 Rg6
      obtain ⟨n, hn, rfl, rfl, HNO, HM, Rg9, Rg6⟩ := hrel
      obtain ⟨s, hs⟩ : ∃ s, (seqA (kks l) lim (ansN lb) n).1 = s := ⟨_, rfl⟩
      obtain ⟨k, hk⟩ : ∃ k, (seqA (kks l) lim (ansN lb) n).2 = k := ⟨_, rfl⟩
      have HI : Hid (Inv (kks l) lim s) := Lib.hid (by rw [← hs]; exact seq_inv (may_kinds Hm.out) n)
      have HSK : Hid (seqA (kks l) lim (ansN lb) n = (s, k)) := Lib.hid (Prod.ext hs hk)
      have hkn : k ≤ n := by rw [← hk]; exact seq_cnt n
      have HKN : Hid (k ≤ 1000) := Lib.hid (by have := Hlim.out; have := HL6.out; have : 4 * lim * l.length ≤ 4 * 9 * 6 := Nat.mul_le_mul (by omega) this.2; omega)
      have hn4 : n < 400 := by have := Hlim.out; have := HL6.out; have : 4 * lim * l.length ≤ 4 * 9 * 6 := Nat.mul_le_mul (by omega) this.2; omega
      have HNX : Hid (seqA (kks l) lim (ansN lb) (n + 1) = (nextA (kks l) lim (ansN lb k) s, if s.w = true then k + 1 else k)) := Lib.hid (seq_next HSK.out)
      rw [hk]
      rw [hs] at Rg9
      obtain ⟨g, hg⟩ : ∃ g, ofSt s ((n : Int) + 1) = g := ⟨_, rfl⟩
      rw [hg] at Rg9
      have HGS := Lib.hid hg
      have HOK : Hid (OkG l g) := Lib.hid (by rw [← hg]; exact ok_st Hm.out HI.out Hlim.out.2 (by omega))
      have HSM := Lib.hid (inv_small Hm.out HI.out)
      have it : (n : Int) < 400 := by omega
      have HN4 := Lib.hid hn4
      have HNB := Lib.hid hn
      clear hs hk hg hkn hn4 hn
      go_upto_region 6 with fail
      refine wp_region_steps0 NewT [SV.eq (.agg (rowA 10 (sgF sv g))), SV.eq (.int .i64 ((lim : Int))), SV.eq ((.tuple #[.agg (rowA 109 (recF (dueX l ((lim : Int)) g) (.slice none 0 0) (.slice none 0 0))), .bool (inG ((lim : Int)) g)])), SV.eq ((.tuple #[.agg (rowA 109 (recF (dueX l ((lim : Int)) g) (.slice none 0 0) (.slice none 0 0))), .bool (inG ((lim : Int)) g)])), SV.eq ((.agg (rowA 109 (recF (dueX l ((lim : Int)) g) (.slice none 0 0) (.slice none 0 0))))), SV.eq (.bool (inG ((lim : Int)) g))] [([(9, none)], none), ([(1, none)], none), ([(25, some 0), (26, some 1)], none), ([(27, some 2)], none), ([(24, some 3)], none), ([(24, some 3)], none)] 81 6 rfl rfl (by kernel_rfl) NewT.trans (NewT.refl _) (Nat.le_of_ble_eq_true rfl) ⟨?_, ?_, ?_, ?_, ?_, ?_, trivial⟩ ?_
      · exact fun a wx hT hF K hK => rely_wp rfl (opr_ldU (hT.row Rg9.out) rfl hF.1 (hK _ _ (NewT.refl _) rfl))
      · exact fun a wx hT hF K hK => rely_wp rfl (opr_move (.inl rfl) (hK _ _ (NewT.refl _) hF.1))
      · exact fun a wx hT hF K hK => rely_wp rfl (opr_cv (Due_cv sv l g ((lim : Int)) wx ((NewT.trans _ _ _ HM.out hT).pairs HS.out.1) HOK.out) rfl Try.func18 (by kernel_rfl) (by kernel_rfl) (evs2 hF.1 hF.2.1) hK)
      · exact fun a wx hT hF K hK => rely_wp rfl (opr_move (.inl rfl) (hK _ _ (NewT.refl _) hF.1))
      · exact fun a wx hT hF K hK => rely_wp rfl (opr_ext rfl hF.1 rfl (hK _ _ (NewT.refl _) rfl))
      · exact fun a wx hT hF K hK => rely_wp rfl (opr_ext rfl hF.1 rfl (hK _ _ (NewT.refl _) rfl))
      · intro w2 k2
        iterate 6 (intro u h; obtain rfl := Eq.symm (h (by simp)); clear h)
        refine relyEnd_nil rfl ?_
        simp only [Act.put, List.setIfInBounds_toArray, List.set_cons_zero, List.set_cons_succ]
        refine wpList_new (n := 109) (f := recF (dueX l (lim : Int) g) (.slice none 0 0) (.slice none 0 0)) rfl rfl rfl rfl rfl rfl (by first | (simp; done) | simp [Act.put]) run_alloc_rec info_rec (recF_one _ _ _ rfl rfl) rfl ?_
        intro W2 hn2 rr2
        simp only [Act.put, List.setIfInBounds_toArray, List.set_cons_zero, List.set_cons_succ]
        refine wpList_plain rfl (fun K hK => ?_)
        refine opr_move (.inr rfl) (hK _ _ ?_)
        clear hK K
        refine wpList_end rfl ?_
        simp only [Act.put, List.setIfInBounds_toArray, List.set_cons_zero, List.set_cons_succ]
        go_simp
        obtain ⟨g12, h_g12⟩ : ∃ g_, w2.heap.size = g_ := ⟨_, rfl⟩
        rw [h_g12] at rr2
        simp only [h_g12]
        have HGg12 : Hid (g9 < g12 ∧ g6 < g12 ∧ w1.heap.size ≤ g12) := Lib.hid (by rw [← h_g12]; exact ⟨(k2.row Rg9.out).lt, (k2.row Rg6.out).lt, (NewT.trans _ _ _ HM.out k2).out.size⟩)
        have q2 := NewT.trans _ _ _ k2 hn2
        clear k2 hn2 h_g12
        replace Rg9 := Lib.hid (q2.row Rg9.out)
        replace Rg6 := Lib.hid (q2.row Rg6.out)
        replace HM := Lib.hid (NewT.trans _ _ _ HM.out q2)
        clear q2
        have Rg12 := Lib.hid rr2
        clear rr2
        go_upto_region 7 with fail
        refine wp_region_steps0 NewT [SV.eq (.bool (inG (lim : Int) g)), SV.eq (.bool (!(inG (lim : Int) g)))] [([(13, none)], none), ([(30, some 0)], none)] 81 2 rfl rfl (by kernel_rfl) NewT.trans (NewT.refl _) (Nat.le_of_ble_eq_true rfl) ⟨?_, ?_, trivial⟩ ?_
        · exact fun a wx hT hF K hK => rely_wp rfl (opr_move (.inl rfl) (hK _ _ (NewT.refl _) hF.1))
        · exact fun a wx hT hF K hK => rely_wp rfl (opr_not rfl hF.1 (hK _ _ (NewT.refl _) rfl))
        · intro w3 k3
          iterate 2 (intro u h; obtain rfl := Eq.symm (h (by simp)); clear h)
          refine relyEnd_nil rfl ?_
          refine wpList_end rfl ?_
          simp only [Act.put, List.setIfInBounds_toArray, List.set_cons_zero, List.set_cons_succ]
          go_simp
          replace Rg9 := Lib.hid (k3.row Rg9.out)
          replace Rg6 := Lib.hid (k3.row Rg6.out)
          replace Rg12 := Lib.hid (k3.row Rg12.out)
          replace HM := Lib.hid (NewT.trans _ _ _ HM.out k3)
          clear k3
          have HIN : Hid (inG (lim : Int) g = (!s.w && decide (s.ph < 2))) := Lib.hid (by rw [← HGS.out]; exact in_st Hlim.out.1 Hlim.out.2 HSM.out.2.2.2.2.1)
          have HOV : Hid (overB g.ph = decide (2 ≤ s.ph)) := Lib.hid (by rw [← HGS.out]; exact over_st HSM.out.2.2.2.2.1)
          obtain ⟨bi, hbi⟩ : ∃ b, inG (lim : Int) g = b := ⟨_, rfl⟩
          rw [hbi]
          have HIB : Hid (bi = (!s.w && decide (s.ph < 2))) := Lib.hid (by rw [← hbi, HIN.out])
          clear hbi HIN
          by_cases ho : 2 ≤ s.ph
          · obtain rfl : bi = false := by rw [HIB.out, decide_eq_false (by omega), Bool.and_false]
            have HPH := Lib.hid ho
            clear ho
            go_upto_region 8 with fail
            refine wp_region_steps0 NewT [SV.eq (.agg (rowA 10 (sgF sv g))), SV.eq (.bool (overB g.ph))] [([(9, none)], none), ([(32, some 0)], none)] 81 2 rfl rfl (by kernel_rfl) NewT.trans (NewT.refl _) (Nat.le_of_ble_eq_true rfl) ⟨?_, ?_, trivial⟩ ?_
            · exact fun a wx hT hF K hK => rely_wp rfl (opr_ldU (hT.row Rg9.out) rfl hF.1 (hK _ _ (NewT.refl _) rfl))
            · exact fun a wx hT hF K hK => rely_wp rfl (opr_cv (Over_cv sv g wx) rfl Try.func19 (by kernel_rfl) (by kernel_rfl) (evs1 hF.1) hK)
            · intro w4 k4
              iterate 2 (intro u h; obtain rfl := Eq.symm (h (by simp)); clear h)
              refine relyEnd_nil rfl ?_
              refine wpList_end rfl ?_
              simp only [Act.put, List.setIfInBounds_toArray, List.set_cons_zero, List.set_cons_succ]
              go_simp
              replace Rg9 := Lib.hid (k4.row Rg9.out)
              replace Rg6 := Lib.hid (k4.row Rg6.out)
              replace Rg12 := Lib.hid (k4.row Rg12.out)
              replace HM := Lib.hid (NewT.trans _ _ _ HM.out k4)
              clear k4
              have t2 : overB g.ph = true := by rw [HOV.out]; exact decide_eq_true HPH.out
              rw [t2]
              clear t2
              go_upto_region 9 with fail
              refine wp_region_steps0 NewT [SV.eq (.agg (rowA 10 (sgF sv g))), SV.eq (.int .i64 ((n : Int)))] [([(9, none)], none), ([(11, none)], none)] 81 2 rfl rfl (by kernel_rfl) NewT.trans (NewT.refl _) (Nat.le_of_ble_eq_true rfl) ⟨?_, ?_, trivial⟩ ?_
              · exact fun a wx hT hF K hK => rely_wp rfl (opr_ldU (hT.row Rg9.out) rfl hF.1 (hK _ _ (NewT.refl _) rfl))
              · exact fun a wx hT hF K hK => rely_wp rfl (opr_move (.inl rfl) (hK _ _ (NewT.refl _) hF.1))
              · intro w5 k5
                iterate 2 (intro u h; obtain rfl := Eq.symm (h (by simp)); clear h)
                refine relyEnd_nil rfl ?_
                simp only [Act.put, List.setIfInBounds_toArray, List.set_cons_zero, List.set_cons_succ]
                refine wpList_plain rfl (fun K hK => ?_)
                refine opr_putm (g := g6) (o0 := 0) (m := 10) (f := sgF sv g) (F := sgF sv g) rfl rfl rfl (k5.row Rg6.out) (by decide) info_saga (sgF_one _ _ (oneP HS.out.1)) (put_allN _ _ _) ?_
                intro W5 hR rr
                refine hK _ _ ?_
                clear hK K
                simp only [Act.put, List.setIfInBounds_toArray, List.set_cons_zero, List.set_cons_succ]
                refine wpList_plain rfl (fun K hK => ?_)
                refine opr_move (.inr rfl) (hK _ _ ?_)
                clear hK K
                simp only [Act.put, List.setIfInBounds_toArray, List.set_cons_zero, List.set_cons_succ]
                refine wpList_plain rfl (fun K hK => ?_)
                refine opr_move (.inr rfl) (hK _ _ ?_)
                clear hK K
                refine wpList_end rfl ?_
                simp only [Act.put, List.setIfInBounds_toArray, List.set_cons_zero, List.set_cons_succ]
                go_simp
                have hNW := NewT.trans _ _ _ HM.out k5
                go_wp2
                refine bodyPost_ret (results_ctt rfl rfl rfl rfl rr Try.underlying27 rfl info_saga) rfl ⟨_, rfl, ?_, ?_⟩
                · exact NewT.of ((HB.out.trans (hNW.out.mono HB.out.size)).trans (hR.below.mono (by have := HG.out; omega)))
                · refine ⟨n, sv, HNB.out, ?_, HNO.out, ?_, ((HS.out.new hNW).rt hR (Nat.lt_succ_self _)).1⟩
                  · rw [HSK.out]; exact HPH.out
                  · rw [HSK.out, HGS.out]; first | done | rfl
          have HPH : Hid (s.ph < 2) := Lib.hid (by omega)
          clear ho
          go_upto_if 31 with fail
          go_cut [10, 14, 15] from 32 to 79 (fun v10 _ _ wc => v10 = .int .i64 ((if s.w = true then k + 1 else k : Nat) : Int) ∧ ∃ x : Rc, Hid (x.steps = [] ∧ x.data = []) ∧ Hid (goesB l (lim : Int) g { x with seq := g.sq } = true ∧ wentG l (lim : Int) g { x with seq := g.sq } = ofSt (nextA (kks l) lim (ansN lb k) s) (g.sq + 1)) ∧ Hid (wc.rowIs g12 41 109 (recF x (.slice none 0 0) (.slice none 0 0))) ∧ Hid (NewT w1 wc) ∧ Hid (wc.rowIs g9 27 10 (sgF sv g)) ∧ Hid (wc.rowIs g6 27 10 (sgF (.slice none 0 0) zG)))
          case first =>
            cases hw : s.w
            · obtain rfl : bi = true := by rw [HIB.out, hw, decide_eq_true HPH.out]; rfl
              have HW := Lib.hid hw
              clear hw
              go_wp2
              go_meet
              case rel =>
                refine ⟨by rw [HW.out]; rfl, _, Lib.hid ⟨due_nil l lim g, due_nil2 l lim g⟩, Lib.hid ?_, Rg12, HM, Rg9, Rg6⟩
                have hn := go_due Hm.out HI.out Hlim.out.1 Hlim.out.2 (q := g.sq) HW.out HPH.out rfl
                have e : ofSt s g.sq = g := by rw [← HGS.out]; rfl
                rw [e] at hn
                rw [hn.1, hn.2]
                refine ⟨rfl, ?_⟩
                unfold nextA
                rw [HW.out]; rfl
            · obtain rfl : bi = false := by rw [HIB.out, hw]; rfl
              have HW := Lib.hid hw
              clear hw
              go_upto_region 8 with fail
              refine wp_region_steps0 NewT [SV.eq (.agg (rowA 10 (sgF sv g))), SV.eq (.bool (overB g.ph))] [([(9, none)], none), ([(32, some 0)], none)] 81 2 rfl rfl (by kernel_rfl) NewT.trans (NewT.refl _) (Nat.le_of_ble_eq_true rfl) ⟨?_, ?_, trivial⟩ ?_
              · exact fun a wx hT hF K hK => rely_wp rfl (opr_ldU (hT.row Rg9.out) rfl hF.1 (hK _ _ (NewT.refl _) rfl))
              · exact fun a wx hT hF K hK => rely_wp rfl (opr_cv (Over_cv sv g wx) rfl Try.func19 (by kernel_rfl) (by kernel_rfl) (evs1 hF.1) hK)
              · intro w6 k6
                iterate 2 (intro u h; obtain rfl := Eq.symm (h (by simp)); clear h)
                refine relyEnd_nil rfl ?_
                refine wpList_end rfl ?_
                simp only [Act.put, List.setIfInBounds_toArray, List.set_cons_zero, List.set_cons_succ]
                go_simp
                replace Rg9 := Lib.hid (k6.row Rg9.out)
                replace Rg6 := Lib.hid (k6.row Rg6.out)
                replace Rg12 := Lib.hid (k6.row Rg12.out)
                replace HM := Lib.hid (NewT.trans _ _ _ HM.out k6)
                clear k6
                have t2 : overB g.ph = false := by rw [HOV.out]; exact decide_eq_false (by have := HPH.out; omega)
                rw [t2]
                clear t2
                go_upto_region 11 with fail
                refine wp_region_steps0 NewT [SV.eq (.int .i64 ((k : Int))), SV.eq (bv), SV.eq (.int .i64 ((List.length (lb) : Int))), SV.eq (.bool (decide (((k : Int)) < ((List.length (lb) : Int)))))] [([(10, none)], none), ([(2, none)], none), ([(37, some 1)], none), ([(36, some 0), (38, some 2)], none)] 81 4 rfl rfl (by kernel_rfl) NewT.trans (NewT.refl _) (Nat.le_of_ble_eq_true rfl) ⟨?_, ?_, ?_, ?_, trivial⟩ ?_
                · exact fun a wx hT hF K hK => rely_wp rfl (opr_move (.inl rfl) (hK _ _ (NewT.refl _) hF.1))
                · exact fun a wx hT hF K hK => rely_wp rfl (opr_move (.inl rfl) (hK _ _ (NewT.refl _) hF.1))
                · intro a wx hT hF K hK
                  obtain ⟨f37, _⟩ := hF
                  have f37 : a.tmps.getD 37 undef = bv := f37
                  refine rely_wp rfl ?_
                  exact opr_len_rd rfl (by rw [eval_tmp, f37]; exact ((NewT.trans _ _ _ HM.out hT).rd HBV.out)) (hK _ _ (NewT.refl _) rfl)
                · exact fun a wx hT hF K hK => rely_wp rfl (opr_cmp (b := decide (((k : Int)) < ((List.length (lb) : Int)))) (.inr (.inr (.inr (.inl ⟨rfl, rfl⟩)))) Try.underlying3 rfl hF.1 hF.2.1 (hK _ _ (NewT.refl _) rfl))
                · intro w7 k7
                  iterate 4 (intro u h; obtain rfl := Eq.symm (h (by simp)); clear h)
                  refine relyEnd_nil rfl ?_
                  refine wpList_end rfl ?_
                  simp only [Act.put, List.setIfInBounds_toArray, List.set_cons_zero, List.set_cons_succ]
                  go_simp
                  replace Rg9 := Lib.hid (k7.row Rg9.out)
                  replace Rg6 := Lib.hid (k7.row Rg6.out)
                  replace Rg12 := Lib.hid (k7.row Rg12.out)
                  replace HM := Lib.hid (NewT.trans _ _ _ HM.out k7)
                  clear k7
                  obtain ⟨bq, hbq⟩ : ∃ b, decide (k < lb.length) = b := ⟨_, rfl⟩
                  rw [hbq]
                  have HBQ := Lib.hid hbq
                  clear hbq
                  go_upto_if 39 with fail
                  obtain ⟨an, HAN⟩ := hid_ex (ansN lb k)
                  have HA3 : Hid (an < 3) := Lib.hid (by rw [← HAN.out]; exact ansN_lt _ _)
                  go_cut [14] from 40 to 79 (fun v wc => v = .int .u8 (an : Int) ∧ NewT w7 wc)
                  case first =>
                    by_cases hkl : k < lb.length
                    · obtain rfl : bq = true := by rw [← HBQ.out]; exact decide_eq_true hkl
                      have HKL := Lib.hid hkl
                      have HAE : Hid (bN (bAt lb k) % 3 = (an : Int)) := Lib.hid (by rw [← HAN.out]; unfold ansN; rw [if_pos hkl]; unfold bN; omega)
                      clear hkl
                      go_upto_region 12 with fail
                      refine wp_region_steps0 NewT [SV.eq (bv), SV.eq (.int .i64 ((k : Int))), svIb (bN (bAt lb k)), SV.eq ((.int .u8 (bN (bAt lb k)))), SV.eq ((.int .u8 (an : Int))), SV.eq ((.int .u8 (an : Int)))] [([(2, none)], none), ([(10, none)], none), ([(40, some 0), (41, some 1)], none), ([(42, some 2)], none), ([(43, some 3)], none), ([(44, some 4)], none)] 81 6 rfl rfl (by kernel_rfl) NewT.trans (NewT.refl _) (Nat.le_of_ble_eq_true rfl) ⟨?_, ?_, ?_, ?_, ?_, ?_, trivial⟩ ?_
                      · exact fun a wx hT hF K hK => rely_wp rfl (opr_move (.inl rfl) (hK _ _ (NewT.refl _) hF.1))
                      · exact fun a wx hT hF K hK => rely_wp rfl (opr_move (.inl rfl) (hK _ _ (NewT.refl _) hF.1))
                      · intro a wx hT hF K hK
                        obtain ⟨f40, f41, _⟩ := hF
                        have f40 : a.tmps.getD 40 undef = bv := f40
                        have f41 : a.tmps.getD 41 undef = .int .i64 ((k : Int)) := f41
                        refine rely_wp rfl ?_
                        exact opr_idxBy HKL.out rfl (by rw [eval_tmp, f40]; exact (NewT.trans _ _ _ HM.out hT).rd HBV.out) f41 (fun v hv => hK v _ (NewT.refl _) hv)
                      · exact fun a wx hT hF K hK => rely_wp rfl (opr_ldIb rfl hF.1 (hK _ _ (NewT.refl _) rfl))
                      · exact fun a wx hT hF K hK => rely_wp rfl (opr_rem3 (by have := bN_lt (bAt lb k); omega) HAE.out rfl hF.1 (hK _ _ (NewT.refl _) rfl))
                      · exact fun a wx hT hF K hK => rely_wp rfl (opr_move (.inr rfl) (hK _ _ (NewT.refl _) hF.1))
                      · intro w8 k8
                        iterate 2 (intro u h; obtain rfl := Eq.symm (h (by simp)); clear h)
                        intro _ _
                        iterate 3 (intro u h; obtain rfl := Eq.symm (h (by simp)); clear h)
                        refine relyEnd_nil rfl ?_
                        refine wpList_end rfl ?_
                        simp only [Act.put, List.setIfInBounds_toArray, List.set_cons_zero, List.set_cons_succ]
                        go_simp
                        go_wp2
                        go_meet
                        case rel => exact ⟨rfl, k8⟩
                    · obtain rfl : bq = false := by rw [← HBQ.out]; exact decide_eq_false hkl
                      have HAE : Hid (an = 0) := Lib.hid (by rw [← HAN.out]; unfold ansN; rw [if_neg hkl])
                      clear hkl
                      go_wp2
                      go_meet
                      case rel => exact ⟨by rw [HAE.out]; rfl, NewT.refl _⟩
                  case rest =>
                    obtain ⟨rfl, hcw⟩ := hcut
                    replace Rg9 := Lib.hid (hcw.row Rg9.out)
                    replace Rg6 := Lib.hid (hcw.row Rg6.out)
                    replace Rg12 := Lib.hid (hcw.row Rg12.out)
                    replace HM := Lib.hid (NewT.trans _ _ _ HM.out hcw)
                    clear hcw
                    go_upto_region 13 with fail
                    refine wp_region_steps0 NewT [SV.eq (.int .i64 ((k : Int))), SV.eq (.int .i64 (((k + 1 : Nat) : Int))), SV.eq (.int .i64 (((k + 1 : Nat) : Int)))] [([(10, none)], none), ([(45, some 0)], none), ([(46, some 1)], none)] 81 3 rfl rfl (by kernel_rfl) NewT.trans (NewT.refl _) (Nat.le_of_ble_eq_true rfl) ⟨?_, ?_, ?_, trivial⟩ ?_
                    · exact fun a wx hT hF K hK => rely_wp rfl (opr_move (.inl rfl) (hK _ _ (NewT.refl _) hF.1))
                    · exact fun a wx hT hF K hK => rely_wp rfl (opr_add (r := ((k + 1 : Nat) : Int)) Try.underlying3 (by have := HKN.out; unfold wrap64; omega) rfl hF.1 rfl (hK _ _ (NewT.refl _) rfl))
                    · exact fun a wx hT hF K hK => rely_wp rfl (opr_move (.inr rfl) (hK _ _ (NewT.refl _) hF.1))
                    · intro w9 k9
                      iterate 3 (intro u h; obtain rfl := Eq.symm (h (by simp)); clear h)
                      refine relyEnd_nil rfl ?_
                      refine wpList_end rfl ?_
                      simp only [Act.put, List.setIfInBounds_toArray, List.set_cons_zero, List.set_cons_succ]
                      go_simp
                      replace Rg9 := Lib.hid (k9.row Rg9.out)
                      replace Rg6 := Lib.hid (k9.row Rg6.out)
                      replace Rg12 := Lib.hid (k9.row Rg12.out)
                      replace HM := Lib.hid (NewT.trans _ _ _ HM.out k9)
                      clear k9
                      go_upto_region 14 with fail
                      refine wp_region_steps0 NewT [SV.eq (.pointer (some ⟨g9, 2, none⟩)), SV.eq (.int .i64 (g.at_)), SV.eq (.int .i64 (g.at_))] [([(9, none)], none), ([(47, some 0)], none), ([(48, some 1)], none)] 81 3 rfl rfl (by kernel_rfl) NewT.trans (NewT.refl _) (Nat.le_of_ble_eq_true rfl) ⟨?_, ?_, ?_, trivial⟩ ?_
                      · exact fun a wx hT hF K hK => rely_wp rfl (opr_fldU2 rfl hF.1 (hK _ _ (NewT.refl _) rfl))
                      · exact fun a wx hT hF K hK => rely_wp rfl (opr_ldI (hT.row Rg9.out) (by decide) rfl rfl hF.1 (hK _ _ (NewT.refl _) rfl))
                      · exact fun a wx hT hF K hK => rely_wp rfl (opr_move (.inr rfl) (hK _ _ (NewT.refl _) hF.1))
                      · intro w10 k10
                        iterate 3 (intro u h; obtain rfl := Eq.symm (h (by simp)); clear h)
                        refine relyEnd_nil rfl ?_
                        refine wpList_end rfl ?_
                        simp only [Act.put, List.setIfInBounds_toArray, List.set_cons_zero, List.set_cons_succ]
                        go_simp
                        replace Rg9 := Lib.hid (k10.row Rg9.out)
                        replace Rg6 := Lib.hid (k10.row Rg6.out)
                        replace Rg12 := Lib.hid (k10.row Rg12.out)
                        replace HM := Lib.hid (NewT.trans _ _ _ HM.out k10)
                        clear k10
                        go_upto_region 15 with fail
                        refine wp_region_steps0 NewT [SV.eq (.pointer (some ⟨g9, 5, none⟩)), SV.eq (.bool (g.bk))] [([(9, none)], none), ([(49, some 0)], none)] 81 2 rfl rfl (by kernel_rfl) NewT.trans (NewT.refl _) (Nat.le_of_ble_eq_true rfl) ⟨?_, ?_, trivial⟩ ?_
                        · exact fun a wx hT hF K hK => rely_wp rfl (opr_fldU5 rfl hF.1 (hK _ _ (NewT.refl _) rfl))
                        · exact fun a wx hT hF K hK => rely_wp rfl (opr_ldQ (hT.row Rg9.out) (by decide) rfl rfl hF.1 (hK _ _ (NewT.refl _) rfl))
                        · intro w11 k11
                          iterate 2 (intro u h; obtain rfl := Eq.symm (h (by simp)); clear h)
                          refine relyEnd_nil rfl ?_
                          refine wpList_end rfl ?_
                          simp only [Act.put, List.setIfInBounds_toArray, List.set_cons_zero, List.set_cons_succ]
                          go_simp
                          replace Rg9 := Lib.hid (k11.row Rg9.out)
                          replace Rg6 := Lib.hid (k11.row Rg6.out)
                          replace Rg12 := Lib.hid (k11.row Rg12.out)
                          replace HM := Lib.hid (NewT.trans _ _ _ HM.out k11)
                          clear k11
                          obtain ⟨bb, hbb⟩ : ∃ b, g.bk = b := ⟨_, rfl⟩
                          rw [hbb]
                          have HBB := Lib.hid hbb
                          clear hbb
                          go_upto_if 50 with fail
                          go_cut [15] from 51 to 79 (fun v wc => v = .int .i64 (tgA s) ∧ NewT w11 wc)
                          case first =>
                            by_cases h1 : s.ph = 1
                            · obtain rfl : bb = true := by rw [← HBB.out, ← HGS.out]; show (s.w && s.ph == 1) = true; rw [HW.out, h1]; rfl
                              have HR0 : Hid (rtgI l g = tgA s) := Lib.hid (by
                                rw [← HGS.out]
                                refine rtg_bw Hm.out HI.out h1 ?_
                                obtain ⟨_, hF | hB⟩ := HI.out
                                · have := (hF.w HW.out).1; omega
                                · exact (hB.w HW.out).2.1)
                              have HSB := Lib.hid (small_st Hm.out HI.out (q := (n : Int) + 1))
                              rw [HGS.out] at HSB
                              clear h1
                              go_upto_region 16 with fail
                              refine wp_region_steps0 NewT [SV.eq (.agg (rowA 10 (sgF sv g))), SV.eq (.int .i64 (tgA s)), SV.eq (.int .i64 (tgA s))] [([(9, none)], none), ([(51, some 0)], none), ([(52, some 1)], none)] 81 3 rfl rfl (by kernel_rfl) NewT.trans (NewT.refl _) (Nat.le_of_ble_eq_true rfl) ⟨?_, ?_, ?_, trivial⟩ ?_
                              · exact fun a wx hT hF K hK => rely_wp rfl (opr_ldU (hT.row Rg9.out) rfl hF.1 (hK _ _ (NewT.refl _) rfl))
                              · exact fun a wx hT hF K hK => rely_wp rfl (opr_cv (HR0.out ▸ rTarget_cv sv l g wx ((NewT.trans _ _ _ HM.out hT).pairs HS.out.1) HL6.out.2 HSB.out) rfl Try.func23 (by kernel_rfl) (by kernel_rfl) (evs1 hF.1) hK)
                              · exact fun a wx hT hF K hK => rely_wp rfl (opr_move (.inr rfl) (hK _ _ (NewT.refl _) hF.1))
                              · intro w12 k12
                                iterate 3 (intro u h; obtain rfl := Eq.symm (h (by simp)); clear h)
                                refine relyEnd_nil rfl ?_
                                refine wpList_end rfl ?_
                                simp only [Act.put, List.setIfInBounds_toArray, List.set_cons_zero, List.set_cons_succ]
                                go_simp
                                go_wp2
                                go_meet
                                case rel => exact ⟨rfl, k12⟩
                            · obtain rfl : bb = false := by rw [← HBB.out, ← HGS.out]; show (s.w && s.ph == 1) = false; rw [beq_eq_false_iff_ne.2 h1, Bool.and_false]
                              have HAT : Hid (g.at_ = tgA s) := Lib.hid (by rw [← HGS.out]; unfold tgA; rw [if_neg h1]; rfl)
                              clear h1
                              go_wp2
                              go_meet
                              case rel => exact ⟨by rw [HAT.out], NewT.refl _⟩
                          case rest =>
                            obtain ⟨rfl, hcw⟩ := hcut
                            replace Rg9 := Lib.hid (hcw.row Rg9.out)
                            replace Rg6 := Lib.hid (hcw.row Rg6.out)
                            replace Rg12 := Lib.hid (hcw.row Rg12.out)
                            replace HM := Lib.hid (NewT.trans _ _ _ HM.out hcw)
                            clear hcw
                            go_upto_region 17 with fail
                            refine wp_region_steps0 NewT [SV.eq (.int .i64 (tgA s)), SV.eq (.pointer (some ⟨g9, 3, none⟩)), SV.eq (.int .i64 (g.tr)), SV.eq (.pointer (some ⟨g9, 5, none⟩)), SV.eq (.bool (g.bk)), SV.eq ((.int .u8 (an : Int))), SV.eq (.bool ((an : Int) == 0)), SV.eq ((.agg (rowA 109 (recF { zR with kind := 3, step := tgA s, tr := g.tr, back := g.bk, good := (an : Int) == 0 } (.slice none 0 0) (.slice none 0 0)))))] [([(15, none)], none), ([(9, none)], none), ([(54, some 1)], none), ([(9, none)], none), ([(56, some 3)], none), ([(14, none)], none), ([(58, some 5)], none), ([(53, some 0), (55, some 2), (57, some 4), (59, some 6)], none)] 81 8 rfl rfl (by kernel_rfl) NewT.trans (NewT.refl _) (Nat.le_of_ble_eq_true rfl) ⟨?_, ?_, ?_, ?_, ?_, ?_, ?_, ?_, trivial⟩ ?_
                            · exact fun a wx hT hF K hK => rely_wp rfl (opr_move (.inl rfl) (hK _ _ (NewT.refl _) hF.1))
                            · exact fun a wx hT hF K hK => rely_wp rfl (opr_fldU3 rfl hF.1 (hK _ _ (NewT.refl _) rfl))
                            · exact fun a wx hT hF K hK => rely_wp rfl (opr_ldI (hT.row Rg9.out) (by decide) rfl rfl hF.1 (hK _ _ (NewT.refl _) rfl))
                            · exact fun a wx hT hF K hK => rely_wp rfl (opr_fldU5 rfl hF.1 (hK _ _ (NewT.refl _) rfl))
                            · exact fun a wx hT hF K hK => rely_wp rfl (opr_ldQ (hT.row Rg9.out) (by decide) rfl rfl hF.1 (hK _ _ (NewT.refl _) rfl))
                            · exact fun a wx hT hF K hK => rely_wp rfl (opr_move (.inl rfl) (hK _ _ (NewT.refl _) hF.1))
                            · exact fun a wx hT hF K hK => rely_wp rfl (opr_eqlB (b := (an : Int) == 0) rfl rfl hF.1 rfl (hK _ _ (NewT.refl _) rfl))
                            · intro a wx hT hF K hK
                              obtain ⟨f53, f55, f57, f59, _⟩ := hF
                              have f53 : a.tmps.getD 53 undef = .int .i64 (tgA s) := f53
                              have f55 : a.tmps.getD 55 undef = .int .i64 (g.tr) := f55
                              have f57 : a.tmps.getD 57 undef = .bool (g.bk) := f57
                              have f59 : a.tmps.getD 59 undef = .bool ((an : Int) == 0) := f59
                              refine rely_wp rfl ?_
                              exact opr_build (pv := #[(0, .int .i64 3), (3, .int .i64 (tgA s)), (4, .int .i64 g.tr), (5, .bool g.bk), (6, .bool ((an : Int) == 0))]) rfl (by simp only [List.map_toArray, List.map_cons, List.map_nil, eval_tmp, eval_const, f53, f55, f57, f59]) (build_receipt (tgA s) g.tr g.bk ((an : Int) == 0) wx) (hK _ _ (NewT.refl _) rfl)
                            · intro w13 k13
                              iterate 8 (intro u h; obtain rfl := Eq.symm (h (by simp)); clear h)
                              refine relyEnd_nil rfl ?_
                              simp only [Act.put, List.setIfInBounds_toArray, List.set_cons_zero, List.set_cons_succ]
                              refine wpList_plain rfl (fun K hK => ?_)
                              refine opr_putm (g := g12) (o0 := 0) (m := 109) (f := recF { zR with kind := 3, step := tgA s, tr := g.tr, back := g.bk, good := (an : Int) == 0 } (.slice none 0 0) (.slice none 0 0)) (F := recF { zR with kind := 3, step := tgA s, tr := g.tr, back := g.bk, good := (an : Int) == 0 } (.slice none 0 0) (.slice none 0 0)) rfl rfl rfl (k13.row Rg12.out) (by decide) info_rec (recF_one _ _ _ rfl rfl) (put_allN _ _ _) ?_
                              intro W13 hR13 rr13
                              refine hK _ _ ?_
                              clear hK K
                              refine wpList_end rfl ?_
                              simp only [Act.put, List.setIfInBounds_toArray, List.set_cons_zero, List.set_cons_succ]
                              go_simp
                              replace Rg12 := Lib.hid rr13
                              replace Rg9 := Lib.hid (hR13.row (by have h_0 := HG.out; have h_1 := HG9.out; have h_2 := HGg12.out; omega) (k13.row Rg9.out))
                              replace Rg6 := Lib.hid (hR13.row (by have h_0 := HG.out; have h_1 := HG9.out; have h_2 := HGg12.out; omega) (k13.row Rg6.out))
                              replace HM := Lib.hid (NewT.rt (NewT.trans _ _ _ HM.out k13) hR13 (by have h_0 := HG.out; have h_1 := HG9.out; have h_2 := HGg12.out; omega))
                              clear k13 hR13 rr13
                              obtain ⟨x0, hx0⟩ := hid_ex ({ zR with kind := 3, step := tgA s, tr := g.tr, back := g.bk, good := (an : Int) == 0 } : Rc)
                              replace Rg12 : Hid (W13.rowIs g12 41 109 (recF x0 (.slice none 0 0) (.slice none 0 0))) := Lib.hid (by rw [← hx0.out]; exact Rg12.out)
                              go_upto_region 18 with fail
                              refine wp_region_steps0 NewT [SV.eq ((.int .u8 (an : Int))), SV.eq (.bool ((an : Int) == 2))] [([(14, none)], none), ([(61, some 0)], none)] 81 2 rfl rfl (by kernel_rfl) NewT.trans (NewT.refl _) (Nat.le_of_ble_eq_true rfl) ⟨?_, ?_, trivial⟩ ?_
                              · exact fun a wx hT hF K hK => rely_wp rfl (opr_move (.inl rfl) (hK _ _ (NewT.refl _) hF.1))
                              · exact fun a wx hT hF K hK => rely_wp rfl (opr_eqlB (b := (an : Int) == 2) rfl rfl hF.1 rfl (hK _ _ (NewT.refl _) rfl))
                              · intro w14 k14
                                iterate 2 (intro u h; obtain rfl := Eq.symm (h (by simp)); clear h)
                                refine relyEnd_nil rfl ?_
                                refine wpList_end rfl ?_
                                simp only [Act.put, List.setIfInBounds_toArray, List.set_cons_zero, List.set_cons_succ]
                                go_simp
                                replace Rg9 := Lib.hid (k14.row Rg9.out)
                                replace Rg6 := Lib.hid (k14.row Rg6.out)
                                replace Rg12 := Lib.hid (k14.row Rg12.out)
                                replace HM := Lib.hid (NewT.trans _ _ _ HM.out k14)
                                clear k14
                                cases ha2 : ((an : Int) == 2)
                                · have HA2 : Hid (an ≠ 2) := Lib.hid (fun e => by rw [e] at ha2; cases ha2)
                                  clear ha2
                                  go_wp2
                                  go_meet
                                  case rel =>
                                    refine ⟨by rw [HW.out]; rfl, _, Lib.hid (by rw [← hx0.out]; exact ⟨rfl, rfl⟩), Lib.hid ?_, Rg12, HM, Rg9, Rg6⟩
                                    have hn := go_ans Hm.out HI.out Hlim.out.1 Hlim.out.2 (q := g.sq) HW.out (x := { x0 with seq := g.sq }) (a := an) HA3.out (by rw [if_neg HA2.out, ← hx0.out]) (by rw [← hx0.out]; show ((an : Int) == 0) = (an == 0); rw [Bool.eq_iff_iff]; simp only [beq_iff_eq]; omega) (by rw [← hx0.out]) (by rw [← hx0.out, ← HGS.out]; rfl) (by rw [← hx0.out, ← HGS.out]; show (s.w && s.ph == 1) = _; rw [HW.out]; rfl) rfl
                                    have e : ofSt s g.sq = g := by rw [← HGS.out]; rfl
                                    rw [e] at hn
                                    rw [hn.1, hn.2]
                                    refine ⟨rfl, ?_⟩
                                    unfold nextA
                                    rw [HW.out, HAN.out]; rfl
                                · have HA2 : Hid (an = 2) := Lib.hid (by have := eq_of_beq ha2; omega)
                                  clear ha2
                                  go_upto_region 19 with fail
                                  refine wp_region_steps0 NewT [SV.eq (.pointer (some ⟨g12, 0, none⟩))] [([(12, none)], none)] 81 1 rfl rfl (by kernel_rfl) NewT.trans (NewT.refl _) (Nat.le_of_ble_eq_true rfl) ⟨?_, trivial⟩ ?_
                                  · exact fun a wx hT hF K hK => rely_wp rfl (opr_fldR (by decide) rfl hF.1 (hK _ _ (NewT.refl _) rfl))
                                  · intro w15 k15
                                    intro u h; obtain rfl := Eq.symm (h (by simp)); clear h
                                    refine relyEnd_nil rfl ?_
                                    simp only [Act.put, List.setIfInBounds_toArray, List.set_cons_zero, List.set_cons_succ]
                                    refine wpList_plain rfl (fun K hK => ?_)
                                    refine opr_put1 (g := g12) (o0 := 0) (v := .int .i64 4) (F := recF { x0 with kind := 4 } (.slice none 0 0) (.slice none 0 0)) rfl rfl rfl (k15.row Rg12.out) (by decide) info_i1 rfl (fun i _ => rs_kind x0 (.slice none 0 0) (.slice none 0 0) i 4) ?_
                                    intro W15 hR15 rr15
                                    refine hK _ _ ?_
                                    clear hK K
                                    refine wpList_end rfl ?_
                                    simp only [Act.put, List.setIfInBounds_toArray, List.set_cons_zero, List.set_cons_succ]
                                    go_simp
                                    replace Rg12 := Lib.hid rr15
                                    replace Rg9 := Lib.hid (hR15.row (by have h_0 := HG.out; have h_1 := HG9.out; have h_2 := HGg12.out; omega) (k15.row Rg9.out))
                                    replace Rg6 := Lib.hid (hR15.row (by have h_0 := HG.out; have h_1 := HG9.out; have h_2 := HGg12.out; omega) (k15.row Rg6.out))
                                    replace HM := Lib.hid (NewT.rt (NewT.trans _ _ _ HM.out k15) hR15 (by have h_0 := HG.out; have h_1 := HG9.out; have h_2 := HGg12.out; omega))
                                    clear k15 hR15 rr15
                                    go_upto_region 20 with fail
                                    refine wp_region_steps0 NewT [SV.eq (.pointer (some ⟨g12, 6, none⟩))] [([(12, none)], none)] 81 1 rfl rfl (by kernel_rfl) NewT.trans (NewT.refl _) (Nat.le_of_ble_eq_true rfl) ⟨?_, trivial⟩ ?_
                                    · exact fun a wx hT hF K hK => rely_wp rfl (opr_fldR (by decide) rfl hF.1 (hK _ _ (NewT.refl _) rfl))
                                    · intro w16 k16
                                      intro u h; obtain rfl := Eq.symm (h (by simp)); clear h
                                      refine relyEnd_nil rfl ?_
                                      simp only [Act.put, List.setIfInBounds_toArray, List.set_cons_zero, List.set_cons_succ]
                                      refine wpList_plain rfl (fun K hK => ?_)
                                      refine opr_put1 (g := g12) (o0 := 6) (v := .bool false) (F := recF { x0 with kind := 4, good := false } (.slice none 0 0) (.slice none 0 0)) rfl rfl rfl (k16.row Rg12.out) (by decide) info_b1 rfl (fun i _ => rs_good { x0 with kind := 4 } (.slice none 0 0) (.slice none 0 0) i false) ?_
                                      intro W16 hR16 rr16
                                      refine hK _ _ ?_
                                      clear hK K
                                      refine wpList_end rfl ?_
                                      simp only [Act.put, List.setIfInBounds_toArray, List.set_cons_zero, List.set_cons_succ]
                                      go_simp
                                      replace Rg12 := Lib.hid rr16
                                      replace Rg9 := Lib.hid (hR16.row (by have h_0 := HG.out; have h_1 := HG9.out; have h_2 := HGg12.out; omega) (k16.row Rg9.out))
                                      replace Rg6 := Lib.hid (hR16.row (by have h_0 := HG.out; have h_1 := HG9.out; have h_2 := HGg12.out; omega) (k16.row Rg6.out))
                                      replace HM := Lib.hid (NewT.rt (NewT.trans _ _ _ HM.out k16) hR16 (by have h_0 := HG.out; have h_1 := HG9.out; have h_2 := HGg12.out; omega))
                                      clear k16 hR16 rr16
                                      go_wp2
                                      go_meet
                                      case rel =>
                                        refine ⟨by rw [HW.out]; rfl, _, Lib.hid (by rw [← hx0.out]; exact ⟨rfl, rfl⟩), Lib.hid ?_, Rg12, HM, Rg9, Rg6⟩
                                        have hn := go_ans Hm.out HI.out Hlim.out.1 Hlim.out.2 (q := g.sq) HW.out (x := { x0 with kind := 4, good := false, seq := g.sq }) (a := an) HA3.out (by rw [if_pos HA2.out]) (by rw [HA2.out]; rfl) (by rw [← hx0.out]) (by rw [← hx0.out, ← HGS.out]; rfl) (by rw [← hx0.out, ← HGS.out]; show (s.w && s.ph == 1) = _; rw [HW.out]; rfl) rfl
                                        have e : ofSt s g.sq = g := by rw [← HGS.out]; rfl
                                        rw [e] at hn
                                        rw [hn.1, hn.2]
                                        refine ⟨rfl, ?_⟩
                                        unfold nextA
                                        rw [HW.out, HAN.out]; rfl
          case rest =>
            clear HM Rg9 Rg6 Rg12
            obtain ⟨rfl, x, HX0, HGO, Rg12, HM, Rg9, Rg6⟩ := hcut
            go_upto_region 21 with fail
            refine wp_region_steps0 NewT [SV.eq (.pointer (some ⟨g9, 9, none⟩)), SV.eq (.int .i64 (g.sq)), SV.eq (.pointer (some ⟨g12, 2, none⟩))] [([(9, none)], none), ([(65, some 0)], none), ([(12, none)], none)] 81 3 rfl rfl (by kernel_rfl) NewT.trans (NewT.refl _) (Nat.le_of_ble_eq_true rfl) ⟨?_, ?_, ?_, trivial⟩ ?_
            · exact fun a wx hT hF K hK => rely_wp rfl (opr_fldU9 rfl hF.1 (hK _ _ (NewT.refl _) rfl))
            · exact fun a wx hT hF K hK => rely_wp rfl (opr_ldI (hT.row Rg9.out) (by decide) rfl rfl hF.1 (hK _ _ (NewT.refl _) rfl))
            · exact fun a wx hT hF K hK => rely_wp rfl (opr_fldR (by decide) rfl hF.1 (hK _ _ (NewT.refl _) rfl))
            · intro w17 k17
              iterate 3 (intro u h; obtain rfl := Eq.symm (h (by simp)); clear h)
              refine relyEnd_nil rfl ?_
              simp only [Act.put, List.setIfInBounds_toArray, List.set_cons_zero, List.set_cons_succ]
              refine wpList_plain rfl (fun K hK => ?_)
              refine opr_put1 (g := g12) (o0 := 2) (v := .int .i64 g.sq) (F := recF { x with seq := g.sq } (.slice none 0 0) (.slice none 0 0)) rfl rfl rfl (k17.row Rg12.out) (by decide) info_i1 rfl (fun i _ => rs_seq x (.slice none 0 0) (.slice none 0 0) i _) ?_
              intro W17 hR17 rr17
              refine hK _ _ ?_
              clear hK K
              refine wpList_end rfl ?_
              simp only [Act.put, List.setIfInBounds_toArray, List.set_cons_zero, List.set_cons_succ]
              go_simp
              replace Rg12 := Lib.hid rr17
              replace Rg9 := Lib.hid (hR17.row (by have h_0 := HG.out; have h_1 := HG9.out; have h_2 := HGg12.out; omega) (k17.row Rg9.out))
              replace Rg6 := Lib.hid (hR17.row (by have h_0 := HG.out; have h_1 := HG9.out; have h_2 := HGg12.out; omega) (k17.row Rg6.out))
              replace HM := Lib.hid (NewT.rt (NewT.trans _ _ _ HM.out k17) hR17 (by have h_0 := HG.out; have h_1 := HG9.out; have h_2 := HGg12.out; omega))
              clear k17 hR17 rr17
              obtain ⟨y, hy⟩ := hid_ex ({ x with seq := g.sq } : Rc)
              replace Rg12 : Hid (W17.rowIs g12 41 109 (recF y (.slice none 0 0) (.slice none 0 0))) := Lib.hid (by rw [← hy.out]; exact Rg12.out)
              have HY0 : Hid (y.steps = [] ∧ y.data = []) := Lib.hid (by rw [← hy.out]; exact HX0.out)
              rw [hy.out] at HGO
              clear hy
              go_upto_region 22 with fail
              refine wp_region_steps0 NewT [SV.eq (.agg (rowA 10 (sgF sv g))), SV.eq (.agg (rowA 109 (recF y (.slice none 0 0) (.slice none 0 0)))), SV.eq (.int .i64 ((lim : Int))), SV.eq ((.tuple #[.agg (rowA 10 (sgF sv (wentG l ((lim : Int)) g y))), .bool (goesB l ((lim : Int)) g y)])), SV.eq ((.tuple #[.agg (rowA 10 (sgF sv (wentG l ((lim : Int)) g y))), .bool (goesB l ((lim : Int)) g y)])), SV.eq ((.agg (rowA 10 (sgF sv (wentG l ((lim : Int)) g y))))), SV.eq (.bool (goesB l ((lim : Int)) g y))] [([(9, none)], none), ([(12, none)], none), ([(1, none)], none), ([(69, some 0), (70, some 1), (71, some 2)], none), ([(72, some 3)], none), ([(68, some 4)], none), ([(68, some 4)], none)] 81 7 rfl rfl (by kernel_rfl) NewT.trans (NewT.refl _) (Nat.le_of_ble_eq_true rfl) ⟨?_, ?_, ?_, ?_, ?_, ?_, ?_, trivial⟩ ?_
              · exact fun a wx hT hF K hK => rely_wp rfl (opr_ldU (hT.row Rg9.out) rfl hF.1 (hK _ _ (NewT.refl _) rfl))
              · exact fun a wx hT hF K hK => rely_wp rfl (opr_ldR (hT.row Rg12.out) rfl hF.1 (hK _ _ (NewT.refl _) rfl))
              · exact fun a wx hT hF K hK => rely_wp rfl (opr_move (.inl rfl) (hK _ _ (NewT.refl _) hF.1))
              · exact fun a wx hT hF K hK => rely_wp rfl (opr_cv (Go_cv sv l g y _ ((lim : Int)) wx ((NewT.trans _ _ _ HM.out hT).pairs HS.out.1) (recV_nilS wx y HY0.out.1 HY0.out.2) HOK.out) rfl Try.func17 (by kernel_rfl) (by kernel_rfl) (evs3 hF.1 hF.2.1 hF.2.2.1) hK)
              · exact fun a wx hT hF K hK => rely_wp rfl (opr_move (.inl rfl) (hK _ _ (NewT.refl _) hF.1))
              · exact fun a wx hT hF K hK => rely_wp rfl (opr_ext rfl hF.1 rfl (hK _ _ (NewT.refl _) rfl))
              · exact fun a wx hT hF K hK => rely_wp rfl (opr_ext rfl hF.1 rfl (hK _ _ (NewT.refl _) rfl))
              · intro w18 k18
                iterate 7 (intro u h; obtain rfl := Eq.symm (h (by simp)); clear h)
                refine relyEnd_nil rfl ?_
                simp only [Act.put, List.setIfInBounds_toArray, List.set_cons_zero, List.set_cons_succ]
                refine wpList_new (n := 10) (f := sgF sv ((wentG l (lim : Int) g y))) rfl rfl rfl rfl rfl rfl (by first | (simp; done) | simp [Act.put]) run_alloc_saga info_saga (sgF_one _ _ (oneP HS.out.1)) rfl ?_
                intro W18 hn18 rr18
                simp only [Act.put, List.setIfInBounds_toArray, List.set_cons_zero, List.set_cons_succ]
                refine wpList_plain rfl (fun K hK => ?_)
                refine opr_move (.inr rfl) (hK _ _ ?_)
                clear hK K
                refine wpList_end rfl ?_
                simp only [Act.put, List.setIfInBounds_toArray, List.set_cons_zero, List.set_cons_succ]
                go_simp
                obtain ⟨g16, h_g16⟩ : ∃ g_, w18.heap.size = g_ := ⟨_, rfl⟩
                rw [h_g16] at rr18
                simp only [h_g16]
                have HGg16 : Hid (g9 < g16 ∧ g6 < g16 ∧ g12 < g16 ∧ w1.heap.size ≤ g16) := Lib.hid (by rw [← h_g16]; exact ⟨(k18.row Rg9.out).lt, (k18.row Rg6.out).lt, (k18.row Rg12.out).lt, (NewT.trans _ _ _ HM.out k18).out.size⟩)
                have q18 := NewT.trans _ _ _ k18 hn18
                clear k18 hn18 h_g16
                replace Rg9 := Lib.hid (q18.row Rg9.out)
                replace Rg6 := Lib.hid (q18.row Rg6.out)
                replace Rg12 := Lib.hid (q18.row Rg12.out)
                replace HM := Lib.hid (NewT.trans _ _ _ HM.out q18)
                clear q18
                have Rg16 := Lib.hid rr18
                clear rr18
                have t4 : goesB l (lim : Int) g y = true := HGO.out.1
                rw [t4]
                clear t4
                go_upto_region 23 with fail
                refine wp_region_steps0 NewT [SV.eq (.bool true), SV.eq (.bool false)] [([(17, none)], none), ([(75, some 0)], none)] 81 2 rfl rfl (by kernel_rfl) NewT.trans (NewT.refl _) (Nat.le_of_ble_eq_true rfl) ⟨?_, ?_, trivial⟩ ?_
                · exact fun a wx hT hF K hK => rely_wp rfl (opr_move (.inl rfl) (hK _ _ (NewT.refl _) hF.1))
                · exact fun a wx hT hF K hK => rely_wp rfl (opr_not rfl hF.1 (hK _ _ (NewT.refl _) rfl))
                · intro w19 k19
                  iterate 2 (intro u h; obtain rfl := Eq.symm (h (by simp)); clear h)
                  refine relyEnd_nil rfl ?_
                  refine wpList_end rfl ?_
                  simp only [Act.put, List.setIfInBounds_toArray, List.set_cons_zero, List.set_cons_succ]
                  go_simp
                  replace Rg9 := Lib.hid (k19.row Rg9.out)
                  replace Rg6 := Lib.hid (k19.row Rg6.out)
                  replace Rg12 := Lib.hid (k19.row Rg12.out)
                  replace Rg16 := Lib.hid (k19.row Rg16.out)
                  replace HM := Lib.hid (NewT.trans _ _ _ HM.out k19)
                  clear k19
                  go_upto_region 25 with fail
                  refine wp_region_steps0 NewT [SV.eq (.agg (rowA 10 (sgF sv ((wentG l (lim : Int) g y)))))] [([(16, none)], none)] 81 1 rfl rfl (by kernel_rfl) NewT.trans (NewT.refl _) (Nat.le_of_ble_eq_true rfl) ⟨?_, trivial⟩ ?_
                  · exact fun a wx hT hF K hK => rely_wp rfl (opr_ldU (hT.row Rg16.out) rfl hF.1 (hK _ _ (NewT.refl _) rfl))
                  · intro w20 k20
                    intro u h; obtain rfl := Eq.symm (h (by simp)); clear h
                    refine relyEnd_nil rfl ?_
                    simp only [Act.put, List.setIfInBounds_toArray, List.set_cons_zero, List.set_cons_succ]
                    refine wpList_plain rfl (fun K hK => ?_)
                    refine opr_putm (g := g9) (o0 := 0) (m := 10) (f := sgF sv ((wentG l (lim : Int) g y))) (F := sgF sv ((wentG l (lim : Int) g y))) rfl rfl rfl (k20.row Rg9.out) (by decide) info_saga (sgF_one _ _ (oneP HS.out.1)) (put_allN _ _ _) ?_
                    intro W20 hR20 rr20
                    refine hK _ _ ?_
                    clear hK K
                    refine wpList_end rfl ?_
                    simp only [Act.put, List.setIfInBounds_toArray, List.set_cons_zero, List.set_cons_succ]
                    go_simp
                    replace Rg9 := Lib.hid rr20
                    replace Rg6 := Lib.hid (hR20.row (by have h_0 := HG.out; have h_1 := HG9.out; have h_2 := HGg12.out; have h_3 := HGg16.out; omega) (k20.row Rg6.out))
                    replace Rg12 := Lib.hid (hR20.row (by have h_0 := HG.out; have h_1 := HG9.out; have h_2 := HGg12.out; have h_3 := HGg16.out; omega) (k20.row Rg12.out))
                    replace Rg16 := Lib.hid (hR20.row (by have h_0 := HG.out; have h_1 := HG9.out; have h_2 := HGg12.out; have h_3 := HGg16.out; omega) (k20.row Rg16.out))
                    replace HM := Lib.hid (NewT.rt (NewT.trans _ _ _ HM.out k20) hR20 (by have h_0 := HG.out; have h_1 := HG9.out; have h_2 := HGg12.out; have h_3 := HGg16.out; omega))
                    clear k20 hR20 rr20
                    have HQ1 : Hid (g.sq + 1 = (((n + 1 : Nat) : Int) + 1)) := Lib.hid (by rw [← HGS.out]; show (n : Int) + 1 + 1 = _; omega)
                    have HN5 : Hid (n + 1 ≤ 4 * lim * l.length + 1) := Lib.hid (by
                      have h1 := seq_phi (ans := ansN lb) (lim := lim) (may_kinds Hm.out) n (fun m hm => HNO.out m hm)
                      have h2 := next_phi (ans := ansN lb k) HI.out HPH.out
                      have h3 := phi_st0 (lim := lim) (may_kinds Hm.out)
                      have e1 : (List.map (fun x => x.2) l) = kks l := rfl
                      rw [e1] at h1 h3
                      rw [HSK.out] at h1
                      rw [kks_len] at h1 h2 h3
                      rw [h3] at h1
                      have h4 : (s, k).1 = s := rfl
                      rw [h4] at h1
                      omega)
                    have it5 := HN4.out
                    go_wp2
                    go_roundw
                    case rel =>
                      refine ⟨n + 1, HN5.out, by rw [HNX.out], by go_num, Lib.hid (fun m hm => ?_), HM, Lib.hid ?_, Rg6⟩
                      · by_cases e : m < n
                        · exact HNO.out m e
                        · have e2 : m = n := by omega
                          rw [e2, HSK.out]; exact HPH.out
                      · rw [HNX.out, ← HQ1.out, ← HGO.out.2]; exact Rg9.out
                    case measure => simp [intOf]; omega
end Go.Proofs.Ytfmahpgfeoafiaa
