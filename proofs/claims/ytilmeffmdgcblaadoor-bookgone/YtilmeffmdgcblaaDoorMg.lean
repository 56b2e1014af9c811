/- Package book: Same, Lines, Clean; the reference's Same, Recs, Great. -/
import Derived.Test.YtilmeffmdgcblaaDoorMf
import Derived.Test.YtilmeffmdgcblaaDoorMd
import Derived.Test.YtilmeffmdgcblaaDoorMe
import Derived.Test.YtilmeffmdgcblaaDoorMc
import Derived.Test.YtilmeffmdgcblaaDoorMa
set_option linter.all false
namespace Go.Proofs.YtilmeffmdgcblaaDoor
open Go Go.RowKit
set_option maxRecDepth 8000
set_option linter.all false
set_option maxHeartbeats 4000000 in
theorem bSame_cv (bv cv : Value) (bk bl : Bk) (w : World) (hb : BkV w bv bk) (hc : BkV w cv bl) (hl : bk.sg.length ≤ 1000000) : Cv 8 #[bv, cv] w (.eq (.bool (sameK bk bl))) := by
  unfold Cv
  obtain ⟨sv, rfl, hsv⟩ := hb
  obtain ⟨tv, rfl, htv⟩ := hc
  have HSV := Lib.hid hsv
  have HTV := Lib.hid htv
  have HLL := Lib.hid hl
  clear hsv htv hl
  go_enter Tryd.func8, Tryd.ntmps8
  go_upto_region 1 with fail
  have r_g2 := (rowIs_box w 37 5 (bkF bk.ep sv)).alloc (.cells (rowA 5 (bkF bl.ep tv)) 37)
  have r_g3 := rowIs_box (w.alloc (.cells (rowA 5 (bkF bk.ep sv)) 37)) 37 5 (bkF bl.ep tv)
  rw [World.size_alloc] at r_g3
  have hN : NewT w ((w.alloc (.cells (rowA 5 (bkF bk.ep sv)) 37)).alloc (.cells (rowA 5 (bkF bl.ep tv)) 37)) := (NewT.trans _ _ _ (NewT.alloc _ _) (NewT.alloc _ _))
  change Code.wp _ _ _ _ ((w.alloc (.cells (rowA 5 (bkF bk.ep sv)) 37)).alloc (.cells (rowA 5 (bkF bl.ep tv)) 37))
  generalize ((w.alloc (.cells (rowA 5 (bkF bk.ep sv)) 37)).alloc (.cells (rowA 5 (bkF bl.ep tv)) 37)) = W0 at r_g2 r_g3 hN ⊢
  obtain ⟨g2, h_g2⟩ : ∃ g_, w.heap.size = g_ := ⟨_, rfl⟩
  obtain ⟨g3, h_g3⟩ : ∃ g_, w.heap.size + 1 = g_ := ⟨_, rfl⟩
  have HG : Hid (w.heap.size ≤ g2 ∧ g2 < g3) := Lib.hid (by omega)
  rw [h_g2] at r_g2
  rw [h_g3] at r_g3
  try rw [h_g3]
  simp only [h_g2]
  have Rg2 := Lib.hid r_g2
  have Rg3 := Lib.hid r_g3
  have HM := Lib.hid hN
  clear r_g2 r_g3 hN h_g2 h_g3
  go_upto_region 1 with fail
  obtain ⟨q1_1, Q1_1⟩ : ∃ bq_, ((epB bk.ep bl.ep) && (sameLs zU eqU bk.sg bl.sg)) = bq_ := ⟨_, rfl⟩
  refine wp_region_steps0 NewT [SV.eq (.pointer (some ⟨g2, 0, none⟩)), SV.eq ((.agg (rowA 4 (epF bk.ep)))), SV.eq (.pointer (some ⟨g3, 0, none⟩)), SV.eq ((.agg (rowA 4 (epF bl.ep)))), SV.eq (.bool (epB bk.ep bl.ep)), SV.eq (.bool (epB bk.ep bl.ep)), svIf (epB bk.ep bl.ep) (SV.eq (.pointer (some ⟨g2, 4, none⟩))), svIf (epB bk.ep bl.ep) (SV.eq (sv)), svIf (epB bk.ep bl.ep) (SV.eq (.pointer (some ⟨g3, 4, none⟩))), svIf (epB bk.ep bl.ep) (SV.eq (tv)), svIf (epB bk.ep bl.ep) (SV.eq (.bool (sameLs zU eqU bk.sg bl.sg))), SV.eq (.bool (q1_1)), SV.eq (.bool (q1_1))] [([(2, none)], none), ([(5, some 0)], none), ([(3, none)], none), ([(7, some 2)], none), ([(6, some 1), (8, some 3)], none), ([(9, some 4)], none), ([(2, none), (10, some 5)], some (10, true)), ([(11, some 6), (10, some 5)], some (10, true)), ([(3, none), (10, some 5)], some (10, true)), ([(13, some 8), (10, some 5)], some (10, true)), ([(12, some 7), (14, some 9), (10, some 5)], some (10, true)), ([(10, some 5), (15, some 10)], none), ([(16, some 11)], none)] 17 13 rfl rfl (by kernel_rfl) NewT.trans (NewT.refl _) (Nat.le_of_ble_eq_true rfl) ⟨?_, ?_, ?_, ?_, ?_, ?_, ?_, ?_, ?_, ?_, ?_, ?_, ?_, trivial⟩ ?_
  · exact fun a wx hT hF K hK => rely_wp rfl (opr_fldK0 rfl hF.1 (hK _ _ (NewT.refl _) rfl))
  · exact fun a wx hT hF K hK => rely_wp rfl (opr_ldEp (hT.row Rg2.out) rfl hF.1 (hK _ _ (NewT.refl _) rfl))
  · exact fun a wx hT hF K hK => rely_wp rfl (opr_fldK0 rfl hF.1 (hK _ _ (NewT.refl _) rfl))
  · exact fun a wx hT hF K hK => rely_wp rfl (opr_ldEp (hT.row Rg3.out) rfl hF.1 (hK _ _ (NewT.refl _) rfl))
  · exact fun a wx hT hF K hK => rely_wp rfl (opr_eqlEp rfl hF.1 hF.2.1 (hK _ _ (NewT.refl _) rfl))
  · exact fun a wx hT hF K hK => rely_wp rfl (opr_move (.inl rfl) (hK _ _ (NewT.refl _) hF.1))
  · exact fun a wx hT hF K hK => rely_if (rely_gt hF.2.1) (NewT.refl _) hK fun hE hK => opr_fldK1 rfl hF.1 (hK _ _ (NewT.refl _) rfl)
  · exact fun a wx hT hF K hK => rely_if (rely_gt hF.2.1) (NewT.refl _) hK fun hE hK => opr_ldUs (hT.row Rg2.out) (by decide) rfl rfl (hF.1 hE) (hK _ _ (NewT.refl _) rfl)
  · exact fun a wx hT hF K hK => rely_if (rely_gt hF.2.1) (NewT.refl _) hK fun hE hK => opr_fldK1 rfl hF.1 (hK _ _ (NewT.refl _) rfl)
  · exact fun a wx hT hF K hK => rely_if (rely_gt hF.2.1) (NewT.refl _) hK fun hE hK => opr_ldUs (hT.row Rg3.out) (by decide) rfl rfl (hF.1 hE) (hK _ _ (NewT.refl _) rfl)
  · exact fun a wx hT hF K hK => rely_if (rely_gt hF.2.2.1) (NewT.refl _) hK fun hE hK => opr_cv (sameUL_cv _ _ bk.sg bl.sg wx ((HSV.out.new (NewT.trans _ _ _ HM.out hT))) ((HTV.out.new (NewT.trans _ _ _ HM.out hT))) (HLL.out)) rfl Tryd.func19 (by kernel_rfl) (by kernel_rfl) (evs3 (hF.1 hE) (hF.2.1 hE) rfl) hK
  · exact fun a wx hT hF K hK => rely_wp rfl (opr_pick_b rfl hF.1 (fun hb => hK _ _ (NewT.refl _) (pn_and1 Q1_1 (hF.2.1 hb) hb)) (fun hb => hK _ _ (NewT.refl _) (pn_and0 Q1_1 hb)))
  · exact fun a wx hT hF K hK => rely_wp rfl (opr_move (.inr rfl) (hK _ _ (NewT.refl _) hF.1))
  · intro w1 k1
    iterate 6 (intro u h; obtain rfl := Eq.symm (h (by simp)); clear h)
    iterate 5 (intro _ _)
    iterate 2 (intro u h; obtain rfl := Eq.symm (h (by simp)); clear h)
    subst Q1_1
    refine relyEnd_nil rfl ?_
    refine wpList_end rfl ?_
    simp only [Act.put, List.setIfInBounds_toArray, List.set_cons_zero, List.set_cons_succ]
    go_simp
    replace Rg2 := Lib.hid (k1.row Rg2.out)
    replace Rg3 := Lib.hid (k1.row Rg3.out)
    replace HM := Lib.hid (NewT.trans _ _ _ HM.out k1)
    clear k1
    go_wp2
    go_ret
    exact ⟨_, rfl, HM.out, rfl⟩
set_option maxHeartbeats 4000000 in
theorem bLines_cv (v1 v2 : Value) (L M : List (Int × Int)) (w : World) (hv : RdN w v1 L) (hu : RdN w v2 M) (hl : L.length ≤ 1000000) : Cv 12 #[v1, v2] w (.eq (.bool (sameLs (0, 0) eqN L M))) := by
  unfold Cv
  have HV := Lib.hid hv
  have HU := Lib.hid hu
  have HLL := Lib.hid hl
  clear hv hu hl
  go_enter Tryd.func12, Tryd.ntmps12
  have HM := Lib.hid (NewT.refl w)
  go_upto_region 1 with fail
  refine wp_region_steps0 NewT [SV.eq (v1), SV.eq (v2), SV.eq (.bool (sameLs (0, 0) eqN L M)), SV.eq (.bool (sameLs (0, 0) eqN L M))] [([(0, none)], none), ([(1, none)], none), ([(5, some 0), (6, some 1)], none), ([(7, some 2)], none)] 8 4 rfl rfl (by kernel_rfl) NewT.trans (NewT.refl _) (Nat.le_of_ble_eq_true rfl) ⟨?_, ?_, ?_, ?_, trivial⟩ ?_
  · exact fun a wx hT hF K hK => rely_wp rfl (opr_move (.inl rfl) (hK _ _ (NewT.refl _) hF.1))
  · exact fun a wx hT hF K hK => rely_wp rfl (opr_move (.inl rfl) (hK _ _ (NewT.refl _) hF.1))
  · exact fun a wx hT hF K hK => rely_wp rfl (opr_cv (sameNL_cv _ _ L M wx ((HV.out.new (NewT.trans _ _ _ HM.out hT))) ((HU.out.new (NewT.trans _ _ _ HM.out hT))) (HLL.out)) rfl Tryd.func25 (by kernel_rfl) (by kernel_rfl) (evs3 hF.1 hF.2.1 rfl) hK)
  · exact fun a wx hT hF K hK => rely_wp rfl (opr_move (.inr rfl) (hK _ _ (NewT.refl _) hF.1))
  · intro w1 k1
    iterate 4 (intro u h; obtain rfl := Eq.symm (h (by simp)); clear h)
    refine relyEnd_nil rfl ?_
    refine wpList_end rfl ?_
    simp only [Act.put, List.setIfInBounds_toArray, List.set_cons_zero, List.set_cons_succ]
    go_simp
    replace HM := Lib.hid (NewT.trans _ _ _ HM.out k1)
    clear k1
    go_wp2
    go_ret
    exact ⟨_, rfl, HM.out, rfl⟩
set_option maxHeartbeats 4000000 in
theorem Clean_cv (v : Value) (l : List (Int × Int)) (w : World) (h : RdN w v l) (hl : l.length ≤ 1000000) : Cv 10 #[v] w (.eq (.bool (cleanL l))) := by
  unfold Cv
  have HV := Lib.hid h
  have HLL := Lib.hid hl
  clear h hl
  go_enter Tryd.func10, Tryd.ntmps10
  have HM := Lib.hid (NewT.refl w)
  go_upto_region 1 with fail
  refine wp_region_steps0 NewT [SV.eq (v), SV.eq (.int .i64 ((List.length (l) : Int))), SV.eq (.int .i64 (0))] [([(0, none)], none), ([(5, some 0)], none), ([], none)] 20 3 rfl rfl (by kernel_rfl) NewT.trans (NewT.refl _) (Nat.le_of_ble_eq_true rfl) ⟨?_, ?_, ?_, trivial⟩ ?_
  · exact fun a wx hT hF K hK => rely_wp rfl (opr_move (.inl rfl) (hK _ _ (NewT.refl _) hF.1))
  · intro a wx hT hF K hK
    obtain ⟨f5, _⟩ := hF
    have f5 : a.tmps.getD 5 undef = v := f5
    refine rely_wp rfl ?_
    exact opr_lenL rfl lineEl (by rw [eval_tmp, f5]; exact (HV.out.new (NewT.trans _ _ _ HM.out hT))) (hK _ _ (NewT.refl _) rfl)
  · exact fun a wx hT hF K hK => rely_wp rfl (opr_move (.inl rfl) (hK _ _ (NewT.refl _) rfl))
  · intro w1 k1
    iterate 3 (intro u h; obtain rfl := Eq.symm (h (by simp)); clear h)
    refine relyEnd_nil rfl ?_
    refine wpList_end rfl ?_
    simp only [Act.put, List.setIfInBounds_toArray, List.set_cons_zero, List.set_cons_succ]
    go_simp
    replace HM := Lib.hid (NewT.trans _ _ _ HM.out k1)
    clear k1
    go_wp2
    go_loopw [7] (fun i wr => ∃ k : Nat, k ≤ l.length ∧ i = .int .i64 (k : Int) ∧ Hid (cleanL (l.take k) = true) ∧ Hid (NewT w wr)) (fun i _ => l.length - (intOf i).toNat)
    case atStart => exact ⟨0, by omega, rfl, Lib.hid rfl, HM⟩
    case round =>
      clear HM
      obtain ⟨k, hk, rfl, HA, HM⟩ := hrel
      have hll := HLL.out
      by_cases hlt : k < l.length
      rotate_left
      · obtain rfl : k = l.length := by omega
        have HF : Hid (cleanL l = true) := Lib.hid (by have := HA.out; rwa [List.take_length] at this)
        go_wp2
        go_ret
        exact ⟨_, rfl, HM.out, by rw [HF.out]; rfl⟩
      obtain ⟨p, hp⟩ : ∃ p, l[k]? = some p := ⟨_, List.getElem?_eq_getElem hlt⟩
      have HPP := Lib.hid hp
      have it : (k : Int) < (l.length : Int) := by omega
      have HIT := Lib.hid it
      clear hp hlt
      go_upto_region 3 with fail
      refine wp_region_steps0 NewT [svEl 2 lnE (p), SV.eq ((.agg (rowA 2 (stepF p))))] [([(5, none), (7, none)], none), ([(9, some 0)], none)] 20 2 rfl rfl (by kernel_rfl) NewT.trans (NewT.refl _) (Nat.le_of_ble_eq_true rfl) ⟨?_, ?_, trivial⟩ ?_
      · intro a wx hT hF K hK
        obtain ⟨f5, f7, _⟩ := hF
        have f5 : a.tmps.getD 5 undef = v := f5
        have f7 : a.tmps.getD 7 undef = .int .i64 ((k : Int)) := f7
        refine rely_wp rfl ?_
        exact opr_idxL (i := k) (p := p) lineEl (HPP.out) (rfl) rfl (by rw [eval_tmp, f5]; exact (HV.out.new (NewT.trans _ _ _ HM.out hT))) f7 (fun v hv => hK v _ (NewT.refl _) hv)
      · exact fun a wx hT hF K hK => rely_wp rfl (opr_ldLn rfl hF.1 (hK _ _ (NewT.refl _) rfl))
      · intro w2 k2
        intro _ _
        intro u h; obtain rfl := Eq.symm (h (by simp)); clear h
        refine relyEnd_nil rfl ?_
        simp only [Act.put, List.setIfInBounds_toArray, List.set_cons_zero, List.set_cons_succ]
        refine wpList_new (n := 2) (f := stepF p) rfl rfl rfl rfl rfl rfl (by first | (simp; done) | simp [Act.put]) run_alloc_line info_line (stepF_one _) rfl ?_
        intro W2 hn2 rr2
        refine wpList_end rfl ?_
        simp only [Act.put, List.setIfInBounds_toArray, List.set_cons_zero, List.set_cons_succ]
        go_simp
        obtain ⟨g8, h_g8⟩ : ∃ g_, w2.heap.size = g_ := ⟨_, rfl⟩
        rw [h_g8] at rr2
        simp only [h_g8]
        have HGg8 : Hid (w.heap.size ≤ g8) := Lib.hid (by rw [← h_g8]; exact (NewT.trans _ _ _ HM.out k2).out.size)
        have q2 := NewT.trans _ _ _ k2 hn2
        clear k2 hn2 h_g8
        replace HM := Lib.hid (NewT.trans _ _ _ HM.out q2)
        clear q2
        have Rg8 := Lib.hid rr2
        clear rr2
        go_upto_region 4 with fail
        refine wp_region_steps0 NewT [SV.eq (.pointer (some ⟨g8, 0, none⟩)), SV.eq (.int .i64 (p.1)), SV.eq (.bool (p.1 != 2)), SV.eq (.bool (p.1 != 2)), svIf (p.1 != 2) (SV.eq (.pointer (some ⟨g8, 0, none⟩))), svIf (p.1 != 2) (SV.eq (.int .i64 (p.1))), svIf (p.1 != 2) (SV.eq (.bool (p.1 != 3))), SV.eq (.bool ((p.1 != 2) && (p.1 != 3)))] [([(4, none)], none), ([(11, some 0)], none), ([(12, some 1)], none), ([(13, some 2)], none), ([(4, none), (14, some 3)], some (14, true)), ([(15, some 4), (14, some 3)], some (14, true)), ([(16, some 5), (14, some 3)], some (14, true)), ([(14, some 3), (17, some 6)], none)] 20 8 rfl rfl (by kernel_rfl) NewT.trans (NewT.refl _) (Nat.le_of_ble_eq_true rfl) ⟨?_, ?_, ?_, ?_, ?_, ?_, ?_, ?_, trivial⟩ ?_
        · exact fun a wx hT hF K hK => rely_wp rfl (opr_fldN0 rfl hF.1 (hK _ _ (NewT.refl _) rfl))
        · exact fun a wx hT hF K hK => rely_wp rfl (opr_ldI (hT.row Rg8.out) (by decide) rfl rfl hF.1 (hK _ _ (NewT.refl _) rfl))
        · exact fun a wx hT hF K hK => rely_wp rfl (opr_cmp (b := p.1 != 2) (.inr (.inl ⟨rfl, rfl⟩)) Tryd.underlying3 rfl hF.1 rfl (hK _ _ (NewT.refl _) rfl))
        · exact fun a wx hT hF K hK => rely_wp rfl (opr_move (.inl rfl) (hK _ _ (NewT.refl _) hF.1))
        · exact fun a wx hT hF K hK => rely_if (rely_gt hF.2.1) (NewT.refl _) hK fun hE hK => opr_fldN0 rfl hF.1 (hK _ _ (NewT.refl _) rfl)
        · exact fun a wx hT hF K hK => rely_if (rely_gt hF.2.1) (NewT.refl _) hK fun hE hK => opr_ldI (hT.row Rg8.out) (by decide) rfl rfl (hF.1 hE) (hK _ _ (NewT.refl _) rfl)
        · exact fun a wx hT hF K hK => rely_if (rely_gt hF.2.1) (NewT.refl _) hK fun hE hK => opr_cmp (b := p.1 != 3) (.inr (.inl ⟨rfl, rfl⟩)) Tryd.underlying3 rfl (hF.1 hE) rfl (hK _ _ (NewT.refl _) rfl)
        · exact fun a wx hT hF K hK => rely_wp rfl (opr_pick_b rfl hF.1 (fun hb => hK _ _ (NewT.refl _) (pk_and1 (hF.2.1 hb) hb)) (fun hb => hK _ _ (NewT.refl _) (pk_and0 hb)))
        · intro w3 k3
          iterate 4 (intro u h; obtain rfl := Eq.symm (h (by simp)); clear h)
          iterate 3 (intro _ _)
          intro u h; obtain rfl := Eq.symm (h (by simp)); clear h
          refine relyEnd_nil rfl ?_
          refine wpList_end rfl ?_
          simp only [Act.put, List.setIfInBounds_toArray, List.set_cons_zero, List.set_cons_succ]
          go_simp
          replace Rg8 := Lib.hid (k3.row Rg8.out)
          replace HM := Lib.hid (NewT.trans _ _ _ HM.out k3)
          clear k3
          have HEX : Hid (((p.1 != 2) && (p.1 != 3)) = !(p.1 == 2 || p.1 == 3)) := Lib.hid (by cases h1 : (p.1 == 2) <;> cases h2 : (p.1 == 3) <;> simp_all [bne])
          cases hb : ((p.1 != 2) && (p.1 != 3))
          · have he : (p.1 == 2 || p.1 == 3) = true := by have h1 := HEX.out.symm.trans hb; rwa [Bool.not_eq_false'] at h1
            have HN : Hid (cleanL (l.take (k + 1)) = true) := Lib.hid (take_all HPP.out HA.out he)
            clear hb he HEX
            have it2 := HIT.out
            go_wp2
            go_roundw
            case rel => exact ⟨k + 1, by omega, by go_num, by first | exact HN | trivial, by first | exact HM | trivial⟩
            case measure => simp [intOf]; omega
          · have he : (p.1 == 2 || p.1 == 3) = false := by have h1 := HEX.out.symm.trans hb; rwa [Bool.not_eq_true'] at h1
            have HF : Hid (cleanL l = false) := Lib.hid (by unfold cleanL; rw [List.all_eq_false]; exact ⟨p, List.mem_of_getElem? HPP.out, by rw [he]; simp⟩)
            clear hb he HEX
            go_wp2
            go_ret
            exact ⟨_, rfl, HM.out, by rw [HF.out]; rfl⟩
set_option maxHeartbeats 2000000 in
theorem Great4_cv (v : Value) (x : Rc) (w : World) (hx : RecV w v x) : Cv 14 #[v] w (.eq (.bool (greatR x))) := by
  unfold Cv
  obtain ⟨su, dv, rfl, hsx, hd⟩ := hx
  have HX : Hid (RecV w (.agg (rowA 109 (recF x su dv))) x) := Lib.hid ⟨su, dv, rfl, hsx, hd⟩
  have HSX := Lib.hid hsx
  have HD := Lib.hid hd
  clear hsx hd
  go_enter Tryd.func14, Tryd.ntmps14
  go_upto_region 1 with fail
  have r_g1 := rowIs_box w 32 109 (recF x su dv)
  have hN : NewT w (w.alloc (.cells (rowA 109 (recF x su dv)) 32)) := NewT.alloc _ _
  change Code.wp _ _ _ _ (w.alloc (.cells (rowA 109 (recF x su dv)) 32))
  generalize (w.alloc (.cells (rowA 109 (recF x su dv)) 32)) = W0 at r_g1 hN ⊢
  obtain ⟨g1, h_g1⟩ : ∃ g_, w.heap.size = g_ := ⟨_, rfl⟩
  have HG : Hid (w.heap.size ≤ g1) := Lib.hid (by omega)
  rw [h_g1] at r_g1
  simp only [h_g1]
  have Rg1 := Lib.hid r_g1
  have HM := Lib.hid hN
  clear r_g1 hN h_g1
  go_upto_region 1 with fail
  obtain ⟨q1_1, Q1_1⟩ : ∃ bq_, ((decide (30 < ((List.length (x.steps) : Int)))) || (decide (300 < ((List.length (x.data) : Int))))) = bq_ := ⟨_, rfl⟩
  refine wp_region_steps0 NewT [SV.eq (.pointer (some ⟨g1, 42, none⟩)), SV.eq (su), SV.eq (.int .i64 ((List.length (x.steps) : Int))), SV.eq (.bool (decide (30 < ((List.length (x.steps) : Int))))), SV.eq (.bool (decide (30 < ((List.length (x.steps) : Int))))), svIf ((!(decide (30 < ((List.length (x.steps) : Int)))))) (SV.eq (.pointer (some ⟨g1, 43, none⟩))), svIf ((!(decide (30 < ((List.length (x.steps) : Int)))))) (SV.eq (dv)), svIf ((!(decide (30 < ((List.length (x.steps) : Int)))))) (SV.eq (.int .i64 ((List.length (x.data) : Int)))), svIf ((!(decide (30 < ((List.length (x.steps) : Int)))))) (SV.eq (.bool (decide (300 < ((List.length (x.data) : Int)))))), SV.eq (.bool (q1_1)), SV.eq (.bool (q1_1))] [([(1, none)], none), ([(3, some 0)], none), ([(4, some 1)], none), ([(5, some 2)], none), ([(6, some 3)], none), ([(1, none), (7, some 4)], some (7, false)), ([(8, some 5), (7, some 4)], some (7, false)), ([(9, some 6), (7, some 4)], some (7, false)), ([(10, some 7), (7, some 4)], some (7, false)), ([(7, some 4), (11, some 8)], none), ([(12, some 9)], none)] 13 11 rfl rfl (by kernel_rfl) NewT.trans (NewT.refl _) (Nat.le_of_ble_eq_true rfl) ⟨?_, ?_, ?_, ?_, ?_, ?_, ?_, ?_, ?_, ?_, ?_, trivial⟩ ?_
  · exact fun a wx hT hF K hK => rely_wp rfl (opr_fldR (by decide) rfl hF.1 (hK _ _ (NewT.refl _) rfl))
  · exact fun a wx hT hF K hK => rely_wp rfl (opr_ldS (hT.row Rg1.out) (by decide) rfl rfl hF.1 (hK _ _ (NewT.refl _) rfl))
  · intro a wx hT hF K hK
    obtain ⟨f4, _⟩ := hF
    have f4 : a.tmps.getD 4 undef = su := f4
    refine rely_wp rfl ?_
    exact opr_len_pairs rfl (by rw [eval_tmp, f4]; exact ((NewT.trans _ _ _ HM.out hT).pairs HSX.out)) (hK _ _ (NewT.refl _) rfl)
  · exact fun a wx hT hF K hK => rely_wp rfl (opr_cmp (b := decide (30 < ((List.length (x.steps) : Int)))) (.inr (.inr (.inr (.inr (.inl ⟨rfl, rfl⟩))))) Tryd.underlying3 rfl hF.1 rfl (hK _ _ (NewT.refl _) rfl))
  · exact fun a wx hT hF K hK => rely_wp rfl (opr_move (.inl rfl) (hK _ _ (NewT.refl _) hF.1))
  · exact fun a wx hT hF K hK => rely_if (rely_gf hF.2.1) (NewT.refl _) hK fun hE hK => opr_fldR (by decide) rfl hF.1 (hK _ _ (NewT.refl _) rfl)
  · exact fun a wx hT hF K hK => rely_if (rely_gf hF.2.1) (NewT.refl _) hK fun hE hK => opr_ldB (hT.row Rg1.out) (by decide) rfl rfl (hF.1 hE) (hK _ _ (NewT.refl _) rfl)
  · intro a wx hT hF K hK
    obtain ⟨f9, f7, _⟩ := hF
    have f9 : ((!(decide (30 < ((List.length (x.steps) : Int)))))) = true → a.tmps.getD 9 undef = dv := f9
    have f7 : a.tmps.getD 7 undef = .bool (decide (30 < ((List.length (x.steps) : Int)))) := f7
    refine rely_if (rely_gf f7) (NewT.refl _) hK (fun hE hK => ?_)
    exact opr_len_rd rfl (by rw [eval_tmp, (f9 hE)]; exact ((NewT.trans _ _ _ HM.out hT).rd HD.out)) (hK _ _ (NewT.refl _) rfl)
  · exact fun a wx hT hF K hK => rely_if (rely_gf hF.2.1) (NewT.refl _) hK fun hE hK => opr_cmp (b := decide (300 < ((List.length (x.data) : Int)))) (.inr (.inr (.inr (.inr (.inl ⟨rfl, rfl⟩))))) Tryd.underlying3 rfl (hF.1 hE) rfl (hK _ _ (NewT.refl _) rfl)
  · exact fun a wx hT hF K hK => rely_wp rfl (opr_pick_b rfl hF.1 (fun hb => hK _ _ (NewT.refl _) (pn_or1 Q1_1 hb)) (fun hb => hK _ _ (NewT.refl _) (pn_or0 Q1_1 (hF.2.1 (bnot hb)) hb)))
  · exact fun a wx hT hF K hK => rely_wp rfl (opr_move (.inr rfl) (hK _ _ (NewT.refl _) hF.1))
  · intro w1 k1
    iterate 5 (intro u h; obtain rfl := Eq.symm (h (by simp)); clear h)
    iterate 4 (intro _ _)
    iterate 2 (intro u h; obtain rfl := Eq.symm (h (by simp)); clear h)
    subst Q1_1
    refine relyEnd_nil rfl ?_
    refine wpList_end rfl ?_
    simp only [Act.put, List.setIfInBounds_toArray, List.set_cons_zero, List.set_cons_succ]
    go_simp
    replace Rg1 := Lib.hid (k1.row Rg1.out)
    replace HM := Lib.hid (NewT.trans _ _ _ HM.out k1)
    clear k1
    go_wp2
    go_ret
    exact ⟨_, rfl, HM.out, rfl⟩
set_option maxHeartbeats 4000000 in
theorem Great_cv (v : Value) (l : List Rc) (w : World) (h : RdR w v l) : Cv 5 #[v] w (.eq (.bool (greatL l))) := by
  unfold Cv
  have HV := Lib.hid h
  clear h
  go_enter Tryd.func5, Tryd.ntmps5
  have HM := Lib.hid (NewT.refl w)
  go_upto_region 1 with fail
  refine wp_region_steps0 NewT [SV.eq (v), SV.eq (.int .i64 ((List.length (l) : Int))), SV.eq (.bool (decide (150 < ((List.length (l) : Int)))))] [([(0, none)], none), ([(4, some 0)], none), ([(5, some 1)], none)] 18 3 rfl rfl (by kernel_rfl) NewT.trans (NewT.refl _) (Nat.le_of_ble_eq_true rfl) ⟨?_, ?_, ?_, trivial⟩ ?_
  · exact fun a wx hT hF K hK => rely_wp rfl (opr_move (.inl rfl) (hK _ _ (NewT.refl _) hF.1))
  · intro a wx hT hF K hK
    obtain ⟨f4, _⟩ := hF
    have f4 : a.tmps.getD 4 undef = v := f4
    refine rely_wp rfl ?_
    exact opr_lenL rfl recEl (by rw [eval_tmp, f4]; exact (HV.out.new (NewT.trans _ _ _ HM.out hT))) (hK _ _ (NewT.refl _) rfl)
  · exact fun a wx hT hF K hK => rely_wp rfl (opr_cmp (b := decide (150 < ((List.length (l) : Int)))) (.inr (.inr (.inr (.inr (.inl ⟨rfl, rfl⟩))))) Tryd.underlying3 rfl hF.1 rfl (hK _ _ (NewT.refl _) rfl))
  · intro w1 k1
    iterate 3 (intro u h; obtain rfl := Eq.symm (h (by simp)); clear h)
    refine relyEnd_nil rfl ?_
    refine wpList_end rfl ?_
    simp only [Act.put, List.setIfInBounds_toArray, List.set_cons_zero, List.set_cons_succ]
    go_simp
    replace HM := Lib.hid (NewT.trans _ _ _ HM.out k1)
    clear k1
    cases hq : decide ((150 : Int) < (l.length : Int))
    rotate_left
    · have HF : Hid (greatL l = true) := Lib.hid (by unfold greatL; rw [hq]; rfl)
      clear hq
      go_wp2
      go_ret
      exact ⟨_, rfl, HM.out, by rw [HF.out]; rfl⟩
    have hl150 : l.length ≤ 150 := by have := of_decide_eq_false hq; omega
    have HL150 := Lib.hid hl150
    have HQ := Lib.hid hq
    clear hq hl150
    go_wp2
    go_loopw [3] (fun i wr => ∃ k : Nat, k ≤ l.length ∧ i = .int .i64 (k : Int) ∧ Hid ((l.take k).any greatR = false) ∧ Hid (NewT w wr)) (fun i _ => l.length - (intOf i).toNat)
    case atStart => exact ⟨0, by omega, rfl, Lib.hid rfl, HM⟩
    case round =>
      clear HM
      obtain ⟨k, hk, rfl, HA, HM⟩ := hrel
      have hll := HL150.out
      by_cases hlt : k < l.length
      rotate_left
      · obtain rfl : k = l.length := by omega
        have HF : Hid (greatL l = false) := Lib.hid (by unfold greatL; rw [HQ.out]; have := HA.out; rwa [List.take_length] at this)
        go_upto_region 4 with fail
        refine wp_region_steps0 NewT [SV.eq (.int .i64 ((l.length : Int))), SV.eq (v), SV.eq (.int .i64 ((List.length (l) : Int))), SV.eq (.bool (decide (((l.length : Int)) < ((List.length (l) : Int)))))] [([(3, none)], none), ([(0, none)], none), ([(8, some 1)], none), ([(7, some 0), (9, some 2)], none)] 18 4 rfl rfl (by kernel_rfl) NewT.trans (NewT.refl _) (Nat.le_of_ble_eq_true rfl) ⟨?_, ?_, ?_, ?_, trivial⟩ ?_
        · exact fun a wx hT hF K hK => rely_wp rfl (opr_move (.inl rfl) (hK _ _ (NewT.refl _) hF.1))
        · exact fun a wx hT hF K hK => rely_wp rfl (opr_move (.inl rfl) (hK _ _ (NewT.refl _) hF.1))
        · intro a wx hT hF K hK
          obtain ⟨f8, _⟩ := hF
          have f8 : a.tmps.getD 8 undef = v := f8
          refine rely_wp rfl ?_
          exact opr_lenL rfl recEl (by rw [eval_tmp, f8]; exact (HV.out.new (NewT.trans _ _ _ HM.out hT))) (hK _ _ (NewT.refl _) rfl)
        · exact fun a wx hT hF K hK => rely_wp rfl (opr_cmp (b := decide (((l.length : Int)) < ((List.length (l) : Int)))) (.inr (.inr (.inr (.inl ⟨rfl, rfl⟩)))) Tryd.underlying3 rfl hF.1 hF.2.1 (hK _ _ (NewT.refl _) rfl))
        · intro w2 k2
          iterate 4 (intro u h; obtain rfl := Eq.symm (h (by simp)); clear h)
          refine relyEnd_nil rfl ?_
          refine wpList_end rfl ?_
          simp only [Act.put, List.setIfInBounds_toArray, List.set_cons_zero, List.set_cons_succ]
          go_simp
          replace HM := Lib.hid (NewT.trans _ _ _ HM.out k2)
          clear k2
          go_wp2
          go_ret
          exact ⟨_, rfl, HM.out, by rw [HF.out]; rfl⟩
      obtain ⟨x, hx⟩ : ∃ p, l[k]? = some p := ⟨_, List.getElem?_eq_getElem hlt⟩
      have HPP := Lib.hid hx
      have it : (k : Int) < (l.length : Int) := by omega
      have HIT := Lib.hid it
      clear hx hlt
      go_upto_region 4 with fail
      refine wp_region_steps0 NewT [SV.eq (.int .i64 ((k : Int))), SV.eq (v), SV.eq (.int .i64 ((List.length (l) : Int))), SV.eq (.bool (decide (((k : Int)) < ((List.length (l) : Int)))))] [([(3, none)], none), ([(0, none)], none), ([(8, some 1)], none), ([(7, some 0), (9, some 2)], none)] 18 4 rfl rfl (by kernel_rfl) NewT.trans (NewT.refl _) (Nat.le_of_ble_eq_true rfl) ⟨?_, ?_, ?_, ?_, trivial⟩ ?_
      · exact fun a wx hT hF K hK => rely_wp rfl (opr_move (.inl rfl) (hK _ _ (NewT.refl _) hF.1))
      · exact fun a wx hT hF K hK => rely_wp rfl (opr_move (.inl rfl) (hK _ _ (NewT.refl _) hF.1))
      · intro a wx hT hF K hK
        obtain ⟨f8, _⟩ := hF
        have f8 : a.tmps.getD 8 undef = v := f8
        refine rely_wp rfl ?_
        exact opr_lenL rfl recEl (by rw [eval_tmp, f8]; exact (HV.out.new (NewT.trans _ _ _ HM.out hT))) (hK _ _ (NewT.refl _) rfl)
      · exact fun a wx hT hF K hK => rely_wp rfl (opr_cmp (b := decide (((k : Int)) < ((List.length (l) : Int)))) (.inr (.inr (.inr (.inl ⟨rfl, rfl⟩)))) Tryd.underlying3 rfl hF.1 hF.2.1 (hK _ _ (NewT.refl _) rfl))
      · intro w3 k3
        iterate 4 (intro u h; obtain rfl := Eq.symm (h (by simp)); clear h)
        refine relyEnd_nil rfl ?_
        refine wpList_end rfl ?_
        simp only [Act.put, List.setIfInBounds_toArray, List.set_cons_zero, List.set_cons_succ]
        go_simp
        replace HM := Lib.hid (NewT.trans _ _ _ HM.out k3)
        clear k3
        go_upto_region 6 with fail
        refine wp_region_steps0 NewT [SV.eq (v), SV.eq (.int .i64 ((k : Int))), svEl 109 rcE (x), svRec (x), SV.eq (.bool (greatR x))] [([(0, none)], none), ([(3, none)], none), ([(13, some 0), (14, some 1)], none), ([(15, some 2)], none), ([(16, some 3)], none)] 18 5 rfl rfl (by kernel_rfl) NewT.trans (NewT.refl _) (Nat.le_of_ble_eq_true rfl) ⟨?_, ?_, ?_, ?_, ?_, trivial⟩ ?_
        · exact fun a wx hT hF K hK => rely_wp rfl (opr_move (.inl rfl) (hK _ _ (NewT.refl _) hF.1))
        · exact fun a wx hT hF K hK => rely_wp rfl (opr_move (.inl rfl) (hK _ _ (NewT.refl _) hF.1))
        · intro a wx hT hF K hK
          obtain ⟨f13, f14, _⟩ := hF
          have f13 : a.tmps.getD 13 undef = v := f13
          have f14 : a.tmps.getD 14 undef = .int .i64 ((k : Int)) := f14
          refine rely_wp rfl ?_
          exact opr_idxL (i := k) (p := x) recEl (HPP.out) (rfl) rfl (by rw [eval_tmp, f13]; exact (HV.out.new (NewT.trans _ _ _ HM.out hT))) f14 (fun v hv => hK v _ (NewT.refl _) hv)
        · exact fun a wx hT hF K hK => rely_wp rfl (opr_ldRcE rfl hF.1 (fun u hu => hK u _ (NewT.refl _) hu))
        · exact fun a wx hT hF K hK => rely_wp rfl (opr_cv (Great4_cv _ x wx (hF.1)) rfl Tryd.func14 (by kernel_rfl) (by kernel_rfl) (evs1 rfl) hK)
        · intro w4 k4
          iterate 2 (intro u h; obtain rfl := Eq.symm (h (by simp)); clear h)
          iterate 2 (intro _ _)
          intro u h; obtain rfl := Eq.symm (h (by simp)); clear h
          refine relyEnd_nil rfl ?_
          refine wpList_end rfl ?_
          simp only [Act.put, List.setIfInBounds_toArray, List.set_cons_zero, List.set_cons_succ]
          go_simp
          replace HM := Lib.hid (NewT.trans _ _ _ HM.out k4)
          clear k4
          cases hb : greatR x
          · have HN : Hid ((l.take (k + 1)).any greatR = false) := Lib.hid (take_any HPP.out HA.out hb)
            clear hb
            have it2 := HIT.out
            go_wp2
            go_roundw
            case rel => exact ⟨k + 1, by omega, by go_num, by first | exact HN | trivial, by first | exact HM | trivial⟩
            case measure => simp [intOf]; omega
          · have HF : Hid (greatL l = true) := Lib.hid (by unfold greatL; rw [Bool.or_eq_true]; right; rw [List.any_eq_true]; exact ⟨x, List.mem_of_getElem? HPP.out, hb⟩)
            clear hb
            go_wp2
            go_ret
            exact ⟨_, rfl, HM.out, by rw [HF.out]; rfl⟩
end Go.Proofs.YtilmeffmdgcblaaDoor
/- Steps of a region that stores into the steps of a record's variable; new rows of lines; bytes cloned. -/
namespace Go.Proofs.YtilmeffmdgcblaaDoor
open Go Go.RowKit
set_option maxRecDepth 8000
set_option linter.all false
/-- Block g alone is written, and there but cell 42. -/
structure ST (g : Nat) (w w' : World) : Prop where
  rt : RT g w w'
  cells : ∀ j, j < 109 → j ≠ 42 → w'.cell? ⟨g, j, none⟩ = w.cell? ⟨g, j, none⟩
theorem ST.trans {g : Nat} (a b c : World) (h : ST g a b) (k : ST g b c) : ST g a c := ⟨RT.trans _ _ _ h.rt k.rt, fun j hj hn => (k.cells j hj hn).trans (h.cells j hj hn)⟩
theorem ST.size {g : Nat} {w w' : World} (h : ST g w w') : w.heap.size ≤ w'.heap.size := h.rt.size
theorem ST.new {g : Nat} {w w' : World} (hg : g < w.heap.size) (h : NewT w w') : ST g w w' := ⟨RT.new hg h, fun j _ _ => h.out.cell (p := ⟨g, j, none⟩) hg⟩
theorem ST.drew (g : Nat) (w : World) : ST g w w.drew := ⟨RT.drew _ _, fun j _ _ => rfl⟩
def svPairsS (R C : Nat) (hC : R < C) (l : List (Int × Int)) : SV (ST R) := ⟨fun v w => RdPB w C v l, fun _ _ _ h hT => h.rt hT.rt hC⟩
def svRdS (R C : Nat) (hC : R < C) (l : List UInt8) : SV (ST R) := ⟨fun v w => RdVB w C v l, fun _ _ _ h hT => h.rt hT.rt hC⟩
def CopJ (g C : Nat) (x : Rc) (sv dv : Value) (k : Nat) (w : World) : Prop := if k < 2 then w.rowIs g 32 109 (recF x sv dv) else ∃ u, RdPB w C u x.steps ∧ w.rowIs g 32 109 (recF x u dv)
theorem copJ_new {g C : Nat} {x : Rc} {sv dv : Value} {k : Nat} {w w' : World} (h : CopJ g C x sv dv k w) (hN : NewT w w') : CopJ g C x sv dv k w' := by
  unfold CopJ at h ⊢
  split at h
  · rename_i h0; rw [if_pos h0]; exact hN.row h
  · rename_i h0; rw [if_neg h0]
    obtain ⟨u, h1, h2⟩ := h
    exact ⟨u, h1.new hN, hN.row h2⟩
theorem st_put {g : Nat} {w w' : World} {F F' : Nat → Value} {t : TypeId} (hT : RT g w w') (hr : w.rowIs g t 109 F) (hr' : w'.rowIs g t 109 F') (h : ∀ j, j < 109 → j ≠ 42 → F' j = F j) : ST g w w' :=
  ⟨hT, fun j hj hn => by rw [hr'.cell hj, hr.cell hj, h j hj hn]⟩
/-- A new row of lines. -/
theorem run_mkN (m : Nat) (hm : m ≤ 1000000) (W : World) : (Instr.makeSlice 41 (.int .i64 (m : Int)) (.int .i64 (m : Int))).run Tryd.prog W = .ok (.slice (some ⟨W.heap.size, 0, none⟩) m m) (W.alloc (.cells (rowA (m * 2) (fun _ => .int .i64 0)) 45)) := by
  obtain ⟨i0, z, hi, hz0, hz1, hz2, hz3⟩ := lineEl.inf
  have hz : z = .agg (rowA 2 (stepF (0, 0))) := by
    have h : (Tryd.prog.info? 45).map (fun i => i.zero) = some (some (.agg (rowA 2 (stepF (0, 0))))) := by kernel_rfl
    rw [hi] at h
    simp at h
    rw [hz0] at h
    exact Option.some.inj h
  have := run_make (P := Tryd.prog) W 41 45 i0 _ Tryd.underlying41 hi hz0 .i64 .i64 (m : Int) (m : Int) (by omega) (by omega) (by have : i0.bytes * m ≤ 1000 * 1000000 := Nat.mul_le_mul hz2 hm; have h2 : ((i0.bytes * m : Nat) : Int) ≤ 1000000000 := (by omega); rw [Int.natCast_mul] at h2; omega) (by omega)
  rw [this, hz1, Int.toNat_natCast]
  have e : madeCells z.cells (m * 2) = rowA (m * 2) (fun _ => .int .i64 0) := by
    subst hz
    apply Array.ext_getElem?
    intro i
    by_cases hi2 : i < m * 2
    · rw [rowA_at _ _ _ hi2]
      have hs : (Value.agg (rowA 2 (stepF (0, 0)))).cells = #[.int .i64 0, .int .i64 0] := rfl
      rw [hs]
      unfold madeCells
      have : i % 2 = 0 ∨ i % 2 = 1 := by omega
      rcases this with h | h <;> simp [hi2, h]
    · rw [Array.getElem?_eq_none (by rw [size_madeCells]; omega), Array.getElem?_eq_none (by rw [rowA_size]; omega)]
  rw [e]
theorem opr_mkN {a : Act} {w : World} {o : Oper} {K : Act → World → Prop} {Q : Exit → Act → World → Prop} {x y : Operand} {m : Nat} (hm : m ≤ 1000000) (ho : o.op = .makeSlice 41 x y) (hx : a.eval x = .int .i64 (m : Int)) (hy : a.eval y = .int .i64 (m : Int)) (h : ∀ w', NewT w w' → w'.rowIs w.heap.size 45 (m * 2) (fun _ => .int .i64 0) → K (a.put o.dst (.slice (some ⟨w.heap.size, 0, none⟩) m m)) w') : o.wp Tryd.prog a w K Q := by
  obtain ⟨dst, op, type, pos, after, guard⟩ := o
  simp only at ho
  subst ho
  exact opr_val (s := Instr.makeSlice 41 (a.eval x) (a.eval y)) rfl (by rw [hx, hy]; exact run_mkN m hm w) (h _ (NewT.alloc _ _) (rowIs_box w _ (m * 2) _))
theorem bClone_cv (v : Value) (l : List UInt8) (L : List Nat) (w : World) (h : RdV w L v l) (hl : l.length ≤ 1000000) : Cv 38 #[v] w (svRdN w l) := by
  unfold Cv
  have H := Lib.hid h
  obtain ⟨A, cap, rfl, h1, h2, h3⟩ := h
  obtain ⟨i0, hi, hz0, hz1, hz2⟩ := info_parts info5
  have hq : ∀ (w : World) (a : Option Addr) (n c n' c' : Nat), (binOp .eql 30 (.slice a n c) (.slice none n' c')).run Tryd.prog w = .ok (.bool a.isNone) w := fun w a n c n' c' => Lib.run_eql_slice_nil w _ _ a n c n' c' Tryd.underlying30
  cases A with
  | none =>
    have h0 : l = [] := by
      cases l with
      | nil => rfl
      | cons b l => obtain ⟨_, _, h, _⟩ := h3 (by simp); cases h
    subst h0
    clear h3
    go_enter Tryd.func38, Tryd.ntmps38
    go_wp2
    go_ret
    exact ⟨_, rfl, NewT.refl _, fun L _ => rdV_nil _ _⟩
  | some a =>
    clear h3
    have r0 : (w.alloc (.cells #[] 5)).rowIs w.heap.size 5 0 (fun _ => undef) := rowIs_box w 5 0 (fun _ => undef)
    have o0 := ownsRow_row r0 w.heap.size 0 (by omega) (by unfold maxLen; omega) (Nat.le_refl _)
    have hB : Below w.heap.size w (w.alloc (.cells #[] 5)) := (Below.refl _ w).alloc (Nat.le_refl _) _
    have Hrd := Lib.hid (H.out.keep (KeepBut.below hB))
    generalize hn : l.length = n at *
    go_enter Tryd.func38, Tryd.ntmps38
    go_wp2_with (at_builtin; refine wpList_append_rd rfl (.tmp 5) (.tmp 6) 30 rfl (base := w.heap.size) Tryd.underlying30 hi hz0 hz1 hz2 rfl o0 rfl Hrd.out (by omega) hB.size ?_; intro v2 w2 o2 grow2)
    go_ret
    exact ⟨_, rfl, hB.grown grow2 hB.size (fun k e => (o0.lt k e).1), rdN_own o2 (by omega)⟩
end Go.Proofs.YtilmeffmdgcblaaDoor
/- A row of records of the call's own, one appended behind the other; their steps and payloads lie beside it. -/
namespace Go.Proofs.YtilmeffmdgcblaaDoor
open Go Go.RowKit
set_option maxRecDepth 8000
set_option linter.all false
/-- Steps, in no block of L. -/
def RdPA (w : World) (L : List Nat) (v : Value) (l : List (Int × Int)) : Prop := RdP w v l ∧ (0 < l.length → ∀ a n c, v = .slice (some a) n c → a.block ∉ L)
theorem RdPA.new {w w' : World} {L : List Nat} {v : Value} {l : List (Int × Int)} (h : RdPA w L v l) (hN : NewT w w') : RdPA w' L v l := ⟨hN.pairs h.1, h.2⟩
theorem RdPA.keep {w w' : World} {L : List Nat} {v : Value} {l : List (Int × Int)} (h : RdPA w L v l) (hK : KeepBut L w w') : RdPA w' L v l := by
  refine ⟨?_, h.2⟩
  obtain ⟨A, cap, rfl, h1, h2, h3⟩ := h.1
  refine ⟨A, cap, rfl, h1, h2, fun h0 => ?_⟩
  obtain ⟨b, o, rfl, hc⟩ := h3 h0
  have hb : b ∉ L := h.2 h0 ⟨b, o, none⟩ _ _ rfl
  exact ⟨b, o, rfl, fun i hi => ⟨hK.cell (a := ⟨b, o + 2 * i, none⟩) hb (hc i hi).1, hK.cell (a := ⟨b, o + 2 * i + 1, none⟩) hb (hc i hi).2⟩⟩
theorem RdPA.more {w : World} {L L' : List Nat} {v : Value} {l : List (Int × Int)} (h : RdPA w L v l) (hL : ∀ k, k < w.heap.size → k ∉ L → k ∉ L') : RdPA w L' v l := by
  refine ⟨h.1, fun h0 a n c hv => hL _ ?_ (h.2 h0 a n c hv)⟩
  obtain ⟨A, cap, hv2, h1, h2, h3⟩ := h.1
  obtain ⟨b, o, hA, hc⟩ := h3 h0
  rw [hv] at hv2
  injection hv2 with e
  rw [hA] at e
  cases e
  exact World.block_lt_of_cell? _ _ (hc 0 h0).1
theorem RdPB.apart {w : World} {B : Nat} {L : List Nat} {v : Value} {l : List (Int × Int)} (h : RdPB w B v l) (hL : ∀ k ∈ L, k < B) : RdPA w L v l :=
  ⟨h.1, fun h0 a n c hv hm => by have h1 := h.2 h0 a n c hv; have h2 := hL _ hm; omega⟩
theorem rdPA_elder {w0 w : World} {L : List Nat} {v : Value} {l : List (Int × Int)} (h : RdP w0 v l) (hN : NewT w0 w) (hL : ∀ k ∈ L, w0.heap.size ≤ k) : RdPA w L v l :=
  RdPA.new (RdPA.more (L := []) ⟨h, fun _ _ _ _ _ => by simp⟩ fun k hk _ hm => by have := hL k hm; omega) hN
theorem rdV_elder {w0 w : World} {L : List Nat} {v : Value} {l : List UInt8} (h : RdV w0 [] v l) (hN : NewT w0 w) (hL : ∀ k ∈ L, w0.heap.size ≤ k) : RdV w L v l :=
  hN.rd (h.more fun k hk _ hm => by have := hL k hm; omega)
/-- A record's row whose steps and payload lie in no block of L. -/
def rcA (L : List Nat) (w : World) (f : Nat → Value) (x : Rc) : Prop := ∃ sv dv, f = recF x sv dv ∧ RdPA w L sv x.steps ∧ RdV w L dv x.data
instance (L : List Nat) : StbE (rcA L) := ⟨fun ⟨sv, dv, h1, h2, h3⟩ hN => ⟨sv, dv, h1, h2.new hN, hN.rd h3⟩⟩
theorem rcA_more {w : World} {L L' : List Nat} {f : Nat → Value} {x : Rc} (h : rcA L w f x) (hL : ∀ k, k < w.heap.size → k ∉ L → k ∉ L') : rcA L' w f x := by
  obtain ⟨sv, dv, h1, h2, h3⟩ := h; exact ⟨sv, dv, h1, h2.more hL, h3.more hL⟩
theorem rcA_keep {w w' : World} {L : List Nat} {f : Nat → Value} {x : Rc} (h : rcA L w f x) (hK : KeepBut L w w') : rcA L w' f x := by
  obtain ⟨sv, dv, h1, h2, h3⟩ := h; exact ⟨sv, dv, h1, h2.keep hK, h3.keep hK⟩
theorem rcA_rd {w : World} {L : List Nat} {f : Nat → Value} {x : Rc} (h : rcA L w f x) : rcE w f x := by
  obtain ⟨sv, dv, h1, h2, h3⟩ := h; exact ⟨sv, dv, h1, h2.1, h3.less (by simp)⟩
theorem rcA_one {w : World} {L : List Nat} {f : Nat → Value} {x : Rc} (h : rcA L w f x) (j : Nat) : (f j).oneCell' = true := by
  obtain ⟨sv, dv, rfl, h2, h3⟩ := h; exact recF_one _ _ _ (oneP h2.1) (oneR h3) j
theorem rcA_elder {w0 w : World} {L : List Nat} {f : Nat → Value} {x : Rc} (h : rcE w0 f x) (hN : NewT w0 w) (hL : ∀ k ∈ L, w0.heap.size ≤ k) : rcA L w f x := by
  obtain ⟨sv, dv, h1, h2, h3⟩ := h; exact ⟨sv, dv, h1, rdPA_elder h2 hN hL, rdV_elder h3 hN hL⟩
/-- Records in a row of the own, which their steps and payloads lie beside. -/
def OwnR (w : World) (B : Nat) (v : Value) (X : List Rc) : Prop := ∃ fs : List (Nat → Value), OwnE 32 109 w B v fs ∧ fs.length = X.length ∧ ∀ (i : Nat) (x : Rc), X[i]? = some x → ∃ f : Nat → Value, fs[i]? = some f ∧ rcA v.ownBlock.toList w f x
theorem OwnR.rd {w : World} {B : Nat} {v : Value} {X : List Rc} (h : OwnR w B v X) : RdR w v X := by
  obtain ⟨fs, h1, h2, h3⟩ := h
  exact ⟨fs, h1.rd, h2, fun i x hx => by obtain ⟨f, e1, e2⟩ := h3 i x hx; exact ⟨f, e1, rcA_rd e2⟩⟩
theorem ownR_nil (w : World) (B : Nat) : OwnR w B (.slice none 0 0) [] := ⟨[], ownE_nil w B, rfl, fun i x h => by simp at h⟩
theorem OwnR.new {w w' : World} {B : Nat} {v : Value} {X : List Rc} (h : OwnR w B v X) (hN : NewT w w') : OwnR w' B v X := by
  obtain ⟨fs, h1, h2, h3⟩ := h
  exact ⟨fs, h1.new hN, h2, fun i x hx => by obtain ⟨f, e1, e2⟩ := h3 i x hx; exact ⟨f, e1, StbE.new e2 hN⟩⟩
theorem OwnR.at_ {w : World} {B : Nat} {v : Value} {X : List Rc} (h : OwnR w B v X) : ∀ k ∈ v.ownBlock.toList, B ≤ k ∧ k < w.heap.size := by
  obtain ⟨fs, h1, _⟩ := h
  intro k hk
  exact h1.lt k (by simpa using hk)
/-- A slice of one record. -/
def RoV (w : World) (L : List Nat) (v : Value) (x : Rc) : Prop := ∃ b f, v = .slice (some ⟨b, 0, none⟩) 1 1 ∧ w.rowIs b 32 109 f ∧ rcA L w f x
def svRo (L : List Nat) (x : Rc) : SV NewT := ⟨fun v w => RoV w L v x, fun _ _ _ ⟨b, f, h1, h2, h3⟩ hT => ⟨b, f, h1, hT.row h2, StbE.new h3 hT⟩⟩
/-- A record as a value. -/
def svRecA (L : List Nat) (x : Rc) : SV NewT := ⟨fun v w => ∃ f, v = .agg (rowA 109 f) ∧ rcA L w f x, fun _ _ _ ⟨f, h1, h2⟩ hT => ⟨f, h1, StbE.new h2 hT⟩⟩
/-- A record whose steps and payload lie in blocks from B on. -/
def svRecN (B : Nat) (x : Rc) : SV NewT := ⟨fun v w => ∃ sv dv, v = .agg (rowA 109 (recF x sv dv)) ∧ RdPB w B sv x.steps ∧ RdVB w B dv x.data, fun _ _ _ ⟨sv, dv, h1, h2, h3⟩ hT => ⟨sv, dv, h1, h2.new hT, h3.new hT⟩⟩
theorem opr_bsRo {a : Act} {w : World} {o : Oper} {K : Act → World → Prop} {Q : Exit → Act → World → Prop} {y : Operand} {L : List Nat} {x : Rc} (ho : o.op = .buildSlice 22 1 #[(0, y)]) (hx : (svRecA L x).pred (a.eval y) w) (h : ∀ v w', NewT w w' → RoV w' L v x → K (a.put o.dst v) w') : o.wp Tryd.prog a w K Q := by
  obtain ⟨dst, op, type, pos, after, guard⟩ := o
  simp only at ho
  subst ho
  obtain ⟨f, hv, hf⟩ := hx
  exact opr_val (s := Instr.buildSlice 22 1 #[(0, a.eval y)]) (by simp [execOp]) (by rw [hv]; exact run_bsR1 _ w) (h _ _ (NewT.alloc _ _) ⟨_, f, rfl, rowIs_box w _ 109 f, StbE.new hf (NewT.alloc _ _)⟩)
theorem run_appR {W : World} {B : Nat} {v u : Value} {X : List Rc} {x : Rc} (h : OwnR W B v X) (hu : RoV W v.ownBlock.toList u x) (hn : X.length + 1 ≤ 1000000) (hB : B ≤ W.heap.size) (ty : TypeId) :
    ∃ v' w', (Builtin.append_ #[22, 22] ty #[v, u]).run Tryd.prog W = .ok v' w' ∧ OwnR w' B v' (X ++ [x]) ∧ Below B W w' := by
  have hat := h.at_
  obtain ⟨fs, h1, h2, h3⟩ := h
  obtain ⟨b, f, hu1, hu2, hu3⟩ := hu
  have hone : OneE 109 [f] := fun f' hf' j _ => by simp at hf'; subst hf'; exact rcA_one hu3 j
  have els : ∀ (w' : World) (v' : Value), (∀ g y, rcA v.ownBlock.toList W g y → rcA v'.ownBlock.toList w' g y) → ∀ (i : Nat) (y : Rc), (X ++ [x])[i]? = some y → ∃ g : Nat → Value, (fs ++ [f])[i]? = some g ∧ rcA v'.ownBlock.toList w' g y := fun w' v' hc i y hy => by
    by_cases hi : i < X.length
    · rw [List.getElem?_append_left hi] at hy
      obtain ⟨g, e1, e2⟩ := h3 i y hy
      exact ⟨g, by rw [List.getElem?_append_left (by omega)]; exact e1, hc g y e2⟩
    · have hi2 : i < X.length + 1 := by have := (List.getElem?_eq_some_iff.1 hy).1; simpa using this
      obtain rfl : i = X.length := by omega
      simp at hy
      subst hy
      exact ⟨f, by rw [← h2]; simp, hc f x hu3⟩
  by_cases hroom : ∃ c cap, v = .slice (some ⟨c, 0, none⟩) fs.length cap ∧ fs.length + 1 ≤ cap
  · obtain ⟨c, cap, hcv, hcap⟩ := hroom
    have hBc := (hat c (by rw [hcv]; simp [Value.ownBlock])).1
    subst hcv
    obtain ⟨w', hr, ho, hT⟩ := run_appE_near (u := u) recEl h1 (by rw [hu1]; exact rdE_rowOne hu2) hone (by simp) (by simp; omega) hB (by simpa using hcap) ty
    exact ⟨_, w', hr, ⟨_, ho, by simp [h2], els w' _ (fun g y hg => rcA_keep hg (hT.keep.more (by simp [Value.ownBlock])))⟩, hT.below.mono hBc⟩
  · obtain ⟨v', w', hr, ho, hN, hk⟩ := run_appE_far (u := u) recEl h1 (by rw [hu1]; exact rdE_rowOne hu2) hone (by simp) (by simp; omega) hB (fun g c hv => by
      by_cases hc : fs.length + 1 ≤ c
      · exact absurd ⟨g, c, hv, hc⟩ hroom
      · simpa using hc) ty
    refine ⟨v', w', hr, ⟨_, ho, by simp [h2], els w' v' (fun g y hg => StbE.new (rcA_more hg fun k hk2 _ hm => ?_) hN)⟩, hN.out.mono hB⟩
    have := hk k (by simpa using hm)
    omega
end Go.Proofs.YtilmeffmdgcblaaDoor
/- Package book: a record copied; Only; Report. -/
namespace Go.Proofs.YtilmeffmdgcblaaDoor
open Go Go.RowKit
set_option maxRecDepth 8000
set_option linter.all false
set_option maxHeartbeats 4000000 in
theorem copyOf_cv (v : Value) (x : Rc) (w : World) (hx : RecV w v x) (hl : x.steps.length ≤ 900000 ∧ x.data.length ≤ 900000) : Cv 28 #[v] w (svRecN w.heap.size x) := by
  unfold Cv
  obtain ⟨sv, dv, rfl, hsx, hd⟩ := hx
  have HX : Hid (RecV w (.agg (rowA 109 (recF x sv dv))) x) := Lib.hid ⟨sv, dv, rfl, hsx, hd⟩
  have HS := Lib.hid hsx
  have HD := Lib.hid hd
  have HLS := Lib.hid hl.1
  have HLD := Lib.hid hl.2
  clear hsx hd hl
  go_enter Tryd.func28, Tryd.ntmps28
  go_upto_region 1 with fail
  have r_g1 := (rowIs_box w 32 109 (recF x sv dv)).alloc (.cells (rowA 109 (recF zR (.slice none 0 0) (.slice none 0 0))) 32)
  have r_g2 := rowIs_box (w.alloc (.cells (rowA 109 (recF x sv dv)) 32)) 32 109 (recF zR (.slice none 0 0) (.slice none 0 0))
  rw [World.size_alloc] at r_g2
  have hN : NewT w ((w.alloc (.cells (rowA 109 (recF x sv dv)) 32)).alloc (.cells (rowA 109 (recF zR (.slice none 0 0) (.slice none 0 0))) 32)) := (NewT.trans _ _ _ (NewT.alloc _ _) (NewT.alloc _ _))
  change Code.wp _ _ _ _ ((w.alloc (.cells (rowA 109 (recF x sv dv)) 32)).alloc (.cells (rowA 109 (recF zR (.slice none 0 0) (.slice none 0 0))) 32))
  generalize ((w.alloc (.cells (rowA 109 (recF x sv dv)) 32)).alloc (.cells (rowA 109 (recF zR (.slice none 0 0) (.slice none 0 0))) 32)) = W0 at r_g1 r_g2 hN ⊢
  obtain ⟨g1, h_g1⟩ : ∃ g_, w.heap.size = g_ := ⟨_, rfl⟩
  obtain ⟨g2, h_g2⟩ : ∃ g_, w.heap.size + 1 = g_ := ⟨_, rfl⟩
  have HG : Hid (w.heap.size ≤ g1 ∧ g1 < g2) := Lib.hid (by omega)
  rw [h_g1] at r_g1
  rw [h_g2] at r_g2
  try rw [h_g2]
  simp only [h_g1]
  have Rg1 := Lib.hid r_g1
  have Rg2 := Lib.hid r_g2
  have HM := Lib.hid hN
  clear r_g1 r_g2 hN h_g1 h_g2
  have HSZ : Hid (w.heap.size ≤ W0.heap.size) := Lib.hid HM.out.out.size
  refine wp_region_relyP (ST g1) (CopJ g1 W0.heap.size x sv dv) [SV.eq (.pointer (some ⟨g1, 42, none⟩)), SV.eq (sv), svPairsS g1 W0.heap.size Rg1.out.lt x.steps, SV.eq (.pointer (some ⟨g1, 43, none⟩)), SV.eq (dv), svRdS g1 W0.heap.size Rg1.out.lt x.data, SV.eq (.pointer (some ⟨g1, 42, none⟩)), SV.any, SV.eq (.pointer (some ⟨g1, 43, none⟩))] [([(1, none)], none), ([(3, some 0)], none), ([(4, some 1)], none), ([(1, none)], none), ([(6, some 3)], none), ([(7, some 4)], none), ([(1, none)], none), ([(9, some 6), (5, some 2)], none), ([(1, none)], none)] [none, some 0, none, none, none, none, none, some 1, none] [1, 7] 12 rfl (by kernel_rfl) rfl (by kernel_rfl) (by kernel_rfl) rfl (by kernel_rfl) (ST.trans) (ST.drew _ _) (show World.rowIs _ g1 32 109 _ from (NewT.drew _).row Rg1.out) (Nat.le_of_ble_eq_true rfl) ⟨?_, ?_, ?_, ?_, ?_, ?_, ?_, ?_, ?_, trivial⟩ ?_
  · exact fun a wx hT hF K hK => have hK := fun v w' (hN : NewT wx w') hv => hK v w' (ST.new (Nat.lt_of_lt_of_le Rg1.out.lt hT.size) hN) (fun k h => copJ_new h hN) hv; rely_wp rfl (opr_fldR (by decide) rfl hF.1 (hK _ _ (NewT.refl _) rfl))
  · exact fun a wx hT hF hJ K hK => rely_wp rfl (opr_ldS (show wx.rowIs g1 32 109 (recF x sv dv) from hJ) (by decide) rfl rfl hF.1 (hK _ _ (ST.new hJ.lt (NewT.refl _)) hJ rfl))
  · intro a wx hT hF K hK
    replace hK := fun v w' (hN : NewT wx w') hv => hK v w' (ST.new (Nat.lt_of_lt_of_le Rg1.out.lt hT.size) hN) (fun k h => copJ_new h hN) hv
    obtain ⟨f4, _⟩ := hF
    have f4 : a.tmps.getD 4 undef = sv := f4
    refine rely_wp rfl ?_
    refine opr_cv (CloneS_cvN sv x.steps wx (((HM.out.rt hT.rt (by have := HG.out; omega))).pairs HS.out) HLS.out) rfl Tryd.func15 (by kernel_rfl) (by kernel_rfl) (by simp only [List.map_toArray, List.map_cons, List.map_nil, eval_tmp, f4]) (fun v w' hN hv => hK v w' hN (RdPB.mono hv ?_))
    exact hT.size
  · exact fun a wx hT hF K hK => have hK := fun v w' (hN : NewT wx w') hv => hK v w' (ST.new (Nat.lt_of_lt_of_le Rg1.out.lt hT.size) hN) (fun k h => copJ_new h hN) hv; rely_wp rfl (opr_fldR (by decide) rfl hF.1 (hK _ _ (NewT.refl _) rfl))
  · exact fun a wx hT hF K hK => have hK := fun v w' (hN : NewT wx w') hv => hK v w' (ST.new (Nat.lt_of_lt_of_le Rg1.out.lt hT.size) hN) (fun k h => copJ_new h hN) hv; rely_wp rfl (opr_ld1 Tryd.underlying30 rfl rfl hF.1 ((hT.cells 43 (by decide) (by decide)).trans (Rg1.out.cell (i := 43) (by decide))) (hK _ _ (NewT.refl _) rfl))
  · intro a wx hT hF K hK
    replace hK := fun v w' (hN : NewT wx w') hv => hK v w' (ST.new (Nat.lt_of_lt_of_le Rg1.out.lt hT.size) hN) (fun k h => copJ_new h hN) hv
    obtain ⟨f7, _⟩ := hF
    have f7 : a.tmps.getD 7 undef = dv := f7
    refine rely_wp rfl ?_
    refine opr_cv (bClone_cv dv x.data [] wx (((HM.out.rt hT.rt (by have := HG.out; omega))).rd HD.out) (by have := HLD.out; omega)) rfl Tryd.func38 (by kernel_rfl) (by kernel_rfl) (by simp only [List.map_toArray, List.map_cons, List.map_nil, eval_tmp, f7]) (fun v w' hN hv => hK v w' hN (RdVB.mono (B := wx.heap.size) hv ?_))
    exact hT.size
  · exact fun a wx hT hF K hK => have hK := fun v w' (hN : NewT wx w') hv => hK v w' (ST.new (Nat.lt_of_lt_of_le Rg1.out.lt hT.size) hN) (fun k h => copJ_new h hN) hv; rely_wp rfl (opr_fldR (by decide) rfl hF.1 (hK _ _ (NewT.refl _) rfl))
  · intro a wx hT hF hJ K hK
    obtain ⟨f9, f5, _⟩ := hF
    have f9 : a.tmps.getD 9 undef = .pointer (some ⟨g1, 42, none⟩) := f9
    replace f5 := show (svPairsS g1 W0.heap.size Rg1.out.lt x.steps).pred (a.tmps.getD 5 undef) wx from f5
    refine rely_wp rfl ?_
    refine opr_put1 rfl f9 rfl (show wx.rowIs g1 32 109 (recF x sv dv) from hJ) (by decide) info_s1 (oneP f5.1) (fun i _ => rs_steps x sv dv i _) ?_
    intro w' hT' hr'
    exact hK _ _ (st_put hT' hJ hr' (fun j _ hn => by rw [rs_steps x sv dv j, if_neg hn])) ⟨_, RdPB.rt f5 hT' Rg1.out.lt, hr'⟩ trivial
  · exact fun a wx hT hF K hK => have hK := fun v w' (hN : NewT wx w') hv => hK v w' (ST.new (Nat.lt_of_lt_of_le Rg1.out.lt hT.size) hN) (fun k h => copJ_new h hN) hv; rely_wp rfl (opr_fldR (by decide) rfl hF.1 (hK _ _ (NewT.refl _) rfl))
  · intro w1 k1 hJ
    iterate 2 (intro u h; obtain rfl := Eq.symm (h (by simp)); clear h)
    intro _ _
    iterate 2 (intro u h; obtain rfl := Eq.symm (h (by simp)); clear h)
    intro u8 h; have g8 := h (by simp); clear h; replace g8 := show (svRdS g1 W0.heap.size Rg1.out.lt x.data).pred u8 w1 from g8
    intro u h; obtain rfl := Eq.symm (h (by simp)); clear h
    intro _ _
    intro u h; obtain rfl := Eq.symm (h (by simp)); clear h
    refine relyEnd_nil rfl ?_
    simp only [Act.put, List.setIfInBounds_toArray, List.set_cons_zero, List.set_cons_succ]
    obtain ⟨su, hsu, hrow⟩ := hJ
    refine opr_put1 rfl rfl rfl hrow (by decide) info_d1 (oneR (RdVB.out g8)) (fun i _ => rs_data x su dv i u8) ?_
    intro w2 hT2 hr2
    replace hsu := RdPB.rt hsu hT2 Rg1.out.lt
    replace g8 := RdVB.rt g8 hT2 Rg1.out.lt
    go_simp
    have hRT := RT.trans _ _ _ k1.rt hT2
    have hg12 : g2 ≠ g1 := by have := HG.out; omega
    have hN2 := HM.out.rt hRT (by have := HG.out; omega)
    have r2 := hRT.row hg12 Rg2.out
    go_upto_region 2 with fail
    refine wp_region_steps0 NewT [SV.eq (.agg (rowA 109 (recF x su u8)))] [([(1, none)], none)] 12 1 rfl rfl (by kernel_rfl) NewT.trans (NewT.refl _) (Nat.le_of_ble_eq_true rfl) ⟨?_, trivial⟩ ?_
    · exact fun a wx hT hF K hK => rely_wp rfl (opr_ldR (hT.row hr2) rfl hF.1 (hK _ _ (NewT.refl _) rfl))
    · intro w9 k9
      intro u h; obtain rfl := Eq.symm (h (by simp)); clear h
      refine relyEnd_nil rfl ?_
      simp only [Act.put, List.setIfInBounds_toArray, List.set_cons_zero, List.set_cons_succ]
      refine wpList_plain rfl (fun K hK => ?_)
      refine opr_putm (g := g2) (o0 := 0) (m := 109) (f := recF x su u8) (F := recF x su u8) rfl rfl rfl (k9.row r2) (by decide) info_rec (recF_one _ _ _ (oneP hsu.1) (oneR g8.out)) (put_allN _ _ _) ?_
      intro W9 hR9 rr9
      refine hK _ _ ?_
      clear hK K
      refine wpList_end rfl ?_
      simp only [Act.put, List.setIfInBounds_toArray, List.set_cons_zero, List.set_cons_succ]
      go_simp
      go_wp2
      exact bodyPost_ret (results_agg rfl _ rfl rr9 Tryd.underlying32 rfl info_rec) rfl ⟨_, rfl, NewT.rt (NewT.trans _ _ _ hN2 k9) hR9 (by have := HG.out; omega), su, u8, rfl, (RdPB.rt (hsu.new k9) hR9 Rg2.out.lt).mono HSZ.out, (RdVB.rt (g8.new k9) hR9 Rg2.out.lt).mono HSZ.out⟩
theorem copyA_cv (L : List Nat) (v : Value) (x : Rc) (w : World) (hx : RecV w v x) (hl : x.steps.length ≤ 900000 ∧ x.data.length ≤ 900000) (hL : ∀ k ∈ L, k < w.heap.size) : Cv 28 #[v] w (svRecA L x) :=
  (copyOf_cv v x w hx hl).mono fun _ _ ⟨u, h1, h2, sv, dv, h3, h4, h5⟩ => ⟨u, h1, h2, _, h3, sv, dv, rfl, h4.apart hL, h5 L hL⟩
set_option maxHeartbeats 4000000 in
theorem Only_cv (v : Value) (l : List Rc) (n : Int) (w : World) (h : RdR w v l) (hl : l.length ≤ 1000) (hx : ∀ x ∈ l, x.steps.length ≤ 30 ∧ x.data.length ≤ 300) : Cv 13 #[v, .int .i64 n] w (svL 109 rcE (onlyL l n)) := by
  unfold Cv
  have HV := Lib.hid h
  have HLL := Lib.hid hl
  have HLX := Lib.hid hx
  clear h hl hx
  go_enter Tryd.func13, Tryd.ntmps13
  have HM := Lib.hid (NewT.refl w)
  go_upto_region 2 with fail
  refine wp_region_steps0 NewT [SV.eq (v), SV.eq (.int .i64 ((List.length (l) : Int))), SV.eq (.int .i64 (0))] [([(0, none)], none), ([(8, some 0)], none), ([], none)] 30 3 rfl rfl (by kernel_rfl) NewT.trans (NewT.refl _) (Nat.le_of_ble_eq_true rfl) ⟨?_, ?_, ?_, trivial⟩ ?_
  · exact fun a wx hT hF K hK => rely_wp rfl (opr_move (.inl rfl) (hK _ _ (NewT.refl _) hF.1))
  · intro a wx hT hF K hK
    obtain ⟨f8, _⟩ := hF
    have f8 : a.tmps.getD 8 undef = v := f8
    refine rely_wp rfl ?_
    exact opr_lenL rfl recEl (by rw [eval_tmp, f8]; exact (HV.out.new (NewT.trans _ _ _ HM.out hT))) (hK _ _ (NewT.refl _) rfl)
  · exact fun a wx hT hF K hK => rely_wp rfl (opr_move (.inl rfl) (hK _ _ (NewT.refl _) rfl))
  · intro w1 k1
    iterate 3 (intro u h; obtain rfl := Eq.symm (h (by simp)); clear h)
    refine relyEnd_nil rfl ?_
    refine wpList_end rfl ?_
    simp only [Act.put, List.setIfInBounds_toArray, List.set_cons_zero, List.set_cons_succ]
    go_simp
    replace HM := Lib.hid (NewT.trans _ _ _ HM.out k1)
    clear k1
    go_wp2
    go_loopw [5, 10] (fun o i wr => ∃ (k : Nat) (ov : Value), k ≤ l.length ∧ i = .int .i64 (k : Int) ∧ ov = o ∧ Hid (OwnR wr w.heap.size ov ((l.take k).filter (isOf n))) ∧ Hid (NewT w wr)) (fun _ i _ => l.length - (intOf i).toNat)
    case atStart => exact ⟨0, _, by omega, rfl, rfl, Lib.hid (ownR_nil _ _), HM⟩
    case round =>
      clear HM
      obtain ⟨k, ov, hk, rfl, rfl, HO, HM⟩ := hrel
      have hll := HLL.out
      by_cases hlt : k < l.length
      rotate_left
      · obtain rfl : k = l.length := by omega
        have HF : Hid (OwnR wr w.heap.size ov (onlyL l n)) := Lib.hid (by have := HO.out; rwa [List.take_length] at this)
        go_wp2
        go_ret
        exact ⟨_, rfl, HM.out, HF.out.rd⟩
      obtain ⟨x, hx⟩ : ∃ p, l[k]? = some p := ⟨_, List.getElem?_eq_getElem hlt⟩
      have HPP := Lib.hid hx
      have HXL := Lib.hid (HLX.out x (List.mem_of_getElem? hx))
      have it : (k : Int) < (l.length : Int) := by omega
      have HIT := Lib.hid it
      clear hx hlt
      obtain ⟨X, hX⟩ : ∃ X, (l.take k).filter (isOf n) = X := ⟨_, rfl⟩
      have HX0 := Lib.hid hX
      rw [hX] at HO
      have HXN : Hid (X.length ≤ 1000) := Lib.hid (by rw [← hX]; have := List.length_filter_le (isOf n) (l.take k); have := List.length_take_le k l; omega)
      clear hX
      go_upto_region 4 with fail
      refine wp_region_steps0 NewT [svEl 109 rcE (x), svRec (x)] [([(8, none), (10, none)], none), ([(12, some 0)], none)] 30 2 rfl rfl (by kernel_rfl) NewT.trans (NewT.refl _) (Nat.le_of_ble_eq_true rfl) ⟨?_, ?_, trivial⟩ ?_
      · intro a wx hT hF K hK
        obtain ⟨f8, f10, _⟩ := hF
        have f8 : a.tmps.getD 8 undef = v := f8
        have f10 : a.tmps.getD 10 undef = .int .i64 ((k : Int)) := f10
        refine rely_wp rfl ?_
        exact opr_idxL (i := k) (p := x) recEl (HPP.out) (rfl) rfl (by rw [eval_tmp, f8]; exact (HV.out.new (NewT.trans _ _ _ HM.out hT))) f10 (fun v hv => hK v _ (NewT.refl _) hv)
      · exact fun a wx hT hF K hK => rely_wp rfl (opr_ldRcE rfl hF.1 (fun u hu => hK u _ (NewT.refl _) hu))
      · intro w2 k2
        intro _ _
        intro u13 h; have g13 := h (by simp); clear h; replace g13 := show (svRec (x)).pred u13 w2 from g13
        refine relyEnd_nil rfl ?_
        simp only [Act.put, List.setIfInBounds_toArray, List.set_cons_zero, List.set_cons_succ]
        obtain ⟨su, dv, rfl, hsx, hd⟩ := (show RecV w2 u13 x from g13)
        refine wpList_new (n := 109) (f := recF x su dv) rfl rfl rfl rfl rfl rfl (by first | (simp; done) | simp [Act.put]) run_alloc_rec info_rec (recF_one _ _ _ (oneP hsx) (oneR hd)) rfl ?_
        intro W2 hn2 rr2
        refine wpList_end rfl ?_
        simp only [Act.put, List.setIfInBounds_toArray, List.set_cons_zero, List.set_cons_succ]
        go_simp
        obtain ⟨g7, h_g7⟩ : ∃ g_, w2.heap.size = g_ := ⟨_, rfl⟩
        rw [h_g7] at rr2
        simp only [h_g7]
        have HGg7 : Hid (w.heap.size ≤ g7) := Lib.hid (by rw [← h_g7]; exact (NewT.trans _ _ _ HM.out k2).out.size)
        have q2 := NewT.trans _ _ _ k2 hn2
        have HSX := Lib.hid (hn2.pairs hsx)
        have HD := Lib.hid (hn2.rd hd)
        have HX : Hid (RecV W2 (.agg (rowA 109 (recF x su dv))) x) := Lib.hid ⟨su, dv, rfl, HSX.out, HD.out⟩
        replace HO := Lib.hid (HO.out.new (NewT.trans _ _ _ k2 hn2))
        clear hsx hd
        clear k2 hn2 h_g7
        replace HM := Lib.hid (NewT.trans _ _ _ HM.out q2)
        clear q2
        have Rg7 := Lib.hid rr2
        clear rr2
        have HB := HM
        replace HM := Lib.hid (NewT.refl W2)
        go_upto_region 5 with fail
        refine wp_region_steps0 NewT [SV.eq (.pointer (some ⟨g7, 0, none⟩)), SV.eq (.int .i64 (x.kind)), SV.eq (.bool (ofB x.kind)), SV.eq (.bool (ofB x.kind)), svIf (ofB x.kind) (SV.eq (.pointer (some ⟨g7, 1, none⟩))), svIf (ofB x.kind) (SV.eq (.int .i64 (x.saga))), svIf (ofB x.kind) (SV.eq (.int .i64 (n))), svIf (ofB x.kind) (SV.eq (.bool (x.saga == n))), SV.eq (.bool ((ofB x.kind) && (x.saga == n)))] [([(7, none)], none), ([(14, some 0)], none), ([(15, some 1)], none), ([(16, some 2)], none), ([(7, none), (17, some 3)], some (17, true)), ([(18, some 4), (17, some 3)], some (17, true)), ([(1, none), (17, some 3)], some (17, true)), ([(19, some 5), (20, some 6), (17, some 3)], some (17, true)), ([(17, some 3), (21, some 7)], none)] 30 9 rfl rfl (by kernel_rfl) NewT.trans (NewT.refl _) (Nat.le_of_ble_eq_true rfl) ⟨?_, ?_, ?_, ?_, ?_, ?_, ?_, ?_, ?_, trivial⟩ ?_
        · exact fun a wx hT hF K hK => rely_wp rfl (opr_fldR (by decide) rfl hF.1 (hK _ _ (NewT.refl _) rfl))
        · exact fun a wx hT hF K hK => rely_wp rfl (opr_ldI (hT.row Rg7.out) (by decide) rfl rfl hF.1 (hK _ _ (NewT.refl _) rfl))
        · exact fun a wx hT hF K hK => rely_wp rfl (opr_cv (ofSaga_cv x.kind wx) rfl Tryd.func27 (by kernel_rfl) (by kernel_rfl) (evs1 hF.1) hK)
        · exact fun a wx hT hF K hK => rely_wp rfl (opr_move (.inl rfl) (hK _ _ (NewT.refl _) hF.1))
        · exact fun a wx hT hF K hK => rely_if (rely_gt hF.2.1) (NewT.refl _) hK fun hE hK => opr_fldR (by decide) rfl hF.1 (hK _ _ (NewT.refl _) rfl)
        · exact fun a wx hT hF K hK => rely_if (rely_gt hF.2.1) (NewT.refl _) hK fun hE hK => opr_ldI (hT.row Rg7.out) (by decide) rfl rfl (hF.1 hE) (hK _ _ (NewT.refl _) rfl)
        · exact fun a wx hT hF K hK => rely_if (rely_gt hF.2.1) (NewT.refl _) hK fun hE hK => opr_move (.inl rfl) (hK _ _ (NewT.refl _) hF.1)
        · exact fun a wx hT hF K hK => rely_if (rely_gt hF.2.2.1) (NewT.refl _) hK fun hE hK => opr_cmp (b := x.saga == n) (.inl ⟨rfl, rfl⟩) Tryd.underlying3 rfl (hF.1 hE) (hF.2.1 hE) (hK _ _ (NewT.refl _) rfl)
        · exact fun a wx hT hF K hK => rely_wp rfl (opr_pick_b rfl hF.1 (fun hb => hK _ _ (NewT.refl _) (pk_and1 (hF.2.1 hb) hb)) (fun hb => hK _ _ (NewT.refl _) (pk_and0 hb)))
        · intro w3 k3
          iterate 4 (intro u h; obtain rfl := Eq.symm (h (by simp)); clear h)
          iterate 4 (intro _ _)
          intro u h; obtain rfl := Eq.symm (h (by simp)); clear h
          refine relyEnd_nil rfl ?_
          refine wpList_end rfl ?_
          simp only [Act.put, List.setIfInBounds_toArray, List.set_cons_zero, List.set_cons_succ]
          go_simp
          replace Rg7 := Lib.hid (k3.row Rg7.out)
          replace HM := Lib.hid (NewT.trans _ _ _ HM.out k3)
          clear k3
          have HEX : Hid (((ofB x.kind) && (x.saga == n)) = isOf n x) := Lib.hid rfl
          cases hb : ((ofB x.kind) && (x.saga == n))
          · have he : isOf n x = false := HEX.out.symm.trans hb
            have HN : Hid (OwnR w3 w.heap.size ov ((l.take (k + 1)).filter (isOf n))) := Lib.hid (by rw [take_filter HPP.out, HX0.out, if_neg (by rw [he]; simp), List.append_nil]; exact HO.out.new HM.out)
            have hBM := NewT.trans _ _ _ HB.out HM.out
            clear hb he HEX
            have it2 := HIT.out
            go_wp2
            go_roundw
            case rel => exact ⟨k + 1, _, by omega, by go_num, rfl, by first | exact HN | trivial, Lib.hid hBM⟩
            case measure => simp [intOf]; omega
          · have he : isOf n x = true := HEX.out.symm.trans hb
            clear hb HEX
            replace HX := Lib.hid (HM.out.recV HX.out)
            replace HSX := Lib.hid (HM.out.pairs HSX.out)
            replace HD := Lib.hid (HM.out.rd HD.out)
            replace HO := Lib.hid (HO.out.new HM.out)
            replace HB := Lib.hid (NewT.trans _ _ _ HB.out HM.out)
            replace HM := Lib.hid (NewT.refl w3)
            go_upto_region 6 with fail
            refine wp_region_steps0 NewT [SV.eq (ov), SV.eq (.agg (rowA 109 (recF x su dv))), svRecA (Value.ownBlock ov).toList x, svRo (Value.ownBlock ov).toList x] [([(5, none)], none), ([(7, none)], none), ([(24, some 1)], none), ([(25, some 2)], none)] 30 4 rfl rfl (by kernel_rfl) NewT.trans (NewT.refl _) (Nat.le_of_ble_eq_true rfl) ⟨?_, ?_, ?_, ?_, trivial⟩ ?_
            · exact fun a wx hT hF K hK => rely_wp rfl (opr_move (.inl rfl) (hK _ _ (NewT.refl _) hF.1))
            · exact fun a wx hT hF K hK => rely_wp rfl (opr_ldR (hT.row Rg7.out) rfl hF.1 (hK _ _ (NewT.refl _) rfl))
            · exact fun a wx hT hF K hK => rely_wp rfl (opr_cv (copyA_cv _ _ x wx (((NewT.trans _ _ _ HM.out hT).recV HX.out)) (by have := HXL.out; omega) (fun k hk => Nat.lt_of_lt_of_le (HO.out.at_ k hk).2 hT.out.size)) rfl Tryd.func28 (by kernel_rfl) (by kernel_rfl) (evs1 hF.1) hK)
            · exact fun a wx hT hF K hK => rely_wp rfl (opr_bsRo rfl hF.1 (fun v w' hN hv => hK v w' hN hv))
            · intro w4 k4
              iterate 2 (intro u h; obtain rfl := Eq.symm (h (by simp)); clear h)
              intro _ _
              intro u26 h; have g26 := h (by simp); clear h; replace g26 := show (svRo (Value.ownBlock ov).toList x).pred u26 w4 from g26
              refine relyEnd_nil rfl ?_
              simp only [Act.put, List.setIfInBounds_toArray, List.set_cons_zero, List.set_cons_succ]
              obtain ⟨v2, w2, hrun, ho, hB⟩ := run_appR (HO.out.new k4) g26 (by have := HXN.out; omega) (Nat.le_trans HB.out.out.size k4.out.size) 22
              refine wpList_plain rfl (fun K hK => ?_)
              refine opr_append rfl rfl rfl hrun (hK _ _ ?_)
              clear hK K hrun
              simp only [Act.put, List.setIfInBounds_toArray, List.set_cons_zero, List.set_cons_succ]
              refine wpList_plain rfl (fun K hK => ?_)
              refine opr_move (.inr rfl) (hK _ _ ?_)
              clear hK K
              refine wpList_end rfl ?_
              simp only [Act.put, List.setIfInBounds_toArray, List.set_cons_zero, List.set_cons_succ]
              go_simp
              have HN : Hid (OwnR w2 w.heap.size v2 ((l.take (k + 1)).filter (isOf n))) := Lib.hid (by rw [take_filter HPP.out, HX0.out, if_pos he]; exact ho)
              have hBM : NewT w w2 := NewT.of ((NewT.trans _ _ _ HB.out k4).out.trans hB)
              have it2 := HIT.out
              clear HM HB HO
              go_wp2
              go_roundw
              case rel => exact ⟨k + 1, _, by omega, by go_num, rfl, by first | exact HN | trivial, Lib.hid hBM⟩
              case measure => simp [intOf]; omega
end Go.Proofs.YtilmeffmdgcblaaDoor
/- Package book: Report. -/
namespace Go.Proofs.YtilmeffmdgcblaaDoor
open Go Go.RowKit
set_option maxRecDepth 8000
set_option linter.all false
theorem build_line (p q : Int) (w : World) : (Instr.build 45 #[(0, .int .i64 p), (1, .int .i64 q)]).run Tryd.prog w = .ok (.agg (rowA 2 (stepF (p, q)))) w := by kernel_rfl
/-- Lines in a row of cells. -/
def LinesIn (F : Nat → Value) (l : List (Int × Int)) : Prop := ∀ (i : Nat) (p : Int × Int), l[i]? = some p → ∀ j, j < 2 → F (i * 2 + j) = stepF p j
theorem lines_put {F : Nat → Value} {L : List Ug} {k : Nat} {p : Ug} (h : LinesIn F ((repL L).take k)) (hp : L[k]? = some p) : LinesIn (fun z => if k * 2 ≤ z ∧ z < k * 2 + 2 then stepF (lineOf p) (z - k * 2) else F z) ((repL L).take (k + 1)) := by
  intro i q hq j hj
  have hl : (repL L)[k]? = some (lineOf p) := by simp [repL, hp]
  by_cases hi : i < k
  · have hq2 : ((repL L).take k)[i]? = some q := by
      rw [List.getElem?_take_of_lt (by omega)] at hq
      rw [List.getElem?_take_of_lt hi]; exact hq
    show (if _ then _ else _) = _
    rw [if_neg (by omega)]
    exact h i q hq2 j hj
  · have hi2 : i < k + 1 := by have := (List.getElem?_eq_some_iff.1 hq).1; rw [List.length_take] at this; omega
    obtain rfl : i = k := by omega
    rw [List.getElem?_take_of_lt (by omega), hl] at hq
    cases hq
    show (if _ then _ else _) = _
    rw [if_pos (by omega), show i * 2 + j - i * 2 = j by omega]
theorem rdN_lines {W : World} {g t m : Nat} {F : Nat → Value} {l : List (Int × Int)} (h : W.rowIs g t (m * 2) F) (hl : l.length = m) (hm : m ≤ 1000000) (hf : LinesIn F l) : RdN W (.slice (some ⟨g, 0, none⟩) m m) l := by
  subst hl
  have h1 := rdE_rowc (l := l.map stepF) h (by simp) (by unfold maxLen; omega) (fun i d hd j hj => by
    rw [List.getElem?_map] at hd
    cases hq : l[i]? with
    | none => rw [hq] at hd; cases hd
    | some q => rw [hq] at hd; cases hd; exact hf i q hq j hj)
  rw [List.length_map] at h1
  refine ⟨l.map stepF, h1, by simp, fun i p hp => ⟨stepF p, by simp [hp], rfl⟩⟩
set_option maxHeartbeats 4000000 in
theorem Report_cv (bv : Value) (bk : Bk) (w : World) (hb : BkV w bv bk) (hl : bk.sg.length ≤ 1000000) : Cv 9 #[bv] w (svL 2 lnE (repL bk.sg)) := by
  unfold Cv
  obtain ⟨sv, rfl, hsv⟩ := hb
  have HSV := Lib.hid hsv
  have HLL := Lib.hid hl
  clear hsv hl
  go_enter Tryd.func9, Tryd.ntmps9
  go_upto_region 1 with fail
  have r_g1 := rowIs_box w 37 5 (bkF bk.ep sv)
  have hN : NewT w (w.alloc (.cells (rowA 5 (bkF bk.ep sv)) 37)) := NewT.alloc _ _
  change Code.wp _ _ _ _ (w.alloc (.cells (rowA 5 (bkF bk.ep sv)) 37))
  generalize (w.alloc (.cells (rowA 5 (bkF bk.ep sv)) 37)) = W0 at r_g1 hN ⊢
  obtain ⟨g1, h_g1⟩ : ∃ g_, w.heap.size = g_ := ⟨_, rfl⟩
  have HG : Hid (w.heap.size ≤ g1) := Lib.hid (by omega)
  rw [h_g1] at r_g1
  simp only [h_g1]
  have Rg1 := Lib.hid r_g1
  have HM := Lib.hid hN
  clear r_g1 hN h_g1
  refine wp_region_steps0 NewT [SV.eq (.pointer (some ⟨g1, 4, none⟩)), SV.eq (sv), SV.eq (.int .i64 ((List.length (bk.sg) : Int)))] [([(1, none)], none), ([(6, some 0)], none), ([(7, some 1)], none)] 28 3 rfl rfl (by kernel_rfl) NewT.trans (NewT.refl _) (Nat.le_of_ble_eq_true rfl) ⟨?_, ?_, ?_, trivial⟩ ?_
  · exact fun a wx hT hF K hK => rely_wp rfl (opr_fldK1 rfl hF.1 (hK _ _ (NewT.refl _) rfl))
  · exact fun a wx hT hF K hK => rely_wp rfl (opr_ldUs (hT.row Rg1.out) (by decide) rfl rfl hF.1 (hK _ _ (NewT.refl _) rfl))
  · intro a wx hT hF K hK
    obtain ⟨f7, _⟩ := hF
    have f7 : a.tmps.getD 7 undef = sv := f7
    refine rely_wp rfl ?_
    exact opr_lenL rfl sagaEl (by rw [eval_tmp, f7]; exact (HSV.out.new (NewT.trans _ _ _ HM.out hT))) (hK _ _ (NewT.refl _) rfl)
  · intro w1 k1
    iterate 3 (intro u h; obtain rfl := Eq.symm (h (by simp)); clear h)
    refine relyEnd_nil rfl ?_
    simp only [Act.put, List.setIfInBounds_toArray, List.set_cons_zero, List.set_cons_succ]
    refine wpList_plain rfl (fun K hK => ?_)
    refine opr_mkN (m := bk.sg.length) HLL.out rfl rfl rfl (fun W1 hn1 rr1 => hK _ _ ?_)
    clear hK K
    simp only [Act.put, List.setIfInBounds_toArray, List.set_cons_zero, List.set_cons_succ]
    refine wpList_plain rfl (fun K hK => ?_)
    refine opr_move (.inr rfl) (hK _ _ ?_)
    clear hK K
    refine wpList_end rfl ?_
    simp only [Act.put, List.setIfInBounds_toArray, List.set_cons_zero, List.set_cons_succ]
    go_simp
    obtain ⟨gl, h_gl⟩ : ∃ g_, w1.heap.size = g_ := ⟨_, rfl⟩
    rw [h_gl] at rr1
    simp only [h_gl]
    have HGL : Hid (g1 < gl ∧ w.heap.size ≤ gl) := Lib.hid (by rw [← h_gl]; exact ⟨(k1.row Rg1.out).lt, (NewT.trans _ _ _ HM.out k1).out.size⟩)
    have q1 := NewT.trans _ _ _ k1 hn1
    clear k1 hn1 h_gl
    replace Rg1 := Lib.hid (q1.row Rg1.out)
    replace HM := Lib.hid (NewT.trans _ _ _ HM.out q1)
    clear q1
    have Rgl := Lib.hid rr1
    clear rr1
    go_upto_region 2 with fail
    refine wp_region_steps0 NewT [SV.eq (.pointer (some ⟨g1, 4, none⟩)), SV.eq (sv), SV.eq (.int .i64 ((List.length (bk.sg) : Int))), SV.eq (.int .i64 (0))] [([(1, none)], none), ([(10, some 0)], none), ([(11, some 1)], none), ([], none)] 28 4 rfl rfl (by kernel_rfl) NewT.trans (NewT.refl _) (Nat.le_of_ble_eq_true rfl) ⟨?_, ?_, ?_, ?_, trivial⟩ ?_
    · exact fun a wx hT hF K hK => rely_wp rfl (opr_fldK1 rfl hF.1 (hK _ _ (NewT.refl _) rfl))
    · exact fun a wx hT hF K hK => rely_wp rfl (opr_ldUs (hT.row Rg1.out) (by decide) rfl rfl hF.1 (hK _ _ (NewT.refl _) rfl))
    · intro a wx hT hF K hK
      obtain ⟨f11, _⟩ := hF
      have f11 : a.tmps.getD 11 undef = sv := f11
      refine rely_wp rfl ?_
      exact opr_lenL rfl sagaEl (by rw [eval_tmp, f11]; exact (HSV.out.new (NewT.trans _ _ _ HM.out hT))) (hK _ _ (NewT.refl _) rfl)
    · exact fun a wx hT hF K hK => rely_wp rfl (opr_move (.inl rfl) (hK _ _ (NewT.refl _) rfl))
    · intro w2 k2
      iterate 4 (intro u h; obtain rfl := Eq.symm (h (by simp)); clear h)
      refine relyEnd_nil rfl ?_
      refine wpList_end rfl ?_
      simp only [Act.put, List.setIfInBounds_toArray, List.set_cons_zero, List.set_cons_succ]
      go_simp
      replace Rg1 := Lib.hid (k2.row Rg1.out)
      replace HM := Lib.hid (NewT.trans _ _ _ HM.out k2)
      replace Rgl := Lib.hid (k2.row Rgl.out)
      clear k2
      go_wp2
      go_loopw [13] (fun i wr => ∃ (k : Nat) (F : Nat → Value), k ≤ bk.sg.length ∧ i = .int .i64 (k : Int) ∧ Hid (LinesIn F ((repL bk.sg).take k)) ∧ Hid (wr.rowIs gl 45 (bk.sg.length * 2) F) ∧ Hid (NewT w wr) ∧ Hid (wr.rowIs g1 37 5 (bkF bk.ep sv))) (fun i _ => bk.sg.length - (intOf i).toNat)
      case atStart => exact ⟨0, _, by omega, rfl, Lib.hid (fun i p hp => by simp at hp), Rgl, HM, Rg1⟩
      case round =>
        clear HM Rgl Rg1
        obtain ⟨k, F0, hk, rfl, HLI, Rgl, HM, Rg1⟩ := hrel
        have hll := HLL.out
        by_cases hlt : k < bk.sg.length
        rotate_left
        · obtain rfl : k = bk.sg.length := by omega
          have HF : Hid (LinesIn F0 (repL bk.sg)) := Lib.hid (by have := HLI.out; rwa [List.take_of_length_le (by simp [repL])] at this)
          go_wp2
          go_ret
          exact ⟨_, rfl, HM.out, rdN_lines Rgl.out (by simp [repL]) HLL.out HF.out⟩
        obtain ⟨p, hp⟩ : ∃ p, bk.sg[k]? = some p := ⟨_, List.getElem?_eq_getElem hlt⟩
        have HPP := Lib.hid hp
        have it : (k : Int) < (bk.sg.length : Int) := by omega
        have HIT := Lib.hid it
        have HKL := Lib.hid hlt
        clear hp hlt
        go_upto_region 4 with fail
        refine wp_region_steps0 NewT [SV.eq (.int .i64 ((k : Int))), svEl 10 sgE (p), svSg p.1 p.2] [([(13, none)], none), ([(11, none), (13, none)], none), ([(16, some 1)], none)] 28 3 rfl rfl (by kernel_rfl) NewT.trans (NewT.refl _) (Nat.le_of_ble_eq_true rfl) ⟨?_, ?_, ?_, trivial⟩ ?_
        · exact fun a wx hT hF K hK => rely_wp rfl (opr_move (.inl rfl) (hK _ _ (NewT.refl _) hF.1))
        · intro a wx hT hF K hK
          obtain ⟨f11, f13, _⟩ := hF
          have f11 : a.tmps.getD 11 undef = sv := f11
          have f13 : a.tmps.getD 13 undef = .int .i64 ((k : Int)) := f13
          refine rely_wp rfl ?_
          exact opr_idxL (i := k) (p := p) sagaEl (HPP.out) (rfl) rfl (by rw [eval_tmp, f11]; exact (HSV.out.new (NewT.trans _ _ _ HM.out hT))) f13 (fun v hv => hK v _ (NewT.refl _) hv)
        · exact fun a wx hT hF K hK => rely_wp rfl (opr_ldUg rfl hF.1 (fun u hu => hK u _ (NewT.refl _) hu))
        · intro w3 k3
          intro u h; obtain rfl := Eq.symm (h (by simp)); clear h
          intro _ _
          intro u17 h; have g17 := h (by simp); clear h; replace g17 := show (svSg p.1 p.2).pred u17 w3 from g17
          refine relyEnd_nil rfl ?_
          simp only [Act.put, List.setIfInBounds_toArray, List.set_cons_zero, List.set_cons_succ]
          obtain ⟨ts, rfl, hs⟩ := (show SgV w3 u17 p.1 p.2 from g17)
          refine wpList_newA (n := 10) (f := sgF ts p.2) rfl rfl rfl rfl rfl rfl rfl rfl (by decide) rfl (by first | (simp; done) | simp [Act.put]) (by kernel_rfl) run_alloc_saga info_saga (sgF_one _ _ (oneP hs)) ?_
          intro W3 hn3 rr3
          refine wpList_end rfl ?_
          simp only [Act.put, List.setIfInBounds_toArray, List.set_cons_zero, List.set_cons_succ]
          go_simp
          obtain ⟨g5, h_g5⟩ : ∃ g_, w3.heap.size = g_ := ⟨_, rfl⟩
          rw [h_g5] at rr3
          simp only [h_g5]
          have HGg5 : Hid (g1 < g5 ∧ gl < g5 ∧ w.heap.size ≤ g5) := Lib.hid (by rw [← h_g5]; exact ⟨(k3.row Rg1.out).lt, (k3.row Rgl.out).lt, (NewT.trans _ _ _ HM.out k3).out.size⟩)
          have q3 := NewT.trans _ _ _ k3 hn3
          have HTS := Lib.hid (hn3.pairs hs)
          clear hs
          clear k3 hn3 h_g5
          replace Rg1 := Lib.hid (q3.row Rg1.out)
          replace Rgl := Lib.hid (q3.row Rgl.out)
          replace HM := Lib.hid (NewT.trans _ _ _ HM.out q3)
          clear q3
          have Rg5 := Lib.hid rr3
          clear rr3
          go_upto_region 5 with fail
          refine wp_region_rely (NewT) [SV.eq ((.slice (some ⟨gl, 0, none⟩) bk.sg.length bk.sg.length)), SV.eq (.int .i64 ((k : Int))), SV.eq (.pointer (some ⟨g5, 1, none⟩)), SV.eq (.int .i64 (p.2.ph)), SV.eq (.agg (rowA 10 (sgF ts p.2))), SV.eq (.int .i64 (missG p.2)), SV.eq ((.agg (rowA 2 (stepF (lineOf p))))), SV.eq (.pointer (some ⟨gl, k * 2, none⟩))] [([(3, none)], none), ([(4, none)], none), ([(5, none)], none), ([(20, some 2)], none), ([(5, none)], none), ([(22, some 4)], none), ([(21, some 3), (23, some 5)], none), ([(18, some 0), (19, some 1)], none)] 28 rfl (by kernel_rfl) rfl (by kernel_rfl) (by kernel_rfl) rfl NewT.trans (NewT.drew _) (Nat.le_of_ble_eq_true rfl) ⟨?_, ?_, ?_, ?_, ?_, ?_, ?_, ?_, trivial⟩ ?_
          · exact fun a wx hT hF K hK => rely_wp rfl (opr_move (.inl rfl) (hK _ _ (NewT.refl _) hF.1))
          · exact fun a wx hT hF K hK => rely_wp rfl (opr_move (.inl rfl) (hK _ _ (NewT.refl _) hF.1))
          · exact fun a wx hT hF K hK => rely_wp rfl (opr_fldU1 rfl hF.1 (hK _ _ (NewT.refl _) rfl))
          · exact fun a wx hT hF K hK => rely_wp rfl (opr_ldI (hT.row Rg5.out) (by decide) rfl rfl hF.1 (hK _ _ (NewT.refl _) rfl))
          · exact fun a wx hT hF K hK => rely_wp rfl (opr_ldU (hT.row Rg5.out) rfl hF.1 (hK _ _ (NewT.refl _) rfl))
          · exact fun a wx hT hF K hK => rely_wp rfl (opr_cv (MissU_cv _ p.1 p.2 wx ((⟨ts, rfl, (hT.pairs HTS.out)⟩ : SgV wx _ p.1 p.2))) rfl Tryd.func21 (by kernel_rfl) (by kernel_rfl) (evs1 hF.1) hK)
          · intro a wx hT hF K hK
            obtain ⟨f21, f23, _⟩ := hF
            have f21 : a.tmps.getD 21 undef = .int .i64 (p.2.ph) := f21
            have f23 : a.tmps.getD 23 undef = .int .i64 (missG p.2) := f23
            refine rely_wp rfl ?_
            exact opr_build (pv := #[(0, .int .i64 p.2.ph), (1, .int .i64 (missG p.2))]) rfl (by simp only [List.map_toArray, List.map_cons, List.map_nil, eval_tmp, f21, f23]) (build_line p.2.ph (missG p.2) wx) (hK _ _ (NewT.refl _) rfl)
          · exact fun a wx hT hF K hK => rely_wp rfl (opr_idxX lineEl HKL.out rfl rfl hF.1 hF.2.1 (hK _ _ (NewT.refl _) rfl))
          · intro w4 k4
            iterate 8 (intro u h; obtain rfl := Eq.symm (h (by simp)); clear h)
            refine relyEnd_nil rfl ?_
            simp only [Act.put, List.setIfInBounds_toArray, List.set_cons_zero, List.set_cons_succ]
            refine opr_putm (g := gl) (o0 := k * 2) (m := 2) (f := stepF (lineOf p)) (F := (fun z => if k * 2 ≤ z ∧ z < k * 2 + 2 then stepF (lineOf p) (z - k * 2) else F0 z)) rfl rfl rfl (k4.row Rgl.out) (by have := HKL.out; omega) info_line (stepF_one _) (fun i _ => rfl) ?_
            intro W4 hR rr
            go_simp
            have HN := Lib.hid (lines_put HLI.out HPP.out)
            have hB := NewT.rt (NewT.trans _ _ _ HM.out k4) hR HGL.out.2
            have h1 := hR.row (b := g1) (by have := HGL.out; omega) (k4.row Rg1.out)
            have hkl := HKL.out
            clear HM Rg1 Rgl Rg5
            go_wp2
            go_roundw
            case rel => exact ⟨k + 1, _, by omega, by go_num, HN, Lib.hid rr, Lib.hid hB, Lib.hid h1⟩
            case measure => simp [intOf]; omega
end Go.Proofs.YtilmeffmdgcblaaDoor
/- The document's example of package book, as records; a slice of five records. -/
namespace Go.Proofs.YtilmeffmdgcblaaDoor
open Go Go.RowKit
set_option maxRecDepth 8000
set_option linter.all false
def exX : Rc := { zR with kind := 6, part := 1, epoch := 1 }
def exB : Rc := { zR with kind := 1, steps := [(1, 1)] }
def exI : Rc := { zR with kind := 2, seq := 1, tr := 1 }
def exA : Rc := { zR with kind := 3, seq := 2, tr := 1, good := true, part := 1, epoch := 1 }
def exC : Rc := { zR with kind := 5, seq := 3, nd := 2 }
def exR : List Rc := [exX, exB, exI, exA, exC]
def exK : Bk := wentK 2 zK exX
theorem ex_goes : goesK 2 zK exX = true ∧ goesK 2 exK exX = false := by decide +kernel
theorem ex_n : nOf 2 zK exR = 5 ∧ nOf 2 zK (exR.drop 1) = 2 := by decide +kernel
theorem ex_rep : repL (bkOf 2 exR).sg = [(2, 0)] := by decide +kernel
theorem ex_same : sameK exK (bkOf 2 exR) = false := by decide +kernel
theorem ex_only : (onlyL exR 0).length = 4 := by decide +kernel
theorem ex_len : (bkOf 2 exR).sg.length = 1 ∧ exK.sg.length = 0 ∧ exR.length = 5 := by decide +kernel
theorem ex_ok : OkK zK ∧ OkK exK := ⟨good_ok (good_zero 2) (by omega), good_ok (good_step (good_zero 2) ex_goes.1) (by omega)⟩
theorem build_exX (w : World) : (Instr.build 32 #[(0, .int .i64 6), (8, .int .i64 1), (9, .int .i64 1)]).run Tryd.prog w = .ok (.agg (rowA 109 (recF exX (.slice none 0 0) (.slice none 0 0)))) w := by kernel_rfl
theorem build_exB (A : Option Addr) (n c : Nat) (w : World) : (Instr.build 32 #[(0, .int .i64 1), (11, .slice A n c)]).run Tryd.prog w = .ok (.agg (rowA 109 (recF exB (.slice A n c) (.slice none 0 0)))) w := by kernel_rfl
theorem build_exI (w : World) : (Instr.build 32 #[(0, .int .i64 2), (2, .int .i64 1), (4, .int .i64 1)]).run Tryd.prog w = .ok (.agg (rowA 109 (recF exI (.slice none 0 0) (.slice none 0 0)))) w := by kernel_rfl
theorem build_exA (w : World) : (Instr.build 32 #[(0, .int .i64 3), (2, .int .i64 2), (4, .int .i64 1), (6, .bool true), (8, .int .i64 1), (9, .int .i64 1)]).run Tryd.prog w = .ok (.agg (rowA 109 (recF exA (.slice none 0 0) (.slice none 0 0)))) w := by kernel_rfl
theorem build_exC (w : World) : (Instr.build 32 #[(0, .int .i64 5), (2, .int .i64 3), (7, .int .i64 2)]).run Tryd.prog w = .ok (.agg (rowA 109 (recF exC (.slice none 0 0) (.slice none 0 0)))) w := by kernel_rfl
theorem build_stp (w : World) : (Instr.build 50 #[(0, .int .i64 1), (1, .int .i64 1)]).run Tryd.prog w = .ok (.agg (rowA 2 (stepF (1, 1)))) w := by kernel_rfl
theorem run_bsS1 (d : Int × Int) (w : World) : (Instr.buildSlice 29 1 #[(0, .agg (rowA 2 (stepF d)))]).run Tryd.prog w = .ok (.slice (some ⟨w.heap.size, 0, none⟩) 1 1) (w.alloc (.cells (rowA 2 (stepF d)) 50)) := by kernel_rfl
theorem recV_nilB {w : World} {x : Rc} (hs : x.steps = []) (hd : x.data = []) : RecV w (.agg (rowA 109 (recF x (.slice none 0 0) (.slice none 0 0)))) x :=
  ⟨_, _, rfl, by rw [hs]; exact rdP_nil w, by rw [hd]; exact rdV_nil w []⟩
def cat5 (f0 f1 f2 f3 f4 : Nat → Value) (i : Nat) : Value := bif Nat.blt i 109 then f0 i else bif Nat.blt i 218 then f1 (i - 109) else bif Nat.blt i 327 then f2 (i - 218) else bif Nat.blt i 436 then f3 (i - 327) else f4 (i - 436)
theorem run_bsR5 (f0 f1 f2 f3 f4 : Nat → Value) (w : World) : (Instr.buildSlice 22 5 #[(0, .agg (rowA 109 f0)), (1, .agg (rowA 109 f1)), (2, .agg (rowA 109 f2)), (3, .agg (rowA 109 f3)), (4, .agg (rowA 109 f4))]).run Tryd.prog w = .ok (.slice (some ⟨w.heap.size, 0, none⟩) 5 5) (w.alloc (.cells (rowA 545 (cat5 f0 f1 f2 f3 f4)) 32)) := by kernel_rfl
theorem cat5_at (f0 f1 f2 f3 f4 : Nat → Value) : ∀ (i : Nat) (d : Nat → Value), [f0, f1, f2, f3, f4][i]? = some d → ∀ j, j < 109 → cat5 f0 f1 f2 f3 f4 (i * 109 + j) = d j := by
  intro i d hd j hj
  have hi : i < 5 := (List.getElem?_eq_some_iff.1 hd).1
  have : i = 0 ∨ i = 1 ∨ i = 2 ∨ i = 3 ∨ i = 4 := by omega
  have bt : ∀ a b : Nat, a < b → Nat.blt a b = true := fun a b h => by rw [Nat.blt_eq]; exact h
  have bf : ∀ a b : Nat, ¬ a < b → Nat.blt a b = false := fun a b h => by rw [Bool.eq_false_iff]; intro e; rw [Nat.blt_eq] at e; exact h e
  unfold cat5
  rcases this with rfl | rfl | rfl | rfl | rfl <;> (simp at hd; subst hd)
  · rw [bt _ _ (by omega)]; simp
  · rw [bf _ 109 (by omega), bt _ 218 (by omega)]; simp
  · rw [bf _ 109 (by omega), bf _ 218 (by omega), bt _ 327 (by omega)]; simp
  · rw [bf _ 109 (by omega), bf _ 218 (by omega), bf _ 327 (by omega), bt _ 436 (by omega)]; simp
  · rw [bf _ 109 (by omega), bf _ 218 (by omega), bf _ 327 (by omega), bf _ 436 (by omega)]; simp
section
variable {a : Act} {w : World} {o : Oper} {K : Act → World → Prop} {Q : Exit → Act → World → Prop} {x y y0 y1 y2 y3 y4 : Operand}
theorem opr_bsS1 {d : Int × Int} (ho : o.op = .buildSlice 29 1 #[(0, x)]) (hx : a.eval x = .agg (rowA 2 (stepF d))) (h : ∀ v w', NewT w w' → (svPairs [d]).pred v w' → K (a.put o.dst v) w') : o.wp Tryd.prog a w K Q := by
  obtain ⟨dst, op, type, pos, after, guard⟩ := o
  simp only at ho
  subst ho
  refine opr_val (s := Instr.buildSlice 29 1 #[(0, a.eval x)]) (by simp [execOp]) (by rw [hx]; exact run_bsS1 d w) (h _ _ (NewT.alloc _ _) ?_)
  have hr := rowIs_box w 50 2 (stepF d)
  refine ⟨some ⟨w.heap.size, 0, none⟩, 1, rfl, Nat.le_refl _, by unfold maxLen; omega, fun _ => ⟨w.heap.size, 0, rfl, fun i hi => ?_⟩⟩
  obtain rfl : i = 0 := by simp at hi; exact hi
  exact ⟨hr.cell (i := 0) (by omega), hr.cell (i := 1) (by omega)⟩
theorem opr_bldB (ho : o.op = .build 32 #[(0, .const (.int .i64 1)), (11, x)]) (hx : (svPairs [(1, 1)]).pred (a.eval x) w) (h : ∀ v, RecV w v exB → K (a.put o.dst v) w) : o.wp Tryd.prog a w K Q := by
  have hr : RdP w (a.eval x) [(1, 1)] := hx
  have hr0 := hr
  obtain ⟨A, c, hv, _⟩ := hr
  rw [hv] at hr0
  exact opr_build (pv := #[(0, .int .i64 1), (11, a.eval x)]) ho (by simp only [List.map_toArray, List.map_cons, List.map_nil, eval_const]) (by rw [hv]; exact build_exB A _ c w) (h _ ⟨_, _, rfl, hr0, rdV_nil w []⟩)
theorem opr_bsR5 {x0 x1 x2 x3 x4 : Rc} (ho : o.op = .buildSlice 22 5 #[(0, y0), (1, y1), (2, y2), (3, y3), (4, y4)]) (h0 : RecV w (a.eval y0) x0) (h1 : RecV w (a.eval y1) x1) (h2 : RecV w (a.eval y2) x2) (h3 : RecV w (a.eval y3) x3) (h4 : RecV w (a.eval y4) x4)
    (h : ∀ v w', NewT w w' → RdR w' v [x0, x1, x2, x3, x4] → K (a.put o.dst v) w') : o.wp Tryd.prog a w K Q := by
  obtain ⟨dst, op, type, pos, after, guard⟩ := o
  simp only at ho
  subst ho
  obtain ⟨s0, d0, e0, p0, q0⟩ := h0
  obtain ⟨s1, d1, e1, p1, q1⟩ := h1
  obtain ⟨s2, d2, e2, p2, q2⟩ := h2
  obtain ⟨s3, d3, e3, p3, q3⟩ := h3
  obtain ⟨s4, d4, e4, p4, q4⟩ := h4
  have hN := NewT.alloc w (.cells (rowA 545 (cat5 (recF x0 s0 d0) (recF x1 s1 d1) (recF x2 s2 d2) (recF x3 s3 d3) (recF x4 s4 d4))) 32)
  refine opr_val (s := Instr.buildSlice 22 5 #[(0, a.eval y0), (1, a.eval y1), (2, a.eval y2), (3, a.eval y3), (4, a.eval y4)]) (by simp [execOp]) (by rw [e0, e1, e2, e3, e4]; exact run_bsR5 _ _ _ _ _ w) (h _ _ hN ?_)
  refine ⟨[recF x0 s0 d0, recF x1 s1 d1, recF x2 s2 d2, recF x3 s3 d3, recF x4 s4 d4], rdE_rowc (c := 5) (l := [recF x0 s0 d0, recF x1 s1 d1, recF x2 s2 d2, recF x3 s3 d3, recF x4 s4 d4]) (rowIs_box w _ 545 _) (by simp) (by unfold maxLen; omega) (cat5_at _ _ _ _ _), rfl, fun i p hp => ?_⟩
  have hi : i < 5 := (List.getElem?_eq_some_iff.1 hp).1
  have : i = 0 ∨ i = 1 ∨ i = 2 ∨ i = 3 ∨ i = 4 := by omega
  rcases this with rfl | rfl | rfl | rfl | rfl <;> (simp at hp; subst hp)
  · exact ⟨_, rfl, _, _, rfl, hN.pairs p0, hN.rd q0⟩
  · exact ⟨_, rfl, _, _, rfl, hN.pairs p1, hN.rd q1⟩
  · exact ⟨_, rfl, _, _, rfl, hN.pairs p2, hN.rd q2⟩
  · exact ⟨_, rfl, _, _, rfl, hN.pairs p3, hN.rd q3⟩
  · exact ⟨_, rfl, _, _, rfl, hN.pairs p4, hN.rd q4⟩
end
end Go.Proofs.YtilmeffmdgcblaaDoor
/- The laws' question whether package book answers as the document's example. -/
namespace Go.Proofs.YtilmeffmdgcblaaDoor
open Go Go.RowKit
set_option maxRecDepth 8000
set_option linter.all false
theorem svBkRB_le {f : Nat} {vs : Array Value} {w : World} {D : Nat} {bk k2 : Bk} {u u2 : Value} (h : Cv f vs w (svBkRB D bk u)) (hb : bk = k2) (hu : u = u2) : Cv f vs w (svBkRB 0 k2 u2) := by
  subst hb hu
  exact h.mono fun _ _ ⟨v, h1, h2, b, h3, h4⟩ => ⟨v, h1, h2, b, h3, h4.mono (Nat.zero_le _)⟩
set_option maxHeartbeats 8000000 in
theorem alive12_c (w : World) : Cv 4 #[] w (.eq (.bool true)) := by
  unfold Cv
  go_enter Tryd.func4, Tryd.ntmps4
  have HM := Lib.hid (NewT.refl w)
  have HB := Lib.hid (NewT.refl w)
  obtain ⟨x, HX⟩ := hid_ex exX
  obtain ⟨k1, HK1⟩ := hid_ex exK
  obtain ⟨l, HL⟩ := hid_ex exR
  obtain ⟨ka, HKA⟩ := hid_ex (bkOf 2 exR)
  obtain ⟨kb, HKB⟩ := hid_ex (bkOf 2 (exR.drop 1))
  have HX0 : Hid (x.steps = [] ∧ x.data = []) := Lib.hid (by rw [← HX.out]; exact ⟨rfl, rfl⟩)
  have HW1 : Hid (wentK 2 zK x = k1) := Lib.hid (by rw [← HX.out, ← HK1.out]; rfl)
  have HG1 : Hid (goesK 2 zK x = true) := Lib.hid (by rw [← HX.out]; exact ex_goes.1)
  have HG2 : Hid (goesK 2 k1 x = false) := Lib.hid (by rw [← HX.out, ← HK1.out]; exact ex_goes.2)
  have HO1 : Hid (OkK k1) := Lib.hid (by rw [← HK1.out]; exact ex_ok.2)
  have HNA : Hid (nOf 2 zK l = 5 ∧ nOf 2 zK (l.drop 1) = 2) := Lib.hid (by rw [← HL.out]; exact ex_n)
  have HOA : Hid (bkOf 2 l = ka ∧ bkOf 2 (l.drop 1) = kb) := Lib.hid (by rw [← HL.out]; exact ⟨HKA.out, HKB.out⟩)
  have HLE : Hid (ka.sg.length = 1 ∧ k1.sg.length = 0 ∧ l.length = 5) := Lib.hid (by rw [← HL.out, ← HKA.out, ← HK1.out]; exact ex_len)
  have HRP : Hid (repL ka.sg = [(2, 0)]) := Lib.hid (by rw [← HKA.out]; exact ex_rep)
  have HSM : Hid (sameK ka ka = true ∧ sameK k1 ka = false) := Lib.hid ⟨sameK_self ka, by rw [← HK1.out, ← HKA.out]; exact ex_same⟩
  have HON : Hid ((onlyL l 0).length = 4) := Lib.hid (by rw [← HL.out]; exact ex_only)
  have HLG : Hid (∀ y ∈ l, y.steps.length ≤ 30 ∧ y.data.length ≤ 300) := Lib.hid (by rw [← HL.out]; intro y hy; simp [exR] at hy; rcases hy with rfl | rfl | rfl | rfl | rfl <;> simp [exX, exB, exI, exA, exC, zR])
  have HL5 : Hid ([x, exB, exI, exA, exC] = l) := Lib.hid (by rw [← HX.out]; exact HL.out)
  go_upto_region 1 with fail
  refine wp_region_steps0 NewT [SV.eq ((.agg (rowA 109 (recF x (.slice none 0 0) (.slice none 0 0)))))] [([], none)] 97 1 rfl rfl (by kernel_rfl) NewT.trans (NewT.refl _) (Nat.le_of_ble_eq_true rfl) ⟨?_, trivial⟩ ?_
  · intro a wx hT hF K hK
    refine rely_wp rfl ?_
    exact opr_build (pv := #[(0, .int .i64 6), (8, .int .i64 1), (9, .int .i64 1)]) rfl (by simp only [List.map_toArray, List.map_cons, List.map_nil, eval_const]) (HX.out ▸ build_exX wx) (hK _ _ (NewT.refl _) rfl)
  · intro w1 k1
    intro u h; obtain rfl := Eq.symm (h (by simp)); clear h
    refine relyEnd_nil rfl ?_
    simp only [Act.put, List.setIfInBounds_toArray, List.set_cons_zero, List.set_cons_succ]
    refine wpList_new (n := 109) (f := recF x (.slice none 0 0) (.slice none 0 0)) rfl rfl rfl rfl rfl rfl (by first | (simp; done) | simp [Act.put]) run_alloc_rec info_rec (recF_one _ _ _ rfl rfl) rfl ?_
    intro W1 hn1 rr1
    refine wpList_end rfl ?_
    simp only [Act.put, List.setIfInBounds_toArray, List.set_cons_zero, List.set_cons_succ]
    go_simp
    obtain ⟨g1, h_g1⟩ : ∃ g_, w1.heap.size = g_ := ⟨_, rfl⟩
    rw [h_g1] at rr1
    simp only [h_g1]
    have HGg1 : Hid (w.heap.size ≤ g1) := Lib.hid (by rw [← h_g1]; exact (NewT.trans _ _ _ HM.out k1).out.size)
    have q1 := NewT.trans _ _ _ k1 hn1
    clear k1 hn1 h_g1
    replace HM := Lib.hid (NewT.trans _ _ _ HM.out q1)
    clear q1
    have Rg1 := Lib.hid rr1
    clear rr1
    go_upto_region 2 with fail
    refine wp_region_steps0 NewT [SV.eq ((.agg (rowA 5 (bkF zK.ep (.slice none 0 0))))), SV.eq (.agg (rowA 109 (recF x (.slice none 0 0) (.slice none 0 0)))), svBkRB 0 k1 (.bool true), svBkRB 0 k1 (.bool true), svBkB (0) k1, SV.eq (.bool true)] [([], none), ([(1, none)], none), ([(14, some 0), (15, some 1)], none), ([(16, some 2)], none), ([(13, some 3)], none), ([(13, some 3)], none)] 97 6 rfl rfl (by kernel_rfl) NewT.trans (NewT.refl _) (Nat.le_of_ble_eq_true rfl) ⟨?_, ?_, ?_, ?_, ?_, ?_, trivial⟩ ?_
    · exact fun a wx hT hF K hK => rely_wp rfl (opr_build (pv := #[]) rfl (by simp) (build_book0 wx) (hK _ _ (NewT.refl _) rfl))
    · exact fun a wx hT hF K hK => rely_wp rfl (opr_ldR (hT.row Rg1.out) rfl hF.1 (hK _ _ (NewT.refl _) rfl))
    · exact fun a wx hT hF K hK => rely_wp rfl (opr_cv (svBkRB_le (bGo_cv 0 _ _ zK x 2 wx (⟨(.slice none 0 0), rfl, rdUB_nil wx 0⟩) ((recV_nilB HX0.out.1 HX0.out.2)) ex_ok.1 (Nat.zero_le _)) HW1.out (congrArg Value.bool HG1.out)) rfl Tryd.func11 (by kernel_rfl) (by kernel_rfl) (evs3 hF.1 hF.2.1 rfl) hK)
    · exact fun a wx hT hF K hK => rely_wp rfl (opr_move (.inl rfl) (hK _ _ (NewT.refl _) hF.1))
    · exact fun a wx hT hF K hK => rely_wp rfl (opr_extKB0 rfl hF.1 (fun u hu => hK u _ (NewT.refl _) hu))
    · exact fun a wx hT hF K hK => rely_wp rfl (opr_extKB1 rfl hF.1 (hK _ _ (NewT.refl _) rfl))
    · intro w2 k2
      iterate 2 (intro u h; obtain rfl := Eq.symm (h (by simp)); clear h)
      iterate 2 (intro _ _)
      intro u17 h; have g17 := h (by simp); clear h; replace g17 := show (svBkB (0) k1).pred u17 w2 from g17
      intro u h; obtain rfl := Eq.symm (h (by simp)); clear h
      refine relyEnd_nil rfl ?_
      simp only [Act.put, List.setIfInBounds_toArray, List.set_cons_zero, List.set_cons_succ]
      obtain ⟨s2, rfl, hs2⟩ := (show BkVB w2 (0) u17 k1 from g17)
      refine wpList_new (n := 5) (f := bkF k1.ep s2) rfl rfl rfl rfl rfl rfl (by first | (simp; done) | simp [Act.put]) run_alloc_book info_book (bkF_one _ _ hs2.rd.one) rfl ?_
      intro W2 hn2 rr2
      simp only [Act.put, List.setIfInBounds_toArray, List.set_cons_zero, List.set_cons_succ]
      refine wpList_plain rfl (fun K hK => ?_)
      refine opr_move (.inr rfl) (hK _ _ ?_)
      clear hK K
      refine wpList_end rfl ?_
      simp only [Act.put, List.setIfInBounds_toArray, List.set_cons_zero, List.set_cons_succ]
      go_simp
      obtain ⟨g2, h_g2⟩ : ∃ g_, w2.heap.size = g_ := ⟨_, rfl⟩
      rw [h_g2] at rr2
      simp only [h_g2]
      have HGg2 : Hid (g1 < g2 ∧ w.heap.size ≤ g2) := Lib.hid (by rw [← h_g2]; exact ⟨(k2.row Rg1.out).lt, (NewT.trans _ _ _ HM.out k2).out.size⟩)
      have q2 := NewT.trans _ _ _ k2 hn2
      have HS2 := Lib.hid (hs2.new hn2)
      clear hs2
      clear k2 hn2 h_g2
      replace Rg1 := Lib.hid (q2.row Rg1.out)
      replace HM := Lib.hid (NewT.trans _ _ _ HM.out q2)
      clear q2
      have Rg2 := Lib.hid rr2
      clear rr2
      replace HB := Lib.hid (NewT.trans _ _ _ HB.out HM.out)
      replace HM := Lib.hid (NewT.refl W2)
      go_upto_region 3 with fail
      refine wp_region_steps0 NewT [SV.eq (.agg (rowA 5 (bkF k1.ep s2))), SV.eq (.agg (rowA 109 (recF x (.slice none 0 0) (.slice none 0 0)))), svBkRB 0 (wentK 2 k1 x) (.bool false), svBkRB 0 (wentK 2 k1 x) (.bool false), svBkB (0) ((wentK 2 k1 x)), SV.eq (.bool false)] [([(2, none)], none), ([(1, none)], none), ([(20, some 0), (21, some 1)], none), ([(22, some 2)], none), ([(19, some 3)], none), ([(19, some 3)], none)] 97 6 rfl rfl (by kernel_rfl) NewT.trans (NewT.refl _) (Nat.le_of_ble_eq_true rfl) ⟨?_, ?_, ?_, ?_, ?_, ?_, trivial⟩ ?_
      · exact fun a wx hT hF K hK => rely_wp rfl (opr_ldK (hT.row Rg2.out) rfl hF.1 (hK _ _ (NewT.refl _) rfl))
      · exact fun a wx hT hF K hK => rely_wp rfl (opr_ldR (hT.row Rg1.out) rfl hF.1 (hK _ _ (NewT.refl _) rfl))
      · exact fun a wx hT hF K hK => rely_wp rfl (opr_cv (svBkRB_le (bGo_cv 0 _ _ k1 x 2 wx (⟨s2, rfl, HS2.out.new (NewT.trans _ _ _ HM.out hT)⟩) ((recV_nilB HX0.out.1 HX0.out.2)) HO1.out (Nat.zero_le _)) rfl (congrArg Value.bool HG2.out)) rfl Tryd.func11 (by kernel_rfl) (by kernel_rfl) (evs3 hF.1 hF.2.1 rfl) hK)
      · exact fun a wx hT hF K hK => rely_wp rfl (opr_move (.inl rfl) (hK _ _ (NewT.refl _) hF.1))
      · exact fun a wx hT hF K hK => rely_wp rfl (opr_extKB0 rfl hF.1 (fun u hu => hK u _ (NewT.refl _) hu))
      · exact fun a wx hT hF K hK => rely_wp rfl (opr_extKB1 rfl hF.1 (hK _ _ (NewT.refl _) rfl))
      · intro w3 k3
        iterate 2 (intro u h; obtain rfl := Eq.symm (h (by simp)); clear h)
        iterate 2 (intro _ _)
        intro u23 h; have g23 := h (by simp); clear h; replace g23 := show (svBkB (0) ((wentK 2 k1 x))).pred u23 w3 from g23
        intro u h; obtain rfl := Eq.symm (h (by simp)); clear h
        refine relyEnd_nil rfl ?_
        simp only [Act.put, List.setIfInBounds_toArray, List.set_cons_zero, List.set_cons_succ]
        obtain ⟨s4, rfl, hs4⟩ := (show BkVB w3 (0) u23 ((wentK 2 k1 x)) from g23)
        refine wpList_new (n := 5) (f := bkF ((wentK 2 k1 x)).ep s4) rfl rfl rfl rfl rfl rfl (by first | (simp; done) | simp [Act.put]) run_alloc_book info_book (bkF_one _ _ hs4.rd.one) rfl ?_
        intro W3 hn3 rr3
        simp only [Act.put, List.setIfInBounds_toArray, List.set_cons_zero, List.set_cons_succ]
        refine wpList_plain rfl (fun K hK => ?_)
        refine opr_move (.inr rfl) (hK _ _ ?_)
        clear hK K
        refine wpList_end rfl ?_
        simp only [Act.put, List.setIfInBounds_toArray, List.set_cons_zero, List.set_cons_succ]
        go_simp
        obtain ⟨g4, h_g4⟩ : ∃ g_, w3.heap.size = g_ := ⟨_, rfl⟩
        rw [h_g4] at rr3
        simp only [h_g4]
        have HGg4 : Hid (g1 < g4 ∧ g2 < g4 ∧ W2.heap.size ≤ g4) := Lib.hid (by rw [← h_g4]; exact ⟨(k3.row Rg1.out).lt, (k3.row Rg2.out).lt, (NewT.trans _ _ _ HM.out k3).out.size⟩)
        have q3 := NewT.trans _ _ _ k3 hn3
        have HS4 := Lib.hid (hs4.new hn3)
        clear hs4
        clear k3 hn3 h_g4
        replace Rg1 := Lib.hid (q3.row Rg1.out)
        replace Rg2 := Lib.hid (q3.row Rg2.out)
        replace HM := Lib.hid (NewT.trans _ _ _ HM.out q3)
        clear q3
        have Rg4 := Lib.hid rr3
        clear rr3
        replace HS2 := Lib.hid (HS2.out.new HM.out)
        replace HB := Lib.hid (NewT.trans _ _ _ HB.out HM.out)
        replace HM := Lib.hid (NewT.refl W3)
        go_upto_region 4 with fail
        refine wp_region_steps0 NewT [SV.eq (.agg (rowA 109 (recF x (.slice none 0 0) (.slice none 0 0)))), SV.eq ((.agg (rowA 2 (stepF (1, 1))))), svPairs [(1, 1)], svRec exB, SV.eq ((.agg (rowA 109 (recF exI (.slice none 0 0) (.slice none 0 0))))), SV.eq ((.agg (rowA 109 (recF exA (.slice none 0 0) (.slice none 0 0))))), SV.eq ((.agg (rowA 109 (recF exC (.slice none 0 0) (.slice none 0 0))))), svL 109 rcE l] [([(1, none)], none), ([], none), ([(26, some 1)], none), ([(27, some 2)], none), ([], none), ([], none), ([], none), ([(25, some 0), (28, some 3), (29, some 4), (30, some 5), (31, some 6)], none)] 97 8 rfl rfl (by kernel_rfl) NewT.trans (NewT.refl _) (Nat.le_of_ble_eq_true rfl) ⟨?_, ?_, ?_, ?_, ?_, ?_, ?_, ?_, trivial⟩ ?_
        · exact fun a wx hT hF K hK => rely_wp rfl (opr_ldR (hT.row Rg1.out) rfl hF.1 (hK _ _ (NewT.refl _) rfl))
        · intro a wx hT hF K hK
          refine rely_wp rfl ?_
          exact opr_build (pv := #[(0, .int .i64 1), (1, .int .i64 1)]) rfl (by simp only [List.map_toArray, List.map_cons, List.map_nil, eval_const]) (build_stp wx) (hK _ _ (NewT.refl _) rfl)
        · exact fun a wx hT hF K hK => rely_wp rfl (opr_bsS1 rfl hF.1 (fun v w' hN hv => hK v w' hN hv))
        · exact fun a wx hT hF K hK => rely_wp rfl (opr_bldB rfl hF.1 (fun v hv => hK v _ (NewT.refl _) hv))
        · intro a wx hT hF K hK
          refine rely_wp rfl ?_
          exact opr_build (pv := #[(0, .int .i64 2), (2, .int .i64 1), (4, .int .i64 1)]) rfl (by simp only [List.map_toArray, List.map_cons, List.map_nil, eval_const]) (build_exI wx) (hK _ _ (NewT.refl _) rfl)
        · intro a wx hT hF K hK
          refine rely_wp rfl ?_
          exact opr_build (pv := #[(0, .int .i64 3), (2, .int .i64 2), (4, .int .i64 1), (6, .bool true), (8, .int .i64 1), (9, .int .i64 1)]) rfl (by simp only [List.map_toArray, List.map_cons, List.map_nil, eval_const]) (build_exA wx) (hK _ _ (NewT.refl _) rfl)
        · intro a wx hT hF K hK
          refine rely_wp rfl ?_
          exact opr_build (pv := #[(0, .int .i64 5), (2, .int .i64 3), (7, .int .i64 2)]) rfl (by simp only [List.map_toArray, List.map_cons, List.map_nil, eval_const]) (build_exC wx) (hK _ _ (NewT.refl _) rfl)
        · intro a wx hT hF K hK
          obtain ⟨f25, f28, f29, f30, f31, _⟩ := hF
          have f25 : a.tmps.getD 25 undef = .agg (rowA 109 (recF x (.slice none 0 0) (.slice none 0 0))) := f25
          replace f28 := show (svRec exB).pred (a.tmps.getD 28 undef) wx from f28
          have f29 : a.tmps.getD 29 undef = (.agg (rowA 109 (recF exI (.slice none 0 0) (.slice none 0 0)))) := f29
          have f30 : a.tmps.getD 30 undef = (.agg (rowA 109 (recF exA (.slice none 0 0) (.slice none 0 0)))) := f30
          have f31 : a.tmps.getD 31 undef = (.agg (rowA 109 (recF exC (.slice none 0 0) (.slice none 0 0)))) := f31
          refine rely_wp rfl ?_
          exact opr_bsR5 rfl (by rw [eval_tmp, f25]; exact recV_nilB HX0.out.1 HX0.out.2) f28 (by rw [eval_tmp, f29]; exact recV_nilB rfl rfl) (by rw [eval_tmp, f30]; exact recV_nilB rfl rfl) (by rw [eval_tmp, f31]; exact recV_nilB rfl rfl) (fun v w' hN hv => hK v w' hN (show RdR w' v l from (HL5.out ▸ hv)))
        · intro w4 k4
          iterate 2 (intro u h; obtain rfl := Eq.symm (h (by simp)); clear h)
          iterate 2 (intro _ _)
          iterate 3 (intro u h; obtain rfl := Eq.symm (h (by simp)); clear h)
          intro u32 h; have g32 := h (by simp); clear h; replace g32 := show (svL 109 rcE l).pred u32 w4 from g32
          refine relyEnd_nil rfl ?_
          simp only [Act.put, List.setIfInBounds_toArray, List.set_cons_zero, List.set_cons_succ]
          refine wpList_plain rfl (fun K hK => ?_)
          refine opr_move (.inr rfl) (hK _ _ ?_)
          clear hK K
          refine wpList_end rfl ?_
          simp only [Act.put, List.setIfInBounds_toArray, List.set_cons_zero, List.set_cons_succ]
          go_simp
          replace Rg1 := Lib.hid (k4.row Rg1.out)
          replace Rg2 := Lib.hid (k4.row Rg2.out)
          replace Rg4 := Lib.hid (k4.row Rg4.out)
          replace HM := Lib.hid (NewT.trans _ _ _ HM.out k4)
          clear k4
          have HLV : Hid (RdR w4 u32 l) := Lib.hid g32
          replace HS2 := Lib.hid (HS2.out.new HM.out)
          replace HS4 := Lib.hid (HS4.out.new HM.out)
          replace HB := Lib.hid (NewT.trans _ _ _ HB.out HM.out)
          replace HM := Lib.hid (NewT.refl w4)
          go_upto_region 5 with fail
          refine wp_region_steps0 NewT [SV.eq (u32), svBkRB 0 ka (.int .i64 5), svBkRB 0 ka (.int .i64 5), svBkB (0) ka, SV.eq (.int .i64 (5))] [([(6, none)], none), ([(34, some 0)], none), ([(35, some 1)], none), ([(33, some 2)], none), ([(33, some 2)], none)] 97 5 rfl rfl (by kernel_rfl) NewT.trans (NewT.refl _) (Nat.le_of_ble_eq_true rfl) ⟨?_, ?_, ?_, ?_, ?_, trivial⟩ ?_
          · exact fun a wx hT hF K hK => rely_wp rfl (opr_move (.inl rfl) (hK _ _ (NewT.refl _) hF.1))
          · exact fun a wx hT hF K hK => rely_wp rfl (opr_cv (svBkRB_le (bkOf_cv _ l 2 wx ((HLV.out.new (NewT.trans _ _ _ HM.out hT))) (by have := HLE.out; omega)) HOA.out.1 (congrArg (fun n : Nat => Value.int .i64 (n : Int)) HNA.out.1)) rfl Tryd.func7 (by kernel_rfl) (by kernel_rfl) (evs2 hF.1 rfl) hK)
          · exact fun a wx hT hF K hK => rely_wp rfl (opr_move (.inl rfl) (hK _ _ (NewT.refl _) hF.1))
          · exact fun a wx hT hF K hK => rely_wp rfl (opr_extKB0 rfl hF.1 (fun u hu => hK u _ (NewT.refl _) hu))
          · exact fun a wx hT hF K hK => rely_wp rfl (opr_extKB1 rfl hF.1 (hK _ _ (NewT.refl _) rfl))
          · intro w5 k5
            intro u h; obtain rfl := Eq.symm (h (by simp)); clear h
            iterate 2 (intro _ _)
            intro u36 h; have g36 := h (by simp); clear h; replace g36 := show (svBkB (0) ka).pred u36 w5 from g36
            intro u h; obtain rfl := Eq.symm (h (by simp)); clear h
            refine relyEnd_nil rfl ?_
            simp only [Act.put, List.setIfInBounds_toArray, List.set_cons_zero, List.set_cons_succ]
            obtain ⟨s7, rfl, hs7⟩ := (show BkVB w5 (0) u36 ka from g36)
            refine wpList_new (n := 5) (f := bkF ka.ep s7) rfl rfl rfl rfl rfl rfl (by first | (simp; done) | simp [Act.put]) run_alloc_book info_book (bkF_one _ _ hs7.rd.one) rfl ?_
            intro W5 hn5 rr5
            simp only [Act.put, List.setIfInBounds_toArray, List.set_cons_zero, List.set_cons_succ]
            refine wpList_plain rfl (fun K hK => ?_)
            refine opr_move (.inr rfl) (hK _ _ ?_)
            clear hK K
            refine wpList_end rfl ?_
            simp only [Act.put, List.setIfInBounds_toArray, List.set_cons_zero, List.set_cons_succ]
            go_simp
            obtain ⟨g7, h_g7⟩ : ∃ g_, w5.heap.size = g_ := ⟨_, rfl⟩
            rw [h_g7] at rr5
            simp only [h_g7]
            have HGg7 : Hid (g1 < g7 ∧ g2 < g7 ∧ g4 < g7 ∧ w4.heap.size ≤ g7) := Lib.hid (by rw [← h_g7]; exact ⟨(k5.row Rg1.out).lt, (k5.row Rg2.out).lt, (k5.row Rg4.out).lt, (NewT.trans _ _ _ HM.out k5).out.size⟩)
            have q5 := NewT.trans _ _ _ k5 hn5
            have HS7 := Lib.hid (hs7.new hn5)
            clear hs7
            clear k5 hn5 h_g7
            replace Rg1 := Lib.hid (q5.row Rg1.out)
            replace Rg2 := Lib.hid (q5.row Rg2.out)
            replace Rg4 := Lib.hid (q5.row Rg4.out)
            replace HM := Lib.hid (NewT.trans _ _ _ HM.out q5)
            clear q5
            have Rg7 := Lib.hid rr5
            clear rr5
            replace HS2 := Lib.hid (HS2.out.new HM.out)
            replace HS4 := Lib.hid (HS4.out.new HM.out)
            replace HLV := Lib.hid (HLV.out.new HM.out)
            replace HB := Lib.hid (NewT.trans _ _ _ HB.out HM.out)
            replace HM := Lib.hid (NewT.refl W5)
            go_upto_region 6 with fail
            refine wp_region_steps0 NewT [SV.eq (.agg (rowA 5 (bkF ka.ep s7))), svL 2 lnE (repL ka.sg), svL 2 lnE (repL ka.sg)] [([(7, none)], none), ([(38, some 0)], none), ([(39, some 1)], none)] 97 3 rfl rfl (by kernel_rfl) NewT.trans (NewT.refl _) (Nat.le_of_ble_eq_true rfl) ⟨?_, ?_, ?_, trivial⟩ ?_
            · exact fun a wx hT hF K hK => rely_wp rfl (opr_ldK (hT.row Rg7.out) rfl hF.1 (hK _ _ (NewT.refl _) rfl))
            · exact fun a wx hT hF K hK => rely_wp rfl (opr_cv (Report_cv _ ka wx ((show BkVB wx _ _ ka from ⟨s7, rfl, HS7.out.new (NewT.trans _ _ _ HM.out hT)⟩).rd) ((by have := HLE.out; omega))) rfl Tryd.func9 (by kernel_rfl) (by kernel_rfl) (evs1 hF.1) hK)
            · exact fun a wx hT hF K hK => rely_wp rfl (opr_move (.inr rfl) (hK _ _ (NewT.refl _) hF.1))
            · intro w6 k6
              intro u h; obtain rfl := Eq.symm (h (by simp)); clear h
              intro _ _
              intro u9 h; have g9 := h (by simp); clear h; replace g9 := show (svL 2 lnE (repL ka.sg)).pred u9 w6 from g9
              refine relyEnd_nil rfl ?_
              refine wpList_end rfl ?_
              simp only [Act.put, List.setIfInBounds_toArray, List.set_cons_zero, List.set_cons_succ]
              go_simp
              replace Rg1 := Lib.hid (k6.row Rg1.out)
              replace Rg2 := Lib.hid (k6.row Rg2.out)
              replace Rg4 := Lib.hid (k6.row Rg4.out)
              replace Rg7 := Lib.hid (k6.row Rg7.out)
              replace HM := Lib.hid (NewT.trans _ _ _ HM.out k6)
              clear k6
              have HRV : Hid (RdN w6 u9 (repL ka.sg)) := Lib.hid g9
              replace HS2 := Lib.hid (HS2.out.new HM.out)
              replace HS4 := Lib.hid (HS4.out.new HM.out)
              replace HLV := Lib.hid (HLV.out.new HM.out)
              replace HS7 := Lib.hid (HS7.out.new HM.out)
              replace HB := Lib.hid (NewT.trans _ _ _ HB.out HM.out)
              replace HM := Lib.hid (NewT.refl w6)
              go_upto_region 7 with fail
              refine wp_region_steps0 NewT [SV.eq (u32), svL 109 rcE (List.drop 1 l), svBkRB 0 kb (.int .i64 2), svBkRB 0 kb (.int .i64 2), svBkB (0) kb, SV.eq (.int .i64 (2))] [([(6, none)], none), ([(41, some 0)], none), ([(42, some 1)], none), ([(43, some 2)], none), ([(40, some 3)], none), ([(40, some 3)], none)] 97 6 rfl rfl (by kernel_rfl) NewT.trans (NewT.refl _) (Nat.le_of_ble_eq_true rfl) ⟨?_, ?_, ?_, ?_, ?_, ?_, trivial⟩ ?_
              · exact fun a wx hT hF K hK => rely_wp rfl (opr_move (.inl rfl) (hK _ _ (NewT.refl _) hF.1))
              · intro a wx hT hF K hK
                obtain ⟨f41, _⟩ := hF
                have f41 : a.tmps.getD 41 undef = u32 := f41
                refine rely_wp rfl ?_
                exact opr_fromL (k := 1) recEl (by have := HLE.out; omega) (rfl) rfl (by rw [eval_tmp, f41]; exact (HLV.out.new (NewT.trans _ _ _ HM.out hT))) rfl (fun v hv => hK v _ (NewT.refl _) hv)
              · exact fun a wx hT hF K hK => rely_wp rfl (opr_cv (svBkRB_le (bkOf_cv _ (l.drop 1) 2 wx (hF.1) (by have := HLE.out; rw [List.length_drop]; omega)) HOA.out.2 (congrArg (fun n : Nat => Value.int .i64 (n : Int)) HNA.out.2)) rfl Tryd.func7 (by kernel_rfl) (by kernel_rfl) (evs2 rfl rfl) hK)
              · exact fun a wx hT hF K hK => rely_wp rfl (opr_move (.inl rfl) (hK _ _ (NewT.refl _) hF.1))
              · exact fun a wx hT hF K hK => rely_wp rfl (opr_extKB0 rfl hF.1 (fun u hu => hK u _ (NewT.refl _) hu))
              · exact fun a wx hT hF K hK => rely_wp rfl (opr_extKB1 rfl hF.1 (hK _ _ (NewT.refl _) rfl))
              · intro w7 k7
                intro u h; obtain rfl := Eq.symm (h (by simp)); clear h
                iterate 3 (intro _ _)
                intro u44 h; have g44 := h (by simp); clear h; replace g44 := show (svBkB (0) kb).pred u44 w7 from g44
                intro u h; obtain rfl := Eq.symm (h (by simp)); clear h
                refine relyEnd_nil rfl ?_
                simp only [Act.put, List.setIfInBounds_toArray, List.set_cons_zero, List.set_cons_succ]
                obtain ⟨s10, rfl, hs10⟩ := (show BkVB w7 (0) u44 kb from g44)
                refine wpList_new (n := 5) (f := bkF kb.ep s10) rfl rfl rfl rfl rfl rfl (by first | (simp; done) | simp [Act.put]) run_alloc_book info_book (bkF_one _ _ hs10.rd.one) rfl ?_
                intro W7 hn7 rr7
                simp only [Act.put, List.setIfInBounds_toArray, List.set_cons_zero, List.set_cons_succ]
                refine wpList_plain rfl (fun K hK => ?_)
                refine opr_move (.inr rfl) (hK _ _ ?_)
                clear hK K
                refine wpList_end rfl ?_
                simp only [Act.put, List.setIfInBounds_toArray, List.set_cons_zero, List.set_cons_succ]
                go_simp
                obtain ⟨g10, h_g10⟩ : ∃ g_, w7.heap.size = g_ := ⟨_, rfl⟩
                rw [h_g10] at rr7
                simp only [h_g10]
                have HGg10 : Hid (g1 < g10 ∧ g2 < g10 ∧ g4 < g10 ∧ g7 < g10 ∧ w6.heap.size ≤ g10) := Lib.hid (by rw [← h_g10]; exact ⟨(k7.row Rg1.out).lt, (k7.row Rg2.out).lt, (k7.row Rg4.out).lt, (k7.row Rg7.out).lt, (NewT.trans _ _ _ HM.out k7).out.size⟩)
                have q7 := NewT.trans _ _ _ k7 hn7
                have HS10 := Lib.hid (hs10.new hn7)
                clear hs10
                clear k7 hn7 h_g10
                replace Rg1 := Lib.hid (q7.row Rg1.out)
                replace Rg2 := Lib.hid (q7.row Rg2.out)
                replace Rg4 := Lib.hid (q7.row Rg4.out)
                replace Rg7 := Lib.hid (q7.row Rg7.out)
                replace HM := Lib.hid (NewT.trans _ _ _ HM.out q7)
                clear q7
                have Rg10 := Lib.hid rr7
                clear rr7
                replace HS2 := Lib.hid (HS2.out.new HM.out)
                replace HS4 := Lib.hid (HS4.out.new HM.out)
                replace HLV := Lib.hid (HLV.out.new HM.out)
                replace HS7 := Lib.hid (HS7.out.new HM.out)
                replace HRV := Lib.hid (HRV.out.new HM.out)
                replace HB := Lib.hid (NewT.trans _ _ _ HB.out HM.out)
                replace HM := Lib.hid (NewT.refl W7)
                go_upto_region 8 with fail
                refine wp_region_steps0 NewT [SV.eq (.bool true), SV.eq (.bool true), SV.eq (.bool false), SV.eq (.bool true), SV.eq (.bool true), SV.eq (.bool true), SV.eq (.int .i64 (5)), SV.eq (.bool true), SV.eq (.bool true), SV.eq (.bool true), SV.eq (.int .i64 (2)), SV.eq (.bool true), SV.eq (.bool true), SV.eq (.bool true), SV.eq (u9), SV.eq (.int .i64 ((List.length (repL ka.sg) : Int))), SV.eq (.bool true), SV.eq (.bool true), SV.eq (.bool true), SV.eq (u9), svEl 2 lnE (((2 : Int), (0 : Int))), svIp ((((2 : Int), (0 : Int))).1), SV.eq (.int .i64 ((((2 : Int), (0 : Int))).1)), SV.eq (.bool true), SV.eq (.bool true), SV.eq (.bool true), SV.eq (u9), SV.eq (.bool true), SV.eq (.bool true), SV.eq (.bool true), SV.eq (.agg (rowA 5 (bkF ka.ep s7))), SV.eq (.agg (rowA 5 (bkF ka.ep s7))), SV.eq (.bool true), SV.eq (.bool true), SV.eq (.bool true), SV.eq (.agg (rowA 5 (bkF k1.ep s2))), SV.eq (.agg (rowA 5 (bkF ka.ep s7))), SV.eq (.bool false), SV.eq (.bool true), SV.eq (.bool true), SV.eq (.bool true), SV.eq (u9), SV.eq (u9), SV.eq (.bool true), SV.eq (.bool true), SV.eq (.bool true), SV.eq (u32), svL 109 rcE (onlyL l 0), SV.eq (.int .i64 ((List.length (onlyL l 0) : Int))), SV.eq (.bool true), SV.eq (.bool true)] [([(3, none)], none), ([(46, some 0)], none), ([(5, none), (47, some 1)], some (47, true)), ([(48, some 2), (47, some 1)], some (47, true)), ([(47, some 1), (49, some 3)], none), ([(50, some 4)], none), ([(8, none), (51, some 5)], some (51, true)), ([(52, some 6), (51, some 5)], some (51, true)), ([(51, some 5), (53, some 7)], none), ([(54, some 8)], none), ([(11, none), (55, some 9)], some (55, true)), ([(56, some 10), (55, some 9)], some (55, true)), ([(55, some 9), (57, some 11)], none), ([(58, some 12)], none), ([(9, none), (59, some 13)], some (59, true)), ([(60, some 14), (59, some 13)], some (59, true)), ([(61, some 15), (59, some 13)], some (59, true)), ([(59, some 13), (62, some 16)], none), ([(63, some 17)], none), ([(9, none), (64, some 18)], some (64, true)), ([(65, some 19), (64, some 18)], some (64, true)), ([(66, some 20), (64, some 18)], some (64, true)), ([(67, some 21), (64, some 18)], some (64, true)), ([(68, some 22), (64, some 18)], some (64, true)), ([(64, some 18), (69, some 23)], none), ([(70, some 24)], none), ([(9, none), (71, some 25)], some (71, true)), ([(72, some 26), (71, some 25)], some (71, true)), ([(71, some 25), (73, some 27)], none), ([(74, some 28)], none), ([(7, none), (75, some 29)], some (75, true)), ([(7, none), (75, some 29)], some (75, true)), ([(76, some 30), (77, some 31), (75, some 29)], some (75, true)), ([(75, some 29), (78, some 32)], none), ([(79, some 33)], none), ([(2, none), (80, some 34)], some (80, true)), ([(7, none), (80, some 34)], some (80, true)), ([(81, some 35), (82, some 36), (80, some 34)], some (80, true)), ([(83, some 37), (80, some 34)], some (80, true)), ([(80, some 34), (84, some 38)], none), ([(85, some 39)], none), ([(9, none), (86, some 40)], some (86, true)), ([(9, none), (86, some 40)], some (86, true)), ([(87, some 41), (88, some 42), (86, some 40)], some (86, true)), ([(86, some 40), (89, some 43)], none), ([(90, some 44)], none), ([(6, none), (91, some 45)], some (91, true)), ([(92, some 46), (91, some 45)], some (91, true)), ([(93, some 47), (91, some 45)], some (91, true)), ([(94, some 48), (91, some 45)], some (91, true)), ([(91, some 45), (95, some 49)], none)] 97 51 rfl rfl (by kernel_rfl) NewT.trans (NewT.refl _) (Nat.le_of_ble_eq_true rfl) ⟨?_, ?_, ?_, ?_, ?_, ?_, ?_, ?_, ?_, ?_, ?_, ?_, ?_, ?_, ?_, ?_, ?_, ?_, ?_, ?_, ?_, ?_, ?_, ?_, ?_, ?_, ?_, ?_, ?_, ?_, ?_, ?_, ?_, ?_, ?_, ?_, ?_, ?_, ?_, ?_, ?_, ?_, ?_, ?_, ?_, ?_, ?_, ?_, ?_, ?_, ?_, trivial⟩ ?_
                · exact fun a wx hT hF K hK => rely_wp rfl (opr_move (.inl rfl) (hK _ _ (NewT.refl _) hF.1))
                · exact fun a wx hT hF K hK => rely_wp rfl (opr_move (.inl rfl) (hK _ _ (NewT.refl _) hF.1))
                · exact fun a wx hT hF K hK => rely_wp (rely_guard hF.2.1) (opr_move (.inl rfl) (hK _ _ (NewT.refl _) hF.1))
                · exact fun a wx hT hF K hK => rely_wp (rely_guard hF.2.1) (opr_not rfl hF.1 (hK _ _ (NewT.refl _) rfl))
                · exact fun a wx hT hF K hK => rely_wp rfl (opr_pick_true rfl hF.1 (hK _ _ (NewT.refl _) hF.2.1))
                · exact fun a wx hT hF K hK => rely_wp rfl (opr_move (.inl rfl) (hK _ _ (NewT.refl _) hF.1))
                · exact fun a wx hT hF K hK => rely_wp (rely_guard hF.2.1) (opr_move (.inl rfl) (hK _ _ (NewT.refl _) hF.1))
                · exact fun a wx hT hF K hK => rely_wp (rely_guard hF.2.1) (opr_cmp (b := true) (.inl ⟨rfl, (by decide)⟩) Tryd.underlying3 rfl hF.1 rfl (hK _ _ (NewT.refl _) rfl))
                · exact fun a wx hT hF K hK => rely_wp rfl (opr_pick_true rfl hF.1 (hK _ _ (NewT.refl _) hF.2.1))
                · exact fun a wx hT hF K hK => rely_wp rfl (opr_move (.inl rfl) (hK _ _ (NewT.refl _) hF.1))
                · exact fun a wx hT hF K hK => rely_wp (rely_guard hF.2.1) (opr_move (.inl rfl) (hK _ _ (NewT.refl _) hF.1))
                · exact fun a wx hT hF K hK => rely_wp (rely_guard hF.2.1) (opr_cmp (b := true) (.inl ⟨rfl, (by decide)⟩) Tryd.underlying3 rfl hF.1 rfl (hK _ _ (NewT.refl _) rfl))
                · exact fun a wx hT hF K hK => rely_wp rfl (opr_pick_true rfl hF.1 (hK _ _ (NewT.refl _) hF.2.1))
                · exact fun a wx hT hF K hK => rely_wp rfl (opr_move (.inl rfl) (hK _ _ (NewT.refl _) hF.1))
                · exact fun a wx hT hF K hK => rely_wp (rely_guard hF.2.1) (opr_move (.inl rfl) (hK _ _ (NewT.refl _) hF.1))
                · intro a wx hT hF K hK
                  obtain ⟨f60, f59, _⟩ := hF
                  have f60 : a.tmps.getD 60 undef = u9 := f60
                  have f59 : a.tmps.getD 59 undef = .bool true := f59
                  refine rely_wp (rely_guard f59) ?_
                  exact opr_lenL rfl lineEl (by rw [eval_tmp, f60]; exact (HRV.out.new (NewT.trans _ _ _ HM.out hT))) (hK _ _ (NewT.refl _) rfl)
                · exact fun a wx hT hF K hK => rely_wp (rely_guard hF.2.1) (opr_cmp (b := true) (.inl ⟨rfl, (by rw [HRP.out]; rfl)⟩) Tryd.underlying3 rfl hF.1 rfl (hK _ _ (NewT.refl _) rfl))
                · exact fun a wx hT hF K hK => rely_wp rfl (opr_pick_true rfl hF.1 (hK _ _ (NewT.refl _) hF.2.1))
                · exact fun a wx hT hF K hK => rely_wp rfl (opr_move (.inl rfl) (hK _ _ (NewT.refl _) hF.1))
                · exact fun a wx hT hF K hK => rely_wp (rely_guard hF.2.1) (opr_move (.inl rfl) (hK _ _ (NewT.refl _) hF.1))
                · intro a wx hT hF K hK
                  obtain ⟨f65, f64, _⟩ := hF
                  have f65 : a.tmps.getD 65 undef = u9 := f65
                  have f64 : a.tmps.getD 64 undef = .bool true := f64
                  refine rely_wp (rely_guard f64) ?_
                  exact opr_idxL (i := 0) (p := ((2 : Int), (0 : Int))) lineEl (show (repL ka.sg)[0]? = some (2, 0) by rw [HRP.out]; rfl) (rfl) rfl (by rw [eval_tmp, f65]; exact (HRV.out.new (NewT.trans _ _ _ HM.out hT))) rfl (fun v hv => hK v _ (NewT.refl _) hv)
                · exact fun a wx hT hF K hK => rely_wp (rely_guard hF.2.1) (opr_fldNe0 rfl hF.1 (fun u hu => hK u _ (NewT.refl _) hu))
                · exact fun a wx hT hF K hK => rely_wp (rely_guard hF.2.1) (opr_ldIp rfl hF.1 (hK _ _ (NewT.refl _) rfl))
                · exact fun a wx hT hF K hK => rely_wp (rely_guard hF.2.1) (opr_cmp (b := true) (.inl ⟨rfl, (by rfl)⟩) Tryd.underlying3 rfl hF.1 rfl (hK _ _ (NewT.refl _) rfl))
                · exact fun a wx hT hF K hK => rely_wp rfl (opr_pick_true rfl hF.1 (hK _ _ (NewT.refl _) hF.2.1))
                · exact fun a wx hT hF K hK => rely_wp rfl (opr_move (.inl rfl) (hK _ _ (NewT.refl _) hF.1))
                · exact fun a wx hT hF K hK => rely_wp (rely_guard hF.2.1) (opr_move (.inl rfl) (hK _ _ (NewT.refl _) hF.1))
                · exact fun a wx hT hF K hK => rely_wp (rely_guard hF.2.1) (opr_cv ((show cleanL (repL ka.sg) = true by rw [HRP.out]; rfl) ▸ Clean_cv _ (repL ka.sg) wx ((HRV.out.new (NewT.trans _ _ _ HM.out hT))) (by rw [HRP.out]; simp)) rfl Tryd.func10 (by kernel_rfl) (by kernel_rfl) (evs1 hF.1) hK)
                · exact fun a wx hT hF K hK => rely_wp rfl (opr_pick_true rfl hF.1 (hK _ _ (NewT.refl _) hF.2.1))
                · exact fun a wx hT hF K hK => rely_wp rfl (opr_move (.inl rfl) (hK _ _ (NewT.refl _) hF.1))
                · exact fun a wx hT hF K hK => rely_wp (rely_guard hF.2.1) (opr_ldK (hT.row Rg7.out) rfl hF.1 (hK _ _ (NewT.refl _) rfl))
                · exact fun a wx hT hF K hK => rely_wp (rely_guard hF.2.1) (opr_ldK (hT.row Rg7.out) rfl hF.1 (hK _ _ (NewT.refl _) rfl))
                · exact fun a wx hT hF K hK => rely_wp (rely_guard hF.2.2.1) (opr_cv (HSM.out.1 ▸ bSame_cv _ _ ka ka wx (BkVB.rd ⟨s7, rfl, HS7.out.new (NewT.trans _ _ _ HM.out hT)⟩) (BkVB.rd ⟨s7, rfl, HS7.out.new (NewT.trans _ _ _ HM.out hT)⟩) (by have := HLE.out; omega)) rfl Tryd.func8 (by kernel_rfl) (by kernel_rfl) (evs2 hF.1 hF.2.1) hK)
                · exact fun a wx hT hF K hK => rely_wp rfl (opr_pick_true rfl hF.1 (hK _ _ (NewT.refl _) hF.2.1))
                · exact fun a wx hT hF K hK => rely_wp rfl (opr_move (.inl rfl) (hK _ _ (NewT.refl _) hF.1))
                · exact fun a wx hT hF K hK => rely_wp (rely_guard hF.2.1) (opr_ldK (hT.row Rg2.out) rfl hF.1 (hK _ _ (NewT.refl _) rfl))
                · exact fun a wx hT hF K hK => rely_wp (rely_guard hF.2.1) (opr_ldK (hT.row Rg7.out) rfl hF.1 (hK _ _ (NewT.refl _) rfl))
                · exact fun a wx hT hF K hK => rely_wp (rely_guard hF.2.2.1) (opr_cv (HSM.out.2 ▸ bSame_cv _ _ k1 ka wx (BkVB.rd ⟨s2, rfl, HS2.out.new (NewT.trans _ _ _ HM.out hT)⟩) (BkVB.rd ⟨s7, rfl, HS7.out.new (NewT.trans _ _ _ HM.out hT)⟩) (by have := HLE.out; omega)) rfl Tryd.func8 (by kernel_rfl) (by kernel_rfl) (evs2 hF.1 hF.2.1) hK)
                · exact fun a wx hT hF K hK => rely_wp (rely_guard hF.2.1) (opr_not rfl hF.1 (hK _ _ (NewT.refl _) rfl))
                · exact fun a wx hT hF K hK => rely_wp rfl (opr_pick_true rfl hF.1 (hK _ _ (NewT.refl _) hF.2.1))
                · exact fun a wx hT hF K hK => rely_wp rfl (opr_move (.inl rfl) (hK _ _ (NewT.refl _) hF.1))
                · exact fun a wx hT hF K hK => rely_wp (rely_guard hF.2.1) (opr_move (.inl rfl) (hK _ _ (NewT.refl _) hF.1))
                · exact fun a wx hT hF K hK => rely_wp (rely_guard hF.2.1) (opr_move (.inl rfl) (hK _ _ (NewT.refl _) hF.1))
                · exact fun a wx hT hF K hK => rely_wp (rely_guard hF.2.2.1) (opr_cv ((sameLs_self (d := (0, 0)) (e := eqN) (repL ka.sg) (fun p => by simp [eqN])) ▸ bLines_cv _ _ (repL ka.sg) (repL ka.sg) wx ((HRV.out.new (NewT.trans _ _ _ HM.out hT))) ((HRV.out.new (NewT.trans _ _ _ HM.out hT))) (by rw [HRP.out]; simp)) rfl Tryd.func12 (by kernel_rfl) (by kernel_rfl) (evs2 hF.1 hF.2.1) hK)
                · exact fun a wx hT hF K hK => rely_wp rfl (opr_pick_true rfl hF.1 (hK _ _ (NewT.refl _) hF.2.1))
                · exact fun a wx hT hF K hK => rely_wp rfl (opr_move (.inl rfl) (hK _ _ (NewT.refl _) hF.1))
                · exact fun a wx hT hF K hK => rely_wp (rely_guard hF.2.1) (opr_move (.inl rfl) (hK _ _ (NewT.refl _) hF.1))
                · exact fun a wx hT hF K hK => rely_wp (rely_guard hF.2.1) (opr_cv (Only_cv _ l 0 wx ((HLV.out.new (NewT.trans _ _ _ HM.out hT))) (by have := HLE.out; omega) (HLG.out)) rfl Tryd.func13 (by kernel_rfl) (by kernel_rfl) (evs2 hF.1 rfl) hK)
                · exact fun a wx hT hF K hK => rely_wp (rely_guard hF.2.1) (opr_lenL rfl recEl hF.1 (hK _ _ (NewT.refl _) rfl))
                · exact fun a wx hT hF K hK => rely_wp (rely_guard hF.2.1) (opr_cmp (b := true) (.inl ⟨rfl, (by rw [HON.out]; rfl)⟩) Tryd.underlying3 rfl hF.1 rfl (hK _ _ (NewT.refl _) rfl))
                · exact fun a wx hT hF K hK => rely_wp rfl (opr_pick_true rfl hF.1 (hK _ _ (NewT.refl _) hF.2.1))
                · intro w8 k8
                  iterate 20 (intro u h; obtain rfl := Eq.symm (h (by simp)); clear h)
                  iterate 2 (intro _ _)
                  iterate 25 (intro u h; obtain rfl := Eq.symm (h (by simp)); clear h)
                  intro _ _
                  iterate 3 (intro u h; obtain rfl := Eq.symm (h (by simp)); clear h)
                  refine relyEnd_nil rfl ?_
                  simp only [Act.put, List.setIfInBounds_toArray, List.set_cons_zero, List.set_cons_succ]
                  refine wpList_plain rfl (fun K hK => ?_)
                  refine opr_move (.inr rfl) (hK _ _ ?_)
                  clear hK K
                  refine wpList_end rfl ?_
                  simp only [Act.put, List.setIfInBounds_toArray, List.set_cons_zero, List.set_cons_succ]
                  go_simp
                  replace Rg1 := Lib.hid (k8.row Rg1.out)
                  replace Rg2 := Lib.hid (k8.row Rg2.out)
                  replace Rg4 := Lib.hid (k8.row Rg4.out)
                  replace Rg7 := Lib.hid (k8.row Rg7.out)
                  replace Rg10 := Lib.hid (k8.row Rg10.out)
                  replace HM := Lib.hid (NewT.trans _ _ _ HM.out k8)
                  clear k8
                  go_wp2
                  go_ret
                  exact ⟨_, rfl, NewT.trans _ _ _ HB.out HM.out, rfl⟩
end Go.Proofs.YtilmeffmdgcblaaDoor
/- Drawn regions that keep a book in a variable of their own; elements read in an elder world; what the laws on books share. -/
namespace Go.Proofs.YtilmeffmdgcblaaDoor
open Go Go.RowKit
set_option maxRecDepth 8000
set_option linter.all false
def MayAll (L : List Ug) : Prop := ∀ p ∈ L, mayL p.1 = true
/-- Memory that was there in W stays, and books that are known to be. -/
structure BelM (W w w' : World) : Prop where
  below : BelT W w w'
  keep : ∀ v K, MayAll K.sg → BkV w v K → BkV w' v K
theorem BelM.trans (W : World) (a b c : World) (h : BelM W a b) (k : BelM W b c) : BelM W a c := ⟨BelT.trans W a b c h.below k.below, fun v K hm hb => k.keep v K hm (h.keep v K hm hb)⟩
theorem BelM.new {W w w' : World} (hW : NewT W w) (hN : NewT w w') : BelM W w w' := ⟨BelT.new hW hN, fun _ _ _ hb => hb.new hN⟩
theorem BelM.drew (W w : World) : BelM W w w.drew := ⟨BelT.drew W w, fun _ _ _ hb => hb.new (NewT.drew w)⟩
theorem row_end {w : World} {g t n : Nat} {F : Nat → Value} (h : w.rowIs g t n F) {i : Nat} (hi : n ≤ i) : w.cell? ⟨g, i, none⟩ = none := by
  obtain ⟨cur, hg, hs, _⟩ := h
  simp [World.cell?, hg, hs, hi]
theorem BelM.store {W w w' : World} {g : Nat} (hg : W.heap.size ≤ g) (hr : w.rowIs g 37 5 (bkF zK.ep (.slice none 0 0))) (hT : RT g w w') : BelM W w w' := by
  refine ⟨BelT.rt hg hT, fun v K hm hb => ?_⟩
  obtain ⟨sv, hv, fs, hE, hl, hels⟩ := hb
  refine ⟨sv, hv, fs, ?_, hl, fun i p hp => ?_⟩
  · obtain ⟨A, c, h0, h1, h2, h3⟩ := hE
    refine ⟨A, c, h0, h1, h2, fun h4 => ?_⟩
    obtain ⟨b, o, hA, hc⟩ := h3 h4
    have hb : b ≠ g := fun e => by
      subst e
      have := hc 0 fs[0] (List.getElem?_eq_getElem h4) 5 (by omega)
      rw [row_end hr (by omega)] at this
      cases this
    exact ⟨b, o, hA, fun i d hd j hj => hT.keep.cell (a := ⟨b, o + i * 10 + j, none⟩) (by simpa using hb) (hc i d hd j hj)⟩
  · obtain ⟨f, e1, tv, e2, A, c, h0, h1, h2, h3⟩ := hels i p hp
    refine ⟨f, e1, tv, e2, A, c, h0, h1, h2, fun h4 => ?_⟩
    obtain ⟨b, o, hA, hc⟩ := h3 h4
    have hk := (may_step (hm p (List.mem_of_getElem? hp)) h4).2.1
    have hb : b ≠ g := fun e => by
      subst e
      have h5 := (hc 0 h4).2
      have hlt : o + 2 * 0 + 1 < 5 := by
        by_cases hx : o + 2 * 0 + 1 < 5
        · exact hx
        · rw [row_end hr (by omega)] at h5; cases h5
      rw [hr.cell hlt] at h5
      unfold bkF at h5
      split at h5
      · injection h5 with h5
        injection h5 with _ h6
        have h7 : (0 : Int) = kdL p.1 0 := h6
        omega
      · cases h5
    exact ⟨b, o, hA, fun i hi => ⟨hT.keep.cell (a := ⟨b, o + 2 * i, none⟩) (by simpa using hb) (hc i hi).1, hT.keep.cell (a := ⟨b, o + 2 * i + 1, none⟩) (by simpa using hb) (hc i hi).2⟩⟩
/-- What is known in an elder world. -/
def svAt {T : World → World → Prop} (W : World) (c : SV NewT) : SV T := ⟨fun v _ => c.pred v W, fun _ _ _ h _ => h⟩
section
variable {α : Type} {n : Nat} {E : World → (Nat → Value) → α → Prop} {P : Program} {sT eT : TypeId} {a : Act} {w W : World} {o : Oper} {K : Act → World → Prop} {Q : Exit → Act → World → Prop} {x y : Operand} [StbE E]
/-- An element's place, in an elder world. -/
theorem opr_idxLW {L : List α} {i : Nat} {m : Int} {p : α} (T : ElTy P sT eT n) (hd : L[i]? = some p) (hn : m = (i : Int)) (ho : o.op = .indexAddr sT x y) (hx : RdL n E W (a.eval x) L) (hy : a.eval y = .int .i64 m) (h : ∀ v, (svEl n E p).pred v W → K (a.put o.dst v) w) : o.wp P a w K Q := by
  subst hn
  obtain ⟨dst, op, type, pos, after, guard⟩ := o
  simp only at ho
  subst ho
  obtain ⟨fs, ⟨A, c, hv, _, _, h3⟩, e, h4⟩ := hx
  have hi : i < fs.length := by rw [e]; exact (List.getElem?_eq_some_iff.1 hd).1
  obtain ⟨f, hf, hE⟩ := h4 i p hd
  obtain ⟨b, off, rfl, hc⟩ := h3 (by omega)
  exact opr_val (s := Instr.indexAt sT (a.eval x) (a.eval y)) rfl (by rw [hv, hy]; exact run_idxE T w hi) (h _ ⟨b, off + i * n, f, rfl, fun _ j hj => hc i f hf j hj, hE⟩)
theorem opr_ldRcW {p : Rc} (hN : NewT W w) (ho : o.op = .load 32 x) (hx : (svEl 109 rcE p).pred (a.eval x) W) (h : ∀ v, RecV W v p → K (a.put o.dst v) w) : o.wp Tryd.prog a w K Q := by
  obtain ⟨dst, op, type, pos, after, guard⟩ := o
  simp only at ho
  subst ho
  obtain ⟨b, off, f, hv, hc, sv, dv, hf, h2, h3⟩ := hx
  exact opr_val (s := Instr.loadAt 32 (a.eval x)) rfl (by rw [hv]; exact run_ldE recEl (fun j hj => (hN.out.cell (p := ⟨b, off + j, none⟩) (World.block_lt_of_cell? _ _ (hc (by omega) j hj))).trans (hc (by omega) j hj))) (h _ ⟨sv, dv, by rw [hf], h2, h3⟩)
end
/-- No record goes twice. -/
theorem once {lim : Int} {l : List Rc} {x : Rc} {m : Nat} (hn : nOf lim zK l = m + 1) (hx : l[m]? = some x) : goesK lim (bkOf lim l) x = false := by
  have hlt : m < nOf lim zK l := by omega
  have hg := nOf_goes lim l zK m x hx hlt
  have hm : nOf lim zK (l.take m) = m := nOf_take lim l zK m (by omega)
  have hG := good_up (lim := lim) (l := l) m hm (by have := (List.getElem?_eq_some_iff.1 hx).1; omega)
  have hb : bkOf lim l = wentK lim (upK lim zK (l.take m)) x := by unfold bkOf; rw [hn, upK_succ hx]
  rw [hb]
  generalize upK lim zK (l.take m) = K at hg hG
  obtain ⟨hl, hr, hw⟩ := goes_lim hg
  have hw1 := went_goes hg
  cases h2 : goesK lim (wentK lim K x) x with
  | false => rfl
  | true =>
    exfalso
    obtain ⟨_, _, hw2⟩ := goes_lim h2
    rcases way_cases hr hw with ⟨a1, a2, a3, e⟩ | ⟨a1, a2, e⟩ | ⟨a1, k, p, a2, a3, a4, e⟩
    · rcases way_cases hr hw2 with ⟨b1, b2, b3, _⟩ | ⟨b1, _⟩ | ⟨b1, _⟩
      · rw [hw1, e] at b2; simp at b2; omega
      · omega
      · omega
    · rcases way_cases hr hw2 with ⟨b1, _⟩ | ⟨b1, b2, _⟩ | ⟨b1, _⟩
      · omega
      · rw [hw1, e] at b2
        have : (rotK K x).ep x.part.toNat = x.epoch := by show (if x.part.toNat = x.part.toNat then x.epoch else _) = _; rw [if_pos rfl]
        omega
      · omega
    · rcases way_cases hr hw2 with ⟨b1, _⟩ | ⟨b1, _⟩ | ⟨b1, k', p', b2, b3, b4, _⟩
      · omega
      · omega
      · have hk : k' = k := by omega
        subst hk
        rw [hw1, e] at b3
        have hlt2 := (List.getElem?_eq_some_iff.1 a3).1
        rw [List.getElem?_set_self hlt2] at b3
        cases b3
        have sq1 : x.seq = p.2.sq := by
          unfold goesB at a4
          simp only [Bool.not_eq_true', Bool.or_eq_false_iff, bne_eq_false_iff_eq] at a4
          exact a4.1.2
        have sq2 : x.seq = (wentG p.1 lim p.2 x).sq := by
          unfold goesB at b4
          simp only [Bool.not_eq_true', Bool.or_eq_false_iff, bne_eq_false_iff_eq] at b4
          exact b4.1.2
        obtain ⟨hm1, s, q, e2, hi, _⟩ := hG.sg p (List.mem_of_getElem? a3)
        have hlt3 : lim = (lim.toNat : Int) := by omega
        rw [hlt3, e2] at a4
        obtain ⟨s', e3, _⟩ := goes_st hm1 hi (by omega) (by omega) (right_good hr) a4
        rw [← hlt3] at e3
        rw [e2, e3] at sq2
        rw [e2] at sq1
        have h1 : x.seq = (q : Int) := sq1
        have h2 : x.seq = (q : Int) + 1 := sq2
        omega
end Go.Proofs.YtilmeffmdgcblaaDoor
/- Records that are redacted go alike, and come to the same book; a clean report has nothing missing: on lists. No program is named here. -/
namespace Go.Proofs.YtilmeffmdgcblaaDoor
open Go Go.RowKit
set_option maxRecDepth 8000
set_option linter.all false
theorem redB_same (x : Rc) : redactB x = x ∨ (x.kind = 1 ∧ rightB x = true ∧ redactB x = { x with gone := true, com := comC x, data := [], salt := fun _ => 0 }) := by
  unfold redactB
  by_cases h : (x.kind == 1 && rightB x) = true
  · rw [if_pos h]
    rw [Bool.and_eq_true, beq_iff_eq] at h
    exact .inr ⟨h.1, h.2, rfl⟩
  · rw [if_neg h]; exact .inl rfl
theorem redB_right {x : Rc} (h1 : x.kind = 1) (hr : rightB x = true) : rightB { x with gone := true, com := comC x, data := [], salt := fun _ => 0 } = true := by
  have h := right_redact cmC x hr
  unfold redact at h
  rw [if_pos h1] at h
  exact h
theorem red_goes (lim : Int) (K : Bk) (x : Rc) : goesK lim K (redactB x) = goesK lim K x ∧ wentK lim K (redactB x) = wentK lim K x := by
  rcases redB_same x with e | ⟨h1, hr, e⟩
  · rw [e]; exact ⟨rfl, rfl⟩
  · rw [e]
    have h2 := redB_right h1 hr
    have hg : goesK lim K { x with gone := true, com := comC x, data := [], salt := fun _ => 0 } = goesK lim K x := by
      unfold goesK
      rw [h2, hr]
      rfl
    refine ⟨hg, ?_⟩
    unfold wentK
    rw [hg]
    rfl
/-- Lists whose records are the same, or redacted. -/
def AlikeL (l m : List Rc) : Prop := l.length = m.length ∧ ∀ (i : Nat) (x y : Rc), l[i]? = some x → m[i]? = some y → y = x ∨ y = redactB x
theorem alike_nil : AlikeL [] [] := ⟨rfl, fun i x y h => by simp at h⟩
theorem alike_app {l m : List Rc} {x y : Rc} (h : AlikeL l m) (hy : y = x ∨ y = redactB x) : AlikeL (l ++ [x]) (m ++ [y]) := by
  refine ⟨by simp [h.1], fun i a b ha hb => ?_⟩
  by_cases hi : i < l.length
  · rw [List.getElem?_append_left hi] at ha
    rw [List.getElem?_append_left (by have := h.1; omega)] at hb
    exact h.2 i a b ha hb
  · have hi2 : i < l.length + 1 := by have := (List.getElem?_eq_some_iff.1 ha).1; simpa using this
    obtain rfl : i = l.length := by omega
    have hm := h.1
    simp at ha
    rw [hm] at hb
    simp at hb
    subst ha hb
    exact hy
theorem alike_cons {l m : List Rc} {x y : Rc} (h : AlikeL (x :: l) (y :: m)) : (y = x ∨ y = redactB x) ∧ AlikeL l m :=
  ⟨h.2 0 x y rfl rfl, by have := h.1; simpa using this, fun i a b ha hb => h.2 (i + 1) a b (by simpa using ha) (by simpa using hb)⟩
theorem alike_goes (lim : Int) : ∀ (l m : List Rc) (K : Bk), AlikeL l m → nOf lim K m = nOf lim K l ∧ upK lim K (m.take (nOf lim K l)) = upK lim K (l.take (nOf lim K l))
  | [], [], _, _ => ⟨rfl, rfl⟩
  | [], _ :: _, _, h => by have := h.1; simp at this
  | _ :: _, [], _, h => by have := h.1; simp at this
  | x :: l, y :: m, K, h => by
    obtain ⟨hy, ht⟩ := alike_cons h
    have hg : goesK lim K y = goesK lim K x ∧ wentK lim K y = wentK lim K x := by
      rcases hy with e | e
      · rw [e]; exact ⟨rfl, rfl⟩
      · rw [e]; exact red_goes lim K x
    cases hx : goesK lim K x with
    | false => rw [nOf_cons_f hx, nOf_cons_f (hg.1.trans hx)]; exact ⟨rfl, rfl⟩
    | true =>
      have ih := alike_goes lim l m (wentK lim K x) ht
      rw [nOf_cons_t hx, nOf_cons_t (hg.1.trans hx), hg.2, ih.1]
      refine ⟨rfl, ?_⟩
      rw [List.take_succ_cons, List.take_succ_cons]
      show upK lim (wentK lim K y) _ = upK lim (wentK lim K x) _
      rw [hg.2]
      exact ih.2
theorem alike_bk {lim : Int} {l m : List Rc} (h : AlikeL l m) : nOf lim zK m = nOf lim zK l ∧ bkOf lim m = bkOf lim l := by
  have := alike_goes lim l m zK h
  exact ⟨this.1, by unfold bkOf; rw [this.1]; exact this.2⟩
/-- A clean report has nothing missing. -/
theorem clean_none {lim : Int} {n : Nat} {K : Bk} (hG : Good lim n K) (hc : cleanL (repL K.sg) = true) {k : Nat} {q : Int × Int} (hq : (repL K.sg)[k]? = some q) : q.2 = 0 := by
  have hm := List.mem_of_getElem? hq
  have hc2 := (List.all_eq_true.1 hc) q hm
  unfold repL at hm
  obtain ⟨p, hp, rfl⟩ := List.mem_map.1 hm
  obtain ⟨h1, s, sq, e, hi, _⟩ := hG.sg p hp
  have hc3 : p.2.ph = 2 ∨ p.2.ph = 3 := by simpa [lineOf] using hc2
  show missG p.2 = 0
  rw [e] at hc3 ⊢
  refine miss_st h1 hi ?_
  have hph : (ofSt s (sq : Int)).ph = (s.ph : Int) := rfl
  rw [hph] at hc3
  omega
end Go.Proofs.YtilmeffmdgcblaaDoor
/- Package rec: Redact. -/
namespace Go.Proofs.YtilmeffmdgcblaaDoor
open Go Go.RowKit
set_option maxRecDepth 8000
set_option linter.all false
theorem keepJ {R : Nat} {x : Rc} {sv dv : Value} {wx w' : World} (hN : NewT wx w') (k : Nat) (h : if k = 0 then wx.rowIs R 32 109 (recF x sv dv) else ∃ u, RdPB wx (R + 1) u x.steps ∧ wx.rowIs R 32 109 (recF x u dv)) :
    if k = 0 then w'.rowIs R 32 109 (recF x sv dv) else ∃ u, RdPB w' (R + 1) u x.steps ∧ w'.rowIs R 32 109 (recF x u dv) := by
  by_cases hk : k = 0
  · rw [if_pos hk] at h ⊢; exact hN.row h
  · rw [if_neg hk] at h ⊢
    obtain ⟨u, h1, h3⟩ := h
    exact ⟨u, h1.new hN, hN.row h3⟩
/-- A record as a value, whose steps and payload lie in blocks from B on. -/
def svRecM (B : Nat) (x : Rc) : SV NewT := ⟨fun v w => ∃ sv dv, v = .agg (rowA 109 (recF x sv dv)) ∧ RdPB w B sv x.steps ∧ RdVB w B dv x.data, fun _ _ _ ⟨sv, dv, h1, h2, h3⟩ hT => ⟨sv, dv, h1, h2.new hT, h3.new hT⟩⟩
set_option maxHeartbeats 4000000 in
theorem Redact_cvN (v : Value) (x : Rc) (w : World) (h : RecV w v x) (hT : Tables w) (hl : x.data.length ≤ 900000 ∧ x.steps.length ≤ 900000) : Cv 6 #[v] w (svRecM w.heap.size (redactB x)) := by
  obtain ⟨sv, dv, rfl, hs, hd⟩ := h
  unfold Cv
  have HX : Hid (RecV w (.agg (rowA 109 (recF x sv dv))) x) := Lib.hid ⟨sv, dv, rfl, hs, hd⟩
  have HX0 := HX
  have HS := Lib.hid hs
  have HD := Lib.hid hd
  have HT := Lib.hid hT
  have oneS := oneP hs
  have oneD := oneR hd
  have hls := hl.2
  have hlx := hl.1
  clear hT hl
  go_enter Tryd.func6, Tryd.ntmps6
  go_upto_region 1 with fail
  have r1 := (rowIs_box w 32 109 (recF x sv dv)).alloc (.cells (rowA 109 (recF zR (.slice none 0 0) (.slice none 0 0))) 32)
  have r2 := rowIs_box (w.alloc (.cells (rowA 109 (recF x sv dv)) 32)) 32 109 (recF zR (.slice none 0 0) (.slice none 0 0))
  have hN : NewT w ((w.alloc (.cells (rowA 109 (recF x sv dv)) 32)).alloc (.cells (rowA 109 (recF zR (.slice none 0 0) (.slice none 0 0))) 32)) := NewT.trans _ _ _ (NewT.alloc _ _) (NewT.alloc _ _)
  rw [World.size_alloc] at r2
  change Code.wp _ _ _ _ ((w.alloc (.cells (rowA 109 (recF x sv dv)) 32)).alloc (.cells (rowA 109 (recF zR (.slice none 0 0) (.slice none 0 0))) 32))
  generalize hW0 : (w.alloc (.cells (rowA 109 (recF x sv dv)) 32)).alloc (.cells (rowA 109 (recF zR (.slice none 0 0) (.slice none 0 0))) 32) = W0 at r1 r2 hN ⊢
  have R1 := Lib.hid r1
  have R2 := Lib.hid r2
  have HN := Lib.hid hN
  have Hsz : Hid (W0.heap.size = w.heap.size + 2) := Lib.hid (by rw [← hW0]; simp)
  replace HX := Lib.hid (hN.recV HX.out)
  replace HS := Lib.hid (hN.pairs HS.out)
  replace HD := Lib.hid (hN.rd HD.out)
  clear r1 r2 hN hW0
  refine wp_region_steps0 NewT [SV.eq (.agg (rowA 109 (recF x sv dv)))] [([(1, none)], none)] 28 1 rfl rfl (by kernel_rfl) NewT.trans (NewT.refl _) (Nat.le_of_ble_eq_true rfl) ⟨?_, trivial⟩ ?_
  · exact fun a wx hT hF K hK => rely_wp rfl (opr_ldR (hT.row R1.out) rfl hF.1 (hK _ _ (NewT.refl _) rfl))
  · intro wa ha
    intro u h; obtain rfl := Eq.symm (h (by simp)); clear h
    refine relyEnd_nil rfl ?_
    simp only [Act.put, List.setIfInBounds_toArray, List.set_cons_zero, List.set_cons_succ]
    refine wpList_new (n := 109) rfl rfl rfl rfl rfl rfl (by simp) run_alloc_rec info_rec (recF_one _ _ _ oneS oneD) rfl ?_
    intro w1 hn1 r3
    refine wpList_end rfl ?_
    simp only [Act.put, List.setIfInBounds_toArray, List.set_cons_zero, List.set_cons_succ]
    go_simp
    have X1 := Lib.hid (hn1.row (ha.row R1.out))
    have X2 := Lib.hid (hn1.row (ha.row R2.out))
    have HN1 := Lib.hid (NewT.trans _ _ _ HN.out (NewT.trans _ _ _ ha hn1))
    have hR : w.heap.size + 2 ≤ wa.heap.size := by have := ha.out.size; have := Hsz.out; omega
    have hRl : wa.heap.size < w1.heap.size := r3.lt
    have X3 := Lib.hid r3
    clear R1 R2 r3 HN ha hn1 Hsz HX HS HD
    generalize wa.heap.size = R at X3 hR hRl ⊢
    have hne1 : w.heap.size ≠ R := by omega
    have hne2 : w.heap.size + 1 ≠ R := by omega
    go_upto_region 2 with fail
    refine wp_region_relyP (RT R) (fun k w => if k = 0 then w.rowIs R 32 109 (recF x sv dv) else ∃ u, RdPB w (R + 1) u x.steps ∧ w.rowIs R 32 109 (recF x u dv)) [SV.eq (.pointer (some ⟨w.heap.size, 42, none⟩)), SV.eq (sv), svPairsB R x.steps, SV.eq (.pointer (some ⟨w.heap.size, 43, none⟩)), SV.eq (dv), svRdB R x.data, SV.eq (.pointer (some ⟨R, 42, none⟩)), SV.any, SV.eq (.pointer (some ⟨R, 43, none⟩))] [([(1, none)], none), ([(5, some 0)], none), ([(6, some 1)], none), ([(1, none)], none), ([(8, some 3)], none), ([(9, some 4)], none), ([(3, none)], none), ([(11, some 6), (7, some 2)], none), ([(3, none)], none)] [none, none, none, none, none, none, none, some 0, none] [7] 28 rfl (by kernel_rfl) rfl (by kernel_rfl) (by kernel_rfl) rfl (by kernel_rfl) RT.trans (RT.drew _ _) ((NewT.drew _).row X3.out) (Nat.le_of_ble_eq_true rfl) ⟨?_, ?_, ?_, ?_, ?_, ?_, ?_, ?_, ?_, trivial⟩ ?_
    · exact fun a wx hT hF K hK => have hK := fun v w' (hN : NewT wx w') hv => hK v w' (RT.new (Nat.lt_of_lt_of_le hRl hT.size) hN) (fun k h => keepJ hN k h) hv; rely_wp rfl (opr_fldR (by decide) rfl hF.1 (hK _ _ (NewT.refl _) rfl))
    · exact fun a wx hT hF K hK => have hK := fun v w' (hN : NewT wx w') hv => hK v w' (RT.new (Nat.lt_of_lt_of_le hRl hT.size) hN) (fun k h => keepJ hN k h) hv; rely_wp rfl (opr_ldS (hT.row hne1 X1.out) (by decide) rfl rfl hF.1 (hK _ _ (NewT.refl _) rfl))
    · intro a wx hT hF K hK
      replace hK := fun v w' (hN : NewT wx w') hv => hK v w' (RT.new (Nat.lt_of_lt_of_le hRl hT.size) hN) (fun k h => keepJ hN k h) hv
      obtain ⟨f6, _⟩ := hF
      have f6 : a.tmps.getD 6 undef = sv := f6
      refine rely_wp rfl ?_
      refine opr_cv (CloneS_cvN sv x.steps wx ((HN1.out.rt hT (by omega)).pairs hs) hls) rfl Tryd.func15 (by kernel_rfl) (by kernel_rfl) (by simp only [List.map_toArray, List.map_cons, List.map_nil, eval_tmp, f6]) (fun v w' hN hv => hK v w' hN (RdPB.mono hv ?_))
      have h2 := hT.size
      omega
    · exact fun a wx hT hF K hK => have hK := fun v w' (hN : NewT wx w') hv => hK v w' (RT.new (Nat.lt_of_lt_of_le hRl hT.size) hN) (fun k h => keepJ hN k h) hv; rely_wp rfl (opr_fldR (by decide) rfl hF.1 (hK _ _ (NewT.refl _) rfl))
    · exact fun a wx hT hF K hK => have hK := fun v w' (hN : NewT wx w') hv => hK v w' (RT.new (Nat.lt_of_lt_of_le hRl hT.size) hN) (fun k h => keepJ hN k h) hv; rely_wp rfl (opr_ldB (hT.row hne1 X1.out) (by decide) rfl rfl hF.1 (hK _ _ (NewT.refl _) rfl))
    · intro a wx hT hF K hK
      replace hK := fun v w' (hN : NewT wx w') hv => hK v w' (RT.new (Nat.lt_of_lt_of_le hRl hT.size) hN) (fun k h => keepJ hN k h) hv
      obtain ⟨f9, _⟩ := hF
      have f9 : a.tmps.getD 9 undef = dv := f9
      refine rely_wp rfl ?_
      refine opr_cv (Clone_cv dv x.data [] wx ((HN1.out.rt hT (by omega)).rd hd) (by omega)) rfl Tryd.func16 (by kernel_rfl) (by kernel_rfl) (by simp only [List.map_toArray, List.map_cons, List.map_nil, eval_tmp, f9]) (fun v w' hN hv => hK v w' hN (RdVB.mono (B := wx.heap.size) hv ?_))
      have h2 := hT.size
      omega
    · exact fun a wx hT hF K hK => have hK := fun v w' (hN : NewT wx w') hv => hK v w' (RT.new (Nat.lt_of_lt_of_le hRl hT.size) hN) (fun k h => keepJ hN k h) hv; rely_wp rfl (opr_fldR (by decide) rfl hF.1 (hK _ _ (NewT.refl _) rfl))
    · intro a wx hT hF hJ K hK
      obtain ⟨f11, f7, _⟩ := hF
      have f11 : a.tmps.getD 11 undef = .pointer (some ⟨R, 42, none⟩) := f11
      replace f7 := show (svPairsB R x.steps).pred (a.tmps.getD 7 undef) wx from f7
      refine rely_wp rfl ?_
      refine opr_put1 rfl f11 rfl (show wx.rowIs R 32 109 (recF x sv dv) from hJ) (by decide) info_s1 (oneP f7.1) (fun i _ => rs_steps x sv dv i _) ?_
      intro w' hT' hr'
      exact hK _ _ hT' ⟨_, RdPB.rt f7 hT' (Nat.lt_succ_self _), hr'⟩ trivial
    · exact fun a wx hT hF K hK => have hK := fun v w' (hN : NewT wx w') hv => hK v w' (RT.new (Nat.lt_of_lt_of_le hRl hT.size) hN) (fun k h => keepJ hN k h) hv; rely_wp rfl (opr_fldR (by decide) rfl hF.1 (hK _ _ (NewT.refl _) rfl))
    · intro e2 h2 hJ
      iterate 2 (intro u h; obtain rfl := Eq.symm (h (by simp)); clear h)
      intro _ _
      iterate 2 (intro u h; obtain rfl := Eq.symm (h (by simp)); clear h)
      intro u10 h; have g10 := h (by simp); clear h; replace g10 := show (svRdB R x.data).pred u10 e2 from g10
      intro u h; obtain rfl := Eq.symm (h (by simp)); clear h
      intro _ _
      intro u h; obtain rfl := Eq.symm (h (by simp)); clear h
      refine relyEnd_nil rfl ?_
      simp only [Act.put, List.setIfInBounds_toArray, List.set_cons_zero, List.set_cons_succ]
      obtain ⟨su, hsu, hrow⟩ := hJ
      refine opr_put1 rfl rfl rfl hrow (by decide) info_d1 (oneR (RdVB.out g10)) (fun i _ => rs_data x su dv i u10) ?_
      intro w2 hT2 hr2
      replace hsu := RdPB.rt hsu hT2 (Nat.lt_succ_self _)
      replace g10 := RdVB.rt g10 hT2 (Nat.lt_succ_self _)
      go_simp
      have hRT := RT.trans _ _ _ h2 hT2
      have Y1 := Lib.hid (hRT.row hne1 X1.out)
      have Y2 := Lib.hid (hRT.row hne2 X2.out)
      have HN2 := Lib.hid (HN1.out.rt hRT (by omega))
      have HX2 := Lib.hid (HN2.out.recV HX0.out)
      have HT2 := Lib.hid (HN2.out.tables HT.out)
      clear X1 X2 X3 h2 hT2 hRl HX0 HT
      go_upto_region 3 with fail
      refine wp_region_steps0 NewT [SV.eq (.pointer (some ⟨w.heap.size, 0, none⟩)), SV.eq (.int .i64 (x.kind)), SV.eq (.bool (x.kind == 1)), SV.eq (.bool (x.kind == 1)), svIf (x.kind == 1) (SV.eq (.agg (rowA 109 (recF x sv dv)))), svIf (x.kind == 1) (SV.eq (.bool (rightB x))), SV.eq (.bool ((x.kind == 1) && (rightB x)))] [([(1, none)], none), ([(13, some 0)], none), ([(14, some 1)], none), ([(15, some 2)], none), ([(1, none), (16, some 3)], some (16, true)), ([(17, some 4), (16, some 3)], some (16, true)), ([(16, some 3), (18, some 5)], none)] 28 7 rfl rfl (by kernel_rfl) NewT.trans (NewT.refl _) (Nat.le_of_ble_eq_true rfl) ⟨?_, ?_, ?_, ?_, ?_, ?_, ?_, trivial⟩ ?_
      · exact fun a wx hT hF K hK => rely_wp rfl (opr_fldR (by decide) rfl hF.1 (hK _ _ (NewT.refl _) rfl))
      · exact fun a wx hT hF K hK => rely_wp rfl (opr_ldI (hT.row Y1.out) (by decide) rfl rfl hF.1 (hK _ _ (NewT.refl _) rfl))
      · exact fun a wx hT hF K hK => rely_wp rfl (opr_cmp (b := x.kind == 1) (.inl ⟨rfl, rfl⟩) Tryd.underlying3 rfl hF.1 rfl (hK _ _ (NewT.refl _) rfl))
      · exact fun a wx hT hF K hK => rely_wp rfl (opr_move (.inl rfl) (hK _ _ (NewT.refl _) hF.1))
      · exact fun a wx hT hF K hK => rely_if (rely_gt hF.2.1) (NewT.refl _) hK fun hE hK => opr_ldR (hT.row Y1.out) rfl hF.1 (hK _ _ (NewT.refl _) rfl)
      · exact fun a wx hT hF K hK => rely_if (rely_gt hF.2.1) (NewT.refl _) hK fun hE hK => opr_cv (Right_cv _ x wx (hT.recV HX2.out)) rfl Tryd.func17 (by kernel_rfl) (by kernel_rfl) (evs1 (hF.1 hE)) hK
      · exact fun a wx hT hF K hK => rely_wp rfl (opr_pick_b rfl hF.1 (fun hb => hK _ _ (NewT.refl _) (pk_and1 (hF.2.1 hb) hb)) (fun hb => hK _ _ (NewT.refl _) (pk_and0 hb)))
      · intro w3 h3
        iterate 4 (intro u h; obtain rfl := Eq.symm (h (by simp)); clear h)
        iterate 2 (intro _ _)
        intro u h; obtain rfl := Eq.symm (h (by simp)); clear h
        refine relyEnd_nil rfl ?_
        refine wpList_end rfl ?_
        simp only [Act.put, List.setIfInBounds_toArray, List.set_cons_zero, List.set_cons_succ]
        go_simp
        cases hb : ((x.kind == 1) && rightB x)
        · have HO : Hid (redactB x = x) := Lib.hid (by unfold redactB; rw [hb, if_neg (by simp)])
          go_upto_region 6 with fail
          refine wp_region_steps0 NewT [SV.eq (.agg (rowA 109 (recF x su u10)))] [([(3, none)], none)] 28 1 rfl rfl (by kernel_rfl) NewT.trans (NewT.refl _) (Nat.le_of_ble_eq_true rfl) ⟨?_, trivial⟩ ?_
          · exact fun a wx hT hF K hK => rely_wp rfl (opr_ldR (hT.row (NewT.row h3 hr2)) rfl hF.1 (hK _ _ (NewT.refl _) rfl))
          · intro wf hf
            intro u h; obtain rfl := Eq.symm (h (by simp)); clear h
            refine relyEnd_nil rfl ?_
            simp only [Act.put, List.setIfInBounds_toArray, List.set_cons_zero, List.set_cons_succ]
            refine wpList_plain rfl (fun K hK => ?_)
            refine opr_putm rfl rfl rfl (hf.row (NewT.row h3 Y2.out)) (by decide) info_rec (recF_one _ _ _ (oneP hsu.1) (oneR g10.out)) (put_all _ _) ?_
            intro wq hTq rq
            refine hK _ _ ?_
            refine wpList_end rfl ?_
            go_simp
            go_wp2
            have hNq : NewT w wq := (NewT.trans _ _ _ (NewT.trans _ _ _ HN2.out h3) hf).rt hTq (by omega)
            refine bodyPost_ret (results_agg rfl _ rfl rq Tryd.underlying32 rfl info_rec) rfl ⟨_, rfl, hNq, ?_⟩
            rw [HO.out]
            exact ⟨su, u10, rfl, (RdPB.rt ((hsu.new h3).new hf) hTq (by omega)).mono (by omega), (RdVB.rt ((g10.new h3).new hf) hTq (by omega)).mono (by omega)⟩
        · have HO : Hid (redactB x = { x with gone := true, com := comC x, data := [], salt := fun _ => 0 }) := Lib.hid (by unfold redactB; rw [hb, if_pos rfl])
          go_upto_region 4 with fail
          refine wp_region_steps0 NewT [SV.eq (.agg (rowA 109 (recF x sv dv))), SV.eq (.agg (rowA 32 (bF (comC x))))] [([(1, none)], none), ([(20, some 0)], none)] 28 2 rfl rfl (by kernel_rfl) NewT.trans (NewT.refl _) (Nat.le_of_ble_eq_true rfl) ⟨?_, ?_, trivial⟩ ?_
          · exact fun a wx hT hF K hK => rely_wp rfl (opr_ldR (hT.row (NewT.row h3 Y1.out)) rfl hF.1 (hK _ _ (NewT.refl _) rfl))
          · exact fun a wx hT hF K hK => rely_wp rfl (opr_cv (commitment_cv _ x wx (hT.recV (NewT.recV h3 HX2.out)) (hT.tables (NewT.tables h3 HT2.out)) hlx) rfl Tryd.func18 (by kernel_rfl) (by kernel_rfl) (evs1 hF.1) hK)
          · intro e4 h4
            iterate 2 (intro u h; obtain rfl := Eq.symm (h (by simp)); clear h)
            refine relyEnd_nil rfl ?_
            simp only [Act.put, List.setIfInBounds_toArray, List.set_cons_zero, List.set_cons_succ]
            refine wpList_plain rfl (fun K hK => ?_)
            refine opr_fldR (by decide) rfl rfl (hK _ _ ?_)
            clear hK K
            refine wpList_plain rfl (fun K hK => ?_)
            refine opr_put1 rfl rfl rfl (h4.row (h3.row hr2)) (by decide) info_b1 rfl (fun i _ => rs_gone x su u10 i _) ?_
            intro e5 h5 r5
            refine hK _ _ ?_
            clear hK K
            refine wpList_plain rfl (fun K hK => ?_)
            refine opr_fldR (by decide) rfl rfl (hK _ _ ?_)
            clear hK K
            refine wpList_plain rfl (fun K hK => ?_)
            refine opr_putm rfl rfl rfl r5 (by decide) info31 (fun _ => rfl) (fun i hi => rs_com ({ x with gone := true }) su u10 i _ hi) ?_
            intro e6 h6 r6
            refine hK _ _ ?_
            clear hK K
            refine wpList_end rfl ?_
            go_simp
            go_upto_region 5 with fail
            refine wp_region_steps0 NewT [SV.eq (.agg (rowA 32 (bF (fun _ => 0))))] [([], none)] 28 1 rfl rfl (by kernel_rfl) NewT.trans (NewT.refl _) (Nat.le_of_ble_eq_true rfl) ⟨?_, trivial⟩ ?_
            · exact fun a wx hT hF K hK => rely_wp rfl (opr_build (pv := #[]) rfl (by simp) (build_hash0 wx) (hK _ _ (NewT.refl _) rfl))
            · intro e7 h7
              intro u h; obtain rfl := Eq.symm (h (by simp)); clear h
              refine relyEnd_nil rfl ?_
              simp only [Act.put, List.setIfInBounds_toArray, List.set_cons_zero, List.set_cons_succ]
              refine wpList_plain rfl (fun K hK => ?_)
              refine opr_fldR (by decide) rfl rfl (hK _ _ ?_)
              clear hK K
              refine wpList_plain rfl (fun K hK => ?_)
              refine opr_put1 rfl rfl rfl (h7.row r6) (by decide) info_d1 rfl (fun i _ => rs_data ({ x with gone := true, com := comC x }) su u10 i _) ?_
              intro e8 h8 r8
              refine hK _ _ ?_
              clear hK K
              refine wpList_plain rfl (fun K hK => ?_)
              refine opr_fldR (by decide) rfl rfl (hK _ _ ?_)
              clear hK K
              refine wpList_plain rfl (fun K hK => ?_)
              refine opr_putm rfl rfl rfl r8 (by decide) info31 (fun _ => rfl) (fun i hi => rs_salt ({ x with gone := true, com := comC x }) su (.slice none 0 0) i _ hi) ?_
              intro e9 h9 r9
              refine hK _ _ ?_
              clear hK K
              refine wpList_end rfl ?_
              go_simp
              have hRT9 := RT.trans _ _ _ h5 (RT.trans _ _ _ h6 (RT.trans _ _ _ (RT.new r6.lt h7) (RT.trans _ _ _ h8 h9)))
              have HN9 := (NewT.trans _ _ _ HN2.out (NewT.trans _ _ _ h3 h4)).rt hRT9 (by omega)
              have hsu9 := RdPB.rt ((hsu.new h3).new h4) hRT9 (Nat.lt_succ_self _)
              go_upto_region 6 with fail
              refine wp_region_steps0 NewT [SV.eq (.agg (rowA 109 (recF ({ x with gone := true, com := comC x, salt := fun _ => 0 }) su (.slice none 0 0))))] [([(3, none)], none)] 28 1 rfl rfl (by kernel_rfl) NewT.trans (NewT.refl _) (Nat.le_of_ble_eq_true rfl) ⟨?_, trivial⟩ ?_
              · exact fun a wx hT hF K hK => rely_wp rfl (opr_ldR (hT.row r9) rfl hF.1 (hK _ _ (NewT.refl _) rfl))
              · intro wf hf
                intro u h; obtain rfl := Eq.symm (h (by simp)); clear h
                refine relyEnd_nil rfl ?_
                simp only [Act.put, List.setIfInBounds_toArray, List.set_cons_zero, List.set_cons_succ]
                refine wpList_plain rfl (fun K hK => ?_)
                refine opr_putm rfl rfl rfl (hf.row (hRT9.row hne2 (h4.row (NewT.row h3 Y2.out)))) (by decide) info_rec (recF_one _ _ _ (oneP hsu9.1) rfl) (put_all _ _) ?_
                intro wq hTq rq
                refine hK _ _ ?_
                refine wpList_end rfl ?_
                go_simp
                go_wp2
                have hNq : NewT w wq := (NewT.trans _ _ _ (HN9) hf).rt hTq (by omega)
                refine bodyPost_ret (results_agg rfl _ rfl rq Tryd.underlying32 rfl info_rec) rfl ⟨_, rfl, hNq, ?_⟩
                rw [HO.out]
                exact ⟨su, .slice none 0 0, rfl, (RdPB.rt (hsu9.new hf) hTq (by omega)).mono (by omega), fun _ _ => rdV_nil _ _⟩
end Go.Proofs.YtilmeffmdgcblaaDoor
/- Single operations: a byte turned into a number, remainders. -/
namespace Go.Proofs.YtilmeffmdgcblaaDoor
open Go Go.RowKit
set_option maxRecDepth 8000
set_option linter.all false
section
variable {a : Act} {w : World} {o : Oper} {K : Act → World → Prop} {Q : Exit → Act → World → Prop} {x y : Operand}
theorem opr_rem {m n r : Int} {t2 : TypeId} (hm : 0 ≤ m ∧ m ≤ 1000000) (hn : 0 < n ∧ n ≤ 1000) (hr : m % n = r) (ho : o.op = .binOp .rem 3 x y t2) (hx : a.eval x = .int .i64 m) (hy : a.eval y = .int .i64 n) (h : K (a.put o.dst (.int .i64 r)) w) : o.wp Tryd.prog a w K Q := by
  obtain ⟨dst, op, type, pos, after, guard⟩ := o
  simp only at ho
  subst ho hr
  refine opr_val (s := do eqGuard .rem 3 x y (a.eval x) (a.eval y); binOp .rem 3 (a.eval x) (a.eval y)) rfl ?_ h
  rw [hx, hy]
  have h0 : n ≠ 0 := by omega
  have ht : Int.tmod m n = m % n := Int.tmod_eq_emod_of_nonneg hm.1
  have hw : IntKind.i64.wrap (m % n) = m % n := by
    have h1 := Int.emod_nonneg m h0
    have h2 := Int.emod_lt_of_pos m hn.1
    simp [IntKind.wrap, IntKind.bits, IntKind.signed]; omega
  simp [go_sem, h0, ht, hw]
end
end Go.Proofs.YtilmeffmdgcblaaDoor
/- Bits of a number of 32, asked one by one (which of a list's records are meant); a line's second field; a record redacted, apart from a row of the call's own. -/
namespace Go.Proofs.YtilmeffmdgcblaaDoor
open Go Go.RowKit
set_option maxRecDepth 8000
set_option linter.all false
section
variable {a : Act} {w : World} {o : Oper} {K : Act → World → Prop} {Q : Exit → Act → World → Prop} {x y : Operand}
def svW32 : SV NewT := ⟨fun v _ => ∃ r, v = .int .u32 r, fun _ _ _ h _ => h⟩
def svBl : SV NewT := ⟨fun v _ => ∃ b, v = .bool b, fun _ _ _ h _ => h⟩
theorem opr_cvU {n : Int} (hn : 0 ≤ n ∧ n ≤ 255) (ho : o.op = .convert 3 26 x) (hx : a.eval x = .int .i64 n) (h : K (a.put o.dst (.int .u64 n)) w) : o.wp Tryd.prog a w K Q := by
  obtain ⟨dst, op, type, pos, after, guard⟩ := o
  simp only at ho
  subst ho
  refine opr_val (s := convert 3 26 (a.eval x)) rfl ?_ h
  rw [hx]
  have hw : IntKind.u64.wrap n = n := by simp [IntKind.wrap, IntKind.bits, IntKind.signed]; omega
  simp [go_sem, hw]
theorem opr_shrU {m n : Int} (hn : 0 ≤ n ∧ n ≤ 255) (ho : o.op = .binOp .shr 23 x y 26) (hx : a.eval x = .int .u32 m) (hy : a.eval y = .int .u64 n) (h : ∀ v, svW32.pred v w → K (a.put o.dst v) w) : o.wp Tryd.prog a w K Q := by
  obtain ⟨dst, op, type, pos, after, guard⟩ := o
  simp only at ho
  subst ho
  obtain ⟨r, hr⟩ : ∃ r, (do eqGuard .shr 23 x y (.int .u32 m) (.int .u64 n); binOp .shr 23 (.int .u32 m) (.int .u64 n) : Sem Value).run Tryd.prog w = .ok (.int .u32 r) w := ⟨_, by simp [go_sem, Op.shift, if_neg (show ¬ n < 0 by omega)]; rfl⟩
  exact opr_val (s := do eqGuard .shr 23 x y (a.eval x) (a.eval y); binOp .shr 23 (a.eval x) (a.eval y)) rfl (by rw [hx, hy]; exact hr) (h _ ⟨r, rfl⟩)
theorem opr_and1 {t2 : TypeId} (ho : o.op = .binOp .and 23 x (.const (.int .u32 1)) t2) (hx : svW32.pred (a.eval x) w) (h : ∀ v, svW32.pred v w → K (a.put o.dst v) w) : o.wp Tryd.prog a w K Q := by
  obtain ⟨dst, op, type, pos, after, guard⟩ := o
  simp only at ho
  subst ho
  obtain ⟨m, hm⟩ := hx
  obtain ⟨r, hr⟩ : ∃ r, (do eqGuard .and 23 x (.const (.int .u32 1)) (.int .u32 m) (.int .u32 1); binOp .and 23 (.int .u32 m) (.int .u32 1) : Sem Value).run Tryd.prog w = .ok (.int .u32 r) w := ⟨_, by simp [go_sem]; rfl⟩
  exact opr_val (s := do eqGuard .and 23 x (.const (.int .u32 1)) (a.eval x) (.int .u32 1); binOp .and 23 (a.eval x) (.int .u32 1)) rfl (by rw [hm]; exact hr) (h _ ⟨r, rfl⟩)
theorem opr_eq1 {t2 : TypeId} (ho : o.op = .binOp .eql 23 x (.const (.int .u32 1)) t2) (hx : svW32.pred (a.eval x) w) (h : ∀ v, svBl.pred v w → K (a.put o.dst v) w) : o.wp Tryd.prog a w K Q := by
  obtain ⟨dst, op, type, pos, after, guard⟩ := o
  simp only at ho
  subst ho
  obtain ⟨m, hm⟩ := hx
  obtain ⟨r, hr⟩ : ∃ r, (do eqGuard .eql 23 x (.const (.int .u32 1)) (.int .u32 m) (.int .u32 1); binOp .eql 23 (.int .u32 m) (.int .u32 1) : Sem Value).run Tryd.prog w = .ok (.bool r) w := ⟨_, by simp [go_sem]; rfl⟩
  exact opr_val (s := do eqGuard .eql 23 x (.const (.int .u32 1)) (a.eval x) (.int .u32 1); binOp .eql 23 (a.eval x) (.int .u32 1)) rfl (by rw [hm]; exact hr) (h _ ⟨r, rfl⟩)
theorem opr_fldNe1 {p : Int × Int} (ho : o.op = .fieldAddr 45 x 1) (hx : (svEl 2 lnE p).pred (a.eval x) w) (h : ∀ v, (svIp p.2).pred v w → K (a.put o.dst v) w) : o.wp Tryd.prog a w K Q :=
  opr_fldE Tryd.underlying45 rfl info_int rfl (by decide) ho hx fun v b o1 F hv hc hF => h v ⟨b, o1, hv, by rw [hc, show F = stepF p from hF]; rfl⟩
end
theorem recV_rcB {w w' : World} {L : List Nat} {v : Value} {x : Rc} (h : RecV w v x) (hN : NewT w w') (hL : ∀ k ∈ L, w.heap.size ≤ k) : (svRecA L x).pred v w' := by
  obtain ⟨sv, dv, h1, h2, h3⟩ := h
  exact ⟨_, h1, rcA_elder ⟨sv, dv, rfl, h2, h3⟩ hN hL⟩
theorem redactA_cv (L : List Nat) (v : Value) (x : Rc) (w : World) (hx : RecV w v x) (hT : Tables w) (hl : x.data.length ≤ 900000 ∧ x.steps.length ≤ 900000) (hL : ∀ k ∈ L, k < w.heap.size) : Cv 6 #[v] w (svRecA L (redactB x)) :=
  (Redact_cvN v x w hx hT hl).mono fun _ _ ⟨u, h1, h2, sv, dv, h3, h4, h5⟩ => ⟨u, h1, h2, _, h3, sv, dv, rfl, h4.apart hL, h5 L hL⟩
end Go.Proofs.YtilmeffmdgcblaaDoor
/- The law BookGone, walked: records that are redacted go alike, and come to the same book; a clean report has nothing missing. -/
namespace Go.Proofs.YtilmeffmdgcblaaDoor
open Go Go.RowKit
set_option maxRecDepth 8000
set_option linter.all false
set_option maxHeartbeats 8000000 in
theorem BookGone_walk (v : Value) (l : List Rc) (lim wh : Int) (w : World) (h : RdR w v l) (hT : Tables w) : Calls Tryd.prog 3 #[v, .int .i64 lim, .int .u32 wh] w fun e w' => e = .returned (.bool true) ∧ Below w.heap.size w w' := by
  have HV := Lib.hid h
  have HT := Lib.hid hT
  clear h hT
  go_enter Tryd.func3, Tryd.ntmps3
  go_upto_region 1 with fail
  have HB := Lib.hid (NewT.refl w)
  have HM := Lib.hid (NewT.refl w)
  refine wp_region_steps0 NewT [SV.eq (.bool true), SV.eq (.bool false)] [([], none), ([(15, some 0)], none)] 86 2 rfl rfl (by kernel_rfl) NewT.trans (NewT.refl _) (Nat.le_of_ble_eq_true rfl) ⟨?_, ?_, trivial⟩ ?_
  · exact fun a wx hT hF K hK => rely_wp rfl (opr_cv (alive12_c wx) rfl Tryd.func4 (by kernel_rfl) (by kernel_rfl) evs0 hK)
  · exact fun a wx hT hF K hK => rely_wp rfl (opr_not rfl hF.1 (hK _ _ (NewT.refl _) rfl))
  · intro w1 k1
    iterate 2 (intro u h; obtain rfl := Eq.symm (h (by simp)); clear h)
    refine relyEnd_nil rfl ?_
    refine wpList_end rfl ?_
    simp only [Act.put, List.setIfInBounds_toArray, List.set_cons_zero, List.set_cons_succ]
    go_simp
    replace HM := Lib.hid (NewT.trans _ _ _ HM.out k1)
    clear k1
    go_upto_region 3 with fail
    refine wp_region_steps0 NewT [SV.eq (v), SV.eq (.bool (greatL l))] [([(0, none)], none), ([(17, some 0)], none)] 86 2 rfl rfl (by kernel_rfl) NewT.trans (NewT.refl _) (Nat.le_of_ble_eq_true rfl) ⟨?_, ?_, trivial⟩ ?_
    · exact fun a wx hT hF K hK => rely_wp rfl (opr_move (.inl rfl) (hK _ _ (NewT.refl _) hF.1))
    · exact fun a wx hT hF K hK => rely_wp rfl (opr_cv (Great_cv _ l wx ((HV.out.new (NewT.trans _ _ _ HM.out hT)))) rfl Tryd.func5 (by kernel_rfl) (by kernel_rfl) (evs1 hF.1) hK)
    · intro w2 k2
      iterate 2 (intro u h; obtain rfl := Eq.symm (h (by simp)); clear h)
      refine relyEnd_nil rfl ?_
      refine wpList_end rfl ?_
      simp only [Act.put, List.setIfInBounds_toArray, List.set_cons_zero, List.set_cons_succ]
      go_simp
      replace HM := Lib.hid (NewT.trans _ _ _ HM.out k2)
      clear k2
      cases hq : greatL l
      rotate_left
      · clear hq
        go_wp2
        go_ret
        exact ⟨rfl, (NewT.trans _ _ _ HB.out HM.out).out⟩
      have HL150 := Lib.hid (great_not hq).1
      have HXL := Lib.hid (great_not hq).2
      have HNL : Hid (nOf lim zK l ≤ 150 ∧ nOf lim zK l ≤ l.length) := Lib.hid (by have h1 := nOf_le lim l zK; have h2 := (great_not hq).1; omega)
      have HGD := Lib.hid (good_of lim l)
      have HOK : Hid (OkK (bkOf lim l)) := Lib.hid (good_ok (good_of lim l) (by have h1 := nOf_le lim l zK; have h2 := (great_not hq).1; omega))
      clear hq
      obtain ⟨bk, hbk⟩ := hid_ex (bkOf lim l)
      obtain ⟨m, hm⟩ := hid_ex (nOf lim zK l)
      rw [hbk.out] at HOK HGD
      rw [hm.out] at HNL HGD
      have HLN : Hid (bk.sg.length ≤ 12) := Lib.hid HGD.out.len.1
      have HRN : Hid ((repL bk.sg).length = bk.sg.length) := Lib.hid (by simp [repL])
      go_wp2
      go_loopw [7, 8] (fun o i wr => ∃ (k : Nat) (ov : Value) (X : List Rc), k ≤ l.length ∧ i = .int .i64 (k : Int) ∧ ov = o ∧ Hid (OwnR wr w.heap.size ov X) ∧ Hid (AlikeL (l.take k) X) ∧ Hid (NewT w wr)) (fun _ i _ => l.length - (intOf i).toNat)
      case atStart => exact ⟨0, _, [], by omega, rfl, rfl, Lib.hid (ownR_nil _ _), Lib.hid alike_nil, HM⟩
      case round =>
        clear HM
        obtain ⟨k, ov, X, hk, rfl, rfl, HO, HAK, HM⟩ := hrel
        have hll := HL150.out
        have HXN : Hid (X.length ≤ 150) := Lib.hid (by have h1 := HAK.out.1; rw [List.length_take] at h1; omega)
        by_cases hlt : k < l.length
        rotate_left
        · obtain rfl : k = l.length := by omega
          have HAL : Hid (AlikeL l X) := Lib.hid (by have := HAK.out; rwa [List.take_length] at this)
          go_upto_region 7 with fail
          refine wp_region_steps0 NewT [SV.eq (.int .i64 ((l.length : Int))), SV.eq (v), SV.eq (.int .i64 ((List.length (l) : Int))), SV.eq (.bool (decide (((l.length : Int)) < ((List.length (l) : Int)))))] [([(8, none)], none), ([(0, none)], none), ([(20, some 1)], none), ([(19, some 0), (21, some 2)], none)] 86 4 rfl rfl (by kernel_rfl) NewT.trans (NewT.refl _) (Nat.le_of_ble_eq_true rfl) ⟨?_, ?_, ?_, ?_, trivial⟩ ?_
          · exact fun a wx hT hF K hK => rely_wp rfl (opr_move (.inl rfl) (hK _ _ (NewT.refl _) hF.1))
          · exact fun a wx hT hF K hK => rely_wp rfl (opr_move (.inl rfl) (hK _ _ (NewT.refl _) hF.1))
          · intro a wx hT hF K hK
            obtain ⟨f20, _⟩ := hF
            have f20 : a.tmps.getD 20 undef = v := f20
            refine rely_wp rfl ?_
            exact opr_lenL rfl recEl (by rw [eval_tmp, f20]; exact (HV.out.new (NewT.trans _ _ _ HM.out hT))) (hK _ _ (NewT.refl _) rfl)
          · exact fun a wx hT hF K hK => rely_wp rfl (opr_cmp (b := decide (((l.length : Int)) < ((List.length (l) : Int)))) (.inr (.inr (.inr (.inl ⟨rfl, rfl⟩)))) Tryd.underlying3 rfl hF.1 hF.2.1 (hK _ _ (NewT.refl _) rfl))
          · intro w3 k3
            iterate 4 (intro u h; obtain rfl := Eq.symm (h (by simp)); clear h)
            refine relyEnd_nil rfl ?_
            refine wpList_end rfl ?_
            simp only [Act.put, List.setIfInBounds_toArray, List.set_cons_zero, List.set_cons_succ]
            go_simp
            replace HM := Lib.hid (NewT.trans _ _ _ HM.out k3)
            replace HO := Lib.hid (HO.out.new k3)
            have HAB := Lib.hid (alike_bk (lim := lim) HAL.out)
            have HXV : Hid (RdR w3 ov X) := Lib.hid HO.out.rd
            replace HV := Lib.hid (HV.out.new HM.out)
            replace HB := Lib.hid (NewT.trans _ _ _ HB.out HM.out)
            replace HM := Lib.hid (NewT.refl w3)
            go_upto_region 12 with fail
            refine wp_region_steps0 NewT [SV.eq (v), SV.eq (.int .i64 (lim)), svBkRB 0 (bk) (.int .i64 ((m : Int))), svBkRB 0 (bk) (.int .i64 ((m : Int))), svBkB (0) bk, SV.eq (.int .i64 ((m : Int)))] [([(0, none)], none), ([(1, none)], none), ([(48, some 0), (49, some 1)], none), ([(50, some 2)], none), ([(47, some 3)], none), ([(47, some 3)], none)] 86 6 rfl rfl (by kernel_rfl) NewT.trans (NewT.refl _) (Nat.le_of_ble_eq_true rfl) ⟨?_, ?_, ?_, ?_, ?_, ?_, trivial⟩ ?_
            · exact fun a wx hT hF K hK => rely_wp rfl (opr_move (.inl rfl) (hK _ _ (NewT.refl _) hF.1))
            · exact fun a wx hT hF K hK => rely_wp rfl (opr_move (.inl rfl) (hK _ _ (NewT.refl _) hF.1))
            · exact fun a wx hT hF K hK => rely_wp rfl (opr_cv (svBkRB_le (bkOf_cv _ l lim wx ((HV.out.new (NewT.trans _ _ _ HM.out hT))) (by have := HL150.out; omega)) (hbk.out) (by rw [hm.out])) rfl Tryd.func7 (by kernel_rfl) (by kernel_rfl) (evs2 hF.1 hF.2.1) hK)
            · exact fun a wx hT hF K hK => rely_wp rfl (opr_move (.inl rfl) (hK _ _ (NewT.refl _) hF.1))
            · exact fun a wx hT hF K hK => rely_wp rfl (opr_extKB0 rfl hF.1 (fun u hu => hK u _ (NewT.refl _) hu))
            · exact fun a wx hT hF K hK => rely_wp rfl (opr_extKB1 rfl hF.1 (hK _ _ (NewT.refl _) rfl))
            · intro w4 k4
              iterate 2 (intro u h; obtain rfl := Eq.symm (h (by simp)); clear h)
              iterate 2 (intro _ _)
              intro u51 h; have g51 := h (by simp); clear h; replace g51 := show (svBkB (0) bk).pred u51 w4 from g51
              intro u h; obtain rfl := Eq.symm (h (by simp)); clear h
              refine relyEnd_nil rfl ?_
              simp only [Act.put, List.setIfInBounds_toArray, List.set_cons_zero, List.set_cons_succ]
              obtain ⟨s9, rfl, hs9⟩ := (show BkVB w4 (0) u51 bk from g51)
              refine wpList_new (n := 5) (f := bkF bk.ep s9) rfl rfl rfl rfl rfl rfl (by first | (simp; done) | simp [Act.put]) run_alloc_book info_book (bkF_one _ _ hs9.rd.one) rfl ?_
              intro W4 hn4 rr4
              simp only [Act.put, List.setIfInBounds_toArray, List.set_cons_zero, List.set_cons_succ]
              refine wpList_plain rfl (fun K hK => ?_)
              refine opr_move (.inr rfl) (hK _ _ ?_)
              clear hK K
              refine wpList_end rfl ?_
              simp only [Act.put, List.setIfInBounds_toArray, List.set_cons_zero, List.set_cons_succ]
              go_simp
              obtain ⟨g9, h_g9⟩ : ∃ g_, w4.heap.size = g_ := ⟨_, rfl⟩
              rw [h_g9] at rr4
              simp only [h_g9]
              have HGg9 : Hid (w3.heap.size ≤ g9) := Lib.hid (by rw [← h_g9]; exact (NewT.trans _ _ _ HM.out k4).out.size)
              have q4 := NewT.trans _ _ _ k4 hn4
              have HS9 := Lib.hid (hs9.new hn4)
              clear hs9
              clear k4 hn4 h_g9
              replace HM := Lib.hid (NewT.trans _ _ _ HM.out q4)
              clear q4
              have Rg9 := Lib.hid rr4
              clear rr4
              replace HV := Lib.hid (HV.out.new HM.out)
              replace HXV := Lib.hid (HXV.out.new HM.out)
              replace HB := Lib.hid (NewT.trans _ _ _ HB.out HM.out)
              replace HM := Lib.hid (NewT.refl W4)
              go_upto_region 13 with fail
              refine wp_region_steps0 NewT [SV.eq (ov), SV.eq (.int .i64 (lim)), svBkRB 0 (bk) (.int .i64 ((m : Int))), svBkRB 0 (bk) (.int .i64 ((m : Int))), svBkB (0) bk, SV.eq (.int .i64 ((m : Int)))] [([(7, none)], none), ([(1, none)], none), ([(54, some 0), (55, some 1)], none), ([(56, some 2)], none), ([(53, some 3)], none), ([(53, some 3)], none)] 86 6 rfl rfl (by kernel_rfl) NewT.trans (NewT.refl _) (Nat.le_of_ble_eq_true rfl) ⟨?_, ?_, ?_, ?_, ?_, ?_, trivial⟩ ?_
              · exact fun a wx hT hF K hK => rely_wp rfl (opr_move (.inl rfl) (hK _ _ (NewT.refl _) hF.1))
              · exact fun a wx hT hF K hK => rely_wp rfl (opr_move (.inl rfl) (hK _ _ (NewT.refl _) hF.1))
              · exact fun a wx hT hF K hK => rely_wp rfl (opr_cv (svBkRB_le (bkOf_cv _ X lim wx ((HXV.out.new (NewT.trans _ _ _ HM.out hT))) (by have := HXN.out; omega)) (HAB.out.2.trans hbk.out) (by rw [HAB.out.1, hm.out])) rfl Tryd.func7 (by kernel_rfl) (by kernel_rfl) (evs2 hF.1 hF.2.1) hK)
              · exact fun a wx hT hF K hK => rely_wp rfl (opr_move (.inl rfl) (hK _ _ (NewT.refl _) hF.1))
              · exact fun a wx hT hF K hK => rely_wp rfl (opr_extKB0 rfl hF.1 (fun u hu => hK u _ (NewT.refl _) hu))
              · exact fun a wx hT hF K hK => rely_wp rfl (opr_extKB1 rfl hF.1 (hK _ _ (NewT.refl _) rfl))
              · intro w5 k5
                iterate 2 (intro u h; obtain rfl := Eq.symm (h (by simp)); clear h)
                iterate 2 (intro _ _)
                intro u57 h; have g57 := h (by simp); clear h; replace g57 := show (svBkB (0) bk).pred u57 w5 from g57
                intro u h; obtain rfl := Eq.symm (h (by simp)); clear h
                refine relyEnd_nil rfl ?_
                simp only [Act.put, List.setIfInBounds_toArray, List.set_cons_zero, List.set_cons_succ]
                obtain ⟨s11, rfl, hs11⟩ := (show BkVB w5 (0) u57 bk from g57)
                refine wpList_new (n := 5) (f := bkF bk.ep s11) rfl rfl rfl rfl rfl rfl (by first | (simp; done) | simp [Act.put]) run_alloc_book info_book (bkF_one _ _ hs11.rd.one) rfl ?_
                intro W5 hn5 rr5
                simp only [Act.put, List.setIfInBounds_toArray, List.set_cons_zero, List.set_cons_succ]
                refine wpList_plain rfl (fun K hK => ?_)
                refine opr_move (.inr rfl) (hK _ _ ?_)
                clear hK K
                refine wpList_end rfl ?_
                simp only [Act.put, List.setIfInBounds_toArray, List.set_cons_zero, List.set_cons_succ]
                go_simp
                obtain ⟨g11, h_g11⟩ : ∃ g_, w5.heap.size = g_ := ⟨_, rfl⟩
                rw [h_g11] at rr5
                simp only [h_g11]
                have HGg11 : Hid (g9 < g11 ∧ W4.heap.size ≤ g11) := Lib.hid (by rw [← h_g11]; exact ⟨(k5.row Rg9.out).lt, (NewT.trans _ _ _ HM.out k5).out.size⟩)
                have q5 := NewT.trans _ _ _ k5 hn5
                have HS11 := Lib.hid (hs11.new hn5)
                clear hs11
                clear k5 hn5 h_g11
                replace Rg9 := Lib.hid (q5.row Rg9.out)
                replace HM := Lib.hid (NewT.trans _ _ _ HM.out q5)
                clear q5
                have Rg11 := Lib.hid rr5
                clear rr5
                replace HV := Lib.hid (HV.out.new HM.out)
                replace HXV := Lib.hid (HXV.out.new HM.out)
                replace HS9 := Lib.hid (HS9.out.new HM.out)
                replace HB := Lib.hid (NewT.trans _ _ _ HB.out HM.out)
                replace HM := Lib.hid (NewT.refl W5)
                go_upto_region 14 with fail
                refine wp_region_steps0 NewT [SV.eq (.int .i64 ((m : Int))), SV.eq (.int .i64 ((m : Int))), SV.eq (.bool false), SV.eq (.bool false), SV.eq (.agg (rowA 5 (bkF bk.ep s9))), SV.eq (.agg (rowA 5 (bkF bk.ep s11))), SV.eq (.bool true), SV.eq (.bool false), SV.eq (.bool false)] [([(10, none)], none), ([(12, none)], none), ([(59, some 0), (60, some 1)], none), ([(61, some 2)], none), ([(9, none), (62, some 3)], some (62, false)), ([(11, none), (62, some 3)], some (62, false)), ([(63, some 4), (64, some 5), (62, some 3)], some (62, false)), ([(65, some 6), (62, some 3)], some (62, false)), ([(62, some 3), (66, some 7)], none)] 86 9 rfl rfl (by kernel_rfl) NewT.trans (NewT.refl _) (Nat.le_of_ble_eq_true rfl) ⟨?_, ?_, ?_, ?_, ?_, ?_, ?_, ?_, ?_, trivial⟩ ?_
                · exact fun a wx hT hF K hK => rely_wp rfl (opr_move (.inl rfl) (hK _ _ (NewT.refl _) hF.1))
                · exact fun a wx hT hF K hK => rely_wp rfl (opr_move (.inl rfl) (hK _ _ (NewT.refl _) hF.1))
                · exact fun a wx hT hF K hK => rely_wp rfl (opr_cmp (b := false) (.inr (.inl ⟨rfl, (by simp)⟩)) Tryd.underlying3 rfl hF.1 hF.2.1 (hK _ _ (NewT.refl _) rfl))
                · exact fun a wx hT hF K hK => rely_wp rfl (opr_move (.inl rfl) (hK _ _ (NewT.refl _) hF.1))
                · exact fun a wx hT hF K hK => rely_wp (rely_guard hF.2.1) (opr_ldK (hT.row Rg9.out) rfl hF.1 (hK _ _ (NewT.refl _) rfl))
                · exact fun a wx hT hF K hK => rely_wp (rely_guard hF.2.1) (opr_ldK (hT.row Rg11.out) rfl hF.1 (hK _ _ (NewT.refl _) rfl))
                · exact fun a wx hT hF K hK => rely_wp (rely_guard hF.2.2.1) (opr_cv ((sameK_self bk) ▸ bSame_cv _ _ bk bk wx ((show BkVB wx _ _ bk from ⟨s9, rfl, HS9.out.new (NewT.trans _ _ _ HM.out hT)⟩).rd) ((show BkVB wx _ _ bk from ⟨s11, rfl, HS11.out.new (NewT.trans _ _ _ HM.out hT)⟩).rd) (by have := HLN.out; omega)) rfl Tryd.func8 (by kernel_rfl) (by kernel_rfl) (evs2 hF.1 hF.2.1) hK)
                · exact fun a wx hT hF K hK => rely_wp (rely_guard hF.2.1) (opr_not rfl hF.1 (hK _ _ (NewT.refl _) rfl))
                · exact fun a wx hT hF K hK => rely_wp rfl (opr_pick_false rfl hF.1 (hK _ _ (NewT.refl _) hF.2.1))
                · intro w6 k6
                  iterate 9 (intro u h; obtain rfl := Eq.symm (h (by simp)); clear h)
                  refine relyEnd_nil rfl ?_
                  refine wpList_end rfl ?_
                  simp only [Act.put, List.setIfInBounds_toArray, List.set_cons_zero, List.set_cons_succ]
                  go_simp
                  replace Rg9 := Lib.hid (k6.row Rg9.out)
                  replace Rg11 := Lib.hid (k6.row Rg11.out)
                  replace HM := Lib.hid (NewT.trans _ _ _ HM.out k6)
                  clear k6
                  go_upto_region 16 with fail
                  refine wp_region_steps0 NewT [SV.eq (.agg (rowA 5 (bkF bk.ep s9))), svL 2 lnE (repL bk.sg), svL 2 lnE (repL bk.sg)] [([(9, none)], none), ([(68, some 0)], none), ([(69, some 1)], none)] 86 3 rfl rfl (by kernel_rfl) NewT.trans (NewT.refl _) (Nat.le_of_ble_eq_true rfl) ⟨?_, ?_, ?_, trivial⟩ ?_
                  · exact fun a wx hT hF K hK => rely_wp rfl (opr_ldK (hT.row Rg9.out) rfl hF.1 (hK _ _ (NewT.refl _) rfl))
                  · exact fun a wx hT hF K hK => rely_wp rfl (opr_cv (Report_cv _ bk wx ((show BkVB wx _ _ bk from ⟨s9, rfl, HS9.out.new (NewT.trans _ _ _ HM.out hT)⟩).rd) (by have := HLN.out; omega)) rfl Tryd.func9 (by kernel_rfl) (by kernel_rfl) (evs1 hF.1) hK)
                  · exact fun a wx hT hF K hK => rely_wp rfl (opr_move (.inr rfl) (hK _ _ (NewT.refl _) hF.1))
                  · intro w7 k7
                    intro u h; obtain rfl := Eq.symm (h (by simp)); clear h
                    intro _ _
                    intro u13 h; have g13 := h (by simp); clear h; replace g13 := show (svL 2 lnE (repL bk.sg)).pred u13 w7 from g13
                    refine relyEnd_nil rfl ?_
                    refine wpList_end rfl ?_
                    simp only [Act.put, List.setIfInBounds_toArray, List.set_cons_zero, List.set_cons_succ]
                    go_simp
                    replace Rg9 := Lib.hid (k7.row Rg9.out)
                    replace Rg11 := Lib.hid (k7.row Rg11.out)
                    replace HM := Lib.hid (NewT.trans _ _ _ HM.out k7)
                    clear k7
                    have HRV : Hid (RdN w7 u13 (repL bk.sg)) := Lib.hid g13
                    replace HB := Lib.hid (NewT.trans _ _ _ HB.out HM.out)
                    replace HM := Lib.hid (NewT.refl w7)
                    obtain ⟨cb, hcb⟩ := hid_ex (cleanL (repL bk.sg))
                    go_wp2
                    go_loopw [14] (fun i wr => ∃ k : Nat, k ≤ (repL bk.sg).length ∧ i = .int .i64 (k : Int) ∧ Hid (NewT w7 wr)) (fun i _ => (repL bk.sg).length - (intOf i).toNat)
                    case atStart => exact ⟨0, by omega, rfl, HM⟩
                    case round =>
                      clear HM
                      obtain ⟨k, hk, rfl, HM⟩ := hrel
                      by_cases hlt : k < (repL bk.sg).length
                      rotate_left
                      · obtain rfl : k = (repL bk.sg).length := by omega
                        go_upto_region 18 with fail
                        refine wp_region_steps0 NewT [SV.eq (.int .i64 (((repL bk.sg).length : Int))), SV.eq (u13), SV.eq (.int .i64 ((List.length (repL bk.sg) : Int))), SV.eq (.bool false), SV.eq (.bool false), SV.eq (undef), SV.eq (undef), SV.eq (.bool false)] [([(14, none)], none), ([(13, none)], none), ([(71, some 1)], none), ([(70, some 0), (72, some 2)], none), ([(73, some 3)], none), ([(13, none), (74, some 4)], some (74, true)), ([(75, some 5), (74, some 4)], some (74, true)), ([(74, some 4), (76, some 6)], none)] 86 8 rfl rfl (by kernel_rfl) NewT.trans (NewT.refl _) (Nat.le_of_ble_eq_true rfl) ⟨?_, ?_, ?_, ?_, ?_, ?_, ?_, ?_, trivial⟩ ?_
                        · exact fun a wx hT hF K hK => rely_wp rfl (opr_move (.inl rfl) (hK _ _ (NewT.refl _) hF.1))
                        · exact fun a wx hT hF K hK => rely_wp rfl (opr_move (.inl rfl) (hK _ _ (NewT.refl _) hF.1))
                        · intro a wx hT hF K hK
                          obtain ⟨f71, _⟩ := hF
                          have f71 : a.tmps.getD 71 undef = u13 := f71
                          refine rely_wp rfl ?_
                          exact opr_lenL rfl lineEl (by rw [eval_tmp, f71]; exact (HRV.out.new (NewT.trans _ _ _ HM.out hT))) (hK _ _ (NewT.refl _) rfl)
                        · exact fun a wx hT hF K hK => rely_wp rfl (opr_cmp (b := false) (.inr (.inr (.inr (.inl ⟨rfl, (by exact decide_eq_false (by omega))⟩)))) Tryd.underlying3 rfl hF.1 hF.2.1 (hK _ _ (NewT.refl _) rfl))
                        · exact fun a wx hT hF K hK => rely_wp rfl (opr_move (.inl rfl) (hK _ _ (NewT.refl _) hF.1))
                        · exact fun a wx hT hF K hK => rely_skip (rely_guard_no hF.2.1 (by decide)) (hK _ _ (NewT.refl _) rfl)
                        · exact fun a wx hT hF K hK => rely_skip (rely_guard_no hF.2.1 (by decide)) (hK _ _ (NewT.refl _) rfl)
                        · exact fun a wx hT hF K hK => rely_wp rfl (opr_pick_false rfl hF.1 (hK _ _ (NewT.refl _) rfl))
                        · intro w8 k8
                          iterate 8 (intro u h; obtain rfl := Eq.symm (h (by simp)); clear h)
                          refine relyEnd_nil rfl ?_
                          refine wpList_end rfl ?_
                          simp only [Act.put, List.setIfInBounds_toArray, List.set_cons_zero, List.set_cons_succ]
                          go_simp
                          replace HM := Lib.hid (NewT.trans _ _ _ HM.out k8)
                          clear k8
                          go_wp2
                          go_ret
                          exact ⟨rfl, (NewT.trans _ _ _ HB.out HM.out).out⟩
                      obtain ⟨q, hq⟩ : ∃ q, (repL bk.sg)[k]? = some q := ⟨_, List.getElem?_eq_getElem hlt⟩
                      have HQQ := Lib.hid hq
                      have it : (k : Int) < ((repL bk.sg).length : Int) := by omega
                      have HIT := Lib.hid it
                      clear hq hlt
                      cases cb
                      · skip
                        go_upto_region 18 with fail
                        refine wp_region_steps0 NewT [SV.eq (.int .i64 ((k : Int))), SV.eq (u13), SV.eq (.int .i64 ((List.length (repL bk.sg) : Int))), SV.eq (.bool true), SV.eq (.bool true), SV.eq (u13), SV.eq (.bool false), SV.eq (.bool false)] [([(14, none)], none), ([(13, none)], none), ([(71, some 1)], none), ([(70, some 0), (72, some 2)], none), ([(73, some 3)], none), ([(13, none), (74, some 4)], some (74, true)), ([(75, some 5), (74, some 4)], some (74, true)), ([(74, some 4), (76, some 6)], none)] 86 8 rfl rfl (by kernel_rfl) NewT.trans (NewT.refl _) (Nat.le_of_ble_eq_true rfl) ⟨?_, ?_, ?_, ?_, ?_, ?_, ?_, ?_, trivial⟩ ?_
                        · exact fun a wx hT hF K hK => rely_wp rfl (opr_move (.inl rfl) (hK _ _ (NewT.refl _) hF.1))
                        · exact fun a wx hT hF K hK => rely_wp rfl (opr_move (.inl rfl) (hK _ _ (NewT.refl _) hF.1))
                        · intro a wx hT hF K hK
                          obtain ⟨f71, _⟩ := hF
                          have f71 : a.tmps.getD 71 undef = u13 := f71
                          refine rely_wp rfl ?_
                          exact opr_lenL rfl lineEl (by rw [eval_tmp, f71]; exact (HRV.out.new (NewT.trans _ _ _ HM.out hT))) (hK _ _ (NewT.refl _) rfl)
                        · exact fun a wx hT hF K hK => rely_wp rfl (opr_cmp (b := true) (.inr (.inr (.inr (.inl ⟨rfl, (by have := HIT.out; exact decide_eq_true this)⟩)))) Tryd.underlying3 rfl hF.1 hF.2.1 (hK _ _ (NewT.refl _) rfl))
                        · exact fun a wx hT hF K hK => rely_wp rfl (opr_move (.inl rfl) (hK _ _ (NewT.refl _) hF.1))
                        · exact fun a wx hT hF K hK => rely_wp (rely_guard hF.2.1) (opr_move (.inl rfl) (hK _ _ (NewT.refl _) hF.1))
                        · exact fun a wx hT hF K hK => rely_wp (rely_guard hF.2.1) (opr_cv (hcb.out ▸ Clean_cv _ (repL bk.sg) wx ((HRV.out.new (NewT.trans _ _ _ HM.out hT))) (by have h1 := HLN.out; have h2 := HRN.out; omega)) rfl Tryd.func10 (by kernel_rfl) (by kernel_rfl) (evs1 hF.1) hK)
                        · exact fun a wx hT hF K hK => rely_wp rfl (opr_pick_true rfl hF.1 (hK _ _ (NewT.refl _) hF.2.1))
                        · intro w9 k9
                          iterate 8 (intro u h; obtain rfl := Eq.symm (h (by simp)); clear h)
                          refine relyEnd_nil rfl ?_
                          refine wpList_end rfl ?_
                          simp only [Act.put, List.setIfInBounds_toArray, List.set_cons_zero, List.set_cons_succ]
                          go_simp
                          replace HM := Lib.hid (NewT.trans _ _ _ HM.out k9)
                          clear k9
                          go_wp2
                          go_ret
                          exact ⟨rfl, (NewT.trans _ _ _ HB.out HM.out).out⟩
                      · have HQ0 : Hid (q.2 = 0) := Lib.hid (clean_none HGD.out hcb.out HQQ.out)
                        go_upto_region 18 with fail
                        refine wp_region_steps0 NewT [SV.eq (.int .i64 ((k : Int))), SV.eq (u13), SV.eq (.int .i64 ((List.length (repL bk.sg) : Int))), SV.eq (.bool true), SV.eq (.bool true), SV.eq (u13), SV.eq (.bool true), SV.eq (.bool true)] [([(14, none)], none), ([(13, none)], none), ([(71, some 1)], none), ([(70, some 0), (72, some 2)], none), ([(73, some 3)], none), ([(13, none), (74, some 4)], some (74, true)), ([(75, some 5), (74, some 4)], some (74, true)), ([(74, some 4), (76, some 6)], none)] 86 8 rfl rfl (by kernel_rfl) NewT.trans (NewT.refl _) (Nat.le_of_ble_eq_true rfl) ⟨?_, ?_, ?_, ?_, ?_, ?_, ?_, ?_, trivial⟩ ?_
                        · exact fun a wx hT hF K hK => rely_wp rfl (opr_move (.inl rfl) (hK _ _ (NewT.refl _) hF.1))
                        · exact fun a wx hT hF K hK => rely_wp rfl (opr_move (.inl rfl) (hK _ _ (NewT.refl _) hF.1))
                        · intro a wx hT hF K hK
                          obtain ⟨f71, _⟩ := hF
                          have f71 : a.tmps.getD 71 undef = u13 := f71
                          refine rely_wp rfl ?_
                          exact opr_lenL rfl lineEl (by rw [eval_tmp, f71]; exact (HRV.out.new (NewT.trans _ _ _ HM.out hT))) (hK _ _ (NewT.refl _) rfl)
                        · exact fun a wx hT hF K hK => rely_wp rfl (opr_cmp (b := true) (.inr (.inr (.inr (.inl ⟨rfl, (by have := HIT.out; exact decide_eq_true this)⟩)))) Tryd.underlying3 rfl hF.1 hF.2.1 (hK _ _ (NewT.refl _) rfl))
                        · exact fun a wx hT hF K hK => rely_wp rfl (opr_move (.inl rfl) (hK _ _ (NewT.refl _) hF.1))
                        · exact fun a wx hT hF K hK => rely_wp (rely_guard hF.2.1) (opr_move (.inl rfl) (hK _ _ (NewT.refl _) hF.1))
                        · exact fun a wx hT hF K hK => rely_wp (rely_guard hF.2.1) (opr_cv (hcb.out ▸ Clean_cv _ (repL bk.sg) wx ((HRV.out.new (NewT.trans _ _ _ HM.out hT))) (by have h1 := HLN.out; have h2 := HRN.out; omega)) rfl Tryd.func10 (by kernel_rfl) (by kernel_rfl) (evs1 hF.1) hK)
                        · exact fun a wx hT hF K hK => rely_wp rfl (opr_pick_true rfl hF.1 (hK _ _ (NewT.refl _) hF.2.1))
                        · intro w10 k10
                          iterate 8 (intro u h; obtain rfl := Eq.symm (h (by simp)); clear h)
                          refine relyEnd_nil rfl ?_
                          refine wpList_end rfl ?_
                          simp only [Act.put, List.setIfInBounds_toArray, List.set_cons_zero, List.set_cons_succ]
                          go_simp
                          replace HM := Lib.hid (NewT.trans _ _ _ HM.out k10)
                          clear k10
                          go_upto_region 20 with fail
                          refine wp_region_steps0 NewT [SV.eq (u13), SV.eq (.int .i64 ((k : Int))), svEl 2 lnE (q), svIp (q.2), SV.eq (.int .i64 (q.2)), SV.eq (.bool false)] [([(13, none)], none), ([(14, none)], none), ([(80, some 0), (81, some 1)], none), ([(82, some 2)], none), ([(83, some 3)], none), ([(84, some 4)], none)] 86 6 rfl rfl (by kernel_rfl) NewT.trans (NewT.refl _) (Nat.le_of_ble_eq_true rfl) ⟨?_, ?_, ?_, ?_, ?_, ?_, trivial⟩ ?_
                          · exact fun a wx hT hF K hK => rely_wp rfl (opr_move (.inl rfl) (hK _ _ (NewT.refl _) hF.1))
                          · exact fun a wx hT hF K hK => rely_wp rfl (opr_move (.inl rfl) (hK _ _ (NewT.refl _) hF.1))
                          · intro a wx hT hF K hK
                            obtain ⟨f80, f81, _⟩ := hF
                            have f80 : a.tmps.getD 80 undef = u13 := f80
                            have f81 : a.tmps.getD 81 undef = .int .i64 ((k : Int)) := f81
                            refine rely_wp rfl ?_
                            exact opr_idxL (i := k) (p := q) lineEl (HQQ.out) (rfl) rfl (by rw [eval_tmp, f80]; exact (HRV.out.new (NewT.trans _ _ _ HM.out hT))) f81 (fun v hv => hK v _ (NewT.refl _) hv)
                          · exact fun a wx hT hF K hK => rely_wp rfl (opr_fldNe1 rfl hF.1 (fun u hu => hK u _ (NewT.refl _) hu))
                          · exact fun a wx hT hF K hK => rely_wp rfl (opr_ldIp rfl hF.1 (hK _ _ (NewT.refl _) rfl))
                          · exact fun a wx hT hF K hK => rely_wp rfl (opr_cmp (b := false) (.inr (.inl ⟨rfl, (by rw [HQ0.out]; rfl)⟩)) Tryd.underlying3 rfl hF.1 rfl (hK _ _ (NewT.refl _) rfl))
                          · intro w11 k11
                            iterate 2 (intro u h; obtain rfl := Eq.symm (h (by simp)); clear h)
                            iterate 2 (intro _ _)
                            iterate 2 (intro u h; obtain rfl := Eq.symm (h (by simp)); clear h)
                            refine relyEnd_nil rfl ?_
                            refine wpList_end rfl ?_
                            simp only [Act.put, List.setIfInBounds_toArray, List.set_cons_zero, List.set_cons_succ]
                            go_simp
                            replace HM := Lib.hid (NewT.trans _ _ _ HM.out k11)
                            clear k11
                            have it2 := HIT.out
                            have hrn := HRN.out
                            have hln := HLN.out
                            go_wp2
                            go_roundw
                            case rel => exact ⟨k + 1, by omega, by go_num, by first | exact HM | trivial⟩
                            case measure => simp [intOf]; omega
        obtain ⟨x, hx⟩ : ∃ p, l[k]? = some p := ⟨_, List.getElem?_eq_getElem hlt⟩
        have HPP := Lib.hid hx
        have HXS := Lib.hid (HXL.out x (List.mem_of_getElem? hx))
        have HTK : Hid (l.take (k + 1) = l.take k ++ [x]) := Lib.hid (by rw [List.take_add_one, hx]; rfl)
        have it : (k : Int) < (l.length : Int) := by omega
        have HIT := Lib.hid it
        obtain ⟨j, hj⟩ : ∃ j : Nat, (k : Int) % 32 = (j : Int) := ⟨k % 32, by omega⟩
        have HJ := Lib.hid hj
        have HJ32 : Hid (j ≤ 31) := Lib.hid (by omega)
        have HK1 : Hid (k ≤ 150) := Lib.hid (by omega)
        clear hx hlt hj
        go_upto_region 7 with fail
        refine wp_region_steps0 NewT [SV.eq (.int .i64 ((k : Int))), SV.eq (v), SV.eq (.int .i64 ((List.length (l) : Int))), SV.eq (.bool (decide (((k : Int)) < ((List.length (l) : Int)))))] [([(8, none)], none), ([(0, none)], none), ([(20, some 1)], none), ([(19, some 0), (21, some 2)], none)] 86 4 rfl rfl (by kernel_rfl) NewT.trans (NewT.refl _) (Nat.le_of_ble_eq_true rfl) ⟨?_, ?_, ?_, ?_, trivial⟩ ?_
        · exact fun a wx hT hF K hK => rely_wp rfl (opr_move (.inl rfl) (hK _ _ (NewT.refl _) hF.1))
        · exact fun a wx hT hF K hK => rely_wp rfl (opr_move (.inl rfl) (hK _ _ (NewT.refl _) hF.1))
        · intro a wx hT hF K hK
          obtain ⟨f20, _⟩ := hF
          have f20 : a.tmps.getD 20 undef = v := f20
          refine rely_wp rfl ?_
          exact opr_lenL rfl recEl (by rw [eval_tmp, f20]; exact (HV.out.new (NewT.trans _ _ _ HM.out hT))) (hK _ _ (NewT.refl _) rfl)
        · exact fun a wx hT hF K hK => rely_wp rfl (opr_cmp (b := decide (((k : Int)) < ((List.length (l) : Int)))) (.inr (.inr (.inr (.inl ⟨rfl, rfl⟩)))) Tryd.underlying3 rfl hF.1 hF.2.1 (hK _ _ (NewT.refl _) rfl))
        · intro w12 k12
          iterate 4 (intro u h; obtain rfl := Eq.symm (h (by simp)); clear h)
          refine relyEnd_nil rfl ?_
          refine wpList_end rfl ?_
          simp only [Act.put, List.setIfInBounds_toArray, List.set_cons_zero, List.set_cons_succ]
          go_simp
          replace HM := Lib.hid (NewT.trans _ _ _ HM.out k12)
          replace HO := Lib.hid (HO.out.new k12)
          go_upto_region 9 with fail
          refine wp_region_steps0 NewT [SV.eq ((.int .u32 wh)), SV.eq (.int .i64 ((k : Int))), SV.eq (.int .i64 ((j : Nat))), SV.eq ((.int .u64 (j : Nat))), svW32, svW32, svBl] [([(2, none)], none), ([(8, none)], none), ([(26, some 1)], none), ([(27, some 2)], none), ([(25, some 0), (28, some 3)], none), ([(29, some 4)], none), ([(30, some 5)], none)] 86 7 rfl rfl (by kernel_rfl) NewT.trans (NewT.refl _) (Nat.le_of_ble_eq_true rfl) ⟨?_, ?_, ?_, ?_, ?_, ?_, ?_, trivial⟩ ?_
          · exact fun a wx hT hF K hK => rely_wp rfl (opr_move (.inl rfl) (hK _ _ (NewT.refl _) hF.1))
          · exact fun a wx hT hF K hK => rely_wp rfl (opr_move (.inl rfl) (hK _ _ (NewT.refl _) hF.1))
          · exact fun a wx hT hF K hK => rely_wp rfl (opr_rem (by have := HK1.out; omega) (by omega) HJ.out rfl hF.1 rfl (hK _ _ (NewT.refl _) rfl))
          · exact fun a wx hT hF K hK => rely_wp rfl (opr_cvU (by have := HJ32.out; omega) rfl hF.1 (hK _ _ (NewT.refl _) rfl))
          · exact fun a wx hT hF K hK => rely_wp rfl (opr_shrU (by have := HJ32.out; omega) rfl hF.1 hF.2.1 (fun v hv => hK v _ (NewT.refl _) hv))
          · exact fun a wx hT hF K hK => rely_wp rfl (opr_and1 rfl hF.1 (fun v hv => hK v _ (NewT.refl _) hv))
          · exact fun a wx hT hF K hK => rely_wp rfl (opr_eq1 rfl hF.1 (fun v hv => hK v _ (NewT.refl _) hv))
          · intro w13 k13
            iterate 4 (intro u h; obtain rfl := Eq.symm (h (by simp)); clear h)
            iterate 2 (intro _ _)
            intro u31 h; have g31 := h (by simp); clear h; replace g31 := show (svBl).pred u31 w13 from g31
            refine relyEnd_nil rfl ?_
            refine wpList_end rfl ?_
            simp only [Act.put, List.setIfInBounds_toArray, List.set_cons_zero, List.set_cons_succ]
            go_simp
            replace HM := Lib.hid (NewT.trans _ _ _ HM.out k13)
            replace HO := Lib.hid (HO.out.new k13)
            obtain ⟨b, rfl⟩ := g31
            cases b
            rotate_left
            · skip
              go_upto_region 10 with fail
              refine wp_region_steps0 NewT [SV.eq (ov), SV.eq (v), SV.eq (.int .i64 ((k : Int))), svEl 109 rcE (x), svRec (x), svRecA (Value.ownBlock ov).toList (redactB x), svRo (Value.ownBlock ov).toList (redactB x)] [([(7, none)], none), ([(0, none)], none), ([(8, none)], none), ([(33, some 1), (34, some 2)], none), ([(35, some 3)], none), ([(36, some 4)], none), ([(37, some 5)], none)] 86 7 rfl rfl (by kernel_rfl) NewT.trans (NewT.refl _) (Nat.le_of_ble_eq_true rfl) ⟨?_, ?_, ?_, ?_, ?_, ?_, ?_, trivial⟩ ?_
              · exact fun a wx hT hF K hK => rely_wp rfl (opr_move (.inl rfl) (hK _ _ (NewT.refl _) hF.1))
              · exact fun a wx hT hF K hK => rely_wp rfl (opr_move (.inl rfl) (hK _ _ (NewT.refl _) hF.1))
              · exact fun a wx hT hF K hK => rely_wp rfl (opr_move (.inl rfl) (hK _ _ (NewT.refl _) hF.1))
              · intro a wx hT hF K hK
                obtain ⟨f33, f34, _⟩ := hF
                have f33 : a.tmps.getD 33 undef = v := f33
                have f34 : a.tmps.getD 34 undef = .int .i64 ((k : Int)) := f34
                refine rely_wp rfl ?_
                exact opr_idxL (i := k) (p := x) recEl (HPP.out) (rfl) rfl (by rw [eval_tmp, f33]; exact (HV.out.new (NewT.trans _ _ _ HM.out hT))) f34 (fun v hv => hK v _ (NewT.refl _) hv)
              · exact fun a wx hT hF K hK => rely_wp rfl (opr_ldRcE rfl hF.1 (fun u hu => hK u _ (NewT.refl _) hu))
              · exact fun a wx hT hF K hK => rely_wp rfl (opr_cv (redactA_cv _ _ x wx (hF.1) ((NewT.trans _ _ _ HM.out hT).tables HT.out) (by have := HXS.out; omega) (fun k hk => Nat.lt_of_lt_of_le (HO.out.at_ k hk).2 hT.out.size)) rfl Tryd.func6 (by kernel_rfl) (by kernel_rfl) (evs1 rfl) hK)
              · exact fun a wx hT hF K hK => rely_wp rfl (opr_bsRo rfl hF.1 (fun v w' hN hv => hK v w' hN hv))
              · intro w14 k14
                iterate 3 (intro u h; obtain rfl := Eq.symm (h (by simp)); clear h)
                iterate 3 (intro _ _)
                intro u38 h; have g38 := h (by simp); clear h; replace g38 := show (svRo (Value.ownBlock ov).toList (redactB x)).pred u38 w14 from g38
                refine relyEnd_nil rfl ?_
                simp only [Act.put, List.setIfInBounds_toArray, List.set_cons_zero, List.set_cons_succ]
                obtain ⟨v2, w2, hrun, ho, hB⟩ := run_appR (HO.out.new k14) g38 (by have := HXN.out; omega) (NewT.trans _ _ _ HM.out k14).out.size 22
                refine wpList_plain rfl (fun K hK => ?_)
                refine opr_append rfl rfl rfl hrun (hK _ _ ?_)
                clear hK K hrun
                simp only [Act.put, List.setIfInBounds_toArray, List.set_cons_zero, List.set_cons_succ]
                refine wpList_plain rfl (fun K hK => ?_)
                refine opr_move (.inr rfl) (hK _ _ ?_)
                clear hK K
                refine wpList_end rfl ?_
                simp only [Act.put, List.setIfInBounds_toArray, List.set_cons_zero, List.set_cons_succ]
                go_simp
                have HN : Hid (AlikeL (l.take (k + 1)) (X ++ [redactB x])) := Lib.hid (by rw [HTK.out]; exact alike_app HAK.out (.inr rfl))
                have HO2 := Lib.hid ho
                have hBM : NewT w w2 := NewT.of ((NewT.trans _ _ _ HM.out k14).out.trans hB)
                have it2 := HIT.out
                clear HM HO HAK ho
                go_wp2
                go_roundw
                case rel => exact ⟨k + 1, _, _, by omega, by go_num, rfl, by first | exact HO2 | trivial, HN, Lib.hid hBM⟩
                case measure => simp [intOf]; omega
            · skip
              go_upto_region 11 with fail
              refine wp_region_steps0 NewT [SV.eq (ov), SV.eq (v), SV.eq (.int .i64 ((k : Int))), svAt w (svEl 109 rcE x), svAt w (svRec x), svRo (Value.ownBlock ov).toList x] [([(7, none)], none), ([(0, none)], none), ([(8, none)], none), ([(41, some 1), (42, some 2)], none), ([(43, some 3)], none), ([(44, some 4)], none)] 86 6 rfl rfl (by kernel_rfl) NewT.trans (NewT.refl _) (Nat.le_of_ble_eq_true rfl) ⟨?_, ?_, ?_, ?_, ?_, ?_, trivial⟩ ?_
              · exact fun a wx hT hF K hK => rely_wp rfl (opr_move (.inl rfl) (hK _ _ (NewT.refl _) hF.1))
              · exact fun a wx hT hF K hK => rely_wp rfl (opr_move (.inl rfl) (hK _ _ (NewT.refl _) hF.1))
              · exact fun a wx hT hF K hK => rely_wp rfl (opr_move (.inl rfl) (hK _ _ (NewT.refl _) hF.1))
              · intro a wx hT hF K hK
                obtain ⟨f41, f42, _⟩ := hF
                have f41 : a.tmps.getD 41 undef = v := f41
                have f42 : a.tmps.getD 42 undef = .int .i64 ((k : Int)) := f42
                refine rely_wp rfl ?_
                exact opr_idxLW (W := w) recEl HPP.out rfl rfl (by rw [eval_tmp, f41]; exact HV.out) f42 (fun v hv => hK v _ (NewT.refl _) hv)
              · exact fun a wx hT hF K hK => rely_wp rfl (opr_ldRcW (W := w) (NewT.trans _ _ _ HM.out hT) rfl hF.1 (fun v hv => hK v _ (NewT.refl _) hv))
              · exact fun a wx hT hF K hK => rely_wp rfl (opr_bsRo rfl (recV_rcB hF.1 (NewT.trans _ _ _ HM.out hT) (fun k hk => (HO.out.at_ k hk).1)) (fun v w' hN hv => hK v w' hN hv))
              · intro w15 k15
                iterate 3 (intro u h; obtain rfl := Eq.symm (h (by simp)); clear h)
                iterate 2 (intro _ _)
                intro u45 h; have g45 := h (by simp); clear h; replace g45 := show (svRo (Value.ownBlock ov).toList x).pred u45 w15 from g45
                refine relyEnd_nil rfl ?_
                simp only [Act.put, List.setIfInBounds_toArray, List.set_cons_zero, List.set_cons_succ]
                obtain ⟨v2, w2, hrun, ho, hB⟩ := run_appR (HO.out.new k15) g45 (by have := HXN.out; omega) (NewT.trans _ _ _ HM.out k15).out.size 22
                refine wpList_plain rfl (fun K hK => ?_)
                refine opr_append rfl rfl rfl hrun (hK _ _ ?_)
                clear hK K hrun
                simp only [Act.put, List.setIfInBounds_toArray, List.set_cons_zero, List.set_cons_succ]
                refine wpList_plain rfl (fun K hK => ?_)
                refine opr_move (.inr rfl) (hK _ _ ?_)
                clear hK K
                refine wpList_end rfl ?_
                simp only [Act.put, List.setIfInBounds_toArray, List.set_cons_zero, List.set_cons_succ]
                go_simp
                have HN : Hid (AlikeL (l.take (k + 1)) (X ++ [x])) := Lib.hid (by rw [HTK.out]; exact alike_app HAK.out (.inl rfl))
                have HO2 := Lib.hid ho
                have hBM : NewT w w2 := NewT.of ((NewT.trans _ _ _ HM.out k15).out.trans hB)
                have it2 := HIT.out
                clear HM HO HAK ho
                go_wp2
                go_roundw
                case rel => exact ⟨k + 1, _, _, by omega, by go_num, rfl, by first | exact HO2 | trivial, HN, Lib.hid hBM⟩
                case measure => simp [intOf]; omega
end Go.Proofs.YtilmeffmdgcblaaDoor
