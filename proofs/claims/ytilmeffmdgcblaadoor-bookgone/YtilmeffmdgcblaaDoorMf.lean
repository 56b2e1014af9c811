/- Sagas' contracts over values that are but known to be sagas; small functions of package book. -/
import Derived.Test.YtilmeffmdgcblaaDoorMc
import Derived.Test.YtilmeffmdgcblaaDoorMd
import Derived.Test.YtilmeffmdgcblaaDoorMe
import Derived.Test.YtilmeffmdgcblaaDoorMa
set_option linter.all false
namespace Go.Proofs.YtilmeffmdgcblaaDoor
open Go Go.RowKit
set_option maxRecDepth 8000
set_option linter.all false
theorem MissU_cv (u : Value) (l : List (Int × Int)) (g : Sg) (w : World) (hu : SgV w u l g) : Cv 21 #[u] w (.eq (.int .i64 (missG g))) := by
  obtain ⟨sv, rfl, hs⟩ := hu
  exact Missing_cv sv g w
theorem SameU_cv (u v : Value) (l m : List (Int × Int)) (g h : Sg) (w : World) (hu : SgV w u l g) (hv : SgV w v m h) : Cv 20 #[u, v] w (.eq (.bool (sameG l m g h))) := by
  obtain ⟨sv, rfl, hs⟩ := hu
  obtain ⟨tv, rfl, ht⟩ := hv
  exact sSame_cv sv tv l m g h w hs ht
theorem gNew_cvB (v : Value) (l : List (Int × Int)) (B : Nat) (w : World) (hB : B ≤ w.heap.size) (h : RdP w v l) : Cv 49 #[v] w (svSgN B (newL l) (newG l)) :=
  (gNew_cv v l w h).mono fun _ _ ⟨v', h1, h2, sv, h3, h4⟩ => ⟨v', h1, h2, sv, h3, h4.mono hB⟩
set_option maxHeartbeats 1000000 in
theorem bLimit_cv (n : Int) (w : World) : Cv 23 #[.int .i64 n] w (.eq (.bool (inR n 1 9))) := by
  unfold Cv
  go_enter Tryd.func23, Tryd.ntmps23
  go_upto_region 1 with fail
  obtain ⟨q1_1, Q1_1⟩ : ∃ bq_, ((decide (1 ≤ n)) && (decide (n ≤ 9))) = bq_ := ⟨_, rfl⟩
  refine wp_region_steps0 NewT [SV.eq (.int .i64 (n)), SV.eq (.bool (decide (1 ≤ n))), SV.eq (.bool (decide (1 ≤ n))), svIf (decide (1 ≤ n)) (SV.eq (.int .i64 (n))), svIf (decide (1 ≤ n)) (SV.eq (.bool (decide (n ≤ 9)))), SV.eq (.bool (q1_1)), SV.eq (.bool (q1_1))] [([(0, none)], none), ([(3, some 0)], none), ([(4, some 1)], none), ([(0, none), (5, some 2)], some (5, true)), ([(6, some 3), (5, some 2)], some (5, true)), ([(5, some 2), (7, some 4)], none), ([(8, some 5)], none)] 9 7 rfl rfl (by kernel_rfl) NewT.trans (NewT.refl _) (Nat.le_of_ble_eq_true rfl) ⟨?_, ?_, ?_, ?_, ?_, ?_, ?_, trivial⟩ ?_
  · exact fun a wx hT hF K hK => rely_wp rfl (opr_move (.inl rfl) (hK _ _ (NewT.refl _) hF.1))
  · exact fun a wx hT hF K hK => rely_wp rfl (opr_cmp (b := decide (1 ≤ n)) (.inr (.inr (.inl ⟨rfl, rfl⟩))) Tryd.underlying3 rfl rfl hF.1 (hK _ _ (NewT.refl _) rfl))
  · exact fun a wx hT hF K hK => rely_wp rfl (opr_move (.inl rfl) (hK _ _ (NewT.refl _) hF.1))
  · exact fun a wx hT hF K hK => rely_if (rely_gt hF.2.1) (NewT.refl _) hK fun hE hK => opr_move (.inl rfl) (hK _ _ (NewT.refl _) hF.1)
  · exact fun a wx hT hF K hK => rely_if (rely_gt hF.2.1) (NewT.refl _) hK fun hE hK => opr_cmp (b := decide (n ≤ 9)) (.inr (.inr (.inl ⟨rfl, rfl⟩))) Tryd.underlying3 rfl (hF.1 hE) rfl (hK _ _ (NewT.refl _) rfl)
  · exact fun a wx hT hF K hK => rely_wp rfl (opr_pick_b rfl hF.1 (fun hb => hK _ _ (NewT.refl _) (pn_and1 Q1_1 (hF.2.1 hb) hb)) (fun hb => hK _ _ (NewT.refl _) (pn_and0 Q1_1 hb)))
  · exact fun a wx hT hF K hK => rely_wp rfl (opr_move (.inr rfl) (hK _ _ (NewT.refl _) hF.1))
  · intro wx hT
    iterate 3 (intro u h; obtain rfl := Eq.symm (h (by simp)); clear h)
    iterate 2 (intro _ _)
    iterate 2 (intro u h; obtain rfl := Eq.symm (h (by simp)); clear h)
    subst Q1_1
    refine relyEnd_nil rfl ?_
    refine wpList_end rfl ?_
    simp only [Act.put, List.setIfInBounds_toArray, List.set_cons_zero, List.set_cons_succ]
    go_simp
    go_wp2
    go_ret
    exact ⟨_, rfl, hT, rfl⟩
set_option maxHeartbeats 400000 in
theorem ofSaga_cv (k : Int) (w : World) : Cv 27 #[.int .i64 k] w (.eq (.bool (ofB k))) := by
  unfold Cv
  by_cases h : 1 ≤ k ∧ k ≤ 5
  · have hb : ofB k = true := (inR_iff _ _ _).2 h
    rw [hb]
    clear hb
    have : k = 1 ∨ k = 2 ∨ k = 3 ∨ k = 4 ∨ k = 5 := by omega
    clear h
    rcases this with rfl | rfl | rfl | rfl | rfl
    all_goals
      go_enter Tryd.func27, Tryd.ntmps27
      go_wp2
      go_ret
      exact ⟨_, rfl, NewT.refl _, rfl⟩
  · have hb : ofB k = false := by
      unfold ofB
      cases e : inR k 1 5 with
      | false => rfl
      | true => exact absurd ((inR_iff _ _ _).1 e) h
    rw [hb]
    have h1 : (k == 1) = false := by simpa using (show ¬ k = 1 by omega)
    have h2 : (k == 2) = false := by simpa using (show ¬ k = 2 by omega)
    have h3 : (k == 3) = false := by simpa using (show ¬ k = 3 by omega)
    have h4 : (k == 4) = false := by simpa using (show ¬ k = 4 by omega)
    have h5 : (k == 5) = false := by simpa using (show ¬ k = 5 by omega)
    have n1 : ¬ k = 1 := by omega
    have n2 : ¬ k = 2 := by omega
    have n3 : ¬ k = 3 := by omega
    have n4 : ¬ k = 4 := by omega
    have n5 : ¬ k = 5 := by omega
    clear h hb
    go_enter Tryd.func27, Tryd.ntmps27
    go_wp2
    go_ret
    exact ⟨_, rfl, NewT.refl _, rfl⟩
set_option maxHeartbeats 4000000 in
theorem isFrom_cv (bv xv : Value) (bk : Bk) (x : Rc) (w : World) (hb : BkV w bv bk) (hx : RecV w xv x) (hr : rightB x = true) : Cv 51 #[bv, xv] w (.eq (.bool (isFromB bk x))) := by
  unfold Cv
  obtain ⟨sv, rfl, hsv⟩ := hb
  obtain ⟨su, dv, rfl, hsx, hd⟩ := hx
  have HSV := Lib.hid hsv
  have HX : Hid (RecV w (.agg (rowA 109 (recF x su dv))) x) := Lib.hid ⟨su, dv, rfl, hsx, hd⟩
  have HSX := Lib.hid hsx
  have HD := Lib.hid hd
  have Hr := Lib.hid hr
  clear hsv hsx hd hr
  go_enter Tryd.func51, Tryd.ntmps51
  go_upto_region 1 with fail
  have r_g1 := (rowIs_box w 37 5 (bkF bk.ep sv)).alloc (.cells (rowA 109 (recF x su dv)) 32)
  have r_g2 := rowIs_box (w.alloc (.cells (rowA 5 (bkF bk.ep sv)) 37)) 32 109 (recF x su dv)
  rw [World.size_alloc] at r_g2
  have hN : NewT w ((w.alloc (.cells (rowA 5 (bkF bk.ep sv)) 37)).alloc (.cells (rowA 109 (recF x su dv)) 32)) := (NewT.trans _ _ _ (NewT.alloc _ _) (NewT.alloc _ _))
  change Code.wp _ _ _ _ ((w.alloc (.cells (rowA 5 (bkF bk.ep sv)) 37)).alloc (.cells (rowA 109 (recF x su dv)) 32))
  generalize ((w.alloc (.cells (rowA 5 (bkF bk.ep sv)) 37)).alloc (.cells (rowA 109 (recF x su dv)) 32)) = W0 at r_g1 r_g2 hN ⊢
  obtain ⟨g1, h_g1⟩ : ∃ g_, w.heap.size = g_ := ⟨_, rfl⟩
  obtain ⟨g2, h_g2⟩ : ∃ g_, w.heap.size + 1 = g_ := ⟨_, rfl⟩
  have HG : Hid (w.heap.size ≤ g1 ∧ g1 < g2) := Lib.hid (by omega)
  rw [h_g1] at r_g1
  rw [h_g2] at r_g2
  try rw [h_g2]
  simp only [h_g1]
  have Rg1 := Lib.hid r_g1
  have Rg2 := Lib.hid r_g2
  have HM := Lib.hid hN
  clear r_g1 r_g2 hN h_g1 h_g2
  by_cases h1 : x.saga < bk.sg.length
  rotate_left
  · have HF : Hid (isFromB bk x = false) := Lib.hid (by unfold isFromB; rw [if_neg h1])
    have t1 : decide ((bk.sg.length : Int) ≤ x.saga) = true := decide_eq_true (by omega)
    clear h1
    refine wp_region_rely (NewT) [SV.eq (.pointer (some ⟨g2, 1, none⟩)), SV.eq (.int .i64 (x.saga)), SV.eq (.pointer (some ⟨g1, 4, none⟩)), SV.eq (sv), SV.eq (.int .i64 ((List.length (bk.sg) : Int))), SV.eq (.bool true), SV.eq (.bool true), SV.eq (undef), SV.eq (undef), SV.eq (undef), SV.eq (undef), SV.eq (undef), SV.eq (undef), SV.eq (undef), SV.eq (undef), SV.eq (undef), SV.eq (undef), SV.eq (undef)] [([(3, none)], none), ([(5, some 0)], none), ([(2, none)], none), ([(7, some 2)], none), ([(8, some 3)], none), ([(6, some 1), (9, some 4)], none), ([(10, some 5)], none), ([(3, none), (11, some 6)], some (11, false)), ([(12, some 7), (11, some 6)], some (11, false)), ([(2, none), (11, some 6)], some (11, false)), ([(14, some 9), (11, some 6)], some (11, false)), ([(3, none), (11, some 6)], some (11, false)), ([(16, some 11), (11, some 6)], some (11, false)), ([(15, some 10), (17, some 12), (11, some 6)], some (11, false)), ([(18, some 13), (11, some 6)], some (11, false)), ([(19, some 14), (11, some 6)], some (11, false)), ([(20, some 15), (11, some 6)], some (11, false)), ([(13, some 8), (21, some 16), (11, some 6)], some (11, false))] 49 rfl (by kernel_rfl) rfl (by kernel_rfl) (by kernel_rfl) rfl NewT.trans (NewT.drew _) (Nat.le_of_ble_eq_true rfl) ⟨?_, ?_, ?_, ?_, ?_, ?_, ?_, ?_, ?_, ?_, ?_, ?_, ?_, ?_, ?_, ?_, ?_, ?_, trivial⟩ ?_
    · exact fun a wx hT hF K hK => rely_wp rfl (opr_fldR (by decide) rfl hF.1 (hK _ _ (NewT.refl _) rfl))
    · exact fun a wx hT hF K hK => rely_wp rfl (opr_ldI (hT.row Rg2.out) (by decide) rfl rfl hF.1 (hK _ _ (NewT.refl _) rfl))
    · exact fun a wx hT hF K hK => rely_wp rfl (opr_fldK1 rfl hF.1 (hK _ _ (NewT.refl _) rfl))
    · exact fun a wx hT hF K hK => rely_wp rfl (opr_ldUs (hT.row Rg1.out) (by decide) rfl rfl hF.1 (hK _ _ (NewT.refl _) rfl))
    · intro a wx hT hF K hK
      obtain ⟨f8, _⟩ := hF
      have f8 : a.tmps.getD 8 undef = sv := f8
      refine rely_wp rfl ?_
      exact opr_lenL rfl sagaEl (by rw [eval_tmp, f8]; exact (HSV.out.new (NewT.trans _ _ _ HM.out hT))) (hK _ _ (NewT.refl _) rfl)
    · exact fun a wx hT hF K hK => rely_wp rfl (opr_cmp (b := true) (.inr (.inr (.inr (.inr (.inr ⟨rfl, t1⟩))))) Tryd.underlying3 rfl hF.1 hF.2.1 (hK _ _ (NewT.refl _) rfl))
    · exact fun a wx hT hF K hK => rely_wp rfl (opr_move (.inl rfl) (hK _ _ (NewT.refl _) hF.1))
    · exact fun a wx hT hF K hK => rely_skip (rely_guard_no hF.2.1 (by decide)) (hK _ _ (NewT.refl _) rfl)
    · exact fun a wx hT hF K hK => rely_skip (rely_guard_no hF.2.1 (by decide)) (hK _ _ (NewT.refl _) rfl)
    · exact fun a wx hT hF K hK => rely_skip (rely_guard_no hF.2.1 (by decide)) (hK _ _ (NewT.refl _) rfl)
    · exact fun a wx hT hF K hK => rely_skip (rely_guard_no hF.2.1 (by decide)) (hK _ _ (NewT.refl _) rfl)
    · exact fun a wx hT hF K hK => rely_skip (rely_guard_no hF.2.1 (by decide)) (hK _ _ (NewT.refl _) rfl)
    · exact fun a wx hT hF K hK => rely_skip (rely_guard_no hF.2.1 (by decide)) (hK _ _ (NewT.refl _) rfl)
    · exact fun a wx hT hF K hK => rely_skip (rely_guard_no hF.2.2.1 (by decide)) (hK _ _ (NewT.refl _) rfl)
    · exact fun a wx hT hF K hK => rely_skip (rely_guard_no hF.2.1 (by decide)) (hK _ _ (NewT.refl _) rfl)
    · exact fun a wx hT hF K hK => rely_skip (rely_guard_no hF.2.1 (by decide)) (hK _ _ (NewT.refl _) rfl)
    · exact fun a wx hT hF K hK => rely_skip (rely_guard_no hF.2.1 (by decide)) (hK _ _ (NewT.refl _) rfl)
    · exact fun a wx hT hF K hK => rely_skip (rely_guard_no hF.2.2.1 (by decide)) (hK _ _ (NewT.refl _) rfl)
    · intro w1 k1
      iterate 18 (intro u h; obtain rfl := Eq.symm (h (by simp)); clear h)
      refine relyEnd_nil rfl ?_
      simp only [Act.put, List.setIfInBounds_toArray, List.set_cons_zero, List.set_cons_succ]
      refine opr_pick_true rfl rfl ?_
      go_simp
      replace Rg1 := Lib.hid (k1.row Rg1.out)
      replace Rg2 := Lib.hid (k1.row Rg2.out)
      replace HM := Lib.hid (NewT.trans _ _ _ HM.out k1)
      clear k1
      go_wp2
      go_ret
      exact ⟨_, rfl, HM.out, by rw [HF.out]; rfl⟩
  obtain ⟨k, hk⟩ : ∃ k : Nat, x.saga = (k : Int) := ⟨x.saga.toNat, by have := (right_saga Hr.out).1; omega⟩
  obtain ⟨p, hp⟩ : ∃ p, sgAt bk k = p := ⟨_, rfl⟩
  have HP : Hid (bk.sg[k]? = some p) := Lib.hid (by rw [← hp]; exact sgAt_some (by omega))
  have HK := Lib.hid hk
  have HST := Lib.hid (right_step Hr.out)
  have HPT := Lib.hid (right_part Hr.out)
  have t1 : decide ((bk.sg.length : Int) ≤ x.saga) = false := decide_eq_false (by omega)
  have HF : Hid (isFromB bk x = if x.step < p.1.length then x.part == ptL p.1 x.step.toNat && x.epoch == bk.ep x.part.toNat else false) := Lib.hid (by unfold isFromB; rw [if_pos h1, hk, Int.toNat_natCast, hp])
  clear h1 hk hp
  refine wp_region_rely (NewT) [SV.eq (.pointer (some ⟨g2, 1, none⟩)), SV.eq (.int .i64 (x.saga)), SV.eq (.pointer (some ⟨g1, 4, none⟩)), SV.eq (sv), SV.eq (.int .i64 ((List.length (bk.sg) : Int))), SV.eq (.bool false), SV.eq (.bool false), SV.eq (.pointer (some ⟨g2, 3, none⟩)), SV.eq (.int .i64 (x.step)), SV.eq (.pointer (some ⟨g1, 4, none⟩)), SV.eq (sv), SV.eq (.pointer (some ⟨g2, 1, none⟩)), SV.eq (.int .i64 (x.saga)), svEl 10 sgE (p), svStsP (p.1), svPairs (p.1), SV.eq (.int .i64 ((List.length (p.1) : Int))), SV.eq (.bool (decide (((List.length (p.1) : Int)) ≤ x.step)))] [([(3, none)], none), ([(5, some 0)], none), ([(2, none)], none), ([(7, some 2)], none), ([(8, some 3)], none), ([(6, some 1), (9, some 4)], none), ([(10, some 5)], none), ([(3, none), (11, some 6)], some (11, false)), ([(12, some 7), (11, some 6)], some (11, false)), ([(2, none), (11, some 6)], some (11, false)), ([(14, some 9), (11, some 6)], some (11, false)), ([(3, none), (11, some 6)], some (11, false)), ([(16, some 11), (11, some 6)], some (11, false)), ([(15, some 10), (17, some 12), (11, some 6)], some (11, false)), ([(18, some 13), (11, some 6)], some (11, false)), ([(19, some 14), (11, some 6)], some (11, false)), ([(20, some 15), (11, some 6)], some (11, false)), ([(13, some 8), (21, some 16), (11, some 6)], some (11, false))] 49 rfl (by kernel_rfl) rfl (by kernel_rfl) (by kernel_rfl) rfl NewT.trans (NewT.drew _) (Nat.le_of_ble_eq_true rfl) ⟨?_, ?_, ?_, ?_, ?_, ?_, ?_, ?_, ?_, ?_, ?_, ?_, ?_, ?_, ?_, ?_, ?_, ?_, trivial⟩ ?_
  · exact fun a wx hT hF K hK => rely_wp rfl (opr_fldR (by decide) rfl hF.1 (hK _ _ (NewT.refl _) rfl))
  · exact fun a wx hT hF K hK => rely_wp rfl (opr_ldI (hT.row Rg2.out) (by decide) rfl rfl hF.1 (hK _ _ (NewT.refl _) rfl))
  · exact fun a wx hT hF K hK => rely_wp rfl (opr_fldK1 rfl hF.1 (hK _ _ (NewT.refl _) rfl))
  · exact fun a wx hT hF K hK => rely_wp rfl (opr_ldUs (hT.row Rg1.out) (by decide) rfl rfl hF.1 (hK _ _ (NewT.refl _) rfl))
  · intro a wx hT hF K hK
    obtain ⟨f8, _⟩ := hF
    have f8 : a.tmps.getD 8 undef = sv := f8
    refine rely_wp rfl ?_
    exact opr_lenL rfl sagaEl (by rw [eval_tmp, f8]; exact (HSV.out.new (NewT.trans _ _ _ HM.out hT))) (hK _ _ (NewT.refl _) rfl)
  · exact fun a wx hT hF K hK => rely_wp rfl (opr_cmp (b := false) (.inr (.inr (.inr (.inr (.inr ⟨rfl, t1⟩))))) Tryd.underlying3 rfl hF.1 hF.2.1 (hK _ _ (NewT.refl _) rfl))
  · exact fun a wx hT hF K hK => rely_wp rfl (opr_move (.inl rfl) (hK _ _ (NewT.refl _) hF.1))
  · exact fun a wx hT hF K hK => rely_wp (rely_guard hF.2.1) (opr_fldR (by decide) rfl hF.1 (hK _ _ (NewT.refl _) rfl))
  · exact fun a wx hT hF K hK => rely_wp (rely_guard hF.2.1) (opr_ldI (hT.row Rg2.out) (by decide) rfl rfl hF.1 (hK _ _ (NewT.refl _) rfl))
  · exact fun a wx hT hF K hK => rely_wp (rely_guard hF.2.1) (opr_fldK1 rfl hF.1 (hK _ _ (NewT.refl _) rfl))
  · exact fun a wx hT hF K hK => rely_wp (rely_guard hF.2.1) (opr_ldUs (hT.row Rg1.out) (by decide) rfl rfl hF.1 (hK _ _ (NewT.refl _) rfl))
  · exact fun a wx hT hF K hK => rely_wp (rely_guard hF.2.1) (opr_fldR (by decide) rfl hF.1 (hK _ _ (NewT.refl _) rfl))
  · exact fun a wx hT hF K hK => rely_wp (rely_guard hF.2.1) (opr_ldI (hT.row Rg2.out) (by decide) rfl rfl hF.1 (hK _ _ (NewT.refl _) rfl))
  · intro a wx hT hF K hK
    obtain ⟨f15, f17, f11, _⟩ := hF
    have f15 : a.tmps.getD 15 undef = sv := f15
    have f17 : a.tmps.getD 17 undef = .int .i64 (x.saga) := f17
    have f11 : a.tmps.getD 11 undef = .bool false := f11
    refine rely_wp (rely_guard f11) ?_
    exact opr_idxL (i := k) (p := p) sagaEl (HP.out) (HK.out) rfl (by rw [eval_tmp, f15]; exact (HSV.out.new (NewT.trans _ _ _ HM.out hT))) f17 (fun v hv => hK v _ (NewT.refl _) hv)
  · exact fun a wx hT hF K hK => rely_wp (rely_guard hF.2.1) (opr_fldUe0 rfl hF.1 (fun u hu => hK u _ (NewT.refl _) hu))
  · exact fun a wx hT hF K hK => rely_wp (rely_guard hF.2.1) (opr_ldSts rfl hF.1 (fun u hu => hK u _ (NewT.refl _) hu))
  · exact fun a wx hT hF K hK => rely_wp (rely_guard hF.2.1) (opr_len_pairs rfl hF.1 (hK _ _ (NewT.refl _) rfl))
  · exact fun a wx hT hF K hK => rely_wp (rely_guard hF.2.2.1) (opr_cmp (b := decide (((List.length (p.1) : Int)) ≤ x.step)) (.inr (.inr (.inr (.inr (.inr (⟨rfl, rfl⟩)))))) Tryd.underlying3 rfl hF.1 hF.2.1 (hK _ _ (NewT.refl _) rfl))
  · intro w2 k2
    iterate 13 (intro u h; obtain rfl := Eq.symm (h (by simp)); clear h)
    iterate 3 (intro _ _)
    iterate 2 (intro u h; obtain rfl := Eq.symm (h (by simp)); clear h)
    refine relyEnd_nil rfl ?_
    simp only [Act.put, List.setIfInBounds_toArray, List.set_cons_zero, List.set_cons_succ]
    refine opr_pick_false rfl rfl ?_
    go_simp
    replace Rg1 := Lib.hid (k2.row Rg1.out)
    replace Rg2 := Lib.hid (k2.row Rg2.out)
    replace HM := Lib.hid (NewT.trans _ _ _ HM.out k2)
    clear k2
    obtain ⟨b2, hb2⟩ : ∃ b, decide ((p.1.length : Int) ≤ x.step) = b := ⟨_, rfl⟩
    rw [hb2]
    cases b2
    · have hlt : x.step < p.1.length := by have := of_decide_eq_false hb2; omega
      obtain ⟨j, hj⟩ : ∃ j : Nat, x.step = (j : Int) := ⟨x.step.toNat, by have := HST.out; omega⟩
      obtain ⟨c, hc⟩ : ∃ c : Nat, x.part = (c : Int) := ⟨x.part.toNat, by have := HPT.out; omega⟩
      obtain ⟨d, hd⟩ : ∃ d, p.1.getD j (0, 0) = d := ⟨_, rfl⟩
      have HD2 : Hid (j < p.1.length ∧ p.1.getD j (0, 0) = d) := Lib.hid ⟨by omega, hd⟩
      have HJ := Lib.hid hj.symm
      have HC := Lib.hid hc
      have HC4 : Hid (c < 4) := Lib.hid (by have := HPT.out; omega)
      have HF2 : Hid (isFromB bk x = (x.part == d.1 && x.epoch == bk.ep c)) := Lib.hid (by rw [HF.out, if_pos hlt, hj, hc, Int.toNat_natCast, Int.toNat_natCast]; unfold ptL; rw [hd])
      clear hb2 hlt hj hc hd HF
      go_upto_region 3 with fail
      obtain ⟨q1_3, Q1_3⟩ : ∃ bq_, ((x.part == ((d).1)) && (x.epoch == (bk.ep c))) = bq_ := ⟨_, rfl⟩
      refine wp_region_rely (NewT) [SV.eq (.pointer (some ⟨g2, 8, none⟩)), SV.eq (.int .i64 (x.part)), SV.eq (.pointer (some ⟨g1, 4, none⟩)), SV.eq (sv), SV.eq (.pointer (some ⟨g2, 1, none⟩)), SV.eq (.int .i64 (x.saga)), svEl 10 sgE (p), svStsP (p.1), svPairs (p.1), SV.eq (.pointer (some ⟨g2, 3, none⟩)), SV.eq (.int .i64 (x.step)), svStp (d), svIp (d).1, SV.eq (.int .i64 ((d).1)), SV.eq (.bool (x.part == ((d).1))), SV.eq (.bool (x.part == ((d).1))), svIf (x.part == ((d).1)) (SV.eq (.pointer (some ⟨g2, 9, none⟩))), svIf (x.part == ((d).1)) (SV.eq (.int .i64 (x.epoch))), svIf (x.part == ((d).1)) (SV.eq (.pointer (some ⟨g2, 8, none⟩))), svIf (x.part == ((d).1)) (SV.eq (.int .i64 (x.part))), svIf (x.part == ((d).1)) (SV.eq (.pointer (some ⟨g1, 0, none⟩))), svIf (x.part == ((d).1)) (SV.eq (.pointer (some ⟨g1, c, none⟩))), svIf (x.part == ((d).1)) (SV.eq (.int .i64 (bk.ep c))), svIf (x.part == ((d).1)) (SV.eq (.bool (x.epoch == (bk.ep c)))), SV.eq (.bool (q1_3))] [([(3, none)], none), ([(24, some 0)], none), ([(2, none)], none), ([(26, some 2)], none), ([(3, none)], none), ([(28, some 4)], none), ([(27, some 3), (29, some 5)], none), ([(30, some 6)], none), ([(31, some 7)], none), ([(3, none)], none), ([(33, some 9)], none), ([(32, some 8), (34, some 10)], none), ([(35, some 11)], none), ([(36, some 12)], none), ([(25, some 1), (37, some 13)], none), ([(38, some 14)], none), ([(3, none), (39, some 15)], some (39, true)), ([(40, some 16), (39, some 15)], some (39, true)), ([(3, none), (39, some 15)], some (39, true)), ([(42, some 18), (39, some 15)], some (39, true)), ([(2, none), (39, some 15)], some (39, true)), ([(44, some 20), (43, some 19), (39, some 15)], some (39, true)), ([(45, some 21), (39, some 15)], some (39, true)), ([(41, some 17), (46, some 22), (39, some 15)], some (39, true)), ([(39, some 15), (47, some 23)], none)] 49 rfl (by kernel_rfl) rfl (by kernel_rfl) (by kernel_rfl) rfl NewT.trans (NewT.drew _) (Nat.le_of_ble_eq_true rfl) ⟨?_, ?_, ?_, ?_, ?_, ?_, ?_, ?_, ?_, ?_, ?_, ?_, ?_, ?_, ?_, ?_, ?_, ?_, ?_, ?_, ?_, ?_, ?_, ?_, ?_, trivial⟩ ?_
      · exact fun a wx hT hF K hK => rely_wp rfl (opr_fldR (by decide) rfl hF.1 (hK _ _ (NewT.refl _) rfl))
      · exact fun a wx hT hF K hK => rely_wp rfl (opr_ldI (hT.row Rg2.out) (by decide) rfl rfl hF.1 (hK _ _ (NewT.refl _) rfl))
      · exact fun a wx hT hF K hK => rely_wp rfl (opr_fldK1 rfl hF.1 (hK _ _ (NewT.refl _) rfl))
      · exact fun a wx hT hF K hK => rely_wp rfl (opr_ldUs (hT.row Rg1.out) (by decide) rfl rfl hF.1 (hK _ _ (NewT.refl _) rfl))
      · exact fun a wx hT hF K hK => rely_wp rfl (opr_fldR (by decide) rfl hF.1 (hK _ _ (NewT.refl _) rfl))
      · exact fun a wx hT hF K hK => rely_wp rfl (opr_ldI (hT.row Rg2.out) (by decide) rfl rfl hF.1 (hK _ _ (NewT.refl _) rfl))
      · intro a wx hT hF K hK
        obtain ⟨f27, f29, _⟩ := hF
        have f27 : a.tmps.getD 27 undef = sv := f27
        have f29 : a.tmps.getD 29 undef = .int .i64 (x.saga) := f29
        refine rely_wp rfl ?_
        exact opr_idxL (i := k) (p := p) sagaEl (HP.out) (HK.out) rfl (by rw [eval_tmp, f27]; exact (HSV.out.new (NewT.trans _ _ _ HM.out hT))) f29 (fun v hv => hK v _ (NewT.refl _) hv)
      · exact fun a wx hT hF K hK => rely_wp rfl (opr_fldUe0 rfl hF.1 (fun u hu => hK u _ (NewT.refl _) hu))
      · exact fun a wx hT hF K hK => rely_wp rfl (opr_ldSts rfl hF.1 (fun u hu => hK u _ (NewT.refl _) hu))
      · exact fun a wx hT hF K hK => rely_wp rfl (opr_fldR (by decide) rfl hF.1 (hK _ _ (NewT.refl _) rfl))
      · exact fun a wx hT hF K hK => rely_wp rfl (opr_ldI (hT.row Rg2.out) (by decide) rfl rfl hF.1 (hK _ _ (NewT.refl _) rfl))
      · exact fun a wx hT hF K hK => rely_wp rfl (opr_idxSt (k := j) (d := d) (HD2.out) (HJ.out) rfl hF.1 hF.2.1 (fun v hv => hK v _ (NewT.refl _) hv))
      · exact fun a wx hT hF K hK => rely_wp rfl (opr_fldSt0 rfl hF.1 (fun u hu => hK u _ (NewT.refl _) hu))
      · exact fun a wx hT hF K hK => rely_wp rfl (opr_ldIp rfl hF.1 (hK _ _ (NewT.refl _) rfl))
      · exact fun a wx hT hF K hK => rely_wp rfl (opr_cmp (b := x.part == ((d).1)) (.inl ⟨rfl, rfl⟩) Tryd.underlying3 rfl hF.1 hF.2.1 (hK _ _ (NewT.refl _) rfl))
      · exact fun a wx hT hF K hK => rely_wp rfl (opr_move (.inl rfl) (hK _ _ (NewT.refl _) hF.1))
      · exact fun a wx hT hF K hK => rely_if (rely_gt hF.2.1) (NewT.refl _) hK fun hE hK => opr_fldR (by decide) rfl hF.1 (hK _ _ (NewT.refl _) rfl)
      · exact fun a wx hT hF K hK => rely_if (rely_gt hF.2.1) (NewT.refl _) hK fun hE hK => opr_ldI (hT.row Rg2.out) (by decide) rfl rfl (hF.1 hE) (hK _ _ (NewT.refl _) rfl)
      · exact fun a wx hT hF K hK => rely_if (rely_gt hF.2.1) (NewT.refl _) hK fun hE hK => opr_fldR (by decide) rfl hF.1 (hK _ _ (NewT.refl _) rfl)
      · exact fun a wx hT hF K hK => rely_if (rely_gt hF.2.1) (NewT.refl _) hK fun hE hK => opr_ldI (hT.row Rg2.out) (by decide) rfl rfl (hF.1 hE) (hK _ _ (NewT.refl _) rfl)
      · exact fun a wx hT hF K hK => rely_if (rely_gt hF.2.1) (NewT.refl _) hK fun hE hK => opr_fldK0 rfl hF.1 (hK _ _ (NewT.refl _) rfl)
      · exact fun a wx hT hF K hK => rely_if (rely_gt hF.2.2.1) (NewT.refl _) hK fun hE hK => opr_idxEp (k := c) (HC4.out) (HC.out) rfl (hF.1 hE) (hF.2.1 hE) (hK _ _ (NewT.refl _) rfl)
      · exact fun a wx hT hF K hK => rely_if (rely_gt hF.2.1) (NewT.refl _) hK fun hE hK => opr_ldI (hT.row Rg1.out) (Nat.lt_succ_of_lt (HC4.out)) (bkF_ep (HC4.out)) rfl (hF.1 hE) (hK _ _ (NewT.refl _) rfl)
      · exact fun a wx hT hF K hK => rely_if (rely_gt hF.2.2.1) (NewT.refl _) hK fun hE hK => opr_cmp (b := x.epoch == (bk.ep c)) (.inl ⟨rfl, rfl⟩) Tryd.underlying3 rfl (hF.1 hE) (hF.2.1 hE) (hK _ _ (NewT.refl _) rfl)
      · exact fun a wx hT hF K hK => rely_wp rfl (opr_pick_b rfl hF.1 (fun hb => hK _ _ (NewT.refl _) (pn_and1 Q1_3 (hF.2.1 hb) hb)) (fun hb => hK _ _ (NewT.refl _) (pn_and0 Q1_3 hb)))
      · intro w3 k3
        iterate 6 (intro u h; obtain rfl := Eq.symm (h (by simp)); clear h)
        iterate 3 (intro _ _)
        iterate 2 (intro u h; obtain rfl := Eq.symm (h (by simp)); clear h)
        iterate 2 (intro _ _)
        iterate 3 (intro u h; obtain rfl := Eq.symm (h (by simp)); clear h)
        iterate 8 (intro _ _)
        intro u h; obtain rfl := Eq.symm (h (by simp)); clear h
        subst Q1_3
        refine relyEnd_nil rfl ?_
        simp only [Act.put, List.setIfInBounds_toArray, List.set_cons_zero, List.set_cons_succ]
        refine opr_move (.inr rfl) ?_
        go_simp
        replace Rg1 := Lib.hid (k3.row Rg1.out)
        replace Rg2 := Lib.hid (k3.row Rg2.out)
        replace HM := Lib.hid (NewT.trans _ _ _ HM.out k3)
        clear k3
        go_wp2
        go_ret
        exact ⟨_, rfl, HM.out, by rw [HF2.out]; rfl⟩
    · have HF2 : Hid (isFromB bk x = false) := Lib.hid (by rw [HF.out, if_neg (by have := of_decide_eq_true hb2; omega)])
      clear hb2 HF
      go_wp2
      go_ret
      exact ⟨_, rfl, HM.out, by rw [HF2.out]; rfl⟩
end Go.Proofs.YtilmeffmdgcblaaDoor
/- Package book: the way of a Begin. -/
namespace Go.Proofs.YtilmeffmdgcblaaDoor
open Go Go.RowKit
set_option maxRecDepth 8000
set_option linter.all false
/-- A row of sagas' phases: ahead of the appending, and behind it. -/
def BegJ (B c : Nat) (v0 v1 : Value) (fs : List (Nat → Value)) (l : List (Int × Int)) (g : Sg) (k : Nat) (w : World) : Prop := if k = 0 then OwnE 59 10 w B v0 fs else SnV w B c v1 fs l g
theorem begJ_new {B c : Nat} {v0 v1 : Value} {fs : List (Nat → Value)} {l : List (Int × Int)} {g : Sg} {k : Nat} {w w' : World} (h : BegJ B c v0 v1 fs l g k w) (hN : NewT w w') : BegJ B c v0 v1 fs l g k w' := by
  unfold BegJ at h ⊢
  split at h
  · rename_i h0; rw [if_pos h0]; exact h.new hN
  · rename_i h0; rw [if_neg h0]
    obtain ⟨sv, h1, h2⟩ := h
    exact ⟨sv, h1.new hN, h2.new hN⟩
set_option maxHeartbeats 4000000 in
theorem begins_c (D : Nat) (w WE : World) (B gb : Nat) (sv xv : Value) (fs : List (Nat → Value)) (bk : Bk) (x : Rc) (lim : Int) (hp : WayPre D w WE B gb sv fs bk) (hx : RecV WE xv x) (hl : bk.sg.length ≤ 1000) : Calls Tryd.prog 34 #[.pointer (some ⟨gb, 0, none⟩), xv, .int .i64 lim] w (WayPost D WE B gb w sv (begB bk x) (begN bk x)) := by
  obtain ⟨su, dv, rfl, hsx, hd⟩ := hx
  have HP := Lib.hid hp
  have HSV : Hid (RdU w sv bk.sg) := Lib.hid hp.rd
  have HX : Hid (RecV w (.agg (rowA 109 (recF x su dv))) x) := Lib.hid ⟨su, dv, rfl, hp.elder.pairs hsx, hp.elder.rd hd⟩
  have HSX := Lib.hid (hp.elder.pairs hsx)
  have HD := Lib.hid (hp.elder.rd hd)
  have HSXE := Lib.hid hsx
  have HDE := Lib.hid hd
  clear hsx hd hp
  have Hlen := Lib.hid hl
  clear hl
  go_enter Tryd.func34, Tryd.ntmps34
  go_upto_region 1 with fail
  have r_g4 := rowIs_box w 32 109 (recF x su dv)
  have hN : NewT w (w.alloc (.cells (rowA 109 (recF x su dv)) 32)) := NewT.alloc _ _
  change Code.wp _ _ _ _ (w.alloc (.cells (rowA 109 (recF x su dv)) 32))
  generalize (w.alloc (.cells (rowA 109 (recF x su dv)) 32)) = W0 at r_g4 hN ⊢
  obtain ⟨g4, h_g4⟩ : ∃ g_, w.heap.size = g_ := ⟨_, rfl⟩
  have HG : Hid (w.heap.size ≤ g4) := Lib.hid (by omega)
  rw [h_g4] at r_g4
  simp only [h_g4]
  have Rg4 := Lib.hid r_g4
  have HM := Lib.hid hN
  clear r_g4 hN h_g4
  have HGB : Hid (gb < w.heap.size ∧ B ≤ gb) := Lib.hid ⟨HP.out.row.lt, HP.out.at_⟩
  have Rgb : Hid (W0.rowIs gb 37 5 (bkF bk.ep sv)) := Lib.hid (HM.out.row HP.out.row)
  obtain ⟨b1, hb1⟩ : ∃ b, (x.saga != (bk.sg.length : Int)) = b := ⟨_, rfl⟩
  have HB1 := Lib.hid hb1
  clear hb1
  refine wp_region_rely (NewT) [SV.eq (.pointer (some ⟨g4, 1, none⟩)), SV.eq (.int .i64 (x.saga)), SV.eq (.pointer (some ⟨gb, 0, none⟩)), SV.eq (.pointer (some ⟨gb, 0, none⟩)), SV.eq (.pointer (some ⟨gb, 4, none⟩)), SV.eq (sv), SV.eq (.int .i64 ((List.length (bk.sg) : Int))), SV.eq (.bool (x.saga != ((List.length (bk.sg) : Int)))), SV.eq (.bool (x.saga != ((List.length (bk.sg) : Int)))), svIf ((!(x.saga != ((List.length (bk.sg) : Int))))) (SV.eq (.pointer (some ⟨g4, 42, none⟩))), svIf ((!(x.saga != ((List.length (bk.sg) : Int))))) (SV.eq (su)), svIf ((!(x.saga != ((List.length (bk.sg) : Int))))) (SV.eq (.bool (mayL x.steps))), svIf ((!(x.saga != ((List.length (bk.sg) : Int))))) (SV.eq (.bool (!(mayL x.steps))))] [([(4, none)], none), ([(7, some 0)], none), ([(0, none)], none), ([(9, some 2)], none), ([(10, some 3)], none), ([(11, some 4)], none), ([(12, some 5)], none), ([(8, some 1), (13, some 6)], none), ([(14, some 7)], none), ([(4, none), (15, some 8)], some (15, false)), ([(16, some 9), (15, some 8)], some (15, false)), ([(17, some 10), (15, some 8)], some (15, false)), ([(18, some 11), (15, some 8)], some (15, false))] 33 rfl (by kernel_rfl) rfl (by kernel_rfl) (by kernel_rfl) rfl NewT.trans (NewT.drew _) (Nat.le_of_ble_eq_true rfl) ⟨?_, ?_, ?_, ?_, ?_, ?_, ?_, ?_, ?_, ?_, ?_, ?_, ?_, trivial⟩ ?_
  · exact fun a wx hT hF K hK => rely_wp rfl (opr_fldR (by decide) rfl hF.1 (hK _ _ (NewT.refl _) rfl))
  · exact fun a wx hT hF K hK => rely_wp rfl (opr_ldI (hT.row Rg4.out) (by decide) rfl rfl hF.1 (hK _ _ (NewT.refl _) rfl))
  · exact fun a wx hT hF K hK => rely_wp rfl (opr_move (.inl rfl) (hK _ _ (NewT.refl _) hF.1))
  · exact fun a wx hT hF K hK => rely_wp rfl (opr_nilc rfl hF.1 (hK _ _ (NewT.refl _) rfl))
  · exact fun a wx hT hF K hK => rely_wp rfl (opr_fldK1 rfl hF.1 (hK _ _ (NewT.refl _) rfl))
  · exact fun a wx hT hF K hK => rely_wp rfl (opr_ldUs (hT.row Rgb.out) (by decide) rfl rfl hF.1 (hK _ _ (NewT.refl _) rfl))
  · intro a wx hT hF K hK
    obtain ⟨f12, _⟩ := hF
    have f12 : a.tmps.getD 12 undef = sv := f12
    refine rely_wp rfl ?_
    exact opr_lenL rfl sagaEl (by rw [eval_tmp, f12]; exact (HSV.out.new (NewT.trans _ _ _ HM.out hT))) (hK _ _ (NewT.refl _) rfl)
  · exact fun a wx hT hF K hK => rely_wp rfl (opr_cmp (b := x.saga != ((List.length (bk.sg) : Int))) (.inr (.inl ⟨rfl, rfl⟩)) Tryd.underlying3 rfl hF.1 hF.2.1 (hK _ _ (NewT.refl _) rfl))
  · exact fun a wx hT hF K hK => rely_wp rfl (opr_move (.inl rfl) (hK _ _ (NewT.refl _) hF.1))
  · exact fun a wx hT hF K hK => rely_if (rely_gf hF.2.1) (NewT.refl _) hK fun hE hK => opr_fldR (by decide) rfl hF.1 (hK _ _ (NewT.refl _) rfl)
  · exact fun a wx hT hF K hK => rely_if (rely_gf hF.2.1) (NewT.refl _) hK fun hE hK => opr_ldS (hT.row Rg4.out) (by decide) rfl rfl (hF.1 hE) (hK _ _ (NewT.refl _) rfl)
  · exact fun a wx hT hF K hK => rely_if (rely_gf hF.2.1) (NewT.refl _) hK fun hE hK => opr_cv (gMay_cv _ x.steps wx ((NewT.trans _ _ _ HM.out hT).pairs HSX.out)) rfl Tryd.func48 (by kernel_rfl) (by kernel_rfl) (evs1 (hF.1 hE)) hK
  · exact fun a wx hT hF K hK => rely_if (rely_gf hF.2.1) (NewT.refl _) hK fun hE hK => opr_not rfl (hF.1 hE) (hK _ _ (NewT.refl _) rfl)
  · intro w1 k1
    iterate 9 (intro u h; obtain rfl := Eq.symm (h (by simp)); clear h)
    iterate 3 (intro _ _)
    intro u19 h; have g19 := h (by simp); clear h; replace g19 := show (svIf ((!(x.saga != ((List.length (bk.sg) : Int))))) (SV.eq (.bool (!(mayL x.steps))))).pred u19 w1 from g19
    refine relyEnd_nil rfl ?_
    simp only [Act.put, List.setIfInBounds_toArray, List.set_cons_zero, List.set_cons_succ]
    refine opr_pick_or (b := x.saga != ((List.length (bk.sg) : Int))) (e := !(mayL x.steps)) rfl rfl (fun hb => g19 (bnot hb)) ?_
    go_simp
    replace Rgb := Lib.hid (k1.row Rgb.out)
    replace Rg4 := Lib.hid (k1.row Rg4.out)
    replace HM := Lib.hid (NewT.trans _ _ _ HM.out k1)
    clear k1
    cases hb : ((x.saga != ((List.length (bk.sg) : Int))) || (!(mayL x.steps)))
    · have hm : mayL x.steps = true ∧ x.saga = (bk.sg.length : Int) := by
        simp only [Bool.or_eq_false_iff, bne_eq_false_iff_eq, Bool.not_eq_false'] at hb
        exact ⟨hb.2, hb.1⟩
      have hF0 : begB bk x = true := by unfold begB; rw [if_pos hm.2]; exact hm.1
      have HF := Lib.hid hF0
      have HN : Hid (begN bk x = begK bk x) := Lib.hid (by unfold begN; rw [if_pos hF0])
      clear hF0
      have HL12 : Hid (fs.length ≤ 1000) := Lib.hid (by have := HP.out.len; have := Hlen.out; omega)
      have HPE : Hid (NewT WE w) := Lib.hid HP.out.elder
      have HSZ : Hid (WE.heap.size ≤ B) := Lib.hid HP.out.size
      have HOW : Hid (OwnE 59 10 w1 B sv fs) := Lib.hid (HP.out.own.new HM.out)
      have HAP := Lib.hid HP.out.apart
      have HOL : Hid (WE.heap.size ≤ w1.heap.size ∧ gb < w1.heap.size ∧ B ≤ w1.heap.size) := Lib.hid (by have h1 := (NewT.trans _ _ _ HPE.out HM.out).out.size; have h2 := Rgb.out.lt; have h3 := HGB.out; omega)
      clear hb hm
      by_cases hroom : ∃ c cap, sv = .slice (some ⟨c, 0, none⟩) fs.length cap ∧ fs.length + 1 ≤ cap
      · obtain ⟨c, cap, hcv, hcap⟩ := hroom
        have hgc : gb < c := HAP.out c (by rw [hcv]; rfl)
        have hBc : B ≤ c := by have := HGB.out; omega
        have hcl : c < w1.heap.size := (HOW.out.lt c (by rw [hcv]; rfl)).2
        have hcD : c < w.heap.size := (HP.out.own.lt c (by rw [hcv]; rfl)).2
        have hgD : gb < w.heap.size := HGB.out.1
        have hg4c : g4 ≠ c := by have h1 := (HP.out.own.lt c (by rw [hcv]; rfl)).2; have h2 := HG.out; omega
        have hgbc : gb ≠ c := by omega
        have HCV := Lib.hid hcv
        have HCAP := Lib.hid hcap
        clear hcv hcap
        obtain ⟨V1, hV1⟩ : ∃ V1, Value.slice (some ⟨c, 0, none⟩) (fs.length + 1) cap = V1 := ⟨_, rfl⟩
        have HV1 := Lib.hid hV1
        clear hV1
        go_upto_region 3 with fail
        have HRT : ∀ wx, RT c w1 wx → RdP wx su x.steps := fun wx hT => (NewT.of ((NewT.trans _ _ _ HPE.out HM.out).out.trans (hT.below.mono (by have := HSZ.out; omega)))).pairs HSXE.out
        refine wp_region_relyP (RT c) (BegJ B w.heap.size sv V1 fs (newL x.steps) (newG x.steps)) [SV.eq (.pointer (some ⟨gb, 0, none⟩)), SV.eq (.pointer (some ⟨gb, 0, none⟩)), SV.eq (.pointer (some ⟨gb, 0, none⟩)), SV.eq (.pointer (some ⟨gb, 4, none⟩)), SV.eq (sv), SV.eq (.pointer (some ⟨g4, 42, none⟩)), SV.eq (su), svSgB c w.heap.size hcD (newL x.steps) (newG x.steps), svUoB c w.heap.size hcD (newL x.steps) (newG x.steps), SV.eq (V1), SV.eq (.pointer (some ⟨gb, 0, none⟩)), SV.eq (.pointer (some ⟨gb, 4, none⟩))] [([(0, none)], none), ([(0, none)], none), ([(22, some 1)], none), ([(23, some 2)], none), ([(24, some 3)], none), ([(4, none)], none), ([(26, some 5)], none), ([(27, some 6)], none), ([(28, some 7)], none), ([(25, some 4), (29, some 8)], none), ([(21, some 0)], none), ([(31, some 10)], none)] [none, none, none, none, none, none, none, none, none, some 0, none, none] [9] 33 rfl (by kernel_rfl) rfl (by kernel_rfl) (by kernel_rfl) rfl (by kernel_rfl) RT.trans (RT.drew _ _) (show OwnE _ _ _ _ _ _ from HOW.out.new (NewT.drew _)) (Nat.le_of_ble_eq_true rfl) ⟨?_, ?_, ?_, ?_, ?_, ?_, ?_, ?_, ?_, ?_, ?_, ?_, trivial⟩ ?_
        · exact fun a wx hT hF K hK => have hK := fun v w' (hN : NewT wx w') hv => hK v w' (RT.new (Nat.lt_of_lt_of_le hcl hT.size) hN) (fun k h => begJ_new h hN) hv; rely_wp rfl (opr_move (.inl rfl) (hK _ _ (NewT.refl _) hF.1))
        · exact fun a wx hT hF K hK => have hK := fun v w' (hN : NewT wx w') hv => hK v w' (RT.new (Nat.lt_of_lt_of_le hcl hT.size) hN) (fun k h => begJ_new h hN) hv; rely_wp rfl (opr_move (.inl rfl) (hK _ _ (NewT.refl _) hF.1))
        · exact fun a wx hT hF K hK => have hK := fun v w' (hN : NewT wx w') hv => hK v w' (RT.new (Nat.lt_of_lt_of_le hcl hT.size) hN) (fun k h => begJ_new h hN) hv; rely_wp rfl (opr_nilc rfl hF.1 (hK _ _ (NewT.refl _) rfl))
        · exact fun a wx hT hF K hK => have hK := fun v w' (hN : NewT wx w') hv => hK v w' (RT.new (Nat.lt_of_lt_of_le hcl hT.size) hN) (fun k h => begJ_new h hN) hv; rely_wp rfl (opr_fldK1 rfl hF.1 (hK _ _ (NewT.refl _) rfl))
        · exact fun a wx hT hF K hK => have hK := fun v w' (hN : NewT wx w') hv => hK v w' (RT.new (Nat.lt_of_lt_of_le hcl hT.size) hN) (fun k h => begJ_new h hN) hv; rely_wp rfl (opr_ldUs (hT.row (by assumption) Rgb.out) (by decide) rfl rfl hF.1 (hK _ _ (NewT.refl _) rfl))
        · exact fun a wx hT hF K hK => have hK := fun v w' (hN : NewT wx w') hv => hK v w' (RT.new (Nat.lt_of_lt_of_le hcl hT.size) hN) (fun k h => begJ_new h hN) hv; rely_wp rfl (opr_fldR (by decide) rfl hF.1 (hK _ _ (NewT.refl _) rfl))
        · exact fun a wx hT hF K hK => have hK := fun v w' (hN : NewT wx w') hv => hK v w' (RT.new (Nat.lt_of_lt_of_le hcl hT.size) hN) (fun k h => begJ_new h hN) hv; rely_wp rfl (opr_ldS (hT.row (by assumption) Rg4.out) (by decide) rfl rfl hF.1 (hK _ _ (NewT.refl _) rfl))
        · intro a wx hT hF K hK
          replace hK := fun v w' (hN : NewT wx w') hv => hK v w' (RT.new (Nat.lt_of_lt_of_le hcl hT.size) hN) (fun k h => begJ_new h hN) hv
          obtain ⟨f27, _⟩ := hF
          have f27 : a.tmps.getD 27 undef = su := f27
          refine rely_wp rfl ?_
          refine opr_cv (gNew_cvB _ x.steps w.heap.size wx (Nat.le_trans HM.out.out.size hT.size) (HRT wx hT)) rfl Tryd.func49 (by kernel_rfl) (by kernel_rfl) (by simp only [List.map_toArray, List.map_cons, List.map_nil, eval_tmp, f27]) (fun v w' hN hv => hK v w' hN hv)
        · intro a wx hT hF K hK
          replace hK := fun v w' (hN : NewT wx w') hv => hK v w' (RT.new (Nat.lt_of_lt_of_le hcl hT.size) hN) (fun k h => begJ_new h hN) hv
          obtain ⟨f28, _⟩ := hF
          replace f28 := show (svSgB c w.heap.size hcD (newL x.steps) (newG x.steps)).pred (a.tmps.getD 28 undef) wx from f28
          refine rely_wp rfl ?_
          refine opr_bsUo (B := w.heap.size) (l := newL x.steps) (g := newG x.steps) (Nat.le_trans HM.out.out.size hT.size) rfl f28 (fun v w' hN hv => hK v w' hN hv)
        · intro a wx hT hF hJ K hK
          obtain ⟨f25, f29, _⟩ := hF
          have f25 : a.tmps.getD 25 undef = sv := f25
          replace f29 := show (svUoB c w.heap.size hcD (newL x.steps) (newG x.steps)).pred (a.tmps.getD 29 undef) wx from f29
          refine rely_wp rfl ?_
          obtain ⟨b, sv2, hv2, hb2, hr2, hs2⟩ := (show UoV wx w.heap.size (a.tmps.getD 29 undef) (newL x.steps) (newG x.steps) from f29)
          have hJ0 : OwnE 59 10 wx B sv fs := hJ
          rw [HCV.out] at hJ0
          obtain ⟨w', hrun, ho', hRT⟩ := run_appE_near (u := a.tmps.getD 29 undef) sagaEl hJ0 (by rw [hv2]; exact rdE_rowOne hr2) (sgOne hs2.1 _) (by simp) (by have := HL12.out; simp; omega) (by have := hT.size; have := HOL.out; omega) (by simpa using HCAP.out) 35
          refine opr_append rfl (f25.trans HCV.out) rfl hrun ?_
          rw [show Value.slice (some ⟨c, 0, none⟩) (fs.length + [sgF sv2 (newG x.steps)].length) cap = V1 from HV1.out]
          refine hK _ _ hRT ⟨sv2, hs2.rt hRT hcD, ?_⟩ rfl
          rw [← HV1.out]
          exact ho'
        · exact fun a wx hT hF K hK => have hK := fun v w' (hN : NewT wx w') hv => hK v w' (RT.new (Nat.lt_of_lt_of_le hcl hT.size) hN) (fun k h => begJ_new h hN) hv; rely_wp rfl (opr_nilc rfl hF.1 (hK _ _ (NewT.refl _) rfl))
        · exact fun a wx hT hF K hK => have hK := fun v w' (hN : NewT wx w') hv => hK v w' (RT.new (Nat.lt_of_lt_of_le hcl hT.size) hN) (fun k h => begJ_new h hN) hv; rely_wp rfl (opr_fldK1 rfl hF.1 (hK _ _ (NewT.refl _) rfl))
        · intro w2 k2 hJ
          iterate 7 (intro u h; obtain rfl := Eq.symm (h (by simp)); clear h)
          iterate 2 (intro _ _)
          iterate 3 (intro u h; obtain rfl := Eq.symm (h (by simp)); clear h)
          refine relyEnd_nil rfl ?_
          simp only [Act.put, List.setIfInBounds_toArray, List.set_cons_zero, List.set_cons_succ]
          have hJ2 : SnV w2 B w.heap.size V1 fs (newL x.steps) (newG x.steps) := hJ
          obtain ⟨sv2, hs2, ho2⟩ := hJ2
          refine opr_put1 rfl rfl rfl (k2.row hgbc Rgb.out) (by decide) info_us (by rw [← HV1.out]; rfl) (fun i hi => bs_sg bk.ep sv V1 i hi) ?_
          intro W2 hR rr
          go_simp
          have hne : V1.ownBlock ≠ some gb := by rw [← HV1.out]; show some c ≠ some gb; intro e; cases e; omega
          have hEW : NewT WE W2 := NewT.of (((NewT.trans _ _ _ HPE.out HM.out).out.trans (k2.below.mono (by have := HSZ.out; omega))).trans (hR.below.mono (by have := HSZ.out; have := HGB.out; omega)))
          go_wp2
          go_ret
          refine ⟨_, by rw [HF.out]; rfl, ?_, ?_, by rw [HN.out]; exact rr, by rw [HN.out]; exact wayOut_snoc (p := (newL x.steps, newG x.steps)) HP.out (ho2.rt hR hne).rd (RdPB.rt hs2 hR hgD) (fun k hk => .inl (by rw [← HV1.out] at hk; rw [HCV.out]; exact hk))⟩
          · exact (((HM.out.out.mono (by have := HGB.out; omega)).trans (k2.below.mono hBc)).trans (hR.below.mono HGB.out.2))
          · exact ((KeepBut.below HM.out).trans (k2.keep.more (by rw [HCV.out]; simp [Value.ownBlock]))).trans (hR.keep.more (by simp))
      · have HNO : Hid (∀ c cap, sv = .slice (some ⟨c, 0, none⟩) fs.length cap → cap < fs.length + 1) := Lib.hid (fun c cap h => by
          by_cases hc : fs.length + 1 ≤ cap
          · exact absurd ⟨c, cap, h, hc⟩ hroom
          · omega)
        clear hroom
        go_upto_region 3 with fail
        refine wp_region_rely (NewT) [SV.eq (.pointer (some ⟨gb, 0, none⟩)), SV.eq (.pointer (some ⟨gb, 0, none⟩)), SV.eq (.pointer (some ⟨gb, 0, none⟩)), SV.eq (.pointer (some ⟨gb, 4, none⟩)), SV.eq (sv), SV.eq (.pointer (some ⟨g4, 42, none⟩)), SV.eq (su), svSgN (w1.heap.size) (newL x.steps) (newG x.steps), svUo (w1.heap.size) (newL x.steps) (newG x.steps), svSn B (w1.heap.size) fs (newL x.steps) (newG x.steps), SV.eq (.pointer (some ⟨gb, 0, none⟩)), SV.eq (.pointer (some ⟨gb, 4, none⟩))] [([(0, none)], none), ([(0, none)], none), ([(22, some 1)], none), ([(23, some 2)], none), ([(24, some 3)], none), ([(4, none)], none), ([(26, some 5)], none), ([(27, some 6)], none), ([(28, some 7)], none), ([(25, some 4), (29, some 8)], none), ([(21, some 0)], none), ([(31, some 10)], none)] 33 rfl (by kernel_rfl) rfl (by kernel_rfl) (by kernel_rfl) rfl NewT.trans (NewT.drew _) (Nat.le_of_ble_eq_true rfl) ⟨?_, ?_, ?_, ?_, ?_, ?_, ?_, ?_, ?_, ?_, ?_, ?_, trivial⟩ ?_
        · exact fun a wx hT hF K hK => rely_wp rfl (opr_move (.inl rfl) (hK _ _ (NewT.refl _) hF.1))
        · exact fun a wx hT hF K hK => rely_wp rfl (opr_move (.inl rfl) (hK _ _ (NewT.refl _) hF.1))
        · exact fun a wx hT hF K hK => rely_wp rfl (opr_nilc rfl hF.1 (hK _ _ (NewT.refl _) rfl))
        · exact fun a wx hT hF K hK => rely_wp rfl (opr_fldK1 rfl hF.1 (hK _ _ (NewT.refl _) rfl))
        · exact fun a wx hT hF K hK => rely_wp rfl (opr_ldUs (hT.row Rgb.out) (by decide) rfl rfl hF.1 (hK _ _ (NewT.refl _) rfl))
        · exact fun a wx hT hF K hK => rely_wp rfl (opr_fldR (by decide) rfl hF.1 (hK _ _ (NewT.refl _) rfl))
        · exact fun a wx hT hF K hK => rely_wp rfl (opr_ldS (hT.row Rg4.out) (by decide) rfl rfl hF.1 (hK _ _ (NewT.refl _) rfl))
        · exact fun a wx hT hF K hK => rely_wp rfl (opr_cv (gNew_cvB _ x.steps (w1.heap.size) wx hT.out.size ((NewT.trans _ _ _ HM.out hT).pairs HSX.out)) rfl Tryd.func49 (by kernel_rfl) (by kernel_rfl) (evs1 hF.1) hK)
        · exact fun a wx hT hF K hK => rely_wp rfl (opr_bsUo (B := w1.heap.size) (l := newL x.steps) (g := newG x.steps) hT.out.size rfl hF.1 (fun v w' hN hv => hK v w' hN hv))
        · intro a wx hT hF K hK
          obtain ⟨f25, f29, _⟩ := hF
          have f25 : a.tmps.getD 25 undef = sv := f25
          replace f29 := show (svUo (w1.heap.size) (newL x.steps) (newG x.steps)).pred (a.tmps.getD 29 undef) wx from f29
          refine rely_wp rfl ?_
          exact opr_appUo (fs := fs) (B0 := B) (B := w1.heap.size) (l := newL x.steps) (g := newG x.steps) (by have := hT.out.size; have := HOL.out; omega) hT.out.size (by have := HL12.out; omega) rfl (by rw [eval_tmp, f25]; exact HOW.out.new hT) (fun g c h => HNO.out g c (by rw [← h, eval_tmp, f25])) f29 (fun v w' hN hv => hK v w' hN hv)
        · exact fun a wx hT hF K hK => rely_wp rfl (opr_nilc rfl hF.1 (hK _ _ (NewT.refl _) rfl))
        · exact fun a wx hT hF K hK => rely_wp rfl (opr_fldK1 rfl hF.1 (hK _ _ (NewT.refl _) rfl))
        · intro w2 k2
          iterate 7 (intro u h; obtain rfl := Eq.symm (h (by simp)); clear h)
          iterate 2 (intro _ _)
          intro u30 h; have g30 := h (by simp); clear h; replace g30 := show (svSn B (w1.heap.size) fs (newL x.steps) (newG x.steps)).pred u30 w2 from g30
          iterate 2 (intro u h; obtain rfl := Eq.symm (h (by simp)); clear h)
          refine relyEnd_nil rfl ?_
          simp only [Act.put, List.setIfInBounds_toArray, List.set_cons_zero, List.set_cons_succ]
          have hA := (show SnV w2 B (w1.heap.size) u30 fs (newL x.steps) (newG x.steps) ∧ ∀ k, Value.ownBlock u30 = some k → w1.heap.size ≤ k from g30)
          obtain ⟨⟨sv2, hs2, ho2⟩, hk2⟩ := hA
          refine opr_put1 rfl rfl rfl (k2.row Rgb.out) (by decide) info_us (by obtain ⟨A', c', e, _⟩ := ho2.form; rw [e]; rfl) (fun i hi => bs_sg bk.ep sv u30 i hi) ?_
          intro W2 hR rr
          go_simp
          have hne : Value.ownBlock u30 ≠ some gb := fun e => by have h1 := hk2 gb e; have h2 := HOL.out; omega
          have hEW : NewT WE W2 := NewT.of ((NewT.trans _ _ _ HPE.out (NewT.trans _ _ _ HM.out k2)).out.trans (hR.below.mono (by have := HSZ.out; have := HGB.out; omega)))
          go_wp2
          go_ret
          refine ⟨_, by rw [HF.out]; rfl, ?_, ?_, by rw [HN.out]; exact rr, by rw [HN.out]; exact wayOut_snoc (p := (newL x.steps, newG x.steps)) HP.out (ho2.rt hR hne).rd ((RdPB.rt hs2 hR HOL.out.2.1).mono HM.out.out.size) (fun k hk => .inr (Nat.le_trans HM.out.out.size (hk2 k hk)))⟩
          · exact (((NewT.trans _ _ _ HM.out k2).out.mono (by have := HGB.out; omega)).trans (hR.below.mono HGB.out.2))
          · exact (KeepBut.below (NewT.trans _ _ _ HM.out k2)).trans (hR.keep.more (by simp))
    · have HF : Hid (begB bk x = false) := Lib.hid (by
        unfold begB
        split
        next h => rw [h] at hb; simpa using hb
        next => rfl)
      have HN : Hid (begN bk x = bk) := Lib.hid (by unfold begN; rw [HF.out, if_neg (by simp)])
      clear hb
      go_wp2
      go_ret
      exact ⟨sv, by rw [HF.out]; rfl, HM.out.out.mono (Nat.le_trans HP.out.at_ (Nat.le_of_lt HP.out.row.lt)), KeepBut.below HM.out, by rw [HN.out]; exact Rgb.out, by rw [HN.out]; exact wayOut_own HP.out (HP.out.own.new HM.out).rd⟩
end Go.Proofs.YtilmeffmdgcblaaDoor
/- A region that draws its order, some of whose operations turn a state one behind the other; the state may speak of the frame's slots (of variables that the region itself makes). No program is named here. -/
namespace Go.Proofs.YtilmeffmdgcblaaDoor
open Go Go.RowKit
set_option maxRecDepth 8000
set_option linter.all false

/-- One operation: it turns phase k into the next one (some k), or keeps whatever phase there is (none); a phase speaks of the frame too. -/
def relyStepA (P : Program) (Q : Exit → Act → World → Prop) (T : World → World → Prop) (V : List (SV T)) (J : Nat → Act → World → Prop) (a0 : Act) (w0 : World) (o : Oper) (dp : List (Tmp × Option Nat)) (g : Option (Tmp × Bool)) (c : SV T) : Option Nat → Prop
  | none => ∀ (a : Act) (w : World), T w0 w → relyFacts V a0 a w dp → ∀ K : Act → World → Prop, (∀ v w', T w w' → (∀ k, J k a w → J k (a.put o.dst v) w') → c.pred v w' → K (a.put o.dst v) w') →
    if relyGuard g a then o.wp P a w K Q else K (a.put o.dst undef) w
  | some k => ∀ (a : Act) (w : World), T w0 w → relyFacts V a0 a w dp → J k a w → ∀ K : Act → World → Prop, (∀ v w', T w w' → J (k + 1) (a.put o.dst v) w' → c.pred v w' → K (a.put o.dst v) w') →
    if relyGuard g a then o.wp P a w K Q else K (a.put o.dst undef) w
def relyAllA (P : Program) (Q : Exit → Act → World → Prop) (T : World → World → Prop) (V : List (SV T)) (J : Nat → Act → World → Prop) (a0 : Act) (w0 : World) : List Oper → Deps → List (SV T) → List (Option Nat) → Prop
  | [], _, _, _ => True
  | o :: r, (dp, g) :: D, c :: C, s :: S => relyStepA P Q T V J a0 w0 o dp g c s ∧ relyAllA P Q T V J a0 w0 r D C S
  | _, _, _, _ => False
section
variable {P : Program} {ops : Array Oper} {Q : Exit → Act → World → Prop} {T : World → World → Prop} {V : List (SV T)} {J : Nat → Act → World → Prop} {a0 : Act} {w0 : World} {n : Nat} {D : Deps} {S : List (Option Nat)} {path : List Nat} {init : List Oper} {last : Oper}
theorem relyAllA_at : ∀ (l : List Oper) (D : Deps) (C : List (SV T)) (S : List (Option Nat)) (k : Nat) (o : Oper) dp g, relyAllA P Q T V J a0 w0 l D C S → l[k]? = some o → D[k]? = some (dp, g) → relyStepA P Q T V J a0 w0 o dp g (C.getD k SV.any) (S.getD k none)
  | [], _, _, _, _, _, _, _, _, h, _ => by simp at h
  | x :: r, [], _, _, _, _, _, _, h, _, _ => h.elim
  | x :: r, y :: D, [], _, _, _, _, _, h, _, _ => h.elim
  | x :: r, y :: D, c :: C, [], _, _, _, _, h, _, _ => h.elim
  | x :: r, (dp, g) :: D, c :: C, s :: S, 0, o, dp', g', h, ho, hD => by
    simp at ho hD
    obtain ⟨rfl, rfl⟩ := hD
    subst ho
    exact h.1
  | x :: r, (dp, g) :: D, c :: C, s :: S, k + 1, o, dp', g', h, ho, hD => by
    have := relyAllA_at r D C S k o dp' g' h.2 (by simpa using ho) (by simpa using hD)
    simpa using this
/-- So many of the path's operations have come up. -/
structure PhInvA (path : List Nat) (J : Nat → Act → World → Prop) (listed : Array Bool) (a : Act) (w : World) (k : Nat) : Prop where
  le : k ≤ path.length
  done : ∀ j i, j < k → path[j]? = some i → listed.getD i false = true
  left : ∀ j i, k ≤ j → path[j]? = some i → listed.getD i false = false
  now : J k a w
theorem phA_other {listed : Array Bool} {a a' : Act} {w w' : World} {k i : Nat} (h : PhInvA path J listed a w k) (hi : i ∉ path) (hJ : J k a' w') : PhInvA path J (listed.setIfInBounds i true) a' w' k := by
  have hne : ∀ (j x : Nat), path[j]? = some x → i ≠ x := fun j x hx e => hi (e ▸ List.mem_of_getElem? hx)
  exact ⟨h.le, fun j x hj hx => by rw [getD_set_ne false (hne j x hx)]; exact h.done j x hj hx, fun j x hj hx => by rw [getD_set_ne false (hne j x hx)]; exact h.left j x hj hx, hJ⟩
theorem phA_own (hnd : path.Nodup) {listed : Array Bool} {a a' : Act} {w w' : World} {k i : Nat} (hlt : i < listed.size) (h : PhInvA path J listed a w k) (hi : path[k]? = some i) (hJ : J (k + 1) a' w') : PhInvA path J (listed.setIfInBounds i true) a' w' (k + 1) := by
  have hk : k < path.length := (List.getElem?_eq_some_iff.1 hi).1
  have hinj : ∀ (j x : Nat), path[j]? = some x → j ≠ k → i ≠ x := fun j x hx hjk e => by
    subst e
    obtain ⟨h1, h2⟩ := List.getElem?_eq_some_iff.1 hx
    obtain ⟨h3, h4⟩ := List.getElem?_eq_some_iff.1 hi
    exact hjk ((List.getElem_inj hnd).1 (h2.trans h4.symm))
  refine ⟨hk, fun j x hj hx => ?_, fun j x hj hx => ?_, hJ⟩
  · by_cases e : j = k
    · subst e
      rw [hi] at hx
      cases hx
      simp [hlt]
    · rw [getD_set_ne false (hinj j x hx e)]; exact h.done j x (by omega) hx
  · rw [getD_set_ne false (hinj j x hx (by omega))]; exact h.left j x (by omega) hx
theorem wpAny_relyA {Q2 : Exit → Act → World → Prop} (hQ : ∀ (o : Oper) (a : Act) (w : World) (K : Act → World → Prop), a.defers = a0.defers → o.wp P a w K Q2 → o.wp P a w K Q) (hsplit : ops.toList = init ++ [last]) (hn : a0.tmps.size = n) (hB : relyB ops n 0 init D = true) (hlast : lastB ops last init.length = true) (hg : last.guard = none) (ht : ∀ a b c : World, T a b → T b c → T a c)
    (hpath : pathB ops path = true) (hplace : placesB path S = true) (hSl : S.length = init.length) (hpl : ∀ i ∈ path, i < init.length)
    (hl : init.length ≤ V.length) (hA : relyAllA P Q2 T V J a0 w0 init D V S) (hE : ∀ w, T w0 w → relyEnd (fun _ a w => J path.length a w → last.wp P a w (fun a' w' => Q .normal a' w') Q) T init V a0 w) :
    ∀ (fuel : Nat) (listed : Array Bool) (a : Act) (w : World) (k : Nat), (unl ops listed).length = fuel → listed.getD init.length true = false → RelyInv ops T V a0 w0 listed a w → PhInvA path J listed a w k → wpAny P .any ops Q fuel listed a w := by
  obtain ⟨hlo, hsz, hpre⟩ := last_at hsplit
  simp only [lastB, Bool.and_eq_true] at hlast
  simp only [placesB, Bool.and_eq_true, decide_eq_true_eq] at hplace
  obtain ⟨hnd, hpos⟩ := hplace
  have hS : ∀ i, i < init.length → S.getD i none = path.findIdx? (· == i) := fun i hi => by
    have := List.all_eq_true.1 hpos i (List.mem_range.2 (by omega))
    simpa using this
  have hat : ∀ i o, init[i]? = some o → ∃ dp g, relyOne ops n i o dp g = true ∧ relyStepA P Q2 T V J a0 w0 o dp g (V.getD i SV.any) (path.findIdx? (· == i)) := fun i o hi => by
    obtain ⟨dp, g, hD, h1⟩ := relyB_at init D 0 i o hB hi
    rw [Nat.zero_add] at h1
    refine ⟨dp, g, h1, ?_⟩
    rw [← hS i (List.getElem?_eq_some_iff.1 hi).1]
    exact relyAllA_at _ _ _ _ i o dp g hA hi hD
  intro fuel
  induction fuel with
  | zero =>
    intro listed a w k hu hun inv _
    have : init.length ∈ unl ops listed := by
      unfold unl; rw [List.mem_filter]; exact ⟨List.mem_range.2 (by omega), by rw [hun]; rfl⟩
    rw [List.eq_nil_of_length_eq_zero hu] at this
    cases this
  | succ fuel ih =>
    intro listed a w k hu hun inv ph
    refine ⟨fun hr => ?_, fun i hi => ?_⟩
    · exfalso
      have all : ∀ i, i < init.length → listed.getD i false = true := fun i => by
        induction i using Nat.strongRecOn with
        | _ i ih =>
          intro hi
          cases hli : listed.getD i false with
          | true => rfl
          | false =>
            exfalso
            have hmem : i ∈ Region.ready .any ops listed := by
              rw [mem_ready]
              refine ⟨getD_in (by rw [inv.size]; omega) hli, init[i], hpre i _ (List.getElem?_eq_getElem hi), fun e he hb => ?_⟩
              obtain ⟨dp, g, h1, _⟩ := hat i init[i] (List.getElem?_eq_getElem hi)
              simp only [relyOne, Bool.and_eq_true] at h1
              have h2 := (Array.all_eq_true_iff_forall_mem.1 h1.1.1.2) e he
              simp only [hb, Bool.not_true, Bool.false_or, decide_eq_true_eq] at h2
              exact ih e.on h2 (by omega)
            rw [hr] at hmem
            cases hmem
      have hmem : init.length ∈ Region.ready .any ops listed := by
        rw [mem_ready]
        refine ⟨hun, last, hlo, fun e he hb => ?_⟩
        have h2 := (Array.all_eq_true_iff_forall_mem.1 hlast.2) e he
        simp only [hb, Bool.not_true, Bool.false_or, decide_eq_true_eq] at h2
        exact all e.on h2
      rw [hr] at hmem
      cases hmem
    · obtain ⟨h0, o, ho, hall⟩ := mem_ready.1 hi
      have hilt := (Array.getElem?_eq_some_iff.1 ho).1
      by_cases him : i = init.length
      · subst him
        have hol : o = last := Option.some.inj (ho.symm.trans hlo)
        subst hol
        have hdone : ∀ (d j : Nat), init.length - j = d → j < init.length → listed.getD j false = true := fun d => by
          induction d using Nat.strongRecOn with
          | _ d ihd =>
            intro j hd hj
            have h1 := List.all_eq_true.1 hlast.1 j (List.mem_range.2 hj)
            obtain ⟨t, ht1, ht2⟩ := List.any_eq_true.1 h1
            simp only [Bool.and_eq_true, decide_eq_true_eq] at ht2
            obtain ⟨ot, hot, e, he, hb, hon⟩ := Region.waitsFor_spec ht2.2
            have htle : t ≤ init.length := by have := List.mem_range.1 ht1; omega
            rw [← hon]
            by_cases htm : t = init.length
            · subst htm
              have : ot = o := Option.some.inj (hot.symm.trans ho)
              subst this
              exact hall e he hb
            · exact inv.closed t ot hot (ihd (init.length - t) (by omega) t rfl (by omega)) e he hb
        replace hdone : ∀ j, j < init.length → listed.getD j false = true := fun j hj => hdone _ j rfl hj
        have hk : k = path.length := by
          rcases Nat.lt_or_ge k path.length with h | h
          · exfalso
            have h1 := ph.left k path[k] (Nat.le_refl _) (List.getElem?_eq_getElem h)
            rw [hdone _ (hpl _ (List.getElem_mem h))] at h1
            cases h1
          · have := ph.le; omega
        subst hk
        have hJ := ph.now
        have h1 : J path.length a w → o.wp P a w (fun a' w' => Q .normal a' w') Q := rely_all (Q' := fun a w => J path.length a w → o.wp P a w (fun a' w' => Q .normal a' w') Q) inv
          (fun k o hk => ⟨hpre k o hk, hdone k (List.getElem?_eq_some_iff.1 hk).1⟩) (fun j hj => by
            rcases Nat.lt_or_ge j init.length with h | h
            · exact h
            · rcases Nat.eq_or_lt_of_le h with h | h
              · subst h; rw [getD_both hun] at hj; cases hj
              · have : listed.getD j false = false := by simp [Array.getElem?_eq_none (show listed.size ≤ j by rw [inv.size]; omega)]
                rw [this] at hj; cases hj) hl (hE w inv.now)
        have hK : ∀ a' w', Q .normal a' w' → wpAny P .any ops Q fuel (listed.setIfInBounds init.length true) a' w' := fun a' w' h => wpAny_done (ready_none fun j hj => by
          by_cases hj2 : j = init.length
          · subst hj2; simp [show init.length < listed.size by rw [inv.size]; exact hj]
          · exact getD_set_true (hdone j (by omega))) h _
        unfold wpOp
        simp only [hlo, Region.wanted, hg, if_true]
        exact .inl (Oper.wp_mono hK (h1 hJ))
      · have hi' : i < init.length := by omega
        have hio : init[i]? = some o := by
          have := hpre i init[i] (List.getElem?_eq_getElem hi')
          rw [ho] at this
          rw [List.getElem?_eq_getElem hi', Option.some.inj this]
        obtain ⟨dp, g, h1, hstep⟩ := hat i o hio
        obtain ⟨hfacts, hguard, next⟩ := rely_next hn ht ho h1 h0 hall inv
        have i0 : listed.getD i false = false := getD_both h0
        have hs : if relyGuard g a then o.wp P a w (fun a' w' => wpAny P .any ops Q fuel (listed.setIfInBounds i true) a' w') Q2 else wpAny P .any ops Q fuel (listed.setIfInBounds i true) (a.put o.dst undef) w := by
          cases hf : path.findIdx? (· == i) with
          | none =>
            rw [hf] at hstep
            have hni : i ∉ path := fun hm => by
              rw [List.findIdx?_eq_none_iff] at hf
              have := hf i hm
              simp at this
            exact hstep a w inv.now hfacts (fun a' w' => wpAny P .any ops Q fuel (listed.setIfInBounds i true) a' w') (fun v w' hT hJ hv => ih _ _ w' k (by have := unl_set inv.size h0; omega) (by rw [getD_set_ne true him]; exact hun) (next v w' hT hv) (phA_other ph hni (hJ k ph.now)))
          | some j =>
            rw [hf] at hstep
            have hpj : path[j]? = some i := by
              obtain ⟨h1, h2, _⟩ := List.findIdx?_eq_some_iff_getElem.1 hf
              rw [List.getElem?_eq_getElem h1]
              simpa using h2
            have hkj : k = j := by
              rcases Nat.lt_trichotomy j k with h | h | h
              · have := ph.done j i h hpj
                rw [i0] at this; cases this
              · exact h.symm
              · exfalso
                obtain ⟨j', rfl⟩ : ∃ j', j = j' + 1 := ⟨j - 1, by omega⟩
                have hlj : j' < path.length := by have := (List.getElem?_eq_some_iff.1 hpj).1; omega
                have hw := pathB_at path j' path[j'] i hpath (List.getElem?_eq_getElem hlj) hpj
                obtain ⟨oi, hoi, e, he, hb, hon⟩ := Region.waitsFor_spec hw
                have : oi = o := Option.some.inj (hoi.symm.trans ho)
                subst this
                have h2 := hall e he hb
                rw [hon, ph.left j' _ (by omega) (List.getElem?_eq_getElem hlj)] at h2
                cases h2
            subst hkj
            exact hstep a w inv.now hfacts ph.now (fun a' w' => wpAny P .any ops Q fuel (listed.setIfInBounds i true) a' w') (fun v w' hT hJ hv => ih _ _ w' (k + 1) (by have := unl_set inv.size h0; omega) (by rw [getD_set_ne true him]; exact hun) (next v w' hT hv) (phA_own hnd (by rw [inv.size]; exact hilt) ph hpj hJ))
        unfold wpOp
        simp only [ho, hguard]
        split
        · rename_i hw; rw [if_pos hw] at hs; exact .inl (hQ _ _ _ _ inv.defers hs)
        · rename_i hw; rw [if_neg hw] at hs; exact hs
/-- **A region that draws its order and turns a state step by step, of which the frame is part.** -/
theorem wp_region_relyA {id : Nat} {Q2 : Exit → Act → World → Prop} (hQ : ∀ (o : Oper) (a : Act) (w : World) (K : Act → World → Prop), a.defers = a0.defers → o.wp P a w K Q2 → o.wp P a w K Q) (T : World → World → Prop) (J : Nat → Act → World → Prop) (V : List (SV T)) (D : Deps) (S : List (Option Nat)) (path : List Nat) (n : Nat) (hla : ops.toList.getLast? = some last) (hm : P.follows .mixedOrders = true) (hn : a0.tmps.size = n) (hB : relyB ops n 0 ops.toList.dropLast D = true)
    (hlast : lastB ops last ops.toList.dropLast.length = true) (hg : last.guard = none) (hpath : (pathB ops path && placesB path S && decide (S.length = ops.toList.dropLast.length) && path.all fun i => decide (i < ops.toList.dropLast.length)) = true)
    (ht : ∀ a b c : World, T a b → T b c → T a c) (hd : T w0 w0.drew) (hJ : J 0 a0 w0.drew) (hl : ops.toList.dropLast.length ≤ V.length)
    (hA : relyAllA P Q2 T V J a0 w0 ops.toList.dropLast D V S) (hE : ∀ w, T w0 w → relyEnd (fun _ a w => J path.length a w → last.wp P a w (fun a' w' => Q .normal a' w') Q) T ops.toList.dropLast V a0 w) : (Code.region id ops true).wp P Q a0 w0 := by
  have hsplit := split_last hla
  obtain ⟨_, hsz, _⟩ := last_at hsplit
  simp only [Bool.and_eq_true, decide_eq_true_eq] at hpath
  obtain ⟨⟨⟨h1, h2⟩, h3⟩, h4⟩ := hpath
  refine wp_region_any hm ?_
  exact wpAny_relyA hQ hsplit hn hB hlast hg ht h1 h2 h3 (fun i hi => by simpa using List.all_eq_true.1 h4 i hi) hl hA hE ops.size _ a0 w0.drew 0 unl_start (by
    have hlt : ops.toList.dropLast.length < ops.size := by omega
    generalize ops.toList.dropLast.length = m at hlt
    simp [hlt]) (rely_start hd) ⟨Nat.zero_le _, fun j i hj => by omega, fun j i _ _ => getD_replicate_false .., hJ⟩
theorem wp_region_relyA0 {id : Nat} (T : World → World → Prop) (J : Nat → Act → World → Prop) (V : List (SV T)) (D : Deps) (S : List (Option Nat)) (path : List Nat) (n : Nat) (hla : ops.toList.getLast? = some last) (hm : P.follows .mixedOrders = true) (hn : a0.tmps.size = n) (hB : relyB ops n 0 ops.toList.dropLast D = true)
    (hlast : lastB ops last ops.toList.dropLast.length = true) (hg : last.guard = none) (hpath : (pathB ops path && placesB path S && decide (S.length = ops.toList.dropLast.length) && path.all fun i => decide (i < ops.toList.dropLast.length)) = true)
    (ht : ∀ a b c : World, T a b → T b c → T a c) (hd : T w0 w0.drew) (hJ : J 0 a0 w0.drew) (hl : ops.toList.dropLast.length ≤ V.length)
    (hA : relyAllA P Q T V J a0 w0 ops.toList.dropLast D V S) (hE : ∀ w, T w0 w → relyEnd (fun _ a w => J path.length a w → last.wp P a w (fun a' w' => Q .normal a' w') Q) T ops.toList.dropLast V a0 w) : (Code.region id ops true).wp P Q a0 w0 :=
  wp_region_relyA (fun _ _ _ _ _ h => h) T J V D S path n hla hm hn hB hlast hg hpath ht hd hJ hl hA hE
end
end Go.Proofs.YtilmeffmdgcblaaDoor
/- Drawn regions that make one variable and store into it, in whatever order the rest comes: 'x, y := f(..)'. -/
namespace Go.Proofs.YtilmeffmdgcblaaDoor
open Go Go.RowKit
set_option maxRecDepth 8000
set_option linter.all false
/-- Memory that was there in W stays. -/
def BelT (W : World) (w w' : World) : Prop := Below W.heap.size w w'
theorem BelT.trans (W : World) (a b c : World) (h : BelT W a b) (k : BelT W b c) : BelT W a c := Below.trans h k
theorem BelT.drew (W w : World) : BelT W w w.drew := (Below.refl _ w).drew
theorem BelT.new {W w w' : World} (hW : NewT W w) (hN : NewT w w') : BelT W w w' := hN.out.mono hW.out.size
theorem BelT.rt {W w w' : World} {g : Nat} (hg : W.heap.size ≤ g) (h : RT g w w') : BelT W w w' := h.below.mono hg
/-- It is a variable's address. -/
def svPtV {T : World → World → Prop} : SV T := ⟨fun v _ => ∃ g, v = .pointer (some ⟨g, 0, none⟩), fun _ _ _ h _ => h⟩
/-- The variable of slot p: not there, zero, stored. -/
def JV (p : Tmp) (W : World) (t n : Nat) (F0 : Nat → Value) (G : World → (Nat → Value) → Prop) (k : Nat) (a : Act) (w : World) : Prop :=
  k = 0 ∨ ∀ g, a.tmps.getD p undef = .pointer (some ⟨g, 0, none⟩) → ∃ F, W.heap.size ≤ g ∧ w.rowIs g t n F ∧ (k = 1 ∧ F = F0 ∨ k ≠ 1 ∧ G w F)
theorem JV.keep {p : Tmp} {W : World} {t n : Nat} {F0 : Nat → Value} {G : World → (Nat → Value) → Prop} {k : Nat} {a : Act} {w w' : World} {d : Option Tmp} {v : Value} (h : JV p W t n F0 G k a w) (hd : d ≠ some p) (hN : NewT w w') (hG : ∀ F, G w F → G w' F) : JV p W t n F0 G k (a.put d v) w' := by
  rcases h with h | h
  · exact .inl h
  · refine .inr fun g hg => ?_
    have hg' : a.tmps.getD p undef = .pointer (some ⟨g, 0, none⟩) := by
      cases d with
      | none => exact hg
      | some q =>
        have hne : q ≠ p := fun e => hd (by rw [e])
        rw [← hg]
        simp [Act.put, Array.getElem?_setIfInBounds_ne hne]
    obtain ⟨F, h1, h2, h3⟩ := h g hg'
    refine ⟨F, h1, hN.row h2, ?_⟩
    rcases h3 with h3 | ⟨h3, h4⟩
    · exact .inl h3
    · exact .inr ⟨h3, hG F h4⟩
theorem JV.make {p : Tmp} {W : World} {t n : Nat} {F0 : Nat → Value} {G : World → (Nat → Value) → Prop} {a : Act} {w : World} (hW : NewT W w) : JV p W t n F0 G 1 (a.put (some p) (.pointer (some ⟨w.heap.size, 0, none⟩))) (w.alloc (.cells (rowA n F0) t)) := by
  refine .inr fun g hg => ?_
  have hs : g = w.heap.size := by
    by_cases hp : p < a.tmps.size
    · simp [Act.put, hp] at hg; exact hg.symm
    · simp [Act.put, hp] at hg; cases hg
  subst hs
  exact ⟨F0, hW.out.size, rowIs_box w t n F0, .inl ⟨rfl, rfl⟩⟩
theorem JV.at1 {p g : Nat} {W : World} {t n : Nat} {F0 : Nat → Value} {G : World → (Nat → Value) → Prop} {a : Act} {w : World} (h : JV p W t n F0 G 1 a w) (hg : a.tmps.getD p undef = .pointer (some ⟨g, 0, none⟩)) : W.heap.size ≤ g ∧ w.rowIs g t n F0 := by
  rcases h with h | h
  · cases h
  · obtain ⟨F, h1, h2, h3⟩ := h g hg
    rcases h3 with ⟨_, rfl⟩ | ⟨h3, _⟩
    · exact ⟨h1, h2⟩
    · exact absurd rfl h3
theorem JV.at2 {p g : Nat} {W : World} {t n : Nat} {F0 : Nat → Value} {G : World → (Nat → Value) → Prop} {a : Act} {w : World} (h : JV p W t n F0 G 2 a w) (hg : a.tmps.getD p undef = .pointer (some ⟨g, 0, none⟩)) : ∃ F, W.heap.size ≤ g ∧ w.rowIs g t n F ∧ G w F := by
  rcases h with h | h
  · cases h
  · obtain ⟨F, h1, h2, h3⟩ := h g hg
    rcases h3 with ⟨h3, _⟩ | ⟨_, h3⟩
    · cases h3
    · exact ⟨F, h1, h2, h3⟩
theorem JV.mk2 {p g : Nat} {W : World} {t n : Nat} {F0 F : Nat → Value} {G : World → (Nat → Value) → Prop} {a : Act} {w : World} {v : Value} (h1 : a.tmps.getD p undef = .pointer (some ⟨g, 0, none⟩)) (h2 : W.heap.size ≤ g) (h3 : w.rowIs g t n F) (h4 : G w F) : JV p W t n F0 G 2 (a.put none v) w := by
  refine .inr fun g' hg' => ?_
  have e : a.tmps.getD p undef = .pointer (some ⟨g', 0, none⟩) := hg'
  rw [h1] at e
  cases e
  exact ⟨F, h2, h3, .inr ⟨by omega, h4⟩⟩
theorem opr_allocV {P : Program} {a : Act} {w : World} {o : Oper} {K : Act → World → Prop} {Q : Exit → Act → World → Prop} {t n : Nat} {F0 : Nat → Value} (ho : o.op = .alloc t) (hal : ∀ w, (Instr.alloc t true (.tuple #[])).run P w = .ok (.pointer (some ⟨w.heap.size, 0, none⟩)) (w.alloc (.cells (rowA n F0) t))) (h : K (a.put o.dst (.pointer (some ⟨w.heap.size, 0, none⟩))) (w.alloc (.cells (rowA n F0) t))) : o.wp P a w K Q := by
  obtain ⟨dst, op, type, pos, after, guard⟩ := o
  simp only at ho
  subst ho
  exact opr_val (s := Instr.alloc t true (.tuple #[])) rfl (hal w) h
/-- A variable is made, another is assigned to, the first is stored into. -/
theorem wpList_newA {P : Program} {ops : Array Oper} {rest : List Oper} {a : Act} {w : World} {Q : Exit → Act → World → Prop} {o1 o2 o3 : Oper} {t : TypeId} {n d0 d1 : Nat} {z y : Operand} {f f0 : Nat → Value} (hg1 : o1.guard = none) (hg2 : o2.guard = none) (hg3 : o3.guard = none) (h1 : o1.op = .alloc t) (hd : o1.dst = some d0) (h2 : o2.op = .assign z) (hd2 : o2.dst = some d1) (h3 : o3.op = .store t (.tmp d0) y) (hne : d1 ≠ d0) (hd3 : o3.dst = none) (hlt : d0 < a.tmps.size)
    (hy : ((a.put (some d0) (.pointer (some ⟨w.heap.size, 0, none⟩))).put (some d1) ((a.put (some d0) (.pointer (some ⟨w.heap.size, 0, none⟩))).eval z)).eval y = .agg (rowA n f))
    (hal : ∀ w : World, (Instr.alloc t true (.tuple #[])).run P w = .ok (.pointer (some ⟨w.heap.size, 0, none⟩)) (w.alloc (.cells (rowA n f0) t))) (hi : (P.info? t).map (·.size) = some n) (hone : ∀ i, (f i).oneCell' = true)
    (h : ∀ w', NewT w w' → w'.rowIs w.heap.size t n f → wpList P ops Q rest ((a.put (some d0) (.pointer (some ⟨w.heap.size, 0, none⟩))).put (some d1) ((a.put (some d0) (.pointer (some ⟨w.heap.size, 0, none⟩))).eval z)) w') : wpList P ops Q (o1 :: o2 :: o3 :: rest) a w := by
  refine wpList_plain hg1 fun K hK => ?_
  obtain ⟨dst, op, type, pos, after, guard⟩ := o1
  simp only at h1 hd
  subst h1 hd
  refine opr_val (s := Instr.alloc t true (.tuple #[])) rfl (hal w) (hK _ _ ?_)
  clear hK K
  refine wpList_plain hg2 fun K hK => ?_
  refine opr_move (.inr h2) (hK _ _ ?_)
  clear hK K
  rw [hd2]
  have hr := rowIs_box w t n f0
  refine wpList_store_mid hg3 t (.tmp d0) y h3 w.heap.size 0 (rowA n f) (by rw [eval_tmp]; simp [Act.put, hlt, Array.getElem_setIfInBounds, hne]) hy (by rw [rowA_size]; exact there_row hr) (by rw [rowA_size]; exact hi) (rowA_one _ _ hone) ?_
  rw [hd3]
  exact h _ (below_setCells _ (Nat.le_refl _) _ _ _ (NewT.alloc _ _).out) (rowIs_setAll hr f)
end Go.Proofs.YtilmeffmdgcblaaDoor
/- Package book: the ways of a record of a saga that is there, and of a rotation. -/
namespace Go.Proofs.YtilmeffmdgcblaaDoor
open Go Go.RowKit
set_option maxRecDepth 8000
set_option linter.all false
set_option maxHeartbeats 4000000 in
theorem goesOn_c (D : Nat) (w WE : World) (B gb : Nat) (sv xv : Value) (fs : List (Nat → Value)) (bk : Bk) (x : Rc) (lim : Int) (hp : WayPre D w WE B gb sv fs bk) (hx : RecV WE xv x) (hok : OkK bk) (hr : rightB x = true) : Calls Tryd.prog 35 #[.pointer (some ⟨gb, 0, none⟩), xv, .int .i64 lim] w (WayPost D WE B gb w sv (onB lim bk x) (onK lim bk x)) := by
  obtain ⟨su, dv, rfl, hsx, hd⟩ := hx
  have HP := Lib.hid hp
  have HSV : Hid (RdU w sv bk.sg) := Lib.hid hp.rd
  have HX : Hid (RecV w (.agg (rowA 109 (recF x su dv))) x) := Lib.hid ⟨su, dv, rfl, hp.elder.pairs hsx, hp.elder.rd hd⟩
  have HSX := Lib.hid (hp.elder.pairs hsx)
  have HD := Lib.hid (hp.elder.rd hd)
  have HSXE := Lib.hid hsx
  have HDE := Lib.hid hd
  clear hsx hd hp
  have Hok := Lib.hid hok
  have Hr := Lib.hid hr
  clear hok hr
  go_enter Tryd.func35, Tryd.ntmps35
  go_upto_region 1 with fail
  have r_g4 := rowIs_box w 32 109 (recF x su dv)
  have hN : NewT w (w.alloc (.cells (rowA 109 (recF x su dv)) 32)) := NewT.alloc _ _
  change Code.wp _ _ _ _ (w.alloc (.cells (rowA 109 (recF x su dv)) 32))
  generalize (w.alloc (.cells (rowA 109 (recF x su dv)) 32)) = W0 at r_g4 hN ⊢
  obtain ⟨g4, h_g4⟩ : ∃ g_, w.heap.size = g_ := ⟨_, rfl⟩
  have HG : Hid (w.heap.size ≤ g4) := Lib.hid (by omega)
  rw [h_g4] at r_g4
  simp only [h_g4]
  have Rg4 := Lib.hid r_g4
  have HM := Lib.hid hN
  clear r_g4 hN h_g4
  have HGB : Hid (gb < w.heap.size ∧ B ≤ gb) := Lib.hid ⟨HP.out.row.lt, HP.out.at_⟩
  have Rgb : Hid (W0.rowIs gb 37 5 (bkF bk.ep sv)) := Lib.hid (HM.out.row HP.out.row)
  by_cases h1 : x.saga < bk.sg.length
  rotate_left
  · have HF : Hid (onB lim bk x = false) := Lib.hid (by unfold onB; rw [if_neg h1])
    have HN : Hid (onK lim bk x = bk) := Lib.hid (onK_no HF.out)
    have t1 : decide ((bk.sg.length : Int) ≤ x.saga) = true := decide_eq_true (by omega)
    clear h1
    refine wp_region_rely (NewT) [SV.eq (.pointer (some ⟨g4, 1, none⟩)), SV.eq (.int .i64 (x.saga)), SV.eq (.pointer (some ⟨gb, 0, none⟩)), SV.eq (.pointer (some ⟨gb, 0, none⟩)), SV.eq (.pointer (some ⟨gb, 4, none⟩)), SV.eq (sv), SV.eq (.int .i64 ((List.length (bk.sg) : Int)))] [([(4, none)], none), ([(9, some 0)], none), ([(0, none)], none), ([(11, some 2)], none), ([(12, some 3)], none), ([(13, some 4)], none), ([(14, some 5)], none)] 40 rfl (by kernel_rfl) rfl (by kernel_rfl) (by kernel_rfl) rfl NewT.trans (NewT.drew _) (Nat.le_of_ble_eq_true rfl) ⟨?_, ?_, ?_, ?_, ?_, ?_, ?_, trivial⟩ ?_
    · exact fun a wx hT hF K hK => rely_wp rfl (opr_fldR (by decide) rfl hF.1 (hK _ _ (NewT.refl _) rfl))
    · exact fun a wx hT hF K hK => rely_wp rfl (opr_ldI (hT.row Rg4.out) (by decide) rfl rfl hF.1 (hK _ _ (NewT.refl _) rfl))
    · exact fun a wx hT hF K hK => rely_wp rfl (opr_move (.inl rfl) (hK _ _ (NewT.refl _) hF.1))
    · exact fun a wx hT hF K hK => rely_wp rfl (opr_nilc rfl hF.1 (hK _ _ (NewT.refl _) rfl))
    · exact fun a wx hT hF K hK => rely_wp rfl (opr_fldK1 rfl hF.1 (hK _ _ (NewT.refl _) rfl))
    · exact fun a wx hT hF K hK => rely_wp rfl (opr_ldUs (hT.row Rgb.out) (by decide) rfl rfl hF.1 (hK _ _ (NewT.refl _) rfl))
    · intro a wx hT hF K hK
      obtain ⟨f14, _⟩ := hF
      have f14 : a.tmps.getD 14 undef = sv := f14
      refine rely_wp rfl ?_
      exact opr_lenL rfl sagaEl (by rw [eval_tmp, f14]; exact (HSV.out.new (NewT.trans _ _ _ HM.out hT))) (hK _ _ (NewT.refl _) rfl)
    · intro w1 k1
      iterate 7 (intro u h; obtain rfl := Eq.symm (h (by simp)); clear h)
      refine relyEnd_nil rfl ?_
      simp only [Act.put, List.setIfInBounds_toArray, List.set_cons_zero, List.set_cons_succ]
      refine opr_cmp (b := true) (.inr (.inr (.inr (.inr (.inr (⟨rfl, t1⟩)))))) Tryd.underlying3 rfl rfl rfl ?_
      go_simp
      replace Rgb := Lib.hid (k1.row Rgb.out)
      replace Rg4 := Lib.hid (k1.row Rg4.out)
      replace HM := Lib.hid (NewT.trans _ _ _ HM.out k1)
      clear k1
      go_wp2
      go_ret
      exact ⟨sv, by rw [HF.out]; rfl, HM.out.out.mono (Nat.le_trans HP.out.at_ (Nat.le_of_lt HP.out.row.lt)), KeepBut.below HM.out, by rw [HN.out]; exact Rgb.out, by rw [HN.out]; exact wayOut_own HP.out (HP.out.own.new HM.out).rd⟩
  obtain ⟨k, hk⟩ : ∃ k : Nat, x.saga = (k : Int) := ⟨x.saga.toNat, by have := (right_saga Hr.out).1; omega⟩
  obtain ⟨p, hpp⟩ : ∃ p, sgAt bk k = p := ⟨_, rfl⟩
  have hkl : k < bk.sg.length := by omega
  have hpk : bk.sg[k]? = some p := by rw [← hpp]; exact sgAt_some hkl
  have HK := Lib.hid hk
  have HOK : Hid (OkG p.1 p.2) := Lib.hid (Hok.out.sg p (List.mem_of_getElem? hpk))
  have HF : Hid (onB lim bk x = goesB p.1 lim p.2 x) := Lib.hid (by unfold onB; rw [if_pos h1, hk, Int.toNat_natCast, hpp])
  have HN : Hid (onK lim bk x = { bk with sg := bk.sg.set k (p.1, wentG p.1 lim p.2 x) }) := Lib.hid (by unfold onK; rw [if_pos h1, hk, Int.toNat_natCast, hpp])
  have hl := HP.out.len
  obtain ⟨f0, hf0, sv0, hfe, hs0⟩ := HP.out.els k p hpk
  subst hfe
  obtain ⟨c, cap, F0, hcv, hBc, hrc, hcl, hcm, hcF⟩ := HP.out.own.rows (by omega)
  have HCF := Lib.hid hcF
  have HCV := Lib.hid hcv
  have HKL : Hid (k < fs.length ∧ fs[k]? = some (sgF sv0 p.2) ∧ fs.length ≤ cap ∧ cap ≤ maxLen) := Lib.hid ⟨by omega, hf0, hcl, hcm⟩
  have HBC : Hid (B ≤ c ∧ gb < c) := Lib.hid ⟨hBc, HP.out.apart c (by rw [hcv]; rfl)⟩
  have HS0 : Hid (RdP w sv0 p.1) := Lib.hid (HP.out.elder.pairs hs0.1)
  have HSE := Lib.hid hs0
  have Rc : Hid (W0.rowIs c 59 (cap * 10) F0) := Lib.hid (HM.out.row hrc)
  have t1 : decide ((bk.sg.length : Int) ≤ x.saga) = false := decide_eq_false (by omega)
  have HCN : Hid (c < w.heap.size) := Lib.hid hrc.lt
  clear h1 hk hpp hkl hpk hl hf0 hcv hBc hrc hcl hcm hs0 hcF
  refine wp_region_rely (NewT) [SV.eq (.pointer (some ⟨g4, 1, none⟩)), SV.eq (.int .i64 (x.saga)), SV.eq (.pointer (some ⟨gb, 0, none⟩)), SV.eq (.pointer (some ⟨gb, 0, none⟩)), SV.eq (.pointer (some ⟨gb, 4, none⟩)), SV.eq (sv), SV.eq (.int .i64 ((List.length (bk.sg) : Int)))] [([(4, none)], none), ([(9, some 0)], none), ([(0, none)], none), ([(11, some 2)], none), ([(12, some 3)], none), ([(13, some 4)], none), ([(14, some 5)], none)] 40 rfl (by kernel_rfl) rfl (by kernel_rfl) (by kernel_rfl) rfl NewT.trans (NewT.drew _) (Nat.le_of_ble_eq_true rfl) ⟨?_, ?_, ?_, ?_, ?_, ?_, ?_, trivial⟩ ?_
  · exact fun a wx hT hF K hK => rely_wp rfl (opr_fldR (by decide) rfl hF.1 (hK _ _ (NewT.refl _) rfl))
  · exact fun a wx hT hF K hK => rely_wp rfl (opr_ldI (hT.row Rg4.out) (by decide) rfl rfl hF.1 (hK _ _ (NewT.refl _) rfl))
  · exact fun a wx hT hF K hK => rely_wp rfl (opr_move (.inl rfl) (hK _ _ (NewT.refl _) hF.1))
  · exact fun a wx hT hF K hK => rely_wp rfl (opr_nilc rfl hF.1 (hK _ _ (NewT.refl _) rfl))
  · exact fun a wx hT hF K hK => rely_wp rfl (opr_fldK1 rfl hF.1 (hK _ _ (NewT.refl _) rfl))
  · exact fun a wx hT hF K hK => rely_wp rfl (opr_ldUs (hT.row Rgb.out) (by decide) rfl rfl hF.1 (hK _ _ (NewT.refl _) rfl))
  · intro a wx hT hF K hK
    obtain ⟨f14, _⟩ := hF
    have f14 : a.tmps.getD 14 undef = sv := f14
    refine rely_wp rfl ?_
    exact opr_lenL rfl sagaEl (by rw [eval_tmp, f14]; exact (HSV.out.new (NewT.trans _ _ _ HM.out hT))) (hK _ _ (NewT.refl _) rfl)
  · intro w2 k2
    iterate 7 (intro u h; obtain rfl := Eq.symm (h (by simp)); clear h)
    refine relyEnd_nil rfl ?_
    simp only [Act.put, List.setIfInBounds_toArray, List.set_cons_zero, List.set_cons_succ]
    refine opr_cmp (b := false) (.inr (.inr (.inr (.inr (.inr (⟨rfl, t1⟩)))))) Tryd.underlying3 rfl rfl rfl ?_
    go_simp
    replace Rgb := Lib.hid (k2.row Rgb.out)
    replace Rg4 := Lib.hid (k2.row Rg4.out)
    replace Rc := Lib.hid (k2.row Rc.out)
    replace HM := Lib.hid (NewT.trans _ _ _ HM.out k2)
    clear k2
    go_upto_region 3 with fail
    refine wp_region_relyA0 (BelT w2) (JV 7 w2 59 10 (sgF (.slice none 0 0) zG) (fun _ F => F = sgF sv0 ((wentG p.1 lim p.2 x)))) [SV.eq (.pointer (some ⟨gb, 0, none⟩)), SV.eq (.pointer (some ⟨gb, 0, none⟩)), SV.eq (.pointer (some ⟨gb, 4, none⟩)), SV.eq (sv), SV.eq (.pointer (some ⟨g4, 1, none⟩)), SV.eq (.int .i64 (x.saga)), SV.eq (.pointer (some ⟨c, k * 10, none⟩)), SV.eq ((.agg (rowA 10 (sgF sv0 p.2)))), SV.eq (.agg (rowA 109 (recF x su dv))), SV.eq (.int .i64 (lim)), SV.eq ((.tuple #[.agg (rowA 10 (sgF sv0 (wentG p.1 lim p.2 x))), .bool (goesB p.1 lim p.2 x)])), SV.eq ((.tuple #[.agg (rowA 10 (sgF sv0 (wentG p.1 lim p.2 x))), .bool (goesB p.1 lim p.2 x)])), SV.eq ((.agg (rowA 10 (sgF sv0 (wentG p.1 lim p.2 x))))), SV.eq (.bool (goesB p.1 lim p.2 x)), svPtV, SV.any] [([(0, none)], none), ([(18, some 0)], none), ([(19, some 1)], none), ([(20, some 2)], none), ([(4, none)], none), ([(22, some 4)], none), ([(21, some 3), (23, some 5)], none), ([(24, some 6)], none), ([(4, none)], none), ([(2, none)], none), ([(25, some 7), (26, some 8), (27, some 9)], none), ([(28, some 10)], none), ([(17, some 11)], none), ([(17, some 11)], none), ([], none), ([(7, some 14), (29, some 12)], none)] [none, none, none, none, none, none, none, none, none, none, none, none, none, none, some 0, some 1] [14, 15] 40 rfl (by kernel_rfl) rfl (by kernel_rfl) (by kernel_rfl) rfl (by kernel_rfl) (BelT.trans w2) (BelT.drew w2 _) (.inl rfl) (Nat.le_of_ble_eq_true rfl) ⟨?_, ?_, ?_, ?_, ?_, ?_, ?_, ?_, ?_, ?_, ?_, ?_, ?_, ?_, ?_, ?_, trivial⟩ ?_
    · intro a wx hT hF K hK
      replace hT : NewT w2 wx := hT
      replace hK := fun v w' (hN : NewT wx w') hv => hK v w' (BelT.new hT hN) (fun k h => JV.keep h (by simp) hN (fun F h => h)) hv
      obtain ⟨f0, _⟩ := hF
      have f0 : a.tmps.getD 0 undef = .pointer (some ⟨gb, 0, none⟩) := f0
      refine rely_wp rfl ?_
      exact opr_move (.inl rfl) (hK _ _ (NewT.refl _) f0)
    · intro a wx hT hF K hK
      replace hT : NewT w2 wx := hT
      replace hK := fun v w' (hN : NewT wx w') hv => hK v w' (BelT.new hT hN) (fun k h => JV.keep h (by simp) hN (fun F h => h)) hv
      obtain ⟨f18, _⟩ := hF
      have f18 : a.tmps.getD 18 undef = .pointer (some ⟨gb, 0, none⟩) := f18
      refine rely_wp rfl ?_
      exact opr_nilc rfl f18 (hK _ _ (NewT.refl _) rfl)
    · intro a wx hT hF K hK
      replace hT : NewT w2 wx := hT
      replace hK := fun v w' (hN : NewT wx w') hv => hK v w' (BelT.new hT hN) (fun k h => JV.keep h (by simp) hN (fun F h => h)) hv
      obtain ⟨f19, _⟩ := hF
      have f19 : a.tmps.getD 19 undef = .pointer (some ⟨gb, 0, none⟩) := f19
      refine rely_wp rfl ?_
      exact opr_fldK1 rfl f19 (hK _ _ (NewT.refl _) rfl)
    · intro a wx hT hF K hK
      replace hT : NewT w2 wx := hT
      replace hK := fun v w' (hN : NewT wx w') hv => hK v w' (BelT.new hT hN) (fun k h => JV.keep h (by simp) hN (fun F h => h)) hv
      obtain ⟨f20, _⟩ := hF
      have f20 : a.tmps.getD 20 undef = .pointer (some ⟨gb, 4, none⟩) := f20
      refine rely_wp rfl ?_
      exact opr_ldUs (hT.row Rgb.out) (by decide) rfl rfl f20 (hK _ _ (NewT.refl _) rfl)
    · intro a wx hT hF K hK
      replace hT : NewT w2 wx := hT
      replace hK := fun v w' (hN : NewT wx w') hv => hK v w' (BelT.new hT hN) (fun k h => JV.keep h (by simp) hN (fun F h => h)) hv
      obtain ⟨f4, _⟩ := hF
      have f4 : a.tmps.getD 4 undef = .pointer (some ⟨g4, 0, none⟩) := f4
      refine rely_wp rfl ?_
      exact opr_fldR (by decide) rfl f4 (hK _ _ (NewT.refl _) rfl)
    · intro a wx hT hF K hK
      replace hT : NewT w2 wx := hT
      replace hK := fun v w' (hN : NewT wx w') hv => hK v w' (BelT.new hT hN) (fun k h => JV.keep h (by simp) hN (fun F h => h)) hv
      obtain ⟨f22, _⟩ := hF
      have f22 : a.tmps.getD 22 undef = .pointer (some ⟨g4, 1, none⟩) := f22
      refine rely_wp rfl ?_
      exact opr_ldI (hT.row Rg4.out) (by decide) rfl rfl f22 (hK _ _ (NewT.refl _) rfl)
    · intro a wx hT hF K hK
      replace hT : NewT w2 wx := hT
      replace hK := fun v w' (hN : NewT wx w') hv => hK v w' (BelT.new hT hN) (fun k h => JV.keep h (by simp) hN (fun F h => h)) hv
      obtain ⟨f21, f23, _⟩ := hF
      have f21 : a.tmps.getD 21 undef = sv := f21
      have f23 : a.tmps.getD 23 undef = .int .i64 (x.saga) := f23
      refine rely_wp rfl ?_
      exact opr_idxX sagaEl HKL.out.1 HK.out rfl (by rw [eval_tmp, f21]; exact HCV.out) f23 (hK _ _ (NewT.refl _) rfl)
    · intro a wx hT hF K hK
      replace hT : NewT w2 wx := hT
      replace hK := fun v w' (hN : NewT wx w') hv => hK v w' (BelT.new hT hN) (fun k h => JV.keep h (by simp) hN (fun F h => h)) hv
      obtain ⟨f24, _⟩ := hF
      have f24 : a.tmps.getD 24 undef = .pointer (some ⟨c, k * 10, none⟩) := f24
      refine rely_wp rfl ?_
      exact opr_ldX (off := k * 10) sagaEl (fun j hj => by rw [(hT.row Rc.out).cell (mul_row (by have := HKL.out; omega) hj), HCF.out k _ HKL.out.2.1 j hj]) rfl f24 (hK _ _ (NewT.refl _) rfl)
    · intro a wx hT hF K hK
      replace hT : NewT w2 wx := hT
      replace hK := fun v w' (hN : NewT wx w') hv => hK v w' (BelT.new hT hN) (fun k h => JV.keep h (by simp) hN (fun F h => h)) hv
      obtain ⟨f4, _⟩ := hF
      have f4 : a.tmps.getD 4 undef = .pointer (some ⟨g4, 0, none⟩) := f4
      refine rely_wp rfl ?_
      exact opr_ldR (hT.row Rg4.out) rfl f4 (hK _ _ (NewT.refl _) rfl)
    · intro a wx hT hF K hK
      replace hT : NewT w2 wx := hT
      replace hK := fun v w' (hN : NewT wx w') hv => hK v w' (BelT.new hT hN) (fun k h => JV.keep h (by simp) hN (fun F h => h)) hv
      obtain ⟨f2, _⟩ := hF
      have f2 : a.tmps.getD 2 undef = .int .i64 (lim) := f2
      refine rely_wp rfl ?_
      exact opr_move (.inl rfl) (hK _ _ (NewT.refl _) f2)
    · intro a wx hT hF K hK
      replace hT : NewT w2 wx := hT
      replace hK := fun v w' (hN : NewT wx w') hv => hK v w' (BelT.new hT hN) (fun k h => JV.keep h (by simp) hN (fun F h => h)) hv
      obtain ⟨f25, f26, f27, _⟩ := hF
      have f25 : a.tmps.getD 25 undef = (.agg (rowA 10 (sgF sv0 p.2))) := f25
      have f26 : a.tmps.getD 26 undef = .agg (rowA 109 (recF x su dv)) := f26
      have f27 : a.tmps.getD 27 undef = .int .i64 (lim) := f27
      refine rely_wp rfl ?_
      exact opr_cv (Go_cv sv0 p.1 p.2 x _ lim wx (hT.pairs (HM.out.pairs HS0.out)) ((NewT.trans _ _ _ HM.out hT).recV HX.out) HOK.out) rfl Tryd.func50 (by kernel_rfl) (by kernel_rfl) (by simp only [List.map_toArray, List.map_cons, List.map_nil, eval_tmp, f25, f26, f27]) hK
    · intro a wx hT hF K hK
      replace hT : NewT w2 wx := hT
      replace hK := fun v w' (hN : NewT wx w') hv => hK v w' (BelT.new hT hN) (fun k h => JV.keep h (by simp) hN (fun F h => h)) hv
      obtain ⟨f28, _⟩ := hF
      have f28 : a.tmps.getD 28 undef = (.tuple #[.agg (rowA 10 (sgF sv0 (wentG p.1 lim p.2 x))), .bool (goesB p.1 lim p.2 x)]) := f28
      refine rely_wp rfl ?_
      exact opr_move (.inl rfl) (hK _ _ (NewT.refl _) f28)
    · intro a wx hT hF K hK
      replace hT : NewT w2 wx := hT
      replace hK := fun v w' (hN : NewT wx w') hv => hK v w' (BelT.new hT hN) (fun k h => JV.keep h (by simp) hN (fun F h => h)) hv
      obtain ⟨f17, _⟩ := hF
      have f17 : a.tmps.getD 17 undef = (.tuple #[.agg (rowA 10 (sgF sv0 (wentG p.1 lim p.2 x))), .bool (goesB p.1 lim p.2 x)]) := f17
      refine rely_wp rfl ?_
      exact opr_ext rfl f17 rfl (hK _ _ (NewT.refl _) rfl)
    · intro a wx hT hF K hK
      replace hT : NewT w2 wx := hT
      replace hK := fun v w' (hN : NewT wx w') hv => hK v w' (BelT.new hT hN) (fun k h => JV.keep h (by simp) hN (fun F h => h)) hv
      obtain ⟨f17, _⟩ := hF
      have f17 : a.tmps.getD 17 undef = (.tuple #[.agg (rowA 10 (sgF sv0 (wentG p.1 lim p.2 x))), .bool (goesB p.1 lim p.2 x)]) := f17
      refine rely_wp rfl ?_
      exact opr_ext rfl f17 rfl (hK _ _ (NewT.refl _) rfl)
    · intro a wx hT hF hJ K hK
      replace hT : NewT w2 wx := hT
      refine rely_wp rfl ?_
      refine opr_allocV rfl run_alloc_saga ?_
      exact hK _ _ (BelT.new hT (NewT.alloc _ _)) (JV.make hT) ⟨_, rfl⟩
    · intro a wx hT hF hJ K hK
      replace hT : NewT w2 wx := hT
      obtain ⟨f7, f29, _⟩ := hF
      replace f7 := show (svPtV).pred (a.tmps.getD 7 undef) wx from f7
      have f29 : a.tmps.getD 29 undef = (.agg (rowA 10 (sgF sv0 (wentG p.1 lim p.2 x)))) := f29
      refine rely_wp rfl ?_
      obtain ⟨gv, hgv⟩ := f7
      obtain ⟨hB1, hr1⟩ := JV.at1 hJ hgv
      refine opr_putm (g := gv) (o0 := 0) (m := 10) (f := sgF sv0 ((wentG p.1 lim p.2 x))) (F := sgF sv0 ((wentG p.1 lim p.2 x))) rfl hgv f29 hr1 (by decide) info_saga (sgF_one _ _ (oneP HS0.out)) (put_allN _ _ _) ?_
      intro w' hR hr2
      exact hK _ _ (BelT.rt hB1 hR) (JV.mk2 hgv hB1 hr2 (rfl)) trivial
    · intro w3 k3
      iterate 14 (intro u h; obtain rfl := Eq.symm (h (by simp)); clear h)
      intro u h; obtain ⟨p7, hv⟩ := (h (by simp)); clear h; subst hv
      intro _ _
      refine relyEnd_nil rfl ?_
      intro hJ
      simp only [Act.put, List.setIfInBounds_toArray, List.set_cons_zero, List.set_cons_succ]
      obtain ⟨Fz, hBz, hrz, hGz⟩ := JV.at2 (g := p7) hJ (by kernel_rfl)
      refine opr_move (.inr rfl) ?_
      go_simp
      subst hGz
      replace k3 : NewT w2 w3 := k3
      obtain ⟨g7, h_g7⟩ : ∃ g_, p7 = g_ := ⟨_, rfl⟩
      rw [h_g7] at hrz hBz
      simp only [h_g7]
      have HGg7 : Hid (gb < g7 ∧ g4 < g7 ∧ c < g7 ∧ w.heap.size ≤ g7) := Lib.hid ⟨Nat.lt_of_lt_of_le Rgb.out.lt hBz, Nat.lt_of_lt_of_le Rg4.out.lt hBz, Nat.lt_of_lt_of_le Rc.out.lt hBz, Nat.le_trans HM.out.out.size hBz⟩
      clear h_g7 hBz hJ
      replace Rgb := Lib.hid (k3.row Rgb.out)
      replace Rg4 := Lib.hid (k3.row Rg4.out)
      replace Rc := Lib.hid (k3.row Rc.out)
      replace HM := Lib.hid (NewT.trans _ _ _ HM.out k3)
      clear k3
      have Rg7 := Lib.hid hrz
      clear hrz
      go_upto_region 4 with fail
      refine wp_region_rely (NewT) [SV.eq (.pointer (some ⟨gb, 0, none⟩)), SV.eq (.pointer (some ⟨gb, 0, none⟩)), SV.eq (.pointer (some ⟨gb, 4, none⟩)), SV.eq (sv), SV.eq (.pointer (some ⟨g4, 1, none⟩)), SV.eq (.int .i64 (x.saga)), SV.eq (.agg (rowA 10 (sgF sv0 ((wentG p.1 lim p.2 x))))), SV.eq (.pointer (some ⟨c, k * 10, none⟩))] [([(0, none)], none), ([(31, some 0)], none), ([(32, some 1)], none), ([(33, some 2)], none), ([(4, none)], none), ([(35, some 4)], none), ([(7, none)], none), ([(34, some 3), (36, some 5)], none)] 40 rfl (by kernel_rfl) rfl (by kernel_rfl) (by kernel_rfl) rfl NewT.trans (NewT.drew _) (Nat.le_of_ble_eq_true rfl) ⟨?_, ?_, ?_, ?_, ?_, ?_, ?_, ?_, trivial⟩ ?_
      · exact fun a wx hT hF K hK => rely_wp rfl (opr_move (.inl rfl) (hK _ _ (NewT.refl _) hF.1))
      · exact fun a wx hT hF K hK => rely_wp rfl (opr_nilc rfl hF.1 (hK _ _ (NewT.refl _) rfl))
      · exact fun a wx hT hF K hK => rely_wp rfl (opr_fldK1 rfl hF.1 (hK _ _ (NewT.refl _) rfl))
      · exact fun a wx hT hF K hK => rely_wp rfl (opr_ldUs (hT.row Rgb.out) (by decide) rfl rfl hF.1 (hK _ _ (NewT.refl _) rfl))
      · exact fun a wx hT hF K hK => rely_wp rfl (opr_fldR (by decide) rfl hF.1 (hK _ _ (NewT.refl _) rfl))
      · exact fun a wx hT hF K hK => rely_wp rfl (opr_ldI (hT.row Rg4.out) (by decide) rfl rfl hF.1 (hK _ _ (NewT.refl _) rfl))
      · exact fun a wx hT hF K hK => rely_wp rfl (opr_ldU (hT.row Rg7.out) rfl hF.1 (hK _ _ (NewT.refl _) rfl))
      · intro a wx hT hF K hK
        obtain ⟨f34, f36, _⟩ := hF
        have f34 : a.tmps.getD 34 undef = sv := f34
        have f36 : a.tmps.getD 36 undef = .int .i64 (x.saga) := f36
        refine rely_wp rfl ?_
        exact opr_idxX sagaEl HKL.out.1 HK.out rfl (by rw [eval_tmp, f34]; exact HCV.out) f36 (hK _ _ (NewT.refl _) rfl)
      · intro w4 k4
        iterate 8 (intro u h; obtain rfl := Eq.symm (h (by simp)); clear h)
        refine relyEnd_nil rfl ?_
        simp only [Act.put, List.setIfInBounds_toArray, List.set_cons_zero, List.set_cons_succ]
        refine opr_putm (g := c) (o0 := k * 10) (m := 10) (f := sgF sv0 (wentG p.1 lim p.2 x)) (F := (fun z => if k * 10 ≤ z ∧ z < k * 10 + 10 then sgF sv0 (wentG p.1 lim p.2 x) (z - k * 10) else F0 z)) rfl rfl rfl (k4.row Rc.out) (by have := HKL.out; have : (k + 1) * 10 ≤ cap * 10 := Nat.mul_le_mul_right 10 (by omega); omega) info_saga (sgF_one _ _ (oneP HS0.out)) (fun i _ => rfl) ?_
        intro W4 hR rr
        go_simp
        have hgc : gb ≠ c := by have := HBC.out; omega
        have hNW : NewT w w4 := NewT.trans _ _ _ HM.out k4
        have hEW : NewT WE W4 := NewT.of ((NewT.trans _ _ _ HP.out.elder hNW).out.trans (hR.below.mono (by have := HP.out.size; have := HBC.out; omega)))
        have hrg := hR.row hgc (k4.row Rgb.out)
        have hrd : RdE 10 W4 sv (fs.set k (sgF sv0 (wentG p.1 lim p.2 x))) := by
          have := rdE_rowc (l := fs.set k (sgF sv0 (wentG p.1 lim p.2 x))) rr (by simpa using HKL.out.2.2.1) HKL.out.2.2.2 (set_rows HKL.out.1 HCF.out)
          rw [HCV.out]
          simpa using this
        go_wp2
        go_ret
        refine ⟨sv, by rw [HF.out]; rfl, (hNW.out.mono (by have := HBC.out; have := HCN.out; omega)).trans (hR.below.mono HBC.out.1), (KeepBut.below hNW).trans (hR.keep.more (by rw [HCV.out]; simp [Value.ownBlock])), by rw [HN.out]; exact hrg, by rw [HN.out]; exact wayOut_set (p := (p.1, wentG p.1 lim p.2 x)) HP.out hrd HSE.out⟩
set_option maxHeartbeats 4000000 in
theorem rotates_c (D : Nat) (w WE : World) (B gb : Nat) (sv xv : Value) (fs : List (Nat → Value)) (bk : Bk) (x : Rc) (lim : Int) (hp : WayPre D w WE B gb sv fs bk) (hx : RecV WE xv x) (hok : OkK bk) (hr : rightB x = true) : Calls Tryd.prog 37 #[.pointer (some ⟨gb, 0, none⟩), xv, .int .i64 lim] w (WayPost D WE B gb w sv (rotB bk x) (rotN bk x)) := by
  obtain ⟨su, dv, rfl, hsx, hd⟩ := hx
  have HP := Lib.hid hp
  have HSV : Hid (RdU w sv bk.sg) := Lib.hid hp.rd
  have HX : Hid (RecV w (.agg (rowA 109 (recF x su dv))) x) := Lib.hid ⟨su, dv, rfl, hp.elder.pairs hsx, hp.elder.rd hd⟩
  have HSX := Lib.hid (hp.elder.pairs hsx)
  have HD := Lib.hid (hp.elder.rd hd)
  have HSXE := Lib.hid hsx
  have HDE := Lib.hid hd
  clear hsx hd hp
  have Hok := Lib.hid hok
  have Hr := Lib.hid hr
  clear hok hr
  go_enter Tryd.func37, Tryd.ntmps37
  go_upto_region 1 with fail
  have r_g4 := rowIs_box w 32 109 (recF x su dv)
  have hN : NewT w (w.alloc (.cells (rowA 109 (recF x su dv)) 32)) := NewT.alloc _ _
  change Code.wp _ _ _ _ (w.alloc (.cells (rowA 109 (recF x su dv)) 32))
  generalize (w.alloc (.cells (rowA 109 (recF x su dv)) 32)) = W0 at r_g4 hN ⊢
  obtain ⟨g4, h_g4⟩ : ∃ g_, w.heap.size = g_ := ⟨_, rfl⟩
  have HG : Hid (w.heap.size ≤ g4) := Lib.hid (by omega)
  rw [h_g4] at r_g4
  simp only [h_g4]
  have Rg4 := Lib.hid r_g4
  have HM := Lib.hid hN
  clear r_g4 hN h_g4
  have HGB : Hid (gb < w.heap.size ∧ B ≤ gb) := Lib.hid ⟨HP.out.row.lt, HP.out.at_⟩
  have Rgb : Hid (W0.rowIs gb 37 5 (bkF bk.ep sv)) := Lib.hid (HM.out.row HP.out.row)
  obtain ⟨c, hc⟩ : ∃ c : Nat, x.part = (c : Int) := ⟨x.part.toNat, by have := (right_part Hr.out).1; omega⟩
  have HC := Lib.hid hc
  have HC4 : Hid (c < 4) := Lib.hid (by have := (right_part Hr.out).2; omega)
  have HEP : Hid (0 ≤ bk.ep c ∧ bk.ep c ≤ 1000000) := Lib.hid (Hok.out.ep c)
  have HF : Hid (rotB bk x = (x.epoch == bk.ep c + 1)) := Lib.hid (by unfold rotB; rw [hc, Int.toNat_natCast])
  have HX2 : Hid (rotK bk x = { bk with ep := fun i => if i = c then x.epoch else bk.ep i }) := Lib.hid (by unfold rotK; rw [hc, Int.toNat_natCast])
  clear hc
  refine wp_region_rely (NewT) [SV.eq (.pointer (some ⟨g4, 9, none⟩)), SV.eq (.int .i64 (x.epoch)), SV.eq (.pointer (some ⟨gb, 0, none⟩)), SV.eq (.pointer (some ⟨g4, 8, none⟩)), SV.eq (.int .i64 (x.part)), SV.eq (.pointer (some ⟨gb, 0, none⟩)), SV.eq (.pointer (some ⟨gb, 0, none⟩)), SV.eq (.pointer (some ⟨gb, c, none⟩)), SV.eq (.int .i64 (bk.ep c)), SV.eq (.int .i64 (bk.ep c + 1))] [([(4, none)], none), ([(7, some 0)], none), ([(0, none)], none), ([(4, none)], none), ([(10, some 3)], none), ([(9, some 2)], none), ([(12, some 5)], none), ([(13, some 6), (11, some 4)], none), ([(14, some 7)], none), ([(15, some 8)], none)] 26 rfl (by kernel_rfl) rfl (by kernel_rfl) (by kernel_rfl) rfl NewT.trans (NewT.drew _) (Nat.le_of_ble_eq_true rfl) ⟨?_, ?_, ?_, ?_, ?_, ?_, ?_, ?_, ?_, ?_, trivial⟩ ?_
  · exact fun a wx hT hF K hK => rely_wp rfl (opr_fldR (by decide) rfl hF.1 (hK _ _ (NewT.refl _) rfl))
  · exact fun a wx hT hF K hK => rely_wp rfl (opr_ldI (hT.row Rg4.out) (by decide) rfl rfl hF.1 (hK _ _ (NewT.refl _) rfl))
  · exact fun a wx hT hF K hK => rely_wp rfl (opr_move (.inl rfl) (hK _ _ (NewT.refl _) hF.1))
  · exact fun a wx hT hF K hK => rely_wp rfl (opr_fldR (by decide) rfl hF.1 (hK _ _ (NewT.refl _) rfl))
  · exact fun a wx hT hF K hK => rely_wp rfl (opr_ldI (hT.row Rg4.out) (by decide) rfl rfl hF.1 (hK _ _ (NewT.refl _) rfl))
  · exact fun a wx hT hF K hK => rely_wp rfl (opr_nilc rfl hF.1 (hK _ _ (NewT.refl _) rfl))
  · exact fun a wx hT hF K hK => rely_wp rfl (opr_fldK0 rfl hF.1 (hK _ _ (NewT.refl _) rfl))
  · exact fun a wx hT hF K hK => rely_wp rfl (opr_idxEp (k := c) (HC4.out) (HC.out) rfl hF.1 hF.2.1 (hK _ _ (NewT.refl _) rfl))
  · exact fun a wx hT hF K hK => rely_wp rfl (opr_ldI (hT.row Rgb.out) (Nat.lt_succ_of_lt (HC4.out)) (bkF_ep (HC4.out)) rfl hF.1 (hK _ _ (NewT.refl _) rfl))
  · exact fun a wx hT hF K hK => rely_wp rfl (opr_add (r := bk.ep c + 1) Tryd.underlying3 (by have := HEP.out; unfold wrap64; omega) rfl hF.1 rfl (hK _ _ (NewT.refl _) rfl))
  · intro w1 k1
    iterate 10 (intro u h; obtain rfl := Eq.symm (h (by simp)); clear h)
    refine relyEnd_nil rfl ?_
    simp only [Act.put, List.setIfInBounds_toArray, List.set_cons_zero, List.set_cons_succ]
    refine opr_cmp (b := x.epoch != (bk.ep c + 1)) (.inr (.inl ⟨rfl, rfl⟩)) Tryd.underlying3 rfl rfl rfl ?_
    go_simp
    replace Rgb := Lib.hid (k1.row Rgb.out)
    replace Rg4 := Lib.hid (k1.row Rg4.out)
    replace HM := Lib.hid (NewT.trans _ _ _ HM.out k1)
    clear k1
    cases hb : (x.epoch != bk.ep c + 1)
    · have hE : (x.epoch == bk.ep c + 1) = true := by rw [bne_eq_false_iff_eq] at hb; rw [hb]; simp
      have HN : Hid (rotN bk x = { bk with ep := fun i => if i = c then x.epoch else bk.ep i }) := Lib.hid (by unfold rotN; rw [HF.out, hE, if_pos rfl, HX2.out])
      replace HF : Hid (rotB bk x = true) := Lib.hid (HF.out.trans hE)
      clear hb hE
      go_upto_region 3 with fail
      refine wp_region_rely (NewT) [SV.eq (.pointer (some ⟨gb, 0, none⟩)), SV.eq (.pointer (some ⟨g4, 8, none⟩)), SV.eq (.int .i64 (x.part)), SV.eq (.pointer (some ⟨g4, 9, none⟩)), SV.eq (.int .i64 (x.epoch)), SV.eq (.pointer (some ⟨gb, 0, none⟩)), SV.eq (.pointer (some ⟨gb, 0, none⟩)), SV.eq (.pointer (some ⟨gb, c, none⟩))] [([(0, none)], none), ([(4, none)], none), ([(19, some 1)], none), ([(4, none)], none), ([(21, some 3)], none), ([(18, some 0)], none), ([(23, some 5)], none), ([(24, some 6), (20, some 2)], none)] 26 rfl (by kernel_rfl) rfl (by kernel_rfl) (by kernel_rfl) rfl NewT.trans (NewT.drew _) (Nat.le_of_ble_eq_true rfl) ⟨?_, ?_, ?_, ?_, ?_, ?_, ?_, ?_, trivial⟩ ?_
      · exact fun a wx hT hF K hK => rely_wp rfl (opr_move (.inl rfl) (hK _ _ (NewT.refl _) hF.1))
      · exact fun a wx hT hF K hK => rely_wp rfl (opr_fldR (by decide) rfl hF.1 (hK _ _ (NewT.refl _) rfl))
      · exact fun a wx hT hF K hK => rely_wp rfl (opr_ldI (hT.row Rg4.out) (by decide) rfl rfl hF.1 (hK _ _ (NewT.refl _) rfl))
      · exact fun a wx hT hF K hK => rely_wp rfl (opr_fldR (by decide) rfl hF.1 (hK _ _ (NewT.refl _) rfl))
      · exact fun a wx hT hF K hK => rely_wp rfl (opr_ldI (hT.row Rg4.out) (by decide) rfl rfl hF.1 (hK _ _ (NewT.refl _) rfl))
      · exact fun a wx hT hF K hK => rely_wp rfl (opr_nilc rfl hF.1 (hK _ _ (NewT.refl _) rfl))
      · exact fun a wx hT hF K hK => rely_wp rfl (opr_fldK0 rfl hF.1 (hK _ _ (NewT.refl _) rfl))
      · exact fun a wx hT hF K hK => rely_wp rfl (opr_idxEp (k := c) (HC4.out) (HC.out) rfl hF.1 hF.2.1 (hK _ _ (NewT.refl _) rfl))
      · intro w2 k2
        iterate 8 (intro u h; obtain rfl := Eq.symm (h (by simp)); clear h)
        refine relyEnd_nil rfl ?_
        simp only [Act.put, List.setIfInBounds_toArray, List.set_cons_zero, List.set_cons_succ]
        refine opr_put1 (F := bkF (fun j => if j = c then x.epoch else bk.ep j) sv) rfl rfl rfl (k2.row Rgb.out) (by have := HC4.out; omega) info_i1 rfl (fun i hi => bs_ep bk.ep sv c x.epoch HC4.out i hi) ?_
        intro W2 hR rr
        go_simp
        have hNW : NewT w w2 := NewT.trans _ _ _ HM.out k2
        have hEW : NewT WE W2 := NewT.of ((NewT.trans _ _ _ HP.out.elder hNW).out.trans (hR.below.mono (by have := HP.out.size; have := HGB.out; omega)))
        have ho := (HP.out.own.new hNW).rt hR (fun e => by have := HP.out.apart gb e; omega)
        go_wp2
        go_ret
        refine ⟨sv, by rw [HF.out]; rfl, (hNW.out.mono (by have := HGB.out; omega)).trans (hR.below.mono HGB.out.2), (KeepBut.below hNW).trans (hR.keep.more (by simp)), by rw [HN.out]; exact rr, by rw [HN.out]; exact wayOut_own (bk := bk) HP.out ho.rd⟩
    · have hE : (x.epoch == bk.ep c + 1) = false := by simpa [bne] using hb
      have HN : Hid (rotN bk x = bk) := Lib.hid (by unfold rotN; rw [HF.out, hE, if_neg (by simp)])
      replace HF : Hid (rotB bk x = false) := Lib.hid (HF.out.trans hE)
      clear hb hE
      go_wp2
      go_ret
      exact ⟨sv, by rw [HF.out]; rfl, HM.out.out.mono (Nat.le_trans HP.out.at_ (Nat.le_of_lt HP.out.row.lt)), KeepBut.below HM.out, by rw [HN.out]; exact Rgb.out, by rw [HN.out]; exact wayOut_own HP.out (HP.out.own.new HM.out).rd⟩
end Go.Proofs.YtilmeffmdgcblaaDoor
/- Package book: a Receipt's way; Go: the book behind a record. -/
namespace Go.Proofs.YtilmeffmdgcblaaDoor
open Go Go.RowKit
set_option maxRecDepth 8000
set_option linter.all false
set_option maxHeartbeats 4000000 in
theorem isAnswered_c (D : Nat) (w WE : World) (B gb : Nat) (sv xv : Value) (fs : List (Nat → Value)) (bk : Bk) (x : Rc) (lim : Int) (hp : WayPre D w WE B gb sv fs bk) (hx : RecV WE xv x) (hok : OkK bk) (hr : rightB x = true) : Calls Tryd.prog 36 #[.pointer (some ⟨gb, 0, none⟩), xv, .int .i64 lim] w (WayPost D WE B gb w sv (ansB lim bk x) (ansN2 lim bk x)) := by
  obtain ⟨su, dv, rfl, hsx, hd⟩ := hx
  have HP := Lib.hid hp
  have HSV : Hid (RdU w sv bk.sg) := Lib.hid hp.rd
  have HX : Hid (RecV w (.agg (rowA 109 (recF x su dv))) x) := Lib.hid ⟨su, dv, rfl, hp.elder.pairs hsx, hp.elder.rd hd⟩
  have HSX := Lib.hid (hp.elder.pairs hsx)
  have HD := Lib.hid (hp.elder.rd hd)
  have HSXE := Lib.hid hsx
  have HDE := Lib.hid hd
  clear hsx hd hp
  have Hok := Lib.hid hok
  have Hr := Lib.hid hr
  clear hok hr
  go_enter Tryd.func36, Tryd.ntmps36
  go_upto_region 1 with fail
  have r_g4 := rowIs_box w 32 109 (recF x su dv)
  have hN : NewT w (w.alloc (.cells (rowA 109 (recF x su dv)) 32)) := NewT.alloc _ _
  change Code.wp _ _ _ _ (w.alloc (.cells (rowA 109 (recF x su dv)) 32))
  generalize (w.alloc (.cells (rowA 109 (recF x su dv)) 32)) = W0 at r_g4 hN ⊢
  obtain ⟨g4, h_g4⟩ : ∃ g_, w.heap.size = g_ := ⟨_, rfl⟩
  have HG : Hid (w.heap.size ≤ g4) := Lib.hid (by omega)
  rw [h_g4] at r_g4
  simp only [h_g4]
  have Rg4 := Lib.hid r_g4
  have HM := Lib.hid hN
  clear r_g4 hN h_g4
  have HGB : Hid (gb < w.heap.size ∧ B ≤ gb) := Lib.hid ⟨HP.out.row.lt, HP.out.at_⟩
  have Rgb : Hid (W0.rowIs gb 37 5 (bkF bk.ep sv)) := Lib.hid (HM.out.row HP.out.row)
  obtain ⟨b1, hb1⟩ : ∃ b, isFromB bk x = b := ⟨_, rfl⟩
  have HQ := Lib.hid hb1
  clear hb1
  cases b1
  · have HF : Hid (ansB lim bk x = false) := Lib.hid (by unfold ansB; rw [HQ.out]; rfl)
    have HN : Hid (ansN2 lim bk x = bk) := Lib.hid (by unfold ansN2; rw [HF.out, if_neg (by simp)])
    refine wp_region_rely (NewT) [SV.eq (.pointer (some ⟨gb, 0, none⟩)), SV.eq (.pointer (some ⟨gb, 0, none⟩)), SV.eq (.agg (rowA 5 (bkF bk.ep sv))), SV.eq (.agg (rowA 109 (recF x su dv))), SV.eq (.bool false), SV.eq (.bool false), SV.eq (undef), SV.eq (undef), SV.eq (undef), SV.eq (undef), SV.eq (.bool false)] [([(0, none)], none), ([(7, some 0)], none), ([(8, some 1)], none), ([(4, none)], none), ([(9, some 2), (10, some 3)], none), ([(11, some 4)], none), ([(0, none), (12, some 5)], some (12, true)), ([(4, none), (12, some 5)], some (12, true)), ([(2, none), (12, some 5)], some (12, true)), ([(13, some 6), (14, some 7), (15, some 8), (12, some 5)], some (12, true)), ([(12, some 5), (16, some 9)], none)] 18 rfl (by kernel_rfl) rfl (by kernel_rfl) (by kernel_rfl) rfl NewT.trans (NewT.drew _) (Nat.le_of_ble_eq_true rfl) ⟨?_, ?_, ?_, ?_, ?_, ?_, ?_, ?_, ?_, ?_, ?_, trivial⟩ ?_
    · exact fun a wx hT hF K hK => rely_wp rfl (opr_move (.inl rfl) (hK _ _ (NewT.refl _) hF.1))
    · exact fun a wx hT hF K hK => rely_wp rfl (opr_nilc rfl hF.1 (hK _ _ (NewT.refl _) rfl))
    · exact fun a wx hT hF K hK => rely_wp rfl (opr_ldK (hT.row Rgb.out) rfl hF.1 (hK _ _ (NewT.refl _) rfl))
    · exact fun a wx hT hF K hK => rely_wp rfl (opr_ldR (hT.row Rg4.out) rfl hF.1 (hK _ _ (NewT.refl _) rfl))
    · exact fun a wx hT hF K hK => rely_wp rfl (opr_cv (HQ.out ▸ isFrom_cv _ _ bk x wx (⟨sv, rfl, HSV.out.new (NewT.trans _ _ _ HM.out hT)⟩) (((NewT.trans _ _ _ HM.out hT).recV HX.out)) Hr.out) rfl Tryd.func51 (by kernel_rfl) (by kernel_rfl) (evs2 hF.1 hF.2.1) hK)
    · exact fun a wx hT hF K hK => rely_wp rfl (opr_move (.inl rfl) (hK _ _ (NewT.refl _) hF.1))
    · exact fun a wx hT hF K hK => rely_skip (rely_guard_no hF.2.1 (by decide)) (hK _ _ (NewT.refl _) rfl)
    · exact fun a wx hT hF K hK => rely_skip (rely_guard_no hF.2.1 (by decide)) (hK _ _ (NewT.refl _) rfl)
    · exact fun a wx hT hF K hK => rely_skip (rely_guard_no hF.2.1 (by decide)) (hK _ _ (NewT.refl _) rfl)
    · exact fun a wx hT hF K hK => rely_skip (rely_guard_no hF.2.2.2.1 (by decide)) (hK _ _ (NewT.refl _) rfl)
    · exact fun a wx hT hF K hK => rely_wp rfl (opr_pick_false rfl hF.1 (hK _ _ (NewT.refl _) rfl))
    · intro w1 k1
      iterate 11 (intro u h; obtain rfl := Eq.symm (h (by simp)); clear h)
      refine relyEnd_nil rfl ?_
      simp only [Act.put, List.setIfInBounds_toArray, List.set_cons_zero, List.set_cons_succ]
      refine opr_move (.inr rfl) ?_
      go_simp
      replace Rgb := Lib.hid (k1.row Rgb.out)
      replace Rg4 := Lib.hid (k1.row Rg4.out)
      replace HM := Lib.hid (NewT.trans _ _ _ HM.out k1)
      clear k1
      go_wp2
      go_ret
      exact ⟨sv, by rw [HF.out]; rfl, HM.out.out.mono (Nat.le_trans HP.out.at_ (Nat.le_of_lt HP.out.row.lt)), KeepBut.below HM.out, by rw [HN.out]; exact Rgb.out, by rw [HN.out]; exact wayOut_own HP.out (HP.out.own.new HM.out).rd⟩
  · have HF : Hid (ansB lim bk x = onB lim bk x) := Lib.hid (by unfold ansB; rw [HQ.out]; rfl)
    have HN : Hid (ansN2 lim bk x = onK lim bk x) := Lib.hid (by
      unfold ansN2
      rw [HF.out]
      cases h : onB lim bk x with
      | true => rw [if_pos rfl]
      | false => rw [if_neg (by simp), onK_no h])
    refine wp_region_rely_tail (NewT) [SV.eq (.pointer (some ⟨gb, 0, none⟩)), SV.eq (.pointer (some ⟨gb, 0, none⟩)), SV.eq (.agg (rowA 5 (bkF bk.ep sv))), SV.eq (.agg (rowA 109 (recF x su dv))), SV.eq (.bool true), SV.eq (.bool true), SV.eq (.pointer (some ⟨gb, 0, none⟩)), SV.eq (.agg (rowA 109 (recF x su dv))), SV.eq (.int .i64 (lim))] [([(0, none)], none), ([(7, some 0)], none), ([(8, some 1)], none), ([(4, none)], none), ([(9, some 2), (10, some 3)], none), ([(11, some 4)], none), ([(0, none), (12, some 5)], some (12, true)), ([(4, none), (12, some 5)], some (12, true)), ([(2, none), (12, some 5)], some (12, true))] 18 9 (by kernel_rfl) rfl rfl (Nat.zero_lt_succ _) (by kernel_rfl) (by kernel_rfl) (by kernel_rfl) NewT.trans (NewT.drew _) (Nat.le_of_ble_eq_true rfl) ⟨?_, ?_, ?_, ?_, ?_, ?_, ?_, ?_, ?_, trivial⟩ ?_
    · exact fun a wx hT hF K hK => rely_wp rfl (opr_move (.inl rfl) (hK _ _ (NewT.refl _) hF.1))
    · exact fun a wx hT hF K hK => rely_wp rfl (opr_nilc rfl hF.1 (hK _ _ (NewT.refl _) rfl))
    · exact fun a wx hT hF K hK => rely_wp rfl (opr_ldK (hT.row Rgb.out) rfl hF.1 (hK _ _ (NewT.refl _) rfl))
    · exact fun a wx hT hF K hK => rely_wp rfl (opr_ldR (hT.row Rg4.out) rfl hF.1 (hK _ _ (NewT.refl _) rfl))
    · exact fun a wx hT hF K hK => rely_wp rfl (opr_cv (HQ.out ▸ isFrom_cv _ _ bk x wx (⟨sv, rfl, HSV.out.new (NewT.trans _ _ _ HM.out hT)⟩) (((NewT.trans _ _ _ HM.out hT).recV HX.out)) Hr.out) rfl Tryd.func51 (by kernel_rfl) (by kernel_rfl) (evs2 hF.1 hF.2.1) hK)
    · exact fun a wx hT hF K hK => rely_wp rfl (opr_move (.inl rfl) (hK _ _ (NewT.refl _) hF.1))
    · exact fun a wx hT hF K hK => rely_wp (rely_guard hF.2.1) (opr_move (.inl rfl) (hK _ _ (NewT.refl _) hF.1))
    · exact fun a wx hT hF K hK => rely_wp (rely_guard hF.2.1) (opr_ldR (hT.row Rg4.out) rfl hF.1 (hK _ _ (NewT.refl _) rfl))
    · exact fun a wx hT hF K hK => rely_wp (rely_guard hF.2.1) (opr_move (.inl rfl) (hK _ _ (NewT.refl _) hF.1))
    · intro w2 k2
      iterate 9 (intro u h; obtain rfl := Eq.symm (h (by simp)); clear h)
      refine relyEnd_nil rfl ?_
      simp only [Act.put, List.setIfInBounds_toArray, List.set_cons_zero, List.set_cons_succ]
      have hNW : NewT w w2 := NewT.trans _ _ _ HM.out k2
      have hpre : WayPre D w2 WE B gb sv fs bk := ⟨HP.out.size, NewT.trans _ _ _ HP.out.elder hNW, k2.row Rgb.out, HP.out.at_, HP.out.own.new hNW, HP.out.apart, HP.out.len, HP.out.els⟩
      refine wpList_yes (by kernel_rfl) (fun K hK => ?_)
      refine opr_callW (vs := #[.pointer (some ⟨gb, 0, none⟩), .agg (rowA 109 (recF x su dv)), .int .i64 lim]) rfl rfl Tryd.func35 (by kernel_rfl) (by kernel_rfl) (by kernel_rfl) ((goesOn_c D w2 WE B gb sv (.agg (rowA 109 (recF x su dv))) fs bk x lim hpre ⟨su, dv, rfl, HSXE.out, HDE.out⟩ Hok.out Hr.out).mono ?_)
      rintro e w' ⟨sv2, rfl, hB, hK2, hr2, hd2⟩
      refine ⟨_, rfl, hK _ _ ?_⟩
      clear hK K
      simp only [Act.put, List.setIfInBounds_toArray, List.set_cons_zero, List.set_cons_succ]
      refine wpList_plain rfl (fun K hK => ?_)
      refine opr_pick_true rfl rfl (hK _ _ ?_)
      clear hK K
      simp only [Act.put, List.setIfInBounds_toArray, List.set_cons_zero, List.set_cons_succ]
      refine wpList_plain rfl (fun K hK => ?_)
      refine opr_move (.inr rfl) (hK _ _ ?_)
      clear hK K
      refine wpList_end rfl ?_
      simp only [Act.put, List.setIfInBounds_toArray, List.set_cons_zero, List.set_cons_succ]
      go_simp
      go_wp2
      go_ret
      exact ⟨sv2, by rw [HF.out]; rfl, (hNW.out.mono (by have := HGB.out; omega)).trans hB, (KeepBut.below hNW).trans hK2, by rw [HN.out]; exact hr2, by rw [HN.out]; exact hd2.mono hNW.out.size⟩
theorem go_went {lim : Int} {bk : Bk} {x : Rc} {b : Bool} {c d : Bk} (h : goesK lim bk x = b) (hw : wayK lim bk x = c) (hd : (if b = true then c else bk) = d) : wentK lim bk x = d := by
  unfold wentK; rw [h, hw]; exact hd
set_option maxHeartbeats 8000000 in
theorem bGo_cv (D : Nat) (bv xv : Value) (bk : Bk) (x : Rc) (lim : Int) (w : World) (hb : BkVB w D bv bk) (hx : RecV w xv x) (ok : OkK bk) (hD : D ≤ w.heap.size) : Cv 11 #[bv, xv, .int .i64 lim] w (svBkRB D (wentK lim bk x) (.bool (goesK lim bk x))) := by
  unfold Cv
  obtain ⟨sv, rfl, hsv⟩ := hb
  obtain ⟨su, dv, rfl, hsx, hd⟩ := hx
  obtain ⟨_, fs, hfe, hfl, hel⟩ := id hsv
  have HSV := Lib.hid hsv.rd
  have HDW := Lib.hid hD
  have HX : Hid (RecV w (.agg (rowA 109 (recF x su dv))) x) := Lib.hid ⟨su, dv, rfl, hsx, hd⟩
  have HSX := Lib.hid hsx
  have HD := Lib.hid hd
  have HFE := Lib.hid hfe
  have HFN := Lib.hid hfl
  have HEL := Lib.hid hel
  have Hok := Lib.hid ok
  have HFL : Hid (fs.length ≤ 900000) := Lib.hid (by rw [hfl]; have := ok.len; omega)
  have HON : Hid (OneE 10 fs) := Lib.hid (by
    intro f hf j _
    obtain ⟨i, hi, rfl⟩ := List.mem_iff_getElem.1 hf
    obtain ⟨f', h1, sv', h2, h3⟩ := hel i _ (List.getElem?_eq_getElem (by omega))
    rw [List.getElem?_eq_getElem hi] at h1
    cases h1
    rw [h2]
    exact sgF_one sv' _ (oneP h3.1) j)
  clear hsv hsx hd hfe hfl hel ok hD
  go_enter Tryd.func11, Tryd.ntmps11
  go_upto_region 1 with fail
  have r_g3 := ((rowIs_box w 37 5 (bkF bk.ep sv)).alloc (.cells (rowA 109 (recF x su dv)) 32)).alloc (.cells (rowA 5 (bkF zK.ep (.slice none 0 0))) 37)
  have r_g4 := (rowIs_box (w.alloc (.cells (rowA 5 (bkF bk.ep sv)) 37)) 32 109 (recF x su dv)).alloc (.cells (rowA 5 (bkF zK.ep (.slice none 0 0))) 37)
  rw [World.size_alloc] at r_g4
  have r_g6 := rowIs_box ((w.alloc (.cells (rowA 5 (bkF bk.ep sv)) 37)).alloc (.cells (rowA 109 (recF x su dv)) 32)) 37 5 (bkF zK.ep (.slice none 0 0))
  rw [World.size_alloc, World.size_alloc] at r_g6
  have hN : NewT w (((w.alloc (.cells (rowA 5 (bkF bk.ep sv)) 37)).alloc (.cells (rowA 109 (recF x su dv)) 32)).alloc (.cells (rowA 5 (bkF zK.ep (.slice none 0 0))) 37)) := (NewT.trans _ _ _ ((NewT.trans _ _ _ (NewT.alloc _ _) (NewT.alloc _ _))) (NewT.alloc _ _))
  change Code.wp _ _ _ _ (((w.alloc (.cells (rowA 5 (bkF bk.ep sv)) 37)).alloc (.cells (rowA 109 (recF x su dv)) 32)).alloc (.cells (rowA 5 (bkF zK.ep (.slice none 0 0))) 37))
  generalize (((w.alloc (.cells (rowA 5 (bkF bk.ep sv)) 37)).alloc (.cells (rowA 109 (recF x su dv)) 32)).alloc (.cells (rowA 5 (bkF zK.ep (.slice none 0 0))) 37)) = W0 at r_g3 r_g4 r_g6 hN ⊢
  obtain ⟨g3, h_g3⟩ : ∃ g_, w.heap.size = g_ := ⟨_, rfl⟩
  obtain ⟨g4, h_g4⟩ : ∃ g_, w.heap.size + 1 = g_ := ⟨_, rfl⟩
  obtain ⟨g6, h_g6⟩ : ∃ g_, w.heap.size + 1 + 1 = g_ := ⟨_, rfl⟩
  have HG : Hid (w.heap.size ≤ g3 ∧ g3 < g4 ∧ g4 < g6) := Lib.hid (by omega)
  rw [h_g3] at r_g3
  rw [h_g4] at r_g4
  rw [h_g6] at r_g6
  try rw [h_g6]
  try rw [h_g4]
  simp only [h_g3]
  have Rg3 := Lib.hid r_g3
  have Rg4 := Lib.hid r_g4
  have Rg6 := Lib.hid r_g6
  have HM := Lib.hid hN
  clear r_g3 r_g4 r_g6 hN h_g3 h_g4 h_g6
  go_upto_region 1 with fail
  refine wp_region_steps0 NewT [SV.eq (.agg (rowA 5 (bkF bk.ep sv)))] [([(3, none)], none)] 33 1 rfl rfl (by kernel_rfl) NewT.trans (NewT.refl _) (Nat.le_of_ble_eq_true rfl) ⟨?_, trivial⟩ ?_
  · exact fun a wx hT hF K hK => rely_wp rfl (opr_ldK (hT.row Rg3.out) rfl hF.1 (hK _ _ (NewT.refl _) rfl))
  · intro w1 k1
    intro u h; obtain rfl := Eq.symm (h (by simp)); clear h
    refine relyEnd_nil rfl ?_
    simp only [Act.put, List.setIfInBounds_toArray, List.set_cons_zero, List.set_cons_succ]
    refine wpList_new (n := 5) (f := bkF bk.ep sv) rfl rfl rfl rfl rfl rfl (by first | (simp; done) | simp [Act.put]) run_alloc_book info_book (bkF_one _ _ HSV.out.one) rfl ?_
    intro W1 hn1 rr1
    refine wpList_end rfl ?_
    simp only [Act.put, List.setIfInBounds_toArray, List.set_cons_zero, List.set_cons_succ]
    go_simp
    obtain ⟨g8, h_g8⟩ : ∃ g_, w1.heap.size = g_ := ⟨_, rfl⟩
    rw [h_g8] at rr1
    simp only [h_g8]
    have HGg8 : Hid (g3 < g8 ∧ g4 < g8 ∧ g6 < g8 ∧ w.heap.size ≤ g8) := Lib.hid (by rw [← h_g8]; exact ⟨(k1.row Rg3.out).lt, (k1.row Rg4.out).lt, (k1.row Rg6.out).lt, (NewT.trans _ _ _ HM.out k1).out.size⟩)
    have q1 := NewT.trans _ _ _ k1 hn1
    clear k1 hn1 h_g8
    replace Rg3 := Lib.hid (q1.row Rg3.out)
    replace Rg4 := Lib.hid (q1.row Rg4.out)
    replace Rg6 := Lib.hid (q1.row Rg6.out)
    replace HM := Lib.hid (NewT.trans _ _ _ HM.out q1)
    clear q1
    have Rg8 := Lib.hid rr1
    clear rr1
    have HG8L : Hid (g8 < W1.heap.size) := Lib.hid Rg8.out.lt
    have HBL : Hid (w.heap.size ≤ W1.heap.size) := Lib.hid HM.out.out.size
    go_upto_region 2 with fail
    refine wp_region_steps0 NewT [SV.eq (.pointer (some ⟨g3, 4, none⟩)), SV.eq (sv), svOwE W1.heap.size fs, SV.eq (.pointer (some ⟨g8, 4, none⟩))] [([(3, none)], none), ([(11, some 0)], none), ([(12, some 1)], none), ([(8, none)], none)] 33 4 rfl rfl (by kernel_rfl) NewT.trans (NewT.refl _) (Nat.le_of_ble_eq_true rfl) ⟨?_, ?_, ?_, ?_, trivial⟩ ?_
    · exact fun a wx hT hF K hK => rely_wp rfl (opr_fldK1 rfl hF.1 (hK _ _ (NewT.refl _) rfl))
    · exact fun a wx hT hF K hK => rely_wp rfl (opr_ldUs (hT.row Rg3.out) (by decide) rfl rfl hF.1 (hK _ _ (NewT.refl _) rfl))
    · exact fun a wx hT hF K hK => rely_wp rfl (opr_cv ((CloneU_cv _ fs wx ((HFE.out.new HM.out).new hT) HON.out HFL.out).mono fun _ _ ⟨v, h1, h2, h3⟩ => ⟨v, h1, h2, h3.mono hT.out.size⟩) rfl Tryd.func22 (by kernel_rfl) (by kernel_rfl) (evs1 hF.1) hK)
    · exact fun a wx hT hF K hK => rely_wp rfl (opr_fldK1 rfl hF.1 (hK _ _ (NewT.refl _) rfl))
    · intro w2 k2
      iterate 2 (intro u h; obtain rfl := Eq.symm (h (by simp)); clear h)
      intro u13 h; have g13 := h (by simp); clear h; replace g13 := show (svOwE W1.heap.size fs).pred u13 w2 from g13
      intro u h; obtain rfl := Eq.symm (h (by simp)); clear h
      refine relyEnd_nil rfl ?_
      simp only [Act.put, List.setIfInBounds_toArray, List.set_cons_zero, List.set_cons_succ]
      have hOW := (show OwnE 59 10 w2 W1.heap.size u13 fs from g13)
      have hone : Value.oneCell' u13 = true := by obtain ⟨A', c', e, _⟩ := hOW.form; rw [e]; rfl
      refine wpList_plain rfl (fun K hK => ?_)
      refine opr_put1 (g := g8) (o0 := 4) (v := u13) (F := bkF bk.ep u13) rfl rfl rfl (k2.row Rg8.out) (by decide) info_us hone (fun i hi => bs_sg bk.ep sv u13 i hi) ?_
      intro W2 hR2 rr2
      refine hK _ _ ?_
      clear hK K
      refine wpList_end rfl ?_
      simp only [Act.put, List.setIfInBounds_toArray, List.set_cons_zero, List.set_cons_succ]
      go_simp
      replace Rg8 := Lib.hid rr2
      replace Rg3 := Lib.hid (hR2.row (by have h_0 := HG.out; have h_1 := HGg8.out; omega) (k2.row Rg3.out))
      replace Rg4 := Lib.hid (hR2.row (by have h_0 := HG.out; have h_1 := HGg8.out; omega) (k2.row Rg4.out))
      replace Rg6 := Lib.hid (hR2.row (by have h_0 := HG.out; have h_1 := HGg8.out; omega) (k2.row Rg6.out))
      replace HM := Lib.hid (NewT.rt (NewT.trans _ _ _ HM.out k2) hR2 (by have h_0 := HG.out; have h_1 := HGg8.out; omega))
      have HAP : Hid (∀ k, Value.ownBlock u13 = some k → g8 < k ∧ W1.heap.size ≤ k) := Lib.hid (fun k hk => by have h1 := (hOW.lt k hk).1; have h2 := HG8L.out; omega)
      have HOW : Hid (OwnE 59 10 W2 w.heap.size u13 fs) := Lib.hid ((hOW.mono (by have h1 := HBL.out; omega)).rt hR2 (fun e => by have := HAP.out g8 e; omega))
      have HUN := Lib.hid hone
      clear hOW k2 hR2 rr2 hone
      have HUD : Hid (∀ k, Value.ownBlock u13 = some k → D ≤ k) := Lib.hid (fun k hk => Nat.le_trans HDW.out (HOW.out.lt k hk).1)
      go_upto_region 3 with fail
      obtain ⟨q1_3, Q1_3⟩ : ∃ bq_, ((!(inR lim 1 9)) || (!(rightB x))) = bq_ := ⟨_, rfl⟩
      refine wp_region_steps0 NewT [SV.eq (.int .i64 (lim)), SV.eq (.bool (inR lim 1 9)), SV.eq (.bool (!(inR lim 1 9))), SV.eq (.bool (!(inR lim 1 9))), svIf ((!(!(inR lim 1 9)))) (SV.eq (.agg (rowA 109 (recF x su dv)))), svIf ((!(!(inR lim 1 9)))) (SV.eq (.bool (rightB x))), svIf ((!(!(inR lim 1 9)))) (SV.eq (.bool (!(rightB x)))), SV.eq (.bool (q1_3))] [([(2, none)], none), ([(15, some 0)], none), ([(16, some 1)], none), ([(17, some 2)], none), ([(4, none), (18, some 3)], some (18, false)), ([(19, some 4), (18, some 3)], some (18, false)), ([(20, some 5), (18, some 3)], some (18, false)), ([(18, some 3), (21, some 6)], none)] 33 8 rfl rfl (by kernel_rfl) NewT.trans (NewT.refl _) (Nat.le_of_ble_eq_true rfl) ⟨?_, ?_, ?_, ?_, ?_, ?_, ?_, ?_, trivial⟩ ?_
      · exact fun a wx hT hF K hK => rely_wp rfl (opr_move (.inl rfl) (hK _ _ (NewT.refl _) hF.1))
      · exact fun a wx hT hF K hK => rely_wp rfl (opr_cv (bLimit_cv lim wx) rfl Tryd.func23 (by kernel_rfl) (by kernel_rfl) (evs1 hF.1) hK)
      · exact fun a wx hT hF K hK => rely_wp rfl (opr_not rfl hF.1 (hK _ _ (NewT.refl _) rfl))
      · exact fun a wx hT hF K hK => rely_wp rfl (opr_move (.inl rfl) (hK _ _ (NewT.refl _) hF.1))
      · exact fun a wx hT hF K hK => rely_if (rely_gf hF.2.1) (NewT.refl _) hK fun hE hK => opr_ldR (hT.row Rg4.out) rfl hF.1 (hK _ _ (NewT.refl _) rfl)
      · exact fun a wx hT hF K hK => rely_if (rely_gf hF.2.1) (NewT.refl _) hK fun hE hK => opr_cv (Right_cv _ x wx ((NewT.trans _ _ _ HM.out hT).recV HX.out)) rfl Tryd.func17 (by kernel_rfl) (by kernel_rfl) (evs1 (hF.1 hE)) hK
      · exact fun a wx hT hF K hK => rely_if (rely_gf hF.2.1) (NewT.refl _) hK fun hE hK => opr_not rfl (hF.1 hE) (hK _ _ (NewT.refl _) rfl)
      · exact fun a wx hT hF K hK => rely_wp rfl (opr_pick_b rfl hF.1 (fun hb => hK _ _ (NewT.refl _) (pn_or1 Q1_3 hb)) (fun hb => hK _ _ (NewT.refl _) (pn_or0 Q1_3 (hF.2.1 (bnot hb)) hb)))
      · intro w3 k3
        iterate 4 (intro u h; obtain rfl := Eq.symm (h (by simp)); clear h)
        iterate 3 (intro _ _)
        intro u h; obtain rfl := Eq.symm (h (by simp)); clear h
        subst Q1_3
        refine relyEnd_nil rfl ?_
        refine wpList_end rfl ?_
        simp only [Act.put, List.setIfInBounds_toArray, List.set_cons_zero, List.set_cons_succ]
        go_simp
        replace HOW := Lib.hid (HOW.out.new k3)
        replace Rg3 := Lib.hid (k3.row Rg3.out)
        replace Rg4 := Lib.hid (k3.row Rg4.out)
        replace Rg6 := Lib.hid (k3.row Rg6.out)
        replace Rg8 := Lib.hid (k3.row Rg8.out)
        replace HM := Lib.hid (NewT.trans _ _ _ HM.out k3)
        clear k3
        cases hq : (((!(inR lim 1 9)) || (!(rightB x))))
        · have hq2 : inR lim 1 9 = true ∧ rightB x = true := by
            simp only [Bool.or_eq_false_iff, Bool.not_eq_false'] at hq
            exact hq
          have Hr := Lib.hid hq2.2
          have HL9 := Lib.hid hq2.1
          have HKD : Hid (1 ≤ x.kind ∧ x.kind ≤ 6) := Lib.hid (right_kind x hq2.2)
          clear hq hq2
          by_cases h1 : x.kind = 1
          · have HK1 := Lib.hid h1
            have HWF : Hid (wayF x.kind = 34) := Lib.hid (by rw [h1]; rfl)
            clear h1
            go_upto_region 5 with fail
            refine wp_region_rely_tail (NewT) [svWays, SV.eq (.pointer (some ⟨g4, 0, none⟩)), SV.eq (.int .i64 (x.kind)), SV.eq ((.func (.func 34) #[] #[])), SV.eq (.agg (rowA 109 (recF x su dv))), SV.eq (.int .i64 (lim))] [([], none), ([(4, none)], none), ([(25, some 1)], none), ([(24, some 0), (26, some 2)], none), ([(4, none)], none), ([(2, none)], none)] 33 6 (by kernel_rfl) rfl rfl (Nat.zero_lt_succ _) (by kernel_rfl) (by kernel_rfl) (by kernel_rfl) NewT.trans (NewT.drew _) (Nat.le_of_ble_eq_true rfl) ⟨?_, ?_, ?_, ?_, ?_, ?_, trivial⟩ ?_
            · exact fun a wx hT hF K hK => rely_wp rfl (opr_cv (ways_cv wx) rfl Tryd.func24 (by kernel_rfl) (by kernel_rfl) evs0 hK)
            · exact fun a wx hT hF K hK => rely_wp rfl (opr_fldR (by decide) rfl hF.1 (hK _ _ (NewT.refl _) rfl))
            · exact fun a wx hT hF K hK => rely_wp rfl (opr_ldI (hT.row Rg4.out) (by decide) rfl rfl hF.1 (hK _ _ (NewT.refl _) rfl))
            · exact fun a wx hT hF K hK => rely_wp rfl (opr_lookW HWF.out HKD.out rfl hF.1 hF.2.1 (hK _ _ (NewT.refl _) rfl))
            · exact fun a wx hT hF K hK => rely_wp rfl (opr_ldR (hT.row Rg4.out) rfl hF.1 (hK _ _ (NewT.refl _) rfl))
            · exact fun a wx hT hF K hK => rely_wp rfl (opr_move (.inl rfl) (hK _ _ (NewT.refl _) hF.1))
            · intro w4 k4
              intro _ _
              iterate 5 (intro u h; obtain rfl := Eq.symm (h (by simp)); clear h)
              refine relyEnd_nil rfl ?_
              simp only [Act.put, List.setIfInBounds_toArray, List.set_cons_zero, List.set_cons_succ]
              have hNW : NewT w w4 := NewT.trans _ _ _ HM.out k4
              have hOW : OwnE 59 10 w4 w.heap.size u13 fs := HOW.out.new k4
              have hpre : WayPre D w4 w w.heap.size g8 u13 fs bk := ⟨Nat.le_refl _, hNW, k4.row Rg8.out, by have h1 := HG.out; have h2 := HGg8.out; omega, hOW, fun k hk => (HAP.out k hk).1, HFN.out, HEL.out⟩
              refine wpList_plain rfl (fun K hK => ?_)
              refine opr_callW (vs := #[.pointer (some ⟨g8, 0, none⟩), .agg (rowA 109 (recF x su dv)), .int .i64 lim]) rfl rfl Tryd.func34 (by kernel_rfl) (by kernel_rfl) (by kernel_rfl) ((begins_c D w4 w w.heap.size g8 u13 (.agg (rowA 109 (recF x su dv))) fs bk x lim hpre HX.out (by have := Hok.out.len; omega)).mono ?_)
              rintro e w' ⟨sv2, rfl, hB, hK2, hr2, hd2⟩
              refine ⟨_, rfl, hK _ _ ?_⟩
              clear hK K
              simp only [Act.put, List.setIfInBounds_toArray, List.set_cons_zero, List.set_cons_succ]
              refine wpList_plain rfl (fun K hK => ?_)
              refine opr_move (.inr rfl) (hK _ _ ?_)
              clear hK K
              refine wpList_end rfl ?_
              simp only [Act.put, List.setIfInBounds_toArray, List.set_cons_zero, List.set_cons_succ]
              go_simp
              have hN2 : NewT w w' := hNW.out.trans hB
              have hg6n : Value.ownBlock u13 ≠ some g6 := fun e => by have h1 := HGg8.out; have h2 := HAP.out g6 e; omega
              have hg6l : g6 < w4.heap.size := (k4.row Rg6.out).lt
              have hg6 := hK2.row (b := g6) (by
                cases hu : Value.ownBlock u13 with
                | none => simp; have h1 := HGg8.out; omega
                | some c => simp; have h1 := HGg8.out; have h2 := HAP.out c hu; omega) (k4.row Rg6.out)
              have HD2 := Lib.hid hd2
              have HR2 := Lib.hid hr2
              have HU2 : Hid (RdU w' sv2 (begN bk x).sg) := Lib.hid ((hd2.rd hN2 (Nat.le_trans HDW.out hNW.out.size) HUD.out).rd)
              have HB6 : Hid (goesK lim bk x = begB bk x) := Lib.hid (by unfold goesK wayB; rw [HL9.out, Hr.out, if_pos HK1.out]; rfl)
              have HW6 : Hid (wentK lim bk x = begN bk x) := Lib.hid (go_went (c := begK bk x) HB6.out (by unfold wayK; rw [if_pos HK1.out]) (rfl))
              clear hB hK2 hOW hpre hr2 hd2
              go_upto_region 6 with fail
              refine wp_region_steps0 NewT [SV.eq (.agg (rowA 5 (bkF ((begN bk x)).ep sv2))), SV.eq (.bool (begB bk x))] [([(8, none)], none), ([(9, none)], none)] 33 2 rfl rfl (by kernel_rfl) NewT.trans (NewT.refl _) (Nat.le_of_ble_eq_true rfl) ⟨?_, ?_, trivial⟩ ?_
              · exact fun a wx hT hF K hK => rely_wp rfl (opr_ldK (hT.row HR2.out) rfl hF.1 (hK _ _ (NewT.refl _) rfl))
              · exact fun a wx hT hF K hK => rely_wp rfl (opr_move (.inl rfl) (hK _ _ (NewT.refl _) hF.1))
              · intro w9 k9
                iterate 2 (intro u h; obtain rfl := Eq.symm (h (by simp)); clear h)
                refine relyEnd_nil rfl ?_
                simp only [Act.put, List.setIfInBounds_toArray, List.set_cons_zero, List.set_cons_succ]
                refine wpList_plain rfl (fun K hK => ?_)
                refine opr_putm (g := g6) (o0 := 0) (m := 5) (f := bkF (begN bk x).ep sv2) (F := bkF (begN bk x).ep sv2) rfl rfl rfl (k9.row hg6) (by decide) info_book (bkF_one _ _ HU2.out.one) (put_allN _ _ _) ?_
                intro W9 hR9 rr9
                refine hK _ _ ?_
                clear hK K
                simp only [Act.put, List.setIfInBounds_toArray, List.set_cons_zero, List.set_cons_succ]
                refine wpList_plain rfl (fun K hK => ?_)
                refine opr_move (.inr rfl) (hK _ _ ?_)
                clear hK K
                refine wpList_end rfl ?_
                simp only [Act.put, List.setIfInBounds_toArray, List.set_cons_zero, List.set_cons_succ]
                go_simp
                go_wp2
                have hN9 : NewT w W9 := NewT.rt (NewT.trans _ _ _ hN2 k9) hR9 (by have := HG.out; omega)
                exact bodyPost_ret (results_rt rfl rfl rfl rr9 Tryd.underlying37 rfl info_book) rfl ⟨_, rfl, hN9, .agg (rowA 5 (bkF (begN bk x).ep sv2)), by first | (rw [HB6.out]; done) | (rw [HB6.out]; rfl), sv2, by rw [HW6.out], by rw [HW6.out]; exact (HD2.out.new k9).rt hR9 hg6n hg6l hN9 (Nat.le_trans HDW.out hNW.out.size) HUD.out⟩
          by_cases h3 : x.kind = 3
          · have HK3 := Lib.hid h3
            have HWF : Hid (wayF x.kind = 36) := Lib.hid (by rw [h3]; rfl)
            clear h1 h3
            go_upto_region 5 with fail
            refine wp_region_rely_tail (NewT) [svWays, SV.eq (.pointer (some ⟨g4, 0, none⟩)), SV.eq (.int .i64 (x.kind)), SV.eq ((.func (.func 36) #[] #[])), SV.eq (.agg (rowA 109 (recF x su dv))), SV.eq (.int .i64 (lim))] [([], none), ([(4, none)], none), ([(25, some 1)], none), ([(24, some 0), (26, some 2)], none), ([(4, none)], none), ([(2, none)], none)] 33 6 (by kernel_rfl) rfl rfl (Nat.zero_lt_succ _) (by kernel_rfl) (by kernel_rfl) (by kernel_rfl) NewT.trans (NewT.drew _) (Nat.le_of_ble_eq_true rfl) ⟨?_, ?_, ?_, ?_, ?_, ?_, trivial⟩ ?_
            · exact fun a wx hT hF K hK => rely_wp rfl (opr_cv (ways_cv wx) rfl Tryd.func24 (by kernel_rfl) (by kernel_rfl) evs0 hK)
            · exact fun a wx hT hF K hK => rely_wp rfl (opr_fldR (by decide) rfl hF.1 (hK _ _ (NewT.refl _) rfl))
            · exact fun a wx hT hF K hK => rely_wp rfl (opr_ldI (hT.row Rg4.out) (by decide) rfl rfl hF.1 (hK _ _ (NewT.refl _) rfl))
            · exact fun a wx hT hF K hK => rely_wp rfl (opr_lookW HWF.out HKD.out rfl hF.1 hF.2.1 (hK _ _ (NewT.refl _) rfl))
            · exact fun a wx hT hF K hK => rely_wp rfl (opr_ldR (hT.row Rg4.out) rfl hF.1 (hK _ _ (NewT.refl _) rfl))
            · exact fun a wx hT hF K hK => rely_wp rfl (opr_move (.inl rfl) (hK _ _ (NewT.refl _) hF.1))
            · intro w5 k5
              intro _ _
              iterate 5 (intro u h; obtain rfl := Eq.symm (h (by simp)); clear h)
              refine relyEnd_nil rfl ?_
              simp only [Act.put, List.setIfInBounds_toArray, List.set_cons_zero, List.set_cons_succ]
              have hNW : NewT w w5 := NewT.trans _ _ _ HM.out k5
              have hOW : OwnE 59 10 w5 w.heap.size u13 fs := HOW.out.new k5
              have hpre : WayPre D w5 w w.heap.size g8 u13 fs bk := ⟨Nat.le_refl _, hNW, k5.row Rg8.out, by have h1 := HG.out; have h2 := HGg8.out; omega, hOW, fun k hk => (HAP.out k hk).1, HFN.out, HEL.out⟩
              refine wpList_plain rfl (fun K hK => ?_)
              refine opr_callW (vs := #[.pointer (some ⟨g8, 0, none⟩), .agg (rowA 109 (recF x su dv)), .int .i64 lim]) rfl rfl Tryd.func36 (by kernel_rfl) (by kernel_rfl) (by kernel_rfl) ((isAnswered_c D w5 w w.heap.size g8 u13 (.agg (rowA 109 (recF x su dv))) fs bk x lim hpre HX.out Hok.out Hr.out).mono ?_)
              rintro e w' ⟨sv2, rfl, hB, hK2, hr2, hd2⟩
              refine ⟨_, rfl, hK _ _ ?_⟩
              clear hK K
              simp only [Act.put, List.setIfInBounds_toArray, List.set_cons_zero, List.set_cons_succ]
              refine wpList_plain rfl (fun K hK => ?_)
              refine opr_move (.inr rfl) (hK _ _ ?_)
              clear hK K
              refine wpList_end rfl ?_
              simp only [Act.put, List.setIfInBounds_toArray, List.set_cons_zero, List.set_cons_succ]
              go_simp
              have hN2 : NewT w w' := hNW.out.trans hB
              have hg6n : Value.ownBlock u13 ≠ some g6 := fun e => by have h1 := HGg8.out; have h2 := HAP.out g6 e; omega
              have hg6l : g6 < w5.heap.size := (k5.row Rg6.out).lt
              have hg6 := hK2.row (b := g6) (by
                cases hu : Value.ownBlock u13 with
                | none => simp; have h1 := HGg8.out; omega
                | some c => simp; have h1 := HGg8.out; have h2 := HAP.out c hu; omega) (k5.row Rg6.out)
              have HD2 := Lib.hid hd2
              have HR2 := Lib.hid hr2
              have HU2 : Hid (RdU w' sv2 (ansN2 lim bk x).sg) := Lib.hid ((hd2.rd hN2 (Nat.le_trans HDW.out hNW.out.size) HUD.out).rd)
              have HB6 : Hid (goesK lim bk x = ansB lim bk x) := Lib.hid (by unfold goesK wayB; rw [HL9.out, Hr.out, if_neg (by have := HK3.out; omega), if_pos HK3.out]; rfl)
              have HW6 : Hid (wentK lim bk x = ansN2 lim bk x) := Lib.hid (go_went (c := onK lim bk x) HB6.out (by unfold wayK; rw [if_neg (by have := HK3.out; omega), if_neg (by have := HK3.out; omega)]) (rfl))
              clear hB hK2 hOW hpre hr2 hd2
              go_upto_region 6 with fail
              refine wp_region_steps0 NewT [SV.eq (.agg (rowA 5 (bkF ((ansN2 lim bk x)).ep sv2))), SV.eq (.bool (ansB lim bk x))] [([(8, none)], none), ([(9, none)], none)] 33 2 rfl rfl (by kernel_rfl) NewT.trans (NewT.refl _) (Nat.le_of_ble_eq_true rfl) ⟨?_, ?_, trivial⟩ ?_
              · exact fun a wx hT hF K hK => rely_wp rfl (opr_ldK (hT.row HR2.out) rfl hF.1 (hK _ _ (NewT.refl _) rfl))
              · exact fun a wx hT hF K hK => rely_wp rfl (opr_move (.inl rfl) (hK _ _ (NewT.refl _) hF.1))
              · intro w9 k9
                iterate 2 (intro u h; obtain rfl := Eq.symm (h (by simp)); clear h)
                refine relyEnd_nil rfl ?_
                simp only [Act.put, List.setIfInBounds_toArray, List.set_cons_zero, List.set_cons_succ]
                refine wpList_plain rfl (fun K hK => ?_)
                refine opr_putm (g := g6) (o0 := 0) (m := 5) (f := bkF (ansN2 lim bk x).ep sv2) (F := bkF (ansN2 lim bk x).ep sv2) rfl rfl rfl (k9.row hg6) (by decide) info_book (bkF_one _ _ HU2.out.one) (put_allN _ _ _) ?_
                intro W9 hR9 rr9
                refine hK _ _ ?_
                clear hK K
                simp only [Act.put, List.setIfInBounds_toArray, List.set_cons_zero, List.set_cons_succ]
                refine wpList_plain rfl (fun K hK => ?_)
                refine opr_move (.inr rfl) (hK _ _ ?_)
                clear hK K
                refine wpList_end rfl ?_
                simp only [Act.put, List.setIfInBounds_toArray, List.set_cons_zero, List.set_cons_succ]
                go_simp
                go_wp2
                have hN9 : NewT w W9 := NewT.rt (NewT.trans _ _ _ hN2 k9) hR9 (by have := HG.out; omega)
                exact bodyPost_ret (results_rt rfl rfl rfl rr9 Tryd.underlying37 rfl info_book) rfl ⟨_, rfl, hN9, .agg (rowA 5 (bkF (ansN2 lim bk x).ep sv2)), by first | (rw [HB6.out]; done) | (rw [HB6.out]; rfl), sv2, by rw [HW6.out], by rw [HW6.out]; exact (HD2.out.new k9).rt hR9 hg6n hg6l hN9 (Nat.le_trans HDW.out hNW.out.size) HUD.out⟩
          by_cases h6 : x.kind = 6
          · have HK6 := Lib.hid h6
            have HWF : Hid (wayF x.kind = 37) := Lib.hid (by rw [h6]; rfl)
            clear h1 h3 h6
            go_upto_region 5 with fail
            refine wp_region_rely_tail (NewT) [svWays, SV.eq (.pointer (some ⟨g4, 0, none⟩)), SV.eq (.int .i64 (x.kind)), SV.eq ((.func (.func 37) #[] #[])), SV.eq (.agg (rowA 109 (recF x su dv))), SV.eq (.int .i64 (lim))] [([], none), ([(4, none)], none), ([(25, some 1)], none), ([(24, some 0), (26, some 2)], none), ([(4, none)], none), ([(2, none)], none)] 33 6 (by kernel_rfl) rfl rfl (Nat.zero_lt_succ _) (by kernel_rfl) (by kernel_rfl) (by kernel_rfl) NewT.trans (NewT.drew _) (Nat.le_of_ble_eq_true rfl) ⟨?_, ?_, ?_, ?_, ?_, ?_, trivial⟩ ?_
            · exact fun a wx hT hF K hK => rely_wp rfl (opr_cv (ways_cv wx) rfl Tryd.func24 (by kernel_rfl) (by kernel_rfl) evs0 hK)
            · exact fun a wx hT hF K hK => rely_wp rfl (opr_fldR (by decide) rfl hF.1 (hK _ _ (NewT.refl _) rfl))
            · exact fun a wx hT hF K hK => rely_wp rfl (opr_ldI (hT.row Rg4.out) (by decide) rfl rfl hF.1 (hK _ _ (NewT.refl _) rfl))
            · exact fun a wx hT hF K hK => rely_wp rfl (opr_lookW HWF.out HKD.out rfl hF.1 hF.2.1 (hK _ _ (NewT.refl _) rfl))
            · exact fun a wx hT hF K hK => rely_wp rfl (opr_ldR (hT.row Rg4.out) rfl hF.1 (hK _ _ (NewT.refl _) rfl))
            · exact fun a wx hT hF K hK => rely_wp rfl (opr_move (.inl rfl) (hK _ _ (NewT.refl _) hF.1))
            · intro w6 k6
              intro _ _
              iterate 5 (intro u h; obtain rfl := Eq.symm (h (by simp)); clear h)
              refine relyEnd_nil rfl ?_
              simp only [Act.put, List.setIfInBounds_toArray, List.set_cons_zero, List.set_cons_succ]
              have hNW : NewT w w6 := NewT.trans _ _ _ HM.out k6
              have hOW : OwnE 59 10 w6 w.heap.size u13 fs := HOW.out.new k6
              have hpre : WayPre D w6 w w.heap.size g8 u13 fs bk := ⟨Nat.le_refl _, hNW, k6.row Rg8.out, by have h1 := HG.out; have h2 := HGg8.out; omega, hOW, fun k hk => (HAP.out k hk).1, HFN.out, HEL.out⟩
              refine wpList_plain rfl (fun K hK => ?_)
              refine opr_callW (vs := #[.pointer (some ⟨g8, 0, none⟩), .agg (rowA 109 (recF x su dv)), .int .i64 lim]) rfl rfl Tryd.func37 (by kernel_rfl) (by kernel_rfl) (by kernel_rfl) ((rotates_c D w6 w w.heap.size g8 u13 (.agg (rowA 109 (recF x su dv))) fs bk x lim hpre HX.out Hok.out Hr.out).mono ?_)
              rintro e w' ⟨sv2, rfl, hB, hK2, hr2, hd2⟩
              refine ⟨_, rfl, hK _ _ ?_⟩
              clear hK K
              simp only [Act.put, List.setIfInBounds_toArray, List.set_cons_zero, List.set_cons_succ]
              refine wpList_plain rfl (fun K hK => ?_)
              refine opr_move (.inr rfl) (hK _ _ ?_)
              clear hK K
              refine wpList_end rfl ?_
              simp only [Act.put, List.setIfInBounds_toArray, List.set_cons_zero, List.set_cons_succ]
              go_simp
              have hN2 : NewT w w' := hNW.out.trans hB
              have hg6n : Value.ownBlock u13 ≠ some g6 := fun e => by have h1 := HGg8.out; have h2 := HAP.out g6 e; omega
              have hg6l : g6 < w6.heap.size := (k6.row Rg6.out).lt
              have hg6 := hK2.row (b := g6) (by
                cases hu : Value.ownBlock u13 with
                | none => simp; have h1 := HGg8.out; omega
                | some c => simp; have h1 := HGg8.out; have h2 := HAP.out c hu; omega) (k6.row Rg6.out)
              have HD2 := Lib.hid hd2
              have HR2 := Lib.hid hr2
              have HU2 : Hid (RdU w' sv2 (rotN bk x).sg) := Lib.hid ((hd2.rd hN2 (Nat.le_trans HDW.out hNW.out.size) HUD.out).rd)
              have HB6 : Hid (goesK lim bk x = rotB bk x) := Lib.hid (by unfold goesK wayB; rw [HL9.out, Hr.out, if_neg (by have := HK6.out; omega), if_neg (by have := HK6.out; omega), if_pos HK6.out]; rfl)
              have HW6 : Hid (wentK lim bk x = rotN bk x) := Lib.hid (go_went (c := rotK bk x) HB6.out (by unfold wayK; rw [if_neg (by have := HK6.out; omega), if_pos HK6.out]) (rfl))
              clear hB hK2 hOW hpre hr2 hd2
              go_upto_region 6 with fail
              refine wp_region_steps0 NewT [SV.eq (.agg (rowA 5 (bkF ((rotN bk x)).ep sv2))), SV.eq (.bool (rotB bk x))] [([(8, none)], none), ([(9, none)], none)] 33 2 rfl rfl (by kernel_rfl) NewT.trans (NewT.refl _) (Nat.le_of_ble_eq_true rfl) ⟨?_, ?_, trivial⟩ ?_
              · exact fun a wx hT hF K hK => rely_wp rfl (opr_ldK (hT.row HR2.out) rfl hF.1 (hK _ _ (NewT.refl _) rfl))
              · exact fun a wx hT hF K hK => rely_wp rfl (opr_move (.inl rfl) (hK _ _ (NewT.refl _) hF.1))
              · intro w9 k9
                iterate 2 (intro u h; obtain rfl := Eq.symm (h (by simp)); clear h)
                refine relyEnd_nil rfl ?_
                simp only [Act.put, List.setIfInBounds_toArray, List.set_cons_zero, List.set_cons_succ]
                refine wpList_plain rfl (fun K hK => ?_)
                refine opr_putm (g := g6) (o0 := 0) (m := 5) (f := bkF (rotN bk x).ep sv2) (F := bkF (rotN bk x).ep sv2) rfl rfl rfl (k9.row hg6) (by decide) info_book (bkF_one _ _ HU2.out.one) (put_allN _ _ _) ?_
                intro W9 hR9 rr9
                refine hK _ _ ?_
                clear hK K
                simp only [Act.put, List.setIfInBounds_toArray, List.set_cons_zero, List.set_cons_succ]
                refine wpList_plain rfl (fun K hK => ?_)
                refine opr_move (.inr rfl) (hK _ _ ?_)
                clear hK K
                refine wpList_end rfl ?_
                simp only [Act.put, List.setIfInBounds_toArray, List.set_cons_zero, List.set_cons_succ]
                go_simp
                go_wp2
                have hN9 : NewT w W9 := NewT.rt (NewT.trans _ _ _ hN2 k9) hR9 (by have := HG.out; omega)
                exact bodyPost_ret (results_rt rfl rfl rfl rr9 Tryd.underlying37 rfl info_book) rfl ⟨_, rfl, hN9, .agg (rowA 5 (bkF (rotN bk x).ep sv2)), by first | (rw [HB6.out]; done) | (rw [HB6.out]; rfl), sv2, by rw [HW6.out], by rw [HW6.out]; exact (HD2.out.new k9).rt hR9 hg6n hg6l hN9 (Nat.le_trans HDW.out hNW.out.size) HUD.out⟩
          have HKO : Hid (x.kind ≠ 1 ∧ x.kind ≠ 3 ∧ x.kind ≠ 6) := Lib.hid ⟨h1, h3, h6⟩
          have HWF : Hid (wayF x.kind = 35) := Lib.hid (by unfold wayF; rw [if_neg h1, if_neg h3, if_neg h6])
          clear h1 h3 h6
          go_upto_region 5 with fail
          refine wp_region_rely_tail (NewT) [svWays, SV.eq (.pointer (some ⟨g4, 0, none⟩)), SV.eq (.int .i64 (x.kind)), SV.eq ((.func (.func 35) #[] #[])), SV.eq (.agg (rowA 109 (recF x su dv))), SV.eq (.int .i64 (lim))] [([], none), ([(4, none)], none), ([(25, some 1)], none), ([(24, some 0), (26, some 2)], none), ([(4, none)], none), ([(2, none)], none)] 33 6 (by kernel_rfl) rfl rfl (Nat.zero_lt_succ _) (by kernel_rfl) (by kernel_rfl) (by kernel_rfl) NewT.trans (NewT.drew _) (Nat.le_of_ble_eq_true rfl) ⟨?_, ?_, ?_, ?_, ?_, ?_, trivial⟩ ?_
          · exact fun a wx hT hF K hK => rely_wp rfl (opr_cv (ways_cv wx) rfl Tryd.func24 (by kernel_rfl) (by kernel_rfl) evs0 hK)
          · exact fun a wx hT hF K hK => rely_wp rfl (opr_fldR (by decide) rfl hF.1 (hK _ _ (NewT.refl _) rfl))
          · exact fun a wx hT hF K hK => rely_wp rfl (opr_ldI (hT.row Rg4.out) (by decide) rfl rfl hF.1 (hK _ _ (NewT.refl _) rfl))
          · exact fun a wx hT hF K hK => rely_wp rfl (opr_lookW HWF.out HKD.out rfl hF.1 hF.2.1 (hK _ _ (NewT.refl _) rfl))
          · exact fun a wx hT hF K hK => rely_wp rfl (opr_ldR (hT.row Rg4.out) rfl hF.1 (hK _ _ (NewT.refl _) rfl))
          · exact fun a wx hT hF K hK => rely_wp rfl (opr_move (.inl rfl) (hK _ _ (NewT.refl _) hF.1))
          · intro w7 k7
            intro _ _
            iterate 5 (intro u h; obtain rfl := Eq.symm (h (by simp)); clear h)
            refine relyEnd_nil rfl ?_
            simp only [Act.put, List.setIfInBounds_toArray, List.set_cons_zero, List.set_cons_succ]
            have hNW : NewT w w7 := NewT.trans _ _ _ HM.out k7
            have hOW : OwnE 59 10 w7 w.heap.size u13 fs := HOW.out.new k7
            have hpre : WayPre D w7 w w.heap.size g8 u13 fs bk := ⟨Nat.le_refl _, hNW, k7.row Rg8.out, by have h1 := HG.out; have h2 := HGg8.out; omega, hOW, fun k hk => (HAP.out k hk).1, HFN.out, HEL.out⟩
            refine wpList_plain rfl (fun K hK => ?_)
            refine opr_callW (vs := #[.pointer (some ⟨g8, 0, none⟩), .agg (rowA 109 (recF x su dv)), .int .i64 lim]) rfl rfl Tryd.func35 (by kernel_rfl) (by kernel_rfl) (by kernel_rfl) ((goesOn_c D w7 w w.heap.size g8 u13 (.agg (rowA 109 (recF x su dv))) fs bk x lim hpre HX.out Hok.out Hr.out).mono ?_)
            rintro e w' ⟨sv2, rfl, hB, hK2, hr2, hd2⟩
            refine ⟨_, rfl, hK _ _ ?_⟩
            clear hK K
            simp only [Act.put, List.setIfInBounds_toArray, List.set_cons_zero, List.set_cons_succ]
            refine wpList_plain rfl (fun K hK => ?_)
            refine opr_move (.inr rfl) (hK _ _ ?_)
            clear hK K
            refine wpList_end rfl ?_
            simp only [Act.put, List.setIfInBounds_toArray, List.set_cons_zero, List.set_cons_succ]
            go_simp
            have hN2 : NewT w w' := hNW.out.trans hB
            have hg6n : Value.ownBlock u13 ≠ some g6 := fun e => by have h1 := HGg8.out; have h2 := HAP.out g6 e; omega
            have hg6l : g6 < w7.heap.size := (k7.row Rg6.out).lt
            have hg6 := hK2.row (b := g6) (by
              cases hu : Value.ownBlock u13 with
              | none => simp; have h1 := HGg8.out; omega
              | some c => simp; have h1 := HGg8.out; have h2 := HAP.out c hu; omega) (k7.row Rg6.out)
            have HD2 := Lib.hid hd2
            have HR2 := Lib.hid hr2
            have HU2 : Hid (RdU w' sv2 (onK lim bk x).sg) := Lib.hid ((hd2.rd hN2 (Nat.le_trans HDW.out hNW.out.size) HUD.out).rd)
            have HB6 : Hid (goesK lim bk x = onB lim bk x) := Lib.hid (by unfold goesK wayB; rw [HL9.out, Hr.out, if_neg HKO.out.1, if_neg HKO.out.2.1, if_neg HKO.out.2.2]; rfl)
            have HW6 : Hid (wentK lim bk x = onK lim bk x) := Lib.hid (go_went (c := onK lim bk x) HB6.out (by unfold wayK; rw [if_neg HKO.out.1, if_neg HKO.out.2.2]) (by cases h : onB lim bk x; rw [if_neg (by simp), onK_no h]; rw [if_pos rfl]))
            clear hB hK2 hOW hpre hr2 hd2
            go_upto_region 6 with fail
            refine wp_region_steps0 NewT [SV.eq (.agg (rowA 5 (bkF ((onK lim bk x)).ep sv2))), SV.eq (.bool (onB lim bk x))] [([(8, none)], none), ([(9, none)], none)] 33 2 rfl rfl (by kernel_rfl) NewT.trans (NewT.refl _) (Nat.le_of_ble_eq_true rfl) ⟨?_, ?_, trivial⟩ ?_
            · exact fun a wx hT hF K hK => rely_wp rfl (opr_ldK (hT.row HR2.out) rfl hF.1 (hK _ _ (NewT.refl _) rfl))
            · exact fun a wx hT hF K hK => rely_wp rfl (opr_move (.inl rfl) (hK _ _ (NewT.refl _) hF.1))
            · intro w9 k9
              iterate 2 (intro u h; obtain rfl := Eq.symm (h (by simp)); clear h)
              refine relyEnd_nil rfl ?_
              simp only [Act.put, List.setIfInBounds_toArray, List.set_cons_zero, List.set_cons_succ]
              refine wpList_plain rfl (fun K hK => ?_)
              refine opr_putm (g := g6) (o0 := 0) (m := 5) (f := bkF (onK lim bk x).ep sv2) (F := bkF (onK lim bk x).ep sv2) rfl rfl rfl (k9.row hg6) (by decide) info_book (bkF_one _ _ HU2.out.one) (put_allN _ _ _) ?_
              intro W9 hR9 rr9
              refine hK _ _ ?_
              clear hK K
              simp only [Act.put, List.setIfInBounds_toArray, List.set_cons_zero, List.set_cons_succ]
              refine wpList_plain rfl (fun K hK => ?_)
              refine opr_move (.inr rfl) (hK _ _ ?_)
              clear hK K
              refine wpList_end rfl ?_
              simp only [Act.put, List.setIfInBounds_toArray, List.set_cons_zero, List.set_cons_succ]
              go_simp
              go_wp2
              have hN9 : NewT w W9 := NewT.rt (NewT.trans _ _ _ hN2 k9) hR9 (by have := HG.out; omega)
              exact bodyPost_ret (results_rt rfl rfl rfl rr9 Tryd.underlying37 rfl info_book) rfl ⟨_, rfl, hN9, .agg (rowA 5 (bkF (onK lim bk x).ep sv2)), by first | (rw [HB6.out]; done) | (rw [HB6.out]; rfl), sv2, by rw [HW6.out], by rw [HW6.out]; exact (HD2.out.new k9).rt hR9 hg6n hg6l hN9 (Nat.le_trans HDW.out hNW.out.size) HUD.out⟩
        · have hq2 : (inR lim 1 9 && rightB x) = false := by
            cases ha : inR lim 1 9 <;> cases hb : rightB x <;> simp_all
          have HB6 : Hid (goesK lim bk x = false) := Lib.hid (by unfold goesK; rw [hq2]; rfl)
          have HW6 : Hid (wentK lim bk x = bk) := Lib.hid (by unfold wentK; rw [HB6.out, if_neg (by simp)])
          clear hq hq2
          go_upto_region 4 with fail
          refine wp_region_steps0 NewT [SV.eq (.agg (rowA 5 (bkF bk.ep u13)))] [([(8, none)], none)] 33 1 rfl rfl (by kernel_rfl) NewT.trans (NewT.refl _) (Nat.le_of_ble_eq_true rfl) ⟨?_, trivial⟩ ?_
          · exact fun a wx hT hF K hK => rely_wp rfl (opr_ldK (hT.row Rg8.out) rfl hF.1 (hK _ _ (NewT.refl _) rfl))
          · intro w8 k8
            intro u h; obtain rfl := Eq.symm (h (by simp)); clear h
            refine relyEnd_nil rfl ?_
            simp only [Act.put, List.setIfInBounds_toArray, List.set_cons_zero, List.set_cons_succ]
            refine wpList_plain rfl (fun K hK => ?_)
            refine opr_putm (g := g6) (o0 := 0) (m := 5) (f := bkF bk.ep u13) (F := bkF bk.ep u13) rfl rfl rfl (k8.row Rg6.out) (by decide) info_book (bkF_one _ _ HUN.out) (put_allN _ _ _) ?_
            intro W8 hR8 rr8
            refine hK _ _ ?_
            clear hK K
            simp only [Act.put, List.setIfInBounds_toArray, List.set_cons_zero, List.set_cons_succ]
            refine wpList_plain rfl (fun K hK => ?_)
            refine opr_move (.inr rfl) (hK _ _ ?_)
            clear hK K
            refine wpList_end rfl ?_
            simp only [Act.put, List.setIfInBounds_toArray, List.set_cons_zero, List.set_cons_succ]
            go_simp
            replace Rg6 := Lib.hid rr8
            replace Rg3 := Lib.hid (hR8.row (by have h_0 := HG.out; have h_1 := HGg8.out; omega) (k8.row Rg3.out))
            replace Rg4 := Lib.hid (hR8.row (by have h_0 := HG.out; have h_1 := HGg8.out; omega) (k8.row Rg4.out))
            replace Rg8 := Lib.hid (hR8.row (by have h_0 := HG.out; have h_1 := HGg8.out; omega) (k8.row Rg8.out))
            replace HM := Lib.hid (NewT.rt (NewT.trans _ _ _ HM.out k8) hR8 (by have h_0 := HG.out; have h_1 := HGg8.out; omega))
            have ho := (HOW.out.new k8).rt hR8 (fun e => by have h1 := HGg8.out; have h2 := HAP.out g6 e; omega)
            go_wp2
            exact bodyPost_ret (results_rt rfl rfl rfl Rg6.out Tryd.underlying37 rfl info_book) rfl ⟨_, rfl, HM.out, .agg (rowA 5 (bkF bk.ep u13)), by first | (rw [HB6.out]; done) | (rw [HB6.out]; rfl), u13, by rw [HW6.out], by rw [HW6.out]; exact ⟨HUD.out, fs, ho.rd, HFN.out, fun i p hp => by obtain ⟨f0, h1, h2⟩ := HEL.out i p hp; exact ⟨f0, h1, StbE.new h2 HM.out⟩⟩⟩
end Go.Proofs.YtilmeffmdgcblaaDoor
/- Package book: Of, the book of records, as far as they go. -/
namespace Go.Proofs.YtilmeffmdgcblaaDoor
open Go Go.RowKit
set_option maxRecDepth 8000
set_option linter.all false
def OfL (lim : Int) (l : List Rc) (g4 g6 : Nat) (w : World) (i : Value) (wr : World) : Prop := ∃ k : Nat, k ≤ l.length ∧ i = .int .i64 (k : Int) ∧ Hid (nOf lim zK (l.take k) = k) ∧ Hid (NewT w wr) ∧ Hid (wr.rowIs g4 37 5 (bkF zK.ep (.slice none 0 0))) ∧ ∃ sv, Hid (wr.rowIs g6 37 5 (bkF (upK lim zK (l.take k)).ep sv)) ∧ Hid (RdUB wr (g6 + 1) sv (upK lim zK (l.take k)).sg)
set_option maxHeartbeats 8000000 in
theorem bkOf_cv (v : Value) (l : List Rc) (lim : Int) (w : World) (h : RdR w v l) (hl : l.length ≤ 1000) : Cv 7 #[v, .int .i64 lim] w (svBkRB w.heap.size (bkOf lim l) (.int .i64 (nOf lim zK l : Nat))) := by
  unfold Cv
  have HV := Lib.hid h
  have HLL := Lib.hid hl
  obtain ⟨A0, c0, rfl, hl0, hm0⟩ := h.form
  unfold maxLen at hm0
  obtain ⟨v, hv⟩ : ∃ v, Value.slice A0 l.length c0 = v := ⟨_, rfl⟩
  rw [hv] at HV ⊢
  clear h hl hv hl0 hm0
  go_enter Tryd.func7, Tryd.ntmps7
  go_upto_region 1 with fail
  have r_g4 := rowIs_box w 37 5 (bkF zK.ep (.slice none 0 0))
  have hN : NewT w (w.alloc (.cells (rowA 5 (bkF zK.ep (.slice none 0 0))) 37)) := NewT.alloc _ _
  change Code.wp _ _ _ _ (w.alloc (.cells (rowA 5 (bkF zK.ep (.slice none 0 0))) 37))
  generalize (w.alloc (.cells (rowA 5 (bkF zK.ep (.slice none 0 0))) 37)) = W0 at r_g4 hN ⊢
  obtain ⟨g4, h_g4⟩ : ∃ g_, w.heap.size = g_ := ⟨_, rfl⟩
  have HG : Hid (w.heap.size ≤ g4) := Lib.hid (by omega)
  rw [h_g4] at r_g4
  simp only [h_g4]
  have Rg4 := Lib.hid r_g4
  have HM := Lib.hid hN
  clear r_g4 hN h_g4
  go_upto_region 1 with fail
  refine wp_region_lit ?_
  refine wpList_plain rfl (fun K hK => ?_)
  refine opr_allocV rfl run_alloc_book (hK _ _ ?_)
  clear hK K
  refine wpList_end rfl ?_
  simp only [Act.put, List.setIfInBounds_toArray, List.set_cons_zero, List.set_cons_succ]
  have hn1 := NewT.alloc W0 (.cells (rowA 5 (bkF zK.ep (.slice none 0 0))) 37)
  have rr1 := rowIs_box W0 37 5 (bkF zK.ep (.slice none 0 0))
  obtain ⟨g6, h_g6⟩ : ∃ g_, W0.heap.size = g_ := ⟨_, rfl⟩
  rw [h_g6] at rr1
  simp only [h_g6]
  generalize W0.alloc (.cells (rowA 5 (bkF zK.ep (.slice none 0 0))) 37) = W1 at *
  go_simp
  have HGg6 : Hid (g4 < g6 ∧ w.heap.size ≤ g6) := Lib.hid (by rw [← h_g6]; exact ⟨Rg4.out.lt, HM.out.out.size⟩)
  clear h_g6
  replace Rg4 := Lib.hid (hn1.row Rg4.out)
  replace HM := Lib.hid (NewT.trans _ _ _ HM.out hn1)
  clear hn1
  have Rg6 := Lib.hid rr1
  clear rr1
  go_upto_region 2 with fail
  refine wp_region_steps0 NewT [SV.eq (v), SV.eq (.int .i64 ((List.length (l) : Int))), SV.eq (.int .i64 (0))] [([(0, none)], none), ([(11, some 0)], none), ([], none)] 34 3 rfl rfl (by kernel_rfl) NewT.trans (NewT.refl _) (Nat.le_of_ble_eq_true rfl) ⟨?_, ?_, ?_, trivial⟩ ?_
  · exact fun a wx hT hF K hK => rely_wp rfl (opr_move (.inl rfl) (hK _ _ (NewT.refl _) hF.1))
  · intro a wx hT hF K hK
    obtain ⟨f11, _⟩ := hF
    have f11 : a.tmps.getD 11 undef = v := f11
    refine rely_wp rfl ?_
    exact opr_lenL rfl recEl (by rw [eval_tmp, f11]; exact (HV.out.new (NewT.trans _ _ _ HM.out hT))) (hK _ _ (NewT.refl _) rfl)
  · exact fun a wx hT hF K hK => rely_wp rfl (opr_move (.inl rfl) (hK _ _ (NewT.refl _) rfl))
  · intro w2 k2
    iterate 3 (intro u h; obtain rfl := Eq.symm (h (by simp)); clear h)
    refine relyEnd_nil rfl ?_
    refine wpList_end rfl ?_
    simp only [Act.put, List.setIfInBounds_toArray, List.set_cons_zero, List.set_cons_succ]
    go_simp
    replace Rg4 := Lib.hid (k2.row Rg4.out)
    replace Rg6 := Lib.hid (k2.row Rg6.out)
    replace HM := Lib.hid (NewT.trans _ _ _ HM.out k2)
    clear k2
    go_wp2
    go_loopw [13] (fun i wr => OfL lim l g4 g6 w i wr) (fun i _ => l.length - (intOf i).toNat)
    case atStart => exact ⟨0, by omega, rfl, Lib.hid rfl, HM, Rg4, (.slice none 0 0), Rg6, Lib.hid (rdUB_nil _ _)⟩
    case round =>
      clear HM Rg4 Rg6
      obtain ⟨k, hk, rfl, HNK, HB, Rg4, sv, Rg6, HSV⟩ := hrel
      obtain ⟨bk, hbk⟩ : ∃ bk, upK lim zK (l.take k) = bk := ⟨_, rfl⟩
      have HBK := Lib.hid hbk
      rw [hbk] at Rg6 HSV
      have HGD : Hid (Good lim k bk) := Lib.hid (by rw [← hbk]; exact good_up k HNK.out hk)
      have HOK : Hid (OkK bk) := Lib.hid (good_ok HGD.out (by have := HLL.out; omega))
      clear hbk
      have HG46 : Hid (g4 < g6 ∧ w.heap.size ≤ g4) := Lib.hid (by have h1 := HG.out; have h2 := HGg6.out; omega)
      have HVR : Hid (RdR wr v l) := Lib.hid (HV.out.new HB.out)
      have HM := Lib.hid (NewT.refl wr)
      have HL6 : Hid (g6 + 1 ≤ wr.heap.size) := Lib.hid Rg6.out.lt
      by_cases hlt : k < l.length
      rotate_left
      · obtain rfl : k = l.length := by omega
        have HE : Hid (nOf lim zK l = l.length ∧ bkOf lim l = bk) := Lib.hid (by
          have h := HNK.out
          rw [List.take_length] at h
          refine ⟨h, ?_⟩
          unfold bkOf
          rw [h]
          exact HBK.out)
        go_upto_region 10 with fail
        refine wp_region_steps0 NewT [SV.eq (.agg (rowA 5 (bkF bk.ep sv))), SV.eq (v), SV.eq (.int .i64 ((List.length (l) : Int)))] [([(6, none)], none), ([(0, none)], none), ([(32, some 1)], none)] 34 3 rfl rfl (by kernel_rfl) NewT.trans (NewT.refl _) (Nat.le_of_ble_eq_true rfl) ⟨?_, ?_, ?_, trivial⟩ ?_
        · exact fun a wx hT hF K hK => rely_wp rfl (opr_ldK (hT.row Rg6.out) rfl hF.1 (hK _ _ (NewT.refl _) rfl))
        · exact fun a wx hT hF K hK => rely_wp rfl (opr_move (.inl rfl) (hK _ _ (NewT.refl _) hF.1))
        · intro a wx hT hF K hK
          obtain ⟨f32, _⟩ := hF
          have f32 : a.tmps.getD 32 undef = v := f32
          refine rely_wp rfl ?_
          exact opr_lenL rfl recEl (by rw [eval_tmp, f32]; exact (HVR.out.new (NewT.trans _ _ _ HM.out hT))) (hK _ _ (NewT.refl _) rfl)
        · intro w3 k3
          iterate 3 (intro u h; obtain rfl := Eq.symm (h (by simp)); clear h)
          refine relyEnd_nil rfl ?_
          simp only [Act.put, List.setIfInBounds_toArray, List.set_cons_zero, List.set_cons_succ]
          refine wpList_plain rfl (fun K hK => ?_)
          refine opr_putm (g := g4) (o0 := 0) (m := 5) (f := bkF bk.ep sv) (F := bkF bk.ep sv) rfl rfl rfl (k3.row Rg4.out) (by decide) info_book (bkF_one _ _ HSV.out.rd.one) (put_allN _ _ _) ?_
          intro W3 hR rr
          refine hK _ _ ?_
          clear hK K
          simp only [Act.put, List.setIfInBounds_toArray, List.set_cons_zero, List.set_cons_succ]
          refine wpList_plain rfl (fun K hK => ?_)
          refine opr_move (.inr rfl) (hK _ _ ?_)
          clear hK K
          refine wpList_end rfl ?_
          simp only [Act.put, List.setIfInBounds_toArray, List.set_cons_zero, List.set_cons_succ]
          go_simp
          have hNw := NewT.trans _ _ _ HB.out (NewT.trans _ _ _ HM.out k3)
          have hsv := ((HSV.out.new (NewT.trans _ _ _ HM.out k3)).rt hR (by have := HG46.out; omega)).mono (B' := w.heap.size) (by have := HG46.out; omega)
          go_wp2
          exact bodyPost_ret (results_rt rfl rfl rfl rr Tryd.underlying37 rfl info_book) rfl ⟨_, rfl, NewT.rt hNw hR HG46.out.2, .agg (rowA 5 (bkF bk.ep sv)), by first | (rw [HE.out.1]; done) | (rw [HE.out.1]; rfl), sv, by rw [HE.out.2], by rw [HE.out.2]; exact hsv⟩
      have it : (k : Int) < (l.length : Int) := by omega
      obtain ⟨x, hx⟩ : ∃ x, l[k]? = some x := ⟨_, List.getElem?_eq_getElem hlt⟩
      have HX0 := Lib.hid hx
      have HKL := Lib.hid hlt
      clear hx hlt
      go_upto_region 4 with fail
      refine wp_region_steps0 NewT [SV.eq (.int .i64 ((k : Int))), svEl 109 rcE (x), svRec (x)] [([(13, none)], none), ([(11, none), (13, none)], none), ([(16, some 1)], none)] 34 3 rfl rfl (by kernel_rfl) NewT.trans (NewT.refl _) (Nat.le_of_ble_eq_true rfl) ⟨?_, ?_, ?_, trivial⟩ ?_
      · exact fun a wx hT hF K hK => rely_wp rfl (opr_move (.inl rfl) (hK _ _ (NewT.refl _) hF.1))
      · intro a wx hT hF K hK
        obtain ⟨f11, f13, _⟩ := hF
        have f11 : a.tmps.getD 11 undef = v := f11
        have f13 : a.tmps.getD 13 undef = .int .i64 ((k : Int)) := f13
        refine rely_wp rfl ?_
        exact opr_idxL (i := k) (p := x) recEl (HX0.out) (rfl) rfl (by rw [eval_tmp, f11]; exact (HVR.out.new (NewT.trans _ _ _ HM.out hT))) f13 (fun v hv => hK v _ (NewT.refl _) hv)
      · exact fun a wx hT hF K hK => rely_wp rfl (opr_ldRcE rfl hF.1 (fun u hu => hK u _ (NewT.refl _) hu))
      · intro w4 k4
        intro u h; obtain rfl := Eq.symm (h (by simp)); clear h
        intro _ _
        intro u17 h; have g17 := h (by simp); clear h; replace g17 := show (svRec (x)).pred u17 w4 from g17
        refine relyEnd_nil rfl ?_
        simp only [Act.put, List.setIfInBounds_toArray, List.set_cons_zero, List.set_cons_succ]
        obtain ⟨su, dv, rfl, hsx, hd⟩ := (show RecV w4 u17 x from g17)
        refine wpList_newA (n := 109) (f := recF x su dv) rfl rfl rfl rfl rfl rfl rfl rfl (by decide) rfl (by first | (simp; done) | simp [Act.put]) (by kernel_rfl) run_alloc_rec info_rec (recF_one _ _ _ (oneP hsx) (oneR hd)) ?_
        intro W4 hn4 rr4
        refine wpList_end rfl ?_
        simp only [Act.put, List.setIfInBounds_toArray, List.set_cons_zero, List.set_cons_succ]
        go_simp
        obtain ⟨g8, h_g8⟩ : ∃ g_, w4.heap.size = g_ := ⟨_, rfl⟩
        rw [h_g8] at rr4
        simp only [h_g8]
        have HGg8 : Hid (g4 < g8 ∧ g6 < g8 ∧ wr.heap.size ≤ g8) := Lib.hid (by rw [← h_g8]; exact ⟨(k4.row Rg4.out).lt, (k4.row Rg6.out).lt, (NewT.trans _ _ _ HM.out k4).out.size⟩)
        have q4 := NewT.trans _ _ _ k4 hn4
        have HSX := Lib.hid (hn4.pairs hsx)
        have HD := Lib.hid (hn4.rd hd)
        have HX : Hid (RecV W4 (.agg (rowA 109 (recF x su dv))) x) := Lib.hid ⟨su, dv, rfl, HSX.out, HD.out⟩
        clear hsx hd
        clear k4 hn4 h_g8
        replace Rg4 := Lib.hid (q4.row Rg4.out)
        replace Rg6 := Lib.hid (q4.row Rg6.out)
        replace HM := Lib.hid (NewT.trans _ _ _ HM.out q4)
        clear q4
        have Rg8 := Lib.hid rr4
        clear rr4
        replace HSV := Lib.hid (HSV.out.new HM.out)
        replace HB := Lib.hid (NewT.trans _ _ _ HB.out HM.out)
        replace HL6 : Hid (g6 + 1 ≤ W4.heap.size) := Lib.hid (by have h1 := HM.out.out.size; have h2 := HL6.out; omega)
        have HG8 : Hid (g6 < g8) := Lib.hid HGg8.out.2.1
        replace HM := Lib.hid (NewT.refl W4)
        go_upto_region 5 with fail
        refine wp_region_steps0 NewT [SV.eq (.agg (rowA 5 (bkF bk.ep sv))), SV.eq (.agg (rowA 109 (recF x su dv))), SV.eq (.int .i64 (lim)), svBkRB (g6 + 1) (wentK lim bk x) (.bool (goesK lim bk x)), svBkRB (g6 + 1) (wentK lim bk x) (.bool (goesK lim bk x)), svBkB (g6 + 1) (wentK lim bk x), SV.eq (.bool (goesK lim bk x))] [([(6, none)], none), ([(8, none)], none), ([(1, none)], none), ([(19, some 0), (20, some 1), (21, some 2)], none), ([(22, some 3)], none), ([(18, some 4)], none), ([(18, some 4)], none)] 34 7 rfl rfl (by kernel_rfl) NewT.trans (NewT.refl _) (Nat.le_of_ble_eq_true rfl) ⟨?_, ?_, ?_, ?_, ?_, ?_, ?_, trivial⟩ ?_
        · exact fun a wx hT hF K hK => rely_wp rfl (opr_ldK (hT.row Rg6.out) rfl hF.1 (hK _ _ (NewT.refl _) rfl))
        · exact fun a wx hT hF K hK => rely_wp rfl (opr_ldR (hT.row Rg8.out) rfl hF.1 (hK _ _ (NewT.refl _) rfl))
        · exact fun a wx hT hF K hK => rely_wp rfl (opr_move (.inl rfl) (hK _ _ (NewT.refl _) hF.1))
        · exact fun a wx hT hF K hK => rely_wp rfl (opr_cv (bGo_cv (g6 + 1) _ _ bk x lim wx (⟨sv, rfl, HSV.out.new (NewT.trans _ _ _ HM.out hT)⟩) (((NewT.trans _ _ _ HM.out hT).recV HX.out)) HOK.out (Nat.le_trans HL6.out (NewT.trans _ _ _ HM.out hT).out.size)) rfl Tryd.func11 (by kernel_rfl) (by kernel_rfl) (evs3 hF.1 hF.2.1 hF.2.2.1) hK)
        · exact fun a wx hT hF K hK => rely_wp rfl (opr_move (.inl rfl) (hK _ _ (NewT.refl _) hF.1))
        · exact fun a wx hT hF K hK => rely_wp rfl (opr_extKB0 rfl hF.1 (fun u hu => hK u _ (NewT.refl _) hu))
        · exact fun a wx hT hF K hK => rely_wp rfl (opr_extKB1 rfl hF.1 (hK _ _ (NewT.refl _) rfl))
        · intro w5 k5
          iterate 3 (intro u h; obtain rfl := Eq.symm (h (by simp)); clear h)
          iterate 2 (intro _ _)
          intro u23 h; have g23 := h (by simp); clear h; replace g23 := show (svBkB (g6 + 1) (wentK lim bk x)).pred u23 w5 from g23
          intro u h; obtain rfl := Eq.symm (h (by simp)); clear h
          refine relyEnd_nil rfl ?_
          simp only [Act.put, List.setIfInBounds_toArray, List.set_cons_zero, List.set_cons_succ]
          obtain ⟨s9, rfl, hs9⟩ := (show BkVB w5 (g6 + 1) u23 (wentK lim bk x) from g23)
          refine wpList_new (n := 5) (f := bkF ((wentK lim bk x)).ep s9) rfl rfl rfl rfl rfl rfl (by first | (simp; done) | simp [Act.put]) run_alloc_book info_book (bkF_one _ _ hs9.rd.one) rfl ?_
          intro W5 hn5 rr5
          simp only [Act.put, List.setIfInBounds_toArray, List.set_cons_zero, List.set_cons_succ]
          refine wpList_plain rfl (fun K hK => ?_)
          refine opr_move (.inr rfl) (hK _ _ ?_)
          clear hK K
          refine wpList_end rfl ?_
          simp only [Act.put, List.setIfInBounds_toArray, List.set_cons_zero, List.set_cons_succ]
          go_simp
          obtain ⟨g9, h_g9⟩ : ∃ g_, w5.heap.size = g_ := ⟨_, rfl⟩
          rw [h_g9] at rr5
          simp only [h_g9]
          have HGg9 : Hid (g4 < g9 ∧ g6 < g9 ∧ g8 < g9 ∧ W4.heap.size ≤ g9) := Lib.hid (by rw [← h_g9]; exact ⟨(k5.row Rg4.out).lt, (k5.row Rg6.out).lt, (k5.row Rg8.out).lt, (NewT.trans _ _ _ HM.out k5).out.size⟩)
          have q5 := NewT.trans _ _ _ k5 hn5
          have HS9 := Lib.hid (hs9.new hn5)
          clear hs9
          clear k5 hn5 h_g9
          replace Rg4 := Lib.hid (q5.row Rg4.out)
          replace Rg6 := Lib.hid (q5.row Rg6.out)
          replace Rg8 := Lib.hid (q5.row Rg8.out)
          replace HM := Lib.hid (NewT.trans _ _ _ HM.out q5)
          clear q5
          have Rg9 := Lib.hid rr5
          clear rr5
          replace HSV := Lib.hid (HSV.out.new HM.out)
          replace HB := Lib.hid (NewT.trans _ _ _ HB.out HM.out)
          have HG9 : Hid (g6 < g9) := Lib.hid HGg9.out.2.1
          replace HM := Lib.hid (NewT.refl W5)
          obtain ⟨b, hb⟩ : ∃ b, goesK lim bk x = b := ⟨_, rfl⟩
          have HGB := Lib.hid hb
          rw [hb]
          clear hb
          go_upto_region 6 with fail
          refine wp_region_steps0 NewT [SV.eq (.bool (b)), SV.eq (.bool (!b))] [([(10, none)], none), ([(25, some 0)], none)] 34 2 rfl rfl (by kernel_rfl) NewT.trans (NewT.refl _) (Nat.le_of_ble_eq_true rfl) ⟨?_, ?_, trivial⟩ ?_
          · exact fun a wx hT hF K hK => rely_wp rfl (opr_move (.inl rfl) (hK _ _ (NewT.refl _) hF.1))
          · exact fun a wx hT hF K hK => rely_wp rfl (opr_not rfl hF.1 (hK _ _ (NewT.refl _) rfl))
          · intro w6 k6
            iterate 2 (intro u h; obtain rfl := Eq.symm (h (by simp)); clear h)
            refine relyEnd_nil rfl ?_
            refine wpList_end rfl ?_
            simp only [Act.put, List.setIfInBounds_toArray, List.set_cons_zero, List.set_cons_succ]
            go_simp
            replace Rg4 := Lib.hid (k6.row Rg4.out)
            replace Rg6 := Lib.hid (k6.row Rg6.out)
            replace Rg8 := Lib.hid (k6.row Rg8.out)
            replace Rg9 := Lib.hid (k6.row Rg9.out)
            replace HM := Lib.hid (NewT.trans _ _ _ HM.out k6)
            clear k6
            cases b
            · have HE : Hid (nOf lim zK l = k ∧ bkOf lim l = bk) := Lib.hid (by
                have h := nOf_stop lim l zK k x HX0.out HNK.out (by rw [HBK.out]; exact HGB.out)
                refine ⟨h, ?_⟩
                unfold bkOf
                rw [h]
                exact HBK.out)
              go_upto_region 7 with fail
              refine wp_region_steps0 NewT [SV.eq (.agg (rowA 5 (bkF bk.ep sv))), SV.eq (.int .i64 ((k : Int)))] [([(6, none)], none), ([(7, none)], none)] 34 2 rfl rfl (by kernel_rfl) NewT.trans (NewT.refl _) (Nat.le_of_ble_eq_true rfl) ⟨?_, ?_, trivial⟩ ?_
              · exact fun a wx hT hF K hK => rely_wp rfl (opr_ldK (hT.row Rg6.out) rfl hF.1 (hK _ _ (NewT.refl _) rfl))
              · exact fun a wx hT hF K hK => rely_wp rfl (opr_move (.inl rfl) (hK _ _ (NewT.refl _) hF.1))
              · intro w7 k7
                iterate 2 (intro u h; obtain rfl := Eq.symm (h (by simp)); clear h)
                refine relyEnd_nil rfl ?_
                simp only [Act.put, List.setIfInBounds_toArray, List.set_cons_zero, List.set_cons_succ]
                refine wpList_plain rfl (fun K hK => ?_)
                refine opr_putm (g := g4) (o0 := 0) (m := 5) (f := bkF bk.ep sv) (F := bkF bk.ep sv) rfl rfl rfl (k7.row Rg4.out) (by decide) info_book (bkF_one _ _ HSV.out.rd.one) (put_allN _ _ _) ?_
                intro W7 hR rr
                refine hK _ _ ?_
                clear hK K
                simp only [Act.put, List.setIfInBounds_toArray, List.set_cons_zero, List.set_cons_succ]
                refine wpList_plain rfl (fun K hK => ?_)
                refine opr_move (.inr rfl) (hK _ _ ?_)
                clear hK K
                refine wpList_end rfl ?_
                simp only [Act.put, List.setIfInBounds_toArray, List.set_cons_zero, List.set_cons_succ]
                go_simp
                have hNw := NewT.trans _ _ _ HB.out (NewT.trans _ _ _ HM.out k7)
                have hsv := ((HSV.out.new (NewT.trans _ _ _ HM.out k7)).rt hR (by have := HG46.out; omega)).mono (B' := w.heap.size) (by have := HG46.out; omega)
                go_wp2
                exact bodyPost_ret (results_rt rfl rfl rfl rr Tryd.underlying37 rfl info_book) rfl ⟨_, rfl, NewT.rt hNw hR HG46.out.2, .agg (rowA 5 (bkF bk.ep sv)), by first | (rw [HE.out.1]; done) | (rw [HE.out.1]; rfl), sv, by rw [HE.out.2], by rw [HE.out.2]; exact hsv⟩
            · have HE : Hid (nOf lim zK (l.take (k + 1)) = k + 1 ∧ upK lim zK (l.take (k + 1)) = wentK lim bk x) := Lib.hid ⟨nOf_succ lim l zK k x HX0.out HNK.out (by rw [HBK.out]; exact HGB.out), by rw [upK_succ HX0.out, HBK.out]⟩
              go_upto_region 8 with fail
              refine wp_region_steps0 NewT [SV.eq (.agg (rowA 5 (bkF ((wentK lim bk x)).ep s9)))] [([(9, none)], none)] 34 1 rfl rfl (by kernel_rfl) NewT.trans (NewT.refl _) (Nat.le_of_ble_eq_true rfl) ⟨?_, trivial⟩ ?_
              · exact fun a wx hT hF K hK => rely_wp rfl (opr_ldK (hT.row Rg9.out) rfl hF.1 (hK _ _ (NewT.refl _) rfl))
              · intro w8 k8
                intro u h; obtain rfl := Eq.symm (h (by simp)); clear h
                refine relyEnd_nil rfl ?_
                simp only [Act.put, List.setIfInBounds_toArray, List.set_cons_zero, List.set_cons_succ]
                refine wpList_plain rfl (fun K hK => ?_)
                refine opr_putm (g := g6) (o0 := 0) (m := 5) (f := bkF (wentK lim bk x).ep s9) (F := bkF (wentK lim bk x).ep s9) rfl rfl rfl (k8.row Rg6.out) (by decide) info_book (bkF_one _ _ HS9.out.rd.one) (put_allN _ _ _) ?_
                intro W8 hR rr
                refine hK _ _ ?_
                clear hK K
                refine wpList_end rfl ?_
                simp only [Act.put, List.setIfInBounds_toArray, List.set_cons_zero, List.set_cons_succ]
                go_simp
                have hs := ((HS9.out.new (NewT.trans _ _ _ HM.out k8)).rt hR (Nat.lt_succ_self _))
                have h4 := hR.row (b := g4) (by have := HG46.out; omega) (k8.row Rg4.out)
                have hB2 := NewT.rt (NewT.trans _ _ _ HB.out (NewT.trans _ _ _ HM.out k8)) hR (by have := HG46.out; omega)
                have hkm := HKL.out
                have hll := HLL.out
                clear HM HSV HS9 Rg4 Rg6 Rg8 Rg9
                go_wp2
                go_roundw
                case rel => exact ⟨k + 1, by omega, by go_num, Lib.hid HE.out.1, Lib.hid hB2, Lib.hid h4, s9, Lib.hid (by rw [HE.out.2]; exact rr), Lib.hid (by rw [HE.out.2]; exact hs)⟩
                case measure => simp [intOf]; omega
end Go.Proofs.YtilmeffmdgcblaaDoor
/- Package book: lists compared by a generic function; lines; Clean; the reference's comparisons. -/
namespace Go.Proofs.YtilmeffmdgcblaaDoor
open Go Go.RowKit
set_option maxRecDepth 8000
set_option linter.all false
set_option maxHeartbeats 4000000 in
theorem sameUL_cv (v1 v2 : Value) (L M : List Ug) (w : World) (hv : RdU w v1 L) (hu : RdU w v2 M) (hl : L.length ≤ 1000000) : Cv 19 #[v1, v2, .func (.func 20) #[] #[]] w (.eq (.bool (sameLs zU eqU L M))) := by
  unfold Cv
  have HV := Lib.hid hv
  have HU := Lib.hid hu
  have HLL := Lib.hid hl
  clear hv hu hl
  go_enter Tryd.func19, Tryd.ntmps19
  have HB := Lib.hid (NewT.refl w)
  have HM := Lib.hid (NewT.refl w)
  go_upto_region 1 with fail
  refine wp_region_steps0 NewT [SV.eq (v1), SV.eq (.int .i64 ((List.length (L) : Int))), SV.eq (v2), SV.eq (.int .i64 ((List.length (M) : Int))), SV.eq (.bool (((List.length (L) : Int)) != ((List.length (M) : Int))))] [([(0, none)], none), ([(9, some 0)], none), ([(1, none)], none), ([(11, some 2)], none), ([(10, some 1), (12, some 3)], none)] 30 5 rfl rfl (by kernel_rfl) NewT.trans (NewT.refl _) (Nat.le_of_ble_eq_true rfl) ⟨?_, ?_, ?_, ?_, ?_, trivial⟩ ?_
  · exact fun a wx hT hF K hK => rely_wp rfl (opr_move (.inl rfl) (hK _ _ (NewT.refl _) hF.1))
  · intro a wx hT hF K hK
    obtain ⟨f9, _⟩ := hF
    have f9 : a.tmps.getD 9 undef = v1 := f9
    refine rely_wp rfl ?_
    exact opr_lenL rfl sagaEl (by rw [eval_tmp, f9]; exact (HV.out.new (NewT.trans _ _ _ HM.out hT))) (hK _ _ (NewT.refl _) rfl)
  · exact fun a wx hT hF K hK => rely_wp rfl (opr_move (.inl rfl) (hK _ _ (NewT.refl _) hF.1))
  · intro a wx hT hF K hK
    obtain ⟨f11, _⟩ := hF
    have f11 : a.tmps.getD 11 undef = v2 := f11
    refine rely_wp rfl ?_
    exact opr_lenL rfl sagaEl (by rw [eval_tmp, f11]; exact (HU.out.new (NewT.trans _ _ _ HM.out hT))) (hK _ _ (NewT.refl _) rfl)
  · exact fun a wx hT hF K hK => rely_wp rfl (opr_cmp (b := ((List.length (L) : Int)) != ((List.length (M) : Int))) (.inr (.inl ⟨rfl, rfl⟩)) Tryd.underlying3 rfl hF.1 hF.2.1 (hK _ _ (NewT.refl _) rfl))
  · intro w1 k1
    iterate 5 (intro u h; obtain rfl := Eq.symm (h (by simp)); clear h)
    refine relyEnd_nil rfl ?_
    refine wpList_end rfl ?_
    simp only [Act.put, List.setIfInBounds_toArray, List.set_cons_zero, List.set_cons_succ]
    go_simp
    replace HM := Lib.hid (NewT.trans _ _ _ HM.out k1)
    clear k1
    by_cases hl : L.length = M.length
    rotate_left
    · have HF := Lib.hid (sameLs_len (d := zU) (e := eqU) hl)
      have t1 : ((L.length : Int) != (M.length : Int)) = true := by simp; omega
      clear hl
      go_wp2
      go_ret
      exact ⟨_, rfl, HM.out, by rw [HF.out]; rfl⟩
    have t1 : ((L.length : Int) != (M.length : Int)) = false := by rw [hl]; simp
    have HLE := Lib.hid hl
    clear hl
    go_upto_region 3 with fail
    refine wp_region_steps0 NewT [SV.eq (v1), SV.eq (.int .i64 ((List.length (L) : Int))), SV.eq (.int .i64 (0))] [([(0, none)], none), ([(14, some 0)], none), ([], none)] 30 3 rfl rfl (by kernel_rfl) NewT.trans (NewT.refl _) (Nat.le_of_ble_eq_true rfl) ⟨?_, ?_, ?_, trivial⟩ ?_
    · exact fun a wx hT hF K hK => rely_wp rfl (opr_move (.inl rfl) (hK _ _ (NewT.refl _) hF.1))
    · intro a wx hT hF K hK
      obtain ⟨f14, _⟩ := hF
      have f14 : a.tmps.getD 14 undef = v1 := f14
      refine rely_wp rfl ?_
      exact opr_lenL rfl sagaEl (by rw [eval_tmp, f14]; exact (HV.out.new (NewT.trans _ _ _ HM.out hT))) (hK _ _ (NewT.refl _) rfl)
    · exact fun a wx hT hF K hK => rely_wp rfl (opr_move (.inl rfl) (hK _ _ (NewT.refl _) rfl))
    · intro w2 k2
      iterate 3 (intro u h; obtain rfl := Eq.symm (h (by simp)); clear h)
      refine relyEnd_nil rfl ?_
      refine wpList_end rfl ?_
      simp only [Act.put, List.setIfInBounds_toArray, List.set_cons_zero, List.set_cons_succ]
      go_simp
      replace HM := Lib.hid (NewT.trans _ _ _ HM.out k2)
      clear k2
      go_wp2
      go_loopw [16] (fun i wr => ∃ k : Nat, k ≤ L.length ∧ i = .int .i64 (k : Int) ∧ Hid (∀ i, i < k → eqU (L.getD i zU) (M.getD i zU) = true) ∧ Hid (NewT w wr)) (fun i _ => L.length - (intOf i).toNat)
      case atStart => exact ⟨0, by omega, rfl, Lib.hid (fun i hi => by omega), Lib.hid (NewT.trans _ _ _ HB.out HM.out)⟩
      case round =>
        clear HM 
        obtain ⟨k, hk, rfl, HA, HM⟩ := hrel
        replace HB := Lib.hid (NewT.refl w)
        have hll := HLL.out
        by_cases hlt : k < L.length
        rotate_left
        · obtain rfl : k = L.length := by omega
          have HF := Lib.hid (sameLs_yes (d := zU) (e := eqU) HLE.out HA.out)
          go_wp2
          go_ret
          exact ⟨_, rfl, HM.out, by rw [HF.out]; rfl⟩
        obtain ⟨p, hp⟩ : ∃ p, L[k]? = some p := ⟨_, List.getElem?_eq_getElem hlt⟩
        obtain ⟨q, hq⟩ : ∃ q, M[k]? = some q := ⟨_, List.getElem?_eq_getElem (by have := HLE.out; omega)⟩
        have HPP := Lib.hid hp
        have HQQ := Lib.hid hq
        have HNX : Hid (eqU p q = true → ∀ i, i < k + 1 → eqU (L.getD i zU) (M.getD i zU) = true) := Lib.hid (fun h i hi => by
          by_cases e : i = k
          · subst e; rw [getD_of hp, getD_of hq]; exact h
          · exact HA.out i (by omega))
        have it : (k : Int) < (L.length : Int) := by omega
        have HIT := Lib.hid it
        clear hp hq HA hlt
        go_upto_region 5 with fail
        refine wp_region_steps0 NewT [SV.eq (.int .i64 ((k : Int))), svEl 10 sgE (p), svSg p.1 p.2] [([(16, none)], none), ([(14, none), (16, none)], none), ([(19, some 1)], none)] 30 3 rfl rfl (by kernel_rfl) NewT.trans (NewT.refl _) (Nat.le_of_ble_eq_true rfl) ⟨?_, ?_, ?_, trivial⟩ ?_
        · exact fun a wx hT hF K hK => rely_wp rfl (opr_move (.inl rfl) (hK _ _ (NewT.refl _) hF.1))
        · intro a wx hT hF K hK
          obtain ⟨f14, f16, _⟩ := hF
          have f14 : a.tmps.getD 14 undef = v1 := f14
          have f16 : a.tmps.getD 16 undef = .int .i64 ((k : Int)) := f16
          refine rely_wp rfl ?_
          exact opr_idxL (i := k) (p := p) sagaEl (HPP.out) (rfl) rfl (by rw [eval_tmp, f14]; exact (HV.out.new (NewT.trans _ _ _ HM.out hT))) f16 (fun v hv => hK v _ (NewT.refl _) hv)
        · exact fun a wx hT hF K hK => rely_wp rfl (opr_ldUg rfl hF.1 (fun u hu => hK u _ (NewT.refl _) hu))
        · intro w3 k3
          intro u h; obtain rfl := Eq.symm (h (by simp)); clear h
          intro _ _
          intro u20 h; have g20 := h (by simp); clear h; replace g20 := show (svSg p.1 p.2).pred u20 w3 from g20
          refine relyEnd_nil rfl ?_
          simp only [Act.put, List.setIfInBounds_toArray, List.set_cons_zero, List.set_cons_succ]
          obtain ⟨sv, rfl, hs⟩ := (show SgV w3 u20 p.1 p.2 from g20)
          refine wpList_newA (n := 10) (f := sgF sv p.2) rfl rfl rfl rfl rfl rfl rfl rfl (by decide) rfl (by first | (simp; done) | simp [Act.put]) (by kernel_rfl) run_alloc_saga info_saga (sgF_one _ _ (oneP hs)) ?_
          intro W3 hn3 rr3
          refine wpList_end rfl ?_
          simp only [Act.put, List.setIfInBounds_toArray, List.set_cons_zero, List.set_cons_succ]
          go_simp
          obtain ⟨g8, h_g8⟩ : ∃ g_, w3.heap.size = g_ := ⟨_, rfl⟩
          rw [h_g8] at rr3
          simp only [h_g8]
          have HGg8 : Hid (w.heap.size ≤ g8) := Lib.hid (by rw [← h_g8]; exact (NewT.trans _ _ _ HM.out k3).out.size)
          have q3 := NewT.trans _ _ _ k3 hn3
          have HS := Lib.hid (hn3.pairs hs)
          clear hs
          clear k3 hn3 h_g8
          replace HM := Lib.hid (NewT.trans _ _ _ HM.out q3)
          clear q3
          have Rg8 := Lib.hid rr3
          clear rr3
          have HV2 := Lib.hid (HV.out.new HM.out)
          have HU2 := Lib.hid (HU.out.new HM.out)
          replace HB := HM
          replace HM := Lib.hid (NewT.refl W3)
          go_upto_region 6 with fail
          refine wp_region_rely (NewT) [SV.eq ((.func (.func 20) #[] #[])), SV.eq (.agg (rowA 10 (sgF sv p.2))), SV.eq (v2), SV.eq (.int .i64 ((k : Int))), svEl 10 sgE (q), svSg q.1 q.2, SV.eq (.bool (sameG p.1 q.1 p.2 q.2))] [([(2, none)], none), ([(8, none)], none), ([(1, none)], none), ([(7, none)], none), ([(23, some 2), (24, some 3)], none), ([(25, some 4)], none), ([(21, some 0), (22, some 1), (26, some 5)], none)] 30 rfl (by kernel_rfl) rfl (by kernel_rfl) (by kernel_rfl) rfl NewT.trans (NewT.drew _) (Nat.le_of_ble_eq_true rfl) ⟨?_, ?_, ?_, ?_, ?_, ?_, ?_, trivial⟩ ?_
          · exact fun a wx hT hF K hK => rely_wp rfl (opr_move (.inl rfl) (hK _ _ (NewT.refl _) hF.1))
          · exact fun a wx hT hF K hK => rely_wp rfl (opr_ldU (hT.row Rg8.out) rfl hF.1 (hK _ _ (NewT.refl _) rfl))
          · exact fun a wx hT hF K hK => rely_wp rfl (opr_move (.inl rfl) (hK _ _ (NewT.refl _) hF.1))
          · exact fun a wx hT hF K hK => rely_wp rfl (opr_move (.inl rfl) (hK _ _ (NewT.refl _) hF.1))
          · intro a wx hT hF K hK
            obtain ⟨f23, f24, _⟩ := hF
            have f23 : a.tmps.getD 23 undef = v2 := f23
            have f24 : a.tmps.getD 24 undef = .int .i64 ((k : Int)) := f24
            refine rely_wp rfl ?_
            exact opr_idxL (i := k) (p := q) sagaEl (HQQ.out) (rfl) rfl (by rw [eval_tmp, f23]; exact (HU2.out.new (NewT.trans _ _ _ HM.out hT))) f24 (fun v hv => hK v _ (NewT.refl _) hv)
          · exact fun a wx hT hF K hK => rely_wp rfl (opr_ldUg rfl hF.1 (fun u hu => hK u _ (NewT.refl _) hu))
          · intro a wx hT hF K hK
            obtain ⟨f21, f22, f26, _⟩ := hF
            have f21 : a.tmps.getD 21 undef = (.func (.func 20) #[] #[]) := f21
            have f22 : a.tmps.getD 22 undef = .agg (rowA 10 (sgF sv p.2)) := f22
            replace f26 := show (svSg q.1 q.2).pred (a.tmps.getD 26 undef) wx from f26
            refine rely_wp rfl ?_
            exact opr_cvW (SameU_cv _ _ p.1 q.1 p.2 q.2 wx ((⟨sv, rfl, ((NewT.trans _ _ _ HM.out hT).pairs HS.out)⟩ : SgV wx _ p.1 p.2)) (f26)) rfl f21 Tryd.func20 (by kernel_rfl) (by kernel_rfl) (by simp only [List.map_toArray, List.map_cons, List.map_nil, eval_tmp, f22]) hK
          · intro w4 k4
            iterate 4 (intro u h; obtain rfl := Eq.symm (h (by simp)); clear h)
            iterate 2 (intro _ _)
            intro u h; obtain rfl := Eq.symm (h (by simp)); clear h
            refine relyEnd_nil rfl ?_
            simp only [Act.put, List.setIfInBounds_toArray, List.set_cons_zero, List.set_cons_succ]
            refine opr_not rfl rfl ?_
            go_simp
            replace Rg8 := Lib.hid (k4.row Rg8.out)
            replace HM := Lib.hid (NewT.trans _ _ _ HM.out k4)
            clear k4
            have HEX : Hid ((!(sameG p.1 q.1 p.2 q.2)) = !eqU p q) := Lib.hid rfl
            cases hb : (!(sameG p.1 q.1 p.2 q.2))
            · have he : eqU p q = true := by have h1 := HEX.out.symm.trans hb; simpa using h1
              have HN := Lib.hid (HNX.out he)
              have hBM := (NewT.trans _ _ _ HB.out HM.out)
              clear hb he HEX HNX
              have it2 := HIT.out
              go_wp2
              go_roundw
              case rel => exact ⟨k + 1, by omega, by go_num, by first | exact HN | trivial, by first | exact Lib.hid hBM | trivial⟩
              case measure => simp [intOf]; omega
            · have he : eqU p q = false := by have h1 := HEX.out.symm.trans hb; simpa using h1
              have HF := Lib.hid (sameLs_no (d := zU) HPP.out HQQ.out he)
              have hBM := (NewT.trans _ _ _ HB.out HM.out)
              clear hb he HEX HNX
              go_wp2
              go_ret
              exact ⟨_, rfl, hBM, by rw [HF.out]; rfl⟩
set_option maxHeartbeats 1000000 in
theorem line1_cv (p q : Int × Int) (w : World) : Cv 26 #[.agg (rowA 2 (stepF p)), .agg (rowA 2 (stepF q))] w (.eq (.bool (eqN p q))) := by
  unfold Cv
  go_enter Tryd.func26, Tryd.ntmps26
  go_upto_region 1 with fail
  have r_g1 := (rowIs_box w 45 2 (stepF p)).alloc (.cells (rowA 2 (stepF q)) 45)
  have r_g2 := rowIs_box (w.alloc (.cells (rowA 2 (stepF p)) 45)) 45 2 (stepF q)
  rw [World.size_alloc] at r_g2
  have hN : NewT w ((w.alloc (.cells (rowA 2 (stepF p)) 45)).alloc (.cells (rowA 2 (stepF q)) 45)) := (NewT.trans _ _ _ (NewT.alloc _ _) (NewT.alloc _ _))
  change Code.wp _ _ _ _ ((w.alloc (.cells (rowA 2 (stepF p)) 45)).alloc (.cells (rowA 2 (stepF q)) 45))
  generalize ((w.alloc (.cells (rowA 2 (stepF p)) 45)).alloc (.cells (rowA 2 (stepF q)) 45)) = W0 at r_g1 r_g2 hN ⊢
  obtain ⟨g1, h_g1⟩ : ∃ g_, w.heap.size = g_ := ⟨_, rfl⟩
  obtain ⟨g2, h_g2⟩ : ∃ g_, w.heap.size + 1 = g_ := ⟨_, rfl⟩
  have HG : Hid (w.heap.size ≤ g1 ∧ g1 < g2) := Lib.hid (by omega)
  rw [h_g1] at r_g1
  rw [h_g2] at r_g2
  try rw [h_g2]
  simp only [h_g1]
  have Rg1 := Lib.hid r_g1
  have Rg2 := Lib.hid r_g2
  have HM := Lib.hid hN
  clear r_g1 r_g2 hN h_g1 h_g2
  go_upto_region 1 with fail
  refine wp_region_steps0 NewT [SV.eq (.agg (rowA 2 (stepF p))), SV.eq (.agg (rowA 2 (stepF q))), SV.eq (.bool (decide (p = q))), SV.eq (.bool (decide (p = q)))] [([(2, none)], none), ([(3, none)], none), ([(5, some 0), (6, some 1)], none), ([(7, some 2)], none)] 8 4 rfl rfl (by kernel_rfl) NewT.trans (NewT.refl _) (Nat.le_of_ble_eq_true rfl) ⟨?_, ?_, ?_, ?_, trivial⟩ ?_
  · exact fun a wx hT hF K hK => rely_wp rfl (opr_ldN (hT.row Rg1.out) rfl hF.1 (hK _ _ (NewT.refl _) rfl))
  · exact fun a wx hT hF K hK => rely_wp rfl (opr_ldN (hT.row Rg2.out) rfl hF.1 (hK _ _ (NewT.refl _) rfl))
  · exact fun a wx hT hF K hK => rely_wp rfl (opr_eqlLn rfl rfl hF.1 hF.2.1 (hK _ _ (NewT.refl _) rfl))
  · exact fun a wx hT hF K hK => rely_wp rfl (opr_move (.inr rfl) (hK _ _ (NewT.refl _) hF.1))
  · intro w1 k1
    iterate 4 (intro u h; obtain rfl := Eq.symm (h (by simp)); clear h)
    refine relyEnd_nil rfl ?_
    refine wpList_end rfl ?_
    simp only [Act.put, List.setIfInBounds_toArray, List.set_cons_zero, List.set_cons_succ]
    go_simp
    replace Rg1 := Lib.hid (k1.row Rg1.out)
    replace Rg2 := Lib.hid (k1.row Rg2.out)
    replace HM := Lib.hid (NewT.trans _ _ _ HM.out k1)
    clear k1
    go_wp2
    go_ret
    exact ⟨_, rfl, HM.out, rfl⟩
set_option maxHeartbeats 4000000 in
theorem sameNL_cv (v1 v2 : Value) (L M : List (Int × Int)) (w : World) (hv : RdN w v1 L) (hu : RdN w v2 M) (hl : L.length ≤ 1000000) : Cv 25 #[v1, v2, .func (.func 26) #[] #[]] w (.eq (.bool (sameLs (0, 0) eqN L M))) := by
  unfold Cv
  have HV := Lib.hid hv
  have HU := Lib.hid hu
  have HLL := Lib.hid hl
  clear hv hu hl
  go_enter Tryd.func25, Tryd.ntmps25
  have HB := Lib.hid (NewT.refl w)
  have HM := Lib.hid (NewT.refl w)
  go_upto_region 1 with fail
  refine wp_region_steps0 NewT [SV.eq (v1), SV.eq (.int .i64 ((List.length (L) : Int))), SV.eq (v2), SV.eq (.int .i64 ((List.length (M) : Int))), SV.eq (.bool (((List.length (L) : Int)) != ((List.length (M) : Int))))] [([(0, none)], none), ([(9, some 0)], none), ([(1, none)], none), ([(11, some 2)], none), ([(10, some 1), (12, some 3)], none)] 30 5 rfl rfl (by kernel_rfl) NewT.trans (NewT.refl _) (Nat.le_of_ble_eq_true rfl) ⟨?_, ?_, ?_, ?_, ?_, trivial⟩ ?_
  · exact fun a wx hT hF K hK => rely_wp rfl (opr_move (.inl rfl) (hK _ _ (NewT.refl _) hF.1))
  · intro a wx hT hF K hK
    obtain ⟨f9, _⟩ := hF
    have f9 : a.tmps.getD 9 undef = v1 := f9
    refine rely_wp rfl ?_
    exact opr_lenL rfl lineEl (by rw [eval_tmp, f9]; exact (HV.out.new (NewT.trans _ _ _ HM.out hT))) (hK _ _ (NewT.refl _) rfl)
  · exact fun a wx hT hF K hK => rely_wp rfl (opr_move (.inl rfl) (hK _ _ (NewT.refl _) hF.1))
  · intro a wx hT hF K hK
    obtain ⟨f11, _⟩ := hF
    have f11 : a.tmps.getD 11 undef = v2 := f11
    refine rely_wp rfl ?_
    exact opr_lenL rfl lineEl (by rw [eval_tmp, f11]; exact (HU.out.new (NewT.trans _ _ _ HM.out hT))) (hK _ _ (NewT.refl _) rfl)
  · exact fun a wx hT hF K hK => rely_wp rfl (opr_cmp (b := ((List.length (L) : Int)) != ((List.length (M) : Int))) (.inr (.inl ⟨rfl, rfl⟩)) Tryd.underlying3 rfl hF.1 hF.2.1 (hK _ _ (NewT.refl _) rfl))
  · intro w1 k1
    iterate 5 (intro u h; obtain rfl := Eq.symm (h (by simp)); clear h)
    refine relyEnd_nil rfl ?_
    refine wpList_end rfl ?_
    simp only [Act.put, List.setIfInBounds_toArray, List.set_cons_zero, List.set_cons_succ]
    go_simp
    replace HM := Lib.hid (NewT.trans _ _ _ HM.out k1)
    clear k1
    by_cases hl : L.length = M.length
    rotate_left
    · have HF := Lib.hid (sameLs_len (d := (0, 0)) (e := eqN) hl)
      have t1 : ((L.length : Int) != (M.length : Int)) = true := by simp; omega
      clear hl
      go_wp2
      go_ret
      exact ⟨_, rfl, HM.out, by rw [HF.out]; rfl⟩
    have t1 : ((L.length : Int) != (M.length : Int)) = false := by rw [hl]; simp
    have HLE := Lib.hid hl
    clear hl
    go_upto_region 3 with fail
    refine wp_region_steps0 NewT [SV.eq (v1), SV.eq (.int .i64 ((List.length (L) : Int))), SV.eq (.int .i64 (0))] [([(0, none)], none), ([(14, some 0)], none), ([], none)] 30 3 rfl rfl (by kernel_rfl) NewT.trans (NewT.refl _) (Nat.le_of_ble_eq_true rfl) ⟨?_, ?_, ?_, trivial⟩ ?_
    · exact fun a wx hT hF K hK => rely_wp rfl (opr_move (.inl rfl) (hK _ _ (NewT.refl _) hF.1))
    · intro a wx hT hF K hK
      obtain ⟨f14, _⟩ := hF
      have f14 : a.tmps.getD 14 undef = v1 := f14
      refine rely_wp rfl ?_
      exact opr_lenL rfl lineEl (by rw [eval_tmp, f14]; exact (HV.out.new (NewT.trans _ _ _ HM.out hT))) (hK _ _ (NewT.refl _) rfl)
    · exact fun a wx hT hF K hK => rely_wp rfl (opr_move (.inl rfl) (hK _ _ (NewT.refl _) rfl))
    · intro w2 k2
      iterate 3 (intro u h; obtain rfl := Eq.symm (h (by simp)); clear h)
      refine relyEnd_nil rfl ?_
      refine wpList_end rfl ?_
      simp only [Act.put, List.setIfInBounds_toArray, List.set_cons_zero, List.set_cons_succ]
      go_simp
      replace HM := Lib.hid (NewT.trans _ _ _ HM.out k2)
      clear k2
      go_wp2
      go_loopw [16] (fun i wr => ∃ k : Nat, k ≤ L.length ∧ i = .int .i64 (k : Int) ∧ Hid (∀ i, i < k → eqN (L.getD i (0, 0)) (M.getD i (0, 0)) = true) ∧ Hid (NewT w wr)) (fun i _ => L.length - (intOf i).toNat)
      case atStart => exact ⟨0, by omega, rfl, Lib.hid (fun i hi => by omega), Lib.hid (NewT.trans _ _ _ HB.out HM.out)⟩
      case round =>
        clear HM 
        obtain ⟨k, hk, rfl, HA, HM⟩ := hrel
        replace HB := Lib.hid (NewT.refl w)
        have hll := HLL.out
        by_cases hlt : k < L.length
        rotate_left
        · obtain rfl : k = L.length := by omega
          have HF := Lib.hid (sameLs_yes (d := (0, 0)) (e := eqN) HLE.out HA.out)
          go_wp2
          go_ret
          exact ⟨_, rfl, HM.out, by rw [HF.out]; rfl⟩
        obtain ⟨p, hp⟩ : ∃ p, L[k]? = some p := ⟨_, List.getElem?_eq_getElem hlt⟩
        obtain ⟨q, hq⟩ : ∃ q, M[k]? = some q := ⟨_, List.getElem?_eq_getElem (by have := HLE.out; omega)⟩
        have HPP := Lib.hid hp
        have HQQ := Lib.hid hq
        have HNX : Hid (eqN p q = true → ∀ i, i < k + 1 → eqN (L.getD i (0, 0)) (M.getD i (0, 0)) = true) := Lib.hid (fun h i hi => by
          by_cases e : i = k
          · subst e; rw [getD_of hp, getD_of hq]; exact h
          · exact HA.out i (by omega))
        have it : (k : Int) < (L.length : Int) := by omega
        have HIT := Lib.hid it
        clear hp hq HA hlt
        go_upto_region 5 with fail
        refine wp_region_steps0 NewT [SV.eq (.int .i64 ((k : Int))), svEl 2 lnE (p), SV.eq ((.agg (rowA 2 (stepF p))))] [([(16, none)], none), ([(14, none), (16, none)], none), ([(19, some 1)], none)] 30 3 rfl rfl (by kernel_rfl) NewT.trans (NewT.refl _) (Nat.le_of_ble_eq_true rfl) ⟨?_, ?_, ?_, trivial⟩ ?_
        · exact fun a wx hT hF K hK => rely_wp rfl (opr_move (.inl rfl) (hK _ _ (NewT.refl _) hF.1))
        · intro a wx hT hF K hK
          obtain ⟨f14, f16, _⟩ := hF
          have f14 : a.tmps.getD 14 undef = v1 := f14
          have f16 : a.tmps.getD 16 undef = .int .i64 ((k : Int)) := f16
          refine rely_wp rfl ?_
          exact opr_idxL (i := k) (p := p) lineEl (HPP.out) (rfl) rfl (by rw [eval_tmp, f14]; exact (HV.out.new (NewT.trans _ _ _ HM.out hT))) f16 (fun v hv => hK v _ (NewT.refl _) hv)
        · exact fun a wx hT hF K hK => rely_wp rfl (opr_ldLn rfl hF.1 (hK _ _ (NewT.refl _) rfl))
        · intro w3 k3
          intro u h; obtain rfl := Eq.symm (h (by simp)); clear h
          intro _ _
          intro u h; obtain rfl := Eq.symm (h (by simp)); clear h
          refine relyEnd_nil rfl ?_
          simp only [Act.put, List.setIfInBounds_toArray, List.set_cons_zero, List.set_cons_succ]
          refine wpList_newA (n := 2) (f := stepF p) rfl rfl rfl rfl rfl rfl rfl rfl (by decide) rfl (by first | (simp; done) | simp [Act.put]) (by kernel_rfl) run_alloc_line info_line (stepF_one _) ?_
          intro W3 hn3 rr3
          refine wpList_end rfl ?_
          simp only [Act.put, List.setIfInBounds_toArray, List.set_cons_zero, List.set_cons_succ]
          go_simp
          obtain ⟨g8, h_g8⟩ : ∃ g_, w3.heap.size = g_ := ⟨_, rfl⟩
          rw [h_g8] at rr3
          simp only [h_g8]
          have HGg8 : Hid (w.heap.size ≤ g8) := Lib.hid (by rw [← h_g8]; exact (NewT.trans _ _ _ HM.out k3).out.size)
          have q3 := NewT.trans _ _ _ k3 hn3
          clear k3 hn3 h_g8
          replace HM := Lib.hid (NewT.trans _ _ _ HM.out q3)
          clear q3
          have Rg8 := Lib.hid rr3
          clear rr3
          have HV2 := Lib.hid (HV.out.new HM.out)
          have HU2 := Lib.hid (HU.out.new HM.out)
          replace HB := HM
          replace HM := Lib.hid (NewT.refl W3)
          go_upto_region 6 with fail
          refine wp_region_rely (NewT) [SV.eq ((.func (.func 26) #[] #[])), SV.eq (.agg (rowA 2 (stepF p))), SV.eq (v2), SV.eq (.int .i64 ((k : Int))), svEl 2 lnE (q), SV.eq ((.agg (rowA 2 (stepF q)))), SV.eq (.bool (eqN p q))] [([(2, none)], none), ([(8, none)], none), ([(1, none)], none), ([(7, none)], none), ([(23, some 2), (24, some 3)], none), ([(25, some 4)], none), ([(21, some 0), (22, some 1), (26, some 5)], none)] 30 rfl (by kernel_rfl) rfl (by kernel_rfl) (by kernel_rfl) rfl NewT.trans (NewT.drew _) (Nat.le_of_ble_eq_true rfl) ⟨?_, ?_, ?_, ?_, ?_, ?_, ?_, trivial⟩ ?_
          · exact fun a wx hT hF K hK => rely_wp rfl (opr_move (.inl rfl) (hK _ _ (NewT.refl _) hF.1))
          · exact fun a wx hT hF K hK => rely_wp rfl (opr_ldN (hT.row Rg8.out) rfl hF.1 (hK _ _ (NewT.refl _) rfl))
          · exact fun a wx hT hF K hK => rely_wp rfl (opr_move (.inl rfl) (hK _ _ (NewT.refl _) hF.1))
          · exact fun a wx hT hF K hK => rely_wp rfl (opr_move (.inl rfl) (hK _ _ (NewT.refl _) hF.1))
          · intro a wx hT hF K hK
            obtain ⟨f23, f24, _⟩ := hF
            have f23 : a.tmps.getD 23 undef = v2 := f23
            have f24 : a.tmps.getD 24 undef = .int .i64 ((k : Int)) := f24
            refine rely_wp rfl ?_
            exact opr_idxL (i := k) (p := q) lineEl (HQQ.out) (rfl) rfl (by rw [eval_tmp, f23]; exact (HU2.out.new (NewT.trans _ _ _ HM.out hT))) f24 (fun v hv => hK v _ (NewT.refl _) hv)
          · exact fun a wx hT hF K hK => rely_wp rfl (opr_ldLn rfl hF.1 (hK _ _ (NewT.refl _) rfl))
          · intro a wx hT hF K hK
            obtain ⟨f21, f22, f26, _⟩ := hF
            have f21 : a.tmps.getD 21 undef = (.func (.func 26) #[] #[]) := f21
            have f22 : a.tmps.getD 22 undef = .agg (rowA 2 (stepF p)) := f22
            have f26 : a.tmps.getD 26 undef = (.agg (rowA 2 (stepF q))) := f26
            refine rely_wp rfl ?_
            exact opr_cvW (line1_cv p q wx) rfl f21 Tryd.func26 (by kernel_rfl) (by kernel_rfl) (by simp only [List.map_toArray, List.map_cons, List.map_nil, eval_tmp, f22, f26]) hK
          · intro w4 k4
            iterate 4 (intro u h; obtain rfl := Eq.symm (h (by simp)); clear h)
            intro _ _
            iterate 2 (intro u h; obtain rfl := Eq.symm (h (by simp)); clear h)
            refine relyEnd_nil rfl ?_
            simp only [Act.put, List.setIfInBounds_toArray, List.set_cons_zero, List.set_cons_succ]
            refine opr_not rfl rfl ?_
            go_simp
            replace Rg8 := Lib.hid (k4.row Rg8.out)
            replace HM := Lib.hid (NewT.trans _ _ _ HM.out k4)
            clear k4
            have HEX : Hid ((!(eqN p q)) = !eqN p q) := Lib.hid rfl
            cases hb : (!(eqN p q))
            · have he : eqN p q = true := by have h1 := HEX.out.symm.trans hb; simpa using h1
              have HN := Lib.hid (HNX.out he)
              have hBM := (NewT.trans _ _ _ HB.out HM.out)
              clear hb he HEX HNX
              have it2 := HIT.out
              go_wp2
              go_roundw
              case rel => exact ⟨k + 1, by omega, by go_num, by first | exact HN | trivial, by first | exact Lib.hid hBM | trivial⟩
              case measure => simp [intOf]; omega
            · have he : eqN p q = false := by have h1 := HEX.out.symm.trans hb; simpa using h1
              have HF := Lib.hid (sameLs_no (d := (0, 0)) HPP.out HQQ.out he)
              have hBM := (NewT.trans _ _ _ HB.out HM.out)
              clear hb he HEX HNX
              go_wp2
              go_ret
              exact ⟨_, rfl, hBM, by rw [HF.out]; rfl⟩
end Go.Proofs.YtilmeffmdgcblaaDoor
