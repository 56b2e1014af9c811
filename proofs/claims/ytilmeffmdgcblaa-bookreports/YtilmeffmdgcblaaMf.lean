/- Package book: a Receipt's way; Go: the book behind a record. -/
import Derived.Test.YtilmeffmdgcblaaMe
import Derived.Test.YtilmeffmdgcblaaMd
set_option linter.all false
namespace Go.Proofs.Ytilmeffmdgcblaa
open Go Go.RowKit
set_option maxRecDepth 8000
set_option linter.all false
set_option maxHeartbeats 4000000 in
theorem isAnswered_c (D : Nat) (w WE : World) (B gb : Nat) (sv xv : Value) (fs : List (Nat → Value)) (bk : Bk) (x : Rc) (lim : Int) (hp : WayPre D w WE B gb sv fs bk) (hx : RecV WE xv x) (hok : OkK bk) (hr : rightB x = true) : Calls Try.prog 61 #[.pointer (some ⟨gb, 0, none⟩), xv, .int .i64 lim] w (WayPost D WE B gb w sv (ansB lim bk x) (ansN2 lim bk x)) := by
  obtain ⟨su, dv, rfl, hsx, hd⟩ := hx
  have HP := Lib.hid hp
  have HSV : Hid (RdU w sv bk.sg) := Lib.hid hp.rd
  have HX : Hid (RecV w (.agg (rowA 109 (recF x su dv))) x) := Lib.hid ⟨su, dv, rfl, hp.elder.pairs hsx, hp.elder.rd hd⟩
  have HSX := Lib.hid (hp.elder.pairs hsx)
  have HD := Lib.hid (hp.elder.rd hd)
  have HSXE := Lib.hid hsx
  have HDE := Lib.hid hd
  clear hsx hd hp
  have Hok := Lib.hid hok
  have Hr := Lib.hid hr
  clear hok hr
  go_enter Try.func61, Try.ntmps61
  go_upto_region 1 with fail
  have r_g4 := rowIs_box w 46 109 (recF x su dv)
  have hN : NewT w (w.alloc (.cells (rowA 109 (recF x su dv)) 46)) := NewT.alloc _ _
  change Code.wp _ _ _ _ (w.alloc (.cells (rowA 109 (recF x su dv)) 46))
  generalize (w.alloc (.cells (rowA 109 (recF x su dv)) 46)) = W0 at r_g4 hN ⊢
  obtain ⟨g4, h_g4⟩ : ∃ g_, w.heap.size = g_ := ⟨_, rfl⟩
  have HG : Hid (w.heap.size ≤ g4) := Lib.hid (by omega)
  rw [h_g4] at r_g4
  simp only [h_g4]
  have Rg4 := Lib.hid r_g4
  have HM := Lib.hid hN
  clear r_g4 hN h_g4
  have HGB : Hid (gb < w.heap.size ∧ B ≤ gb) := Lib.hid ⟨HP.out.row.lt, HP.out.at_⟩
  have Rgb : Hid (W0.rowIs gb 28 5 (bkF bk.ep sv)) := Lib.hid (HM.out.row HP.out.row)
  obtain ⟨b1, hb1⟩ : ∃ b, isFromB bk x = b := ⟨_, rfl⟩
  have HQ := Lib.hid hb1
  clear hb1
  cases b1
  · have HF : Hid (ansB lim bk x = false) := Lib.hid (by unfold ansB; rw [HQ.out]; rfl)
    have HN : Hid (ansN2 lim bk x = bk) := Lib.hid (by unfold ansN2; rw [HF.out, if_neg (by simp)])
    refine wp_region_rely (NewT) [SV.eq (.pointer (some ⟨gb, 0, none⟩)), SV.eq (.pointer (some ⟨gb, 0, none⟩)), SV.eq (.agg (rowA 5 (bkF bk.ep sv))), SV.eq (.agg (rowA 109 (recF x su dv))), SV.eq (.bool false), SV.eq (.bool false), SV.eq (undef), SV.eq (undef), SV.eq (undef), SV.eq (undef), SV.eq (.bool false)] [([(0, none)], none), ([(7, some 0)], none), ([(8, some 1)], none), ([(4, none)], none), ([(9, some 2), (10, some 3)], none), ([(11, some 4)], none), ([(0, none), (12, some 5)], some (12, true)), ([(4, none), (12, some 5)], some (12, true)), ([(2, none), (12, some 5)], some (12, true)), ([(13, some 6), (14, some 7), (15, some 8), (12, some 5)], some (12, true)), ([(12, some 5), (16, some 9)], none)] 18 rfl (by kernel_rfl) rfl (by kernel_rfl) (by kernel_rfl) rfl NewT.trans (NewT.drew _) (Nat.le_of_ble_eq_true rfl) ⟨?_, ?_, ?_, ?_, ?_, ?_, ?_, ?_, ?_, ?_, ?_, trivial⟩ ?_
    · exact fun a wx hT hF K hK => rely_wp rfl (opr_move (.inl rfl) (hK _ _ (NewT.refl _) hF.1))
    · exact fun a wx hT hF K hK => rely_wp rfl (opr_nilc rfl hF.1 (hK _ _ (NewT.refl _) rfl))
    · exact fun a wx hT hF K hK => rely_wp rfl (opr_ldK (hT.row Rgb.out) rfl hF.1 (hK _ _ (NewT.refl _) rfl))
    · exact fun a wx hT hF K hK => rely_wp rfl (opr_ldR (hT.row Rg4.out) rfl hF.1 (hK _ _ (NewT.refl _) rfl))
    · exact fun a wx hT hF K hK => rely_wp rfl (opr_cv (HQ.out ▸ isFrom_cv _ _ bk x wx (⟨sv, rfl, HSV.out.new (NewT.trans _ _ _ HM.out hT)⟩) (((NewT.trans _ _ _ HM.out hT).recV HX.out)) Hr.out) rfl Try.func73 (by kernel_rfl) (by kernel_rfl) (evs2 hF.1 hF.2.1) hK)
    · exact fun a wx hT hF K hK => rely_wp rfl (opr_move (.inl rfl) (hK _ _ (NewT.refl _) hF.1))
    · exact fun a wx hT hF K hK => rely_skip (rely_guard_no hF.2.1 (by decide)) (hK _ _ (NewT.refl _) rfl)
    · exact fun a wx hT hF K hK => rely_skip (rely_guard_no hF.2.1 (by decide)) (hK _ _ (NewT.refl _) rfl)
    · exact fun a wx hT hF K hK => rely_skip (rely_guard_no hF.2.1 (by decide)) (hK _ _ (NewT.refl _) rfl)
    · exact fun a wx hT hF K hK => rely_skip (rely_guard_no hF.2.2.2.1 (by decide)) (hK _ _ (NewT.refl _) rfl)
    · exact fun a wx hT hF K hK => rely_wp rfl (opr_pick_false rfl hF.1 (hK _ _ (NewT.refl _) rfl))
    · intro w1 k1
      iterate 11 (intro u h; obtain rfl := Eq.symm (h (by simp)); clear h)
      refine relyEnd_nil rfl ?_
      simp only [Act.put, List.setIfInBounds_toArray, List.set_cons_zero, List.set_cons_succ]
      refine opr_move (.inr rfl) ?_
      go_simp
      replace Rgb := Lib.hid (k1.row Rgb.out)
      replace Rg4 := Lib.hid (k1.row Rg4.out)
      replace HM := Lib.hid (NewT.trans _ _ _ HM.out k1)
      clear k1
      go_wp2
      go_ret
      exact ⟨sv, by rw [HF.out]; rfl, HM.out.out.mono (Nat.le_trans HP.out.at_ (Nat.le_of_lt HP.out.row.lt)), KeepBut.below HM.out, by rw [HN.out]; exact Rgb.out, by rw [HN.out]; exact wayOut_own HP.out (HP.out.own.new HM.out).rd⟩
  · have HF : Hid (ansB lim bk x = onB lim bk x) := Lib.hid (by unfold ansB; rw [HQ.out]; rfl)
    have HN : Hid (ansN2 lim bk x = onK lim bk x) := Lib.hid (by
      unfold ansN2
      rw [HF.out]
      cases h : onB lim bk x with
      | true => rw [if_pos rfl]
      | false => rw [if_neg (by simp), onK_no h])
    refine wp_region_rely_tail (NewT) [SV.eq (.pointer (some ⟨gb, 0, none⟩)), SV.eq (.pointer (some ⟨gb, 0, none⟩)), SV.eq (.agg (rowA 5 (bkF bk.ep sv))), SV.eq (.agg (rowA 109 (recF x su dv))), SV.eq (.bool true), SV.eq (.bool true), SV.eq (.pointer (some ⟨gb, 0, none⟩)), SV.eq (.agg (rowA 109 (recF x su dv))), SV.eq (.int .i64 (lim))] [([(0, none)], none), ([(7, some 0)], none), ([(8, some 1)], none), ([(4, none)], none), ([(9, some 2), (10, some 3)], none), ([(11, some 4)], none), ([(0, none), (12, some 5)], some (12, true)), ([(4, none), (12, some 5)], some (12, true)), ([(2, none), (12, some 5)], some (12, true))] 18 9 (by kernel_rfl) rfl rfl (Nat.zero_lt_succ _) (by kernel_rfl) (by kernel_rfl) (by kernel_rfl) NewT.trans (NewT.drew _) (Nat.le_of_ble_eq_true rfl) ⟨?_, ?_, ?_, ?_, ?_, ?_, ?_, ?_, ?_, trivial⟩ ?_
    · exact fun a wx hT hF K hK => rely_wp rfl (opr_move (.inl rfl) (hK _ _ (NewT.refl _) hF.1))
    · exact fun a wx hT hF K hK => rely_wp rfl (opr_nilc rfl hF.1 (hK _ _ (NewT.refl _) rfl))
    · exact fun a wx hT hF K hK => rely_wp rfl (opr_ldK (hT.row Rgb.out) rfl hF.1 (hK _ _ (NewT.refl _) rfl))
    · exact fun a wx hT hF K hK => rely_wp rfl (opr_ldR (hT.row Rg4.out) rfl hF.1 (hK _ _ (NewT.refl _) rfl))
    · exact fun a wx hT hF K hK => rely_wp rfl (opr_cv (HQ.out ▸ isFrom_cv _ _ bk x wx (⟨sv, rfl, HSV.out.new (NewT.trans _ _ _ HM.out hT)⟩) (((NewT.trans _ _ _ HM.out hT).recV HX.out)) Hr.out) rfl Try.func73 (by kernel_rfl) (by kernel_rfl) (evs2 hF.1 hF.2.1) hK)
    · exact fun a wx hT hF K hK => rely_wp rfl (opr_move (.inl rfl) (hK _ _ (NewT.refl _) hF.1))
    · exact fun a wx hT hF K hK => rely_wp (rely_guard hF.2.1) (opr_move (.inl rfl) (hK _ _ (NewT.refl _) hF.1))
    · exact fun a wx hT hF K hK => rely_wp (rely_guard hF.2.1) (opr_ldR (hT.row Rg4.out) rfl hF.1 (hK _ _ (NewT.refl _) rfl))
    · exact fun a wx hT hF K hK => rely_wp (rely_guard hF.2.1) (opr_move (.inl rfl) (hK _ _ (NewT.refl _) hF.1))
    · intro w2 k2
      iterate 9 (intro u h; obtain rfl := Eq.symm (h (by simp)); clear h)
      refine relyEnd_nil rfl ?_
      simp only [Act.put, List.setIfInBounds_toArray, List.set_cons_zero, List.set_cons_succ]
      have hNW : NewT w w2 := NewT.trans _ _ _ HM.out k2
      have hpre : WayPre D w2 WE B gb sv fs bk := ⟨HP.out.size, NewT.trans _ _ _ HP.out.elder hNW, k2.row Rgb.out, HP.out.at_, HP.out.own.new hNW, HP.out.apart, HP.out.len, HP.out.els⟩
      refine wpList_yes (by kernel_rfl) (fun K hK => ?_)
      refine opr_callW (vs := #[.pointer (some ⟨gb, 0, none⟩), .agg (rowA 109 (recF x su dv)), .int .i64 lim]) rfl rfl Try.func60 (by kernel_rfl) (by kernel_rfl) (by kernel_rfl) ((goesOn_c D w2 WE B gb sv (.agg (rowA 109 (recF x su dv))) fs bk x lim hpre ⟨su, dv, rfl, HSXE.out, HDE.out⟩ Hok.out Hr.out).mono ?_)
      rintro e w' ⟨sv2, rfl, hB, hK2, hr2, hd2⟩
      refine ⟨_, rfl, hK _ _ ?_⟩
      clear hK K
      simp only [Act.put, List.setIfInBounds_toArray, List.set_cons_zero, List.set_cons_succ]
      refine wpList_plain rfl (fun K hK => ?_)
      refine opr_pick_true rfl rfl (hK _ _ ?_)
      clear hK K
      simp only [Act.put, List.setIfInBounds_toArray, List.set_cons_zero, List.set_cons_succ]
      refine wpList_plain rfl (fun K hK => ?_)
      refine opr_move (.inr rfl) (hK _ _ ?_)
      clear hK K
      refine wpList_end rfl ?_
      simp only [Act.put, List.setIfInBounds_toArray, List.set_cons_zero, List.set_cons_succ]
      go_simp
      go_wp2
      go_ret
      exact ⟨sv2, by rw [HF.out]; rfl, (hNW.out.mono (by have := HGB.out; omega)).trans hB, (KeepBut.below hNW).trans hK2, by rw [HN.out]; exact hr2, by rw [HN.out]; exact hd2.mono hNW.out.size⟩
theorem go_went {lim : Int} {bk : Bk} {x : Rc} {b : Bool} {c d : Bk} (h : goesK lim bk x = b) (hw : wayK lim bk x = c) (hd : (if b = true then c else bk) = d) : wentK lim bk x = d := by
  unfold wentK; rw [h, hw]; exact hd
set_option maxHeartbeats 8000000 in
theorem bGo_cv (D : Nat) (bv xv : Value) (bk : Bk) (x : Rc) (lim : Int) (w : World) (hb : BkVB w D bv bk) (hx : RecV w xv x) (ok : OkK bk) (hD : D ≤ w.heap.size) : Cv 24 #[bv, xv, .int .i64 lim] w (svBkRB D (wentK lim bk x) (.bool (goesK lim bk x))) := by
  unfold Cv
  obtain ⟨sv, rfl, hsv⟩ := hb
  obtain ⟨su, dv, rfl, hsx, hd⟩ := hx
  obtain ⟨_, fs, hfe, hfl, hel⟩ := id hsv
  have HSV := Lib.hid hsv.rd
  have HDW := Lib.hid hD
  have HX : Hid (RecV w (.agg (rowA 109 (recF x su dv))) x) := Lib.hid ⟨su, dv, rfl, hsx, hd⟩
  have HSX := Lib.hid hsx
  have HD := Lib.hid hd
  have HFE := Lib.hid hfe
  have HFN := Lib.hid hfl
  have HEL := Lib.hid hel
  have Hok := Lib.hid ok
  have HFL : Hid (fs.length ≤ 900000) := Lib.hid (by rw [hfl]; have := ok.len; omega)
  have HON : Hid (OneE 10 fs) := Lib.hid (by
    intro f hf j _
    obtain ⟨i, hi, rfl⟩ := List.mem_iff_getElem.1 hf
    obtain ⟨f', h1, sv', h2, h3⟩ := hel i _ (List.getElem?_eq_getElem (by omega))
    rw [List.getElem?_eq_getElem hi] at h1
    cases h1
    rw [h2]
    exact sgF_one sv' _ (oneP h3.1) j)
  clear hsv hsx hd hfe hfl hel ok hD
  go_enter Try.func24, Try.ntmps24
  go_upto_region 1 with fail
  have r_g3 := ((rowIs_box w 28 5 (bkF bk.ep sv)).alloc (.cells (rowA 109 (recF x su dv)) 46)).alloc (.cells (rowA 5 (bkF zK.ep (.slice none 0 0))) 28)
  have r_g4 := (rowIs_box (w.alloc (.cells (rowA 5 (bkF bk.ep sv)) 28)) 46 109 (recF x su dv)).alloc (.cells (rowA 5 (bkF zK.ep (.slice none 0 0))) 28)
  rw [World.size_alloc] at r_g4
  have r_g6 := rowIs_box ((w.alloc (.cells (rowA 5 (bkF bk.ep sv)) 28)).alloc (.cells (rowA 109 (recF x su dv)) 46)) 28 5 (bkF zK.ep (.slice none 0 0))
  rw [World.size_alloc, World.size_alloc] at r_g6
  have hN : NewT w (((w.alloc (.cells (rowA 5 (bkF bk.ep sv)) 28)).alloc (.cells (rowA 109 (recF x su dv)) 46)).alloc (.cells (rowA 5 (bkF zK.ep (.slice none 0 0))) 28)) := (NewT.trans _ _ _ ((NewT.trans _ _ _ (NewT.alloc _ _) (NewT.alloc _ _))) (NewT.alloc _ _))
  change Code.wp _ _ _ _ (((w.alloc (.cells (rowA 5 (bkF bk.ep sv)) 28)).alloc (.cells (rowA 109 (recF x su dv)) 46)).alloc (.cells (rowA 5 (bkF zK.ep (.slice none 0 0))) 28))
  generalize (((w.alloc (.cells (rowA 5 (bkF bk.ep sv)) 28)).alloc (.cells (rowA 109 (recF x su dv)) 46)).alloc (.cells (rowA 5 (bkF zK.ep (.slice none 0 0))) 28)) = W0 at r_g3 r_g4 r_g6 hN ⊢
  obtain ⟨g3, h_g3⟩ : ∃ g_, w.heap.size = g_ := ⟨_, rfl⟩
  obtain ⟨g4, h_g4⟩ : ∃ g_, w.heap.size + 1 = g_ := ⟨_, rfl⟩
  obtain ⟨g6, h_g6⟩ : ∃ g_, w.heap.size + 1 + 1 = g_ := ⟨_, rfl⟩
  have HG : Hid (w.heap.size ≤ g3 ∧ g3 < g4 ∧ g4 < g6) := Lib.hid (by omega)
  rw [h_g3] at r_g3
  rw [h_g4] at r_g4
  rw [h_g6] at r_g6
  try rw [h_g6]
  try rw [h_g4]
  simp only [h_g3]
  have Rg3 := Lib.hid r_g3
  have Rg4 := Lib.hid r_g4
  have Rg6 := Lib.hid r_g6
  have HM := Lib.hid hN
  clear r_g3 r_g4 r_g6 hN h_g3 h_g4 h_g6
  go_upto_region 1 with fail
  refine wp_region_steps0 NewT [SV.eq (.agg (rowA 5 (bkF bk.ep sv)))] [([(3, none)], none)] 33 1 rfl rfl (by kernel_rfl) NewT.trans (NewT.refl _) (Nat.le_of_ble_eq_true rfl) ⟨?_, trivial⟩ ?_
  · exact fun a wx hT hF K hK => rely_wp rfl (opr_ldK (hT.row Rg3.out) rfl hF.1 (hK _ _ (NewT.refl _) rfl))
  · intro w1 k1
    intro u h; obtain rfl := Eq.symm (h (by simp)); clear h
    refine relyEnd_nil rfl ?_
    simp only [Act.put, List.setIfInBounds_toArray, List.set_cons_zero, List.set_cons_succ]
    refine wpList_new (n := 5) (f := bkF bk.ep sv) rfl rfl rfl rfl rfl rfl (by first | (simp; done) | simp [Act.put]) run_alloc_book info_book (bkF_one _ _ HSV.out.one) rfl ?_
    intro W1 hn1 rr1
    refine wpList_end rfl ?_
    simp only [Act.put, List.setIfInBounds_toArray, List.set_cons_zero, List.set_cons_succ]
    go_simp
    obtain ⟨g8, h_g8⟩ : ∃ g_, w1.heap.size = g_ := ⟨_, rfl⟩
    rw [h_g8] at rr1
    simp only [h_g8]
    have HGg8 : Hid (g3 < g8 ∧ g4 < g8 ∧ g6 < g8 ∧ w.heap.size ≤ g8) := Lib.hid (by rw [← h_g8]; exact ⟨(k1.row Rg3.out).lt, (k1.row Rg4.out).lt, (k1.row Rg6.out).lt, (NewT.trans _ _ _ HM.out k1).out.size⟩)
    have q1 := NewT.trans _ _ _ k1 hn1
    clear k1 hn1 h_g8
    replace Rg3 := Lib.hid (q1.row Rg3.out)
    replace Rg4 := Lib.hid (q1.row Rg4.out)
    replace Rg6 := Lib.hid (q1.row Rg6.out)
    replace HM := Lib.hid (NewT.trans _ _ _ HM.out q1)
    clear q1
    have Rg8 := Lib.hid rr1
    clear rr1
    have HG8L : Hid (g8 < W1.heap.size) := Lib.hid Rg8.out.lt
    have HBL : Hid (w.heap.size ≤ W1.heap.size) := Lib.hid HM.out.out.size
    go_upto_region 2 with fail
    refine wp_region_steps0 NewT [SV.eq (.pointer (some ⟨g3, 4, none⟩)), SV.eq (sv), svOwE W1.heap.size fs, SV.eq (.pointer (some ⟨g8, 4, none⟩))] [([(3, none)], none), ([(11, some 0)], none), ([(12, some 1)], none), ([(8, none)], none)] 33 4 rfl rfl (by kernel_rfl) NewT.trans (NewT.refl _) (Nat.le_of_ble_eq_true rfl) ⟨?_, ?_, ?_, ?_, trivial⟩ ?_
    · exact fun a wx hT hF K hK => rely_wp rfl (opr_fldK1 rfl hF.1 (hK _ _ (NewT.refl _) rfl))
    · exact fun a wx hT hF K hK => rely_wp rfl (opr_ldUs (hT.row Rg3.out) (by decide) rfl rfl hF.1 (hK _ _ (NewT.refl _) rfl))
    · exact fun a wx hT hF K hK => rely_wp rfl (opr_cv ((CloneU_cv _ fs wx ((HFE.out.new HM.out).new hT) HON.out HFL.out).mono fun _ _ ⟨v, h1, h2, h3⟩ => ⟨v, h1, h2, h3.mono hT.out.size⟩) rfl Try.func41 (by kernel_rfl) (by kernel_rfl) (evs1 hF.1) hK)
    · exact fun a wx hT hF K hK => rely_wp rfl (opr_fldK1 rfl hF.1 (hK _ _ (NewT.refl _) rfl))
    · intro w2 k2
      iterate 2 (intro u h; obtain rfl := Eq.symm (h (by simp)); clear h)
      intro u13 h; have g13 := h (by simp); clear h; replace g13 := show (svOwE W1.heap.size fs).pred u13 w2 from g13
      intro u h; obtain rfl := Eq.symm (h (by simp)); clear h
      refine relyEnd_nil rfl ?_
      simp only [Act.put, List.setIfInBounds_toArray, List.set_cons_zero, List.set_cons_succ]
      have hOW := (show OwnE 48 10 w2 W1.heap.size u13 fs from g13)
      have hone : Value.oneCell' u13 = true := by obtain ⟨A', c', e, _⟩ := hOW.form; rw [e]; rfl
      refine wpList_plain rfl (fun K hK => ?_)
      refine opr_put1 (g := g8) (o0 := 4) (v := u13) (F := bkF bk.ep u13) rfl rfl rfl (k2.row Rg8.out) (by decide) info_us hone (fun i hi => bs_sg bk.ep sv u13 i hi) ?_
      intro W2 hR2 rr2
      refine hK _ _ ?_
      clear hK K
      refine wpList_end rfl ?_
      simp only [Act.put, List.setIfInBounds_toArray, List.set_cons_zero, List.set_cons_succ]
      go_simp
      replace Rg8 := Lib.hid rr2
      replace Rg3 := Lib.hid (hR2.row (by have h_0 := HG.out; have h_1 := HGg8.out; omega) (k2.row Rg3.out))
      replace Rg4 := Lib.hid (hR2.row (by have h_0 := HG.out; have h_1 := HGg8.out; omega) (k2.row Rg4.out))
      replace Rg6 := Lib.hid (hR2.row (by have h_0 := HG.out; have h_1 := HGg8.out; omega) (k2.row Rg6.out))
      replace HM := Lib.hid (NewT.rt (NewT.trans _ _ _ HM.out k2) hR2 (by have h_0 := HG.out; have h_1 := HGg8.out; omega))
      have HAP : Hid (∀ k, Value.ownBlock u13 = some k → g8 < k ∧ W1.heap.size ≤ k) := Lib.hid (fun k hk => by have h1 := (hOW.lt k hk).1; have h2 := HG8L.out; omega)
      have HOW : Hid (OwnE 48 10 W2 w.heap.size u13 fs) := Lib.hid ((hOW.mono (by have h1 := HBL.out; omega)).rt hR2 (fun e => by have := HAP.out g8 e; omega))
      have HUN := Lib.hid hone
      clear hOW k2 hR2 rr2 hone
      have HUD : Hid (∀ k, Value.ownBlock u13 = some k → D ≤ k) := Lib.hid (fun k hk => Nat.le_trans HDW.out (HOW.out.lt k hk).1)
      go_upto_region 3 with fail
      obtain ⟨q1_3, Q1_3⟩ : ∃ bq_, ((!(inR lim 1 9)) || (!(rightB x))) = bq_ := ⟨_, rfl⟩
      refine wp_region_steps0 NewT [SV.eq (.int .i64 (lim)), SV.eq (.bool (inR lim 1 9)), SV.eq (.bool (!(inR lim 1 9))), SV.eq (.bool (!(inR lim 1 9))), svIf ((!(!(inR lim 1 9)))) (SV.eq (.agg (rowA 109 (recF x su dv)))), svIf ((!(!(inR lim 1 9)))) (SV.eq (.bool (rightB x))), svIf ((!(!(inR lim 1 9)))) (SV.eq (.bool (!(rightB x)))), SV.eq (.bool (q1_3))] [([(2, none)], none), ([(15, some 0)], none), ([(16, some 1)], none), ([(17, some 2)], none), ([(4, none), (18, some 3)], some (18, false)), ([(19, some 4), (18, some 3)], some (18, false)), ([(20, some 5), (18, some 3)], some (18, false)), ([(18, some 3), (21, some 6)], none)] 33 8 rfl rfl (by kernel_rfl) NewT.trans (NewT.refl _) (Nat.le_of_ble_eq_true rfl) ⟨?_, ?_, ?_, ?_, ?_, ?_, ?_, ?_, trivial⟩ ?_
      · exact fun a wx hT hF K hK => rely_wp rfl (opr_move (.inl rfl) (hK _ _ (NewT.refl _) hF.1))
      · exact fun a wx hT hF K hK => rely_wp rfl (opr_cv (bLimit_cv lim wx) rfl Try.func42 (by kernel_rfl) (by kernel_rfl) (evs1 hF.1) hK)
      · exact fun a wx hT hF K hK => rely_wp rfl (opr_not rfl hF.1 (hK _ _ (NewT.refl _) rfl))
      · exact fun a wx hT hF K hK => rely_wp rfl (opr_move (.inl rfl) (hK _ _ (NewT.refl _) hF.1))
      · exact fun a wx hT hF K hK => rely_if (rely_gf hF.2.1) (NewT.refl _) hK fun hE hK => opr_ldR (hT.row Rg4.out) rfl hF.1 (hK _ _ (NewT.refl _) rfl)
      · exact fun a wx hT hF K hK => rely_if (rely_gf hF.2.1) (NewT.refl _) hK fun hE hK => opr_cv (Right_cv _ x wx ((NewT.trans _ _ _ HM.out hT).recV HX.out)) rfl Try.func43 (by kernel_rfl) (by kernel_rfl) (evs1 (hF.1 hE)) hK
      · exact fun a wx hT hF K hK => rely_if (rely_gf hF.2.1) (NewT.refl _) hK fun hE hK => opr_not rfl (hF.1 hE) (hK _ _ (NewT.refl _) rfl)
      · exact fun a wx hT hF K hK => rely_wp rfl (opr_pick_b rfl hF.1 (fun hb => hK _ _ (NewT.refl _) (pn_or1 Q1_3 hb)) (fun hb => hK _ _ (NewT.refl _) (pn_or0 Q1_3 (hF.2.1 (bnot hb)) hb)))
      · intro w3 k3
        iterate 4 (intro u h; obtain rfl := Eq.symm (h (by simp)); clear h)
        iterate 3 (intro _ _)
        intro u h; obtain rfl := Eq.symm (h (by simp)); clear h
        subst Q1_3
        refine relyEnd_nil rfl ?_
        refine wpList_end rfl ?_
        simp only [Act.put, List.setIfInBounds_toArray, List.set_cons_zero, List.set_cons_succ]
        go_simp
        replace HOW := Lib.hid (HOW.out.new k3)
        replace Rg3 := Lib.hid (k3.row Rg3.out)
        replace Rg4 := Lib.hid (k3.row Rg4.out)
        replace Rg6 := Lib.hid (k3.row Rg6.out)
        replace Rg8 := Lib.hid (k3.row Rg8.out)
        replace HM := Lib.hid (NewT.trans _ _ _ HM.out k3)
        clear k3
        cases hq : (((!(inR lim 1 9)) || (!(rightB x))))
        · have hq2 : inR lim 1 9 = true ∧ rightB x = true := by
            simp only [Bool.or_eq_false_iff, Bool.not_eq_false'] at hq
            exact hq
          have Hr := Lib.hid hq2.2
          have HL9 := Lib.hid hq2.1
          have HKD : Hid (1 ≤ x.kind ∧ x.kind ≤ 6) := Lib.hid (right_kind x hq2.2)
          clear hq hq2
          by_cases h1 : x.kind = 1
          · have HK1 := Lib.hid h1
            have HWF : Hid (wayF x.kind = 59) := Lib.hid (by rw [h1]; rfl)
            clear h1
            go_upto_region 5 with fail
            refine wp_region_rely_tail (NewT) [svWays, SV.eq (.pointer (some ⟨g4, 0, none⟩)), SV.eq (.int .i64 (x.kind)), SV.eq ((.func (.func 59) #[] #[])), SV.eq (.agg (rowA 109 (recF x su dv))), SV.eq (.int .i64 (lim))] [([], none), ([(4, none)], none), ([(25, some 1)], none), ([(24, some 0), (26, some 2)], none), ([(4, none)], none), ([(2, none)], none)] 33 6 (by kernel_rfl) rfl rfl (Nat.zero_lt_succ _) (by kernel_rfl) (by kernel_rfl) (by kernel_rfl) NewT.trans (NewT.drew _) (Nat.le_of_ble_eq_true rfl) ⟨?_, ?_, ?_, ?_, ?_, ?_, trivial⟩ ?_
            · exact fun a wx hT hF K hK => rely_wp rfl (opr_cv (ways_cv wx) rfl Try.func44 (by kernel_rfl) (by kernel_rfl) evs0 hK)
            · exact fun a wx hT hF K hK => rely_wp rfl (opr_fldR (by decide) rfl hF.1 (hK _ _ (NewT.refl _) rfl))
            · exact fun a wx hT hF K hK => rely_wp rfl (opr_ldI (hT.row Rg4.out) (by decide) rfl rfl hF.1 (hK _ _ (NewT.refl _) rfl))
            · exact fun a wx hT hF K hK => rely_wp rfl (opr_lookW HWF.out HKD.out rfl hF.1 hF.2.1 (hK _ _ (NewT.refl _) rfl))
            · exact fun a wx hT hF K hK => rely_wp rfl (opr_ldR (hT.row Rg4.out) rfl hF.1 (hK _ _ (NewT.refl _) rfl))
            · exact fun a wx hT hF K hK => rely_wp rfl (opr_move (.inl rfl) (hK _ _ (NewT.refl _) hF.1))
            · intro w4 k4
              intro _ _
              iterate 5 (intro u h; obtain rfl := Eq.symm (h (by simp)); clear h)
              refine relyEnd_nil rfl ?_
              simp only [Act.put, List.setIfInBounds_toArray, List.set_cons_zero, List.set_cons_succ]
              have hNW : NewT w w4 := NewT.trans _ _ _ HM.out k4
              have hOW : OwnE 48 10 w4 w.heap.size u13 fs := HOW.out.new k4
              have hpre : WayPre D w4 w w.heap.size g8 u13 fs bk := ⟨Nat.le_refl _, hNW, k4.row Rg8.out, by have h1 := HG.out; have h2 := HGg8.out; omega, hOW, fun k hk => (HAP.out k hk).1, HFN.out, HEL.out⟩
              refine wpList_plain rfl (fun K hK => ?_)
              refine opr_callW (vs := #[.pointer (some ⟨g8, 0, none⟩), .agg (rowA 109 (recF x su dv)), .int .i64 lim]) rfl rfl Try.func59 (by kernel_rfl) (by kernel_rfl) (by kernel_rfl) ((begins_c D w4 w w.heap.size g8 u13 (.agg (rowA 109 (recF x su dv))) fs bk x lim hpre HX.out (by have := Hok.out.len; omega)).mono ?_)
              rintro e w' ⟨sv2, rfl, hB, hK2, hr2, hd2⟩
              refine ⟨_, rfl, hK _ _ ?_⟩
              clear hK K
              simp only [Act.put, List.setIfInBounds_toArray, List.set_cons_zero, List.set_cons_succ]
              refine wpList_plain rfl (fun K hK => ?_)
              refine opr_move (.inr rfl) (hK _ _ ?_)
              clear hK K
              refine wpList_end rfl ?_
              simp only [Act.put, List.setIfInBounds_toArray, List.set_cons_zero, List.set_cons_succ]
              go_simp
              have hN2 : NewT w w' := hNW.out.trans hB
              have hg6n : Value.ownBlock u13 ≠ some g6 := fun e => by have h1 := HGg8.out; have h2 := HAP.out g6 e; omega
              have hg6l : g6 < w4.heap.size := (k4.row Rg6.out).lt
              have hg6 := hK2.row (b := g6) (by
                cases hu : Value.ownBlock u13 with
                | none => simp; have h1 := HGg8.out; omega
                | some c => simp; have h1 := HGg8.out; have h2 := HAP.out c hu; omega) (k4.row Rg6.out)
              have HD2 := Lib.hid hd2
              have HR2 := Lib.hid hr2
              have HU2 : Hid (RdU w' sv2 (begN bk x).sg) := Lib.hid ((hd2.rd hN2 (Nat.le_trans HDW.out hNW.out.size) HUD.out).rd)
              have HB6 : Hid (goesK lim bk x = begB bk x) := Lib.hid (by unfold goesK wayB; rw [HL9.out, Hr.out, if_pos HK1.out]; rfl)
              have HW6 : Hid (wentK lim bk x = begN bk x) := Lib.hid (go_went (c := begK bk x) HB6.out (by unfold wayK; rw [if_pos HK1.out]) (rfl))
              clear hB hK2 hOW hpre hr2 hd2
              go_upto_region 6 with fail
              refine wp_region_steps0 NewT [SV.eq (.agg (rowA 5 (bkF ((begN bk x)).ep sv2))), SV.eq (.bool (begB bk x))] [([(8, none)], none), ([(9, none)], none)] 33 2 rfl rfl (by kernel_rfl) NewT.trans (NewT.refl _) (Nat.le_of_ble_eq_true rfl) ⟨?_, ?_, trivial⟩ ?_
              · exact fun a wx hT hF K hK => rely_wp rfl (opr_ldK (hT.row HR2.out) rfl hF.1 (hK _ _ (NewT.refl _) rfl))
              · exact fun a wx hT hF K hK => rely_wp rfl (opr_move (.inl rfl) (hK _ _ (NewT.refl _) hF.1))
              · intro w9 k9
                iterate 2 (intro u h; obtain rfl := Eq.symm (h (by simp)); clear h)
                refine relyEnd_nil rfl ?_
                simp only [Act.put, List.setIfInBounds_toArray, List.set_cons_zero, List.set_cons_succ]
                refine wpList_plain rfl (fun K hK => ?_)
                refine opr_putm (g := g6) (o0 := 0) (m := 5) (f := bkF (begN bk x).ep sv2) (F := bkF (begN bk x).ep sv2) rfl rfl rfl (k9.row hg6) (by decide) info_book (bkF_one _ _ HU2.out.one) (put_allN _ _ _) ?_
                intro W9 hR9 rr9
                refine hK _ _ ?_
                clear hK K
                simp only [Act.put, List.setIfInBounds_toArray, List.set_cons_zero, List.set_cons_succ]
                refine wpList_plain rfl (fun K hK => ?_)
                refine opr_move (.inr rfl) (hK _ _ ?_)
                clear hK K
                refine wpList_end rfl ?_
                simp only [Act.put, List.setIfInBounds_toArray, List.set_cons_zero, List.set_cons_succ]
                go_simp
                go_wp2
                have hN9 : NewT w W9 := NewT.rt (NewT.trans _ _ _ hN2 k9) hR9 (by have := HG.out; omega)
                exact bodyPost_ret (results_rt rfl rfl rfl rr9 Try.underlying28 rfl info_book) rfl ⟨_, rfl, hN9, .agg (rowA 5 (bkF (begN bk x).ep sv2)), by first | (rw [HB6.out]; done) | (rw [HB6.out]; rfl), sv2, by rw [HW6.out], by rw [HW6.out]; exact (HD2.out.new k9).rt hR9 hg6n hg6l hN9 (Nat.le_trans HDW.out hNW.out.size) HUD.out⟩
          by_cases h3 : x.kind = 3
          · have HK3 := Lib.hid h3
            have HWF : Hid (wayF x.kind = 61) := Lib.hid (by rw [h3]; rfl)
            clear h1 h3
            go_upto_region 5 with fail
            refine wp_region_rely_tail (NewT) [svWays, SV.eq (.pointer (some ⟨g4, 0, none⟩)), SV.eq (.int .i64 (x.kind)), SV.eq ((.func (.func 61) #[] #[])), SV.eq (.agg (rowA 109 (recF x su dv))), SV.eq (.int .i64 (lim))] [([], none), ([(4, none)], none), ([(25, some 1)], none), ([(24, some 0), (26, some 2)], none), ([(4, none)], none), ([(2, none)], none)] 33 6 (by kernel_rfl) rfl rfl (Nat.zero_lt_succ _) (by kernel_rfl) (by kernel_rfl) (by kernel_rfl) NewT.trans (NewT.drew _) (Nat.le_of_ble_eq_true rfl) ⟨?_, ?_, ?_, ?_, ?_, ?_, trivial⟩ ?_
            · exact fun a wx hT hF K hK => rely_wp rfl (opr_cv (ways_cv wx) rfl Try.func44 (by kernel_rfl) (by kernel_rfl) evs0 hK)
            · exact fun a wx hT hF K hK => rely_wp rfl (opr_fldR (by decide) rfl hF.1 (hK _ _ (NewT.refl _) rfl))
            · exact fun a wx hT hF K hK => rely_wp rfl (opr_ldI (hT.row Rg4.out) (by decide) rfl rfl hF.1 (hK _ _ (NewT.refl _) rfl))
            · exact fun a wx hT hF K hK => rely_wp rfl (opr_lookW HWF.out HKD.out rfl hF.1 hF.2.1 (hK _ _ (NewT.refl _) rfl))
            · exact fun a wx hT hF K hK => rely_wp rfl (opr_ldR (hT.row Rg4.out) rfl hF.1 (hK _ _ (NewT.refl _) rfl))
            · exact fun a wx hT hF K hK => rely_wp rfl (opr_move (.inl rfl) (hK _ _ (NewT.refl _) hF.1))
            · intro w5 k5
              intro _ _
              iterate 5 (intro u h; obtain rfl := Eq.symm (h (by simp)); clear h)
              refine relyEnd_nil rfl ?_
              simp only [Act.put, List.setIfInBounds_toArray, List.set_cons_zero, List.set_cons_succ]
              have hNW : NewT w w5 := NewT.trans _ _ _ HM.out k5
              have hOW : OwnE 48 10 w5 w.heap.size u13 fs := HOW.out.new k5
              have hpre : WayPre D w5 w w.heap.size g8 u13 fs bk := ⟨Nat.le_refl _, hNW, k5.row Rg8.out, by have h1 := HG.out; have h2 := HGg8.out; omega, hOW, fun k hk => (HAP.out k hk).1, HFN.out, HEL.out⟩
              refine wpList_plain rfl (fun K hK => ?_)
              refine opr_callW (vs := #[.pointer (some ⟨g8, 0, none⟩), .agg (rowA 109 (recF x su dv)), .int .i64 lim]) rfl rfl Try.func61 (by kernel_rfl) (by kernel_rfl) (by kernel_rfl) ((isAnswered_c D w5 w w.heap.size g8 u13 (.agg (rowA 109 (recF x su dv))) fs bk x lim hpre HX.out Hok.out Hr.out).mono ?_)
              rintro e w' ⟨sv2, rfl, hB, hK2, hr2, hd2⟩
              refine ⟨_, rfl, hK _ _ ?_⟩
              clear hK K
              simp only [Act.put, List.setIfInBounds_toArray, List.set_cons_zero, List.set_cons_succ]
              refine wpList_plain rfl (fun K hK => ?_)
              refine opr_move (.inr rfl) (hK _ _ ?_)
              clear hK K
              refine wpList_end rfl ?_
              simp only [Act.put, List.setIfInBounds_toArray, List.set_cons_zero, List.set_cons_succ]
              go_simp
              have hN2 : NewT w w' := hNW.out.trans hB
              have hg6n : Value.ownBlock u13 ≠ some g6 := fun e => by have h1 := HGg8.out; have h2 := HAP.out g6 e; omega
              have hg6l : g6 < w5.heap.size := (k5.row Rg6.out).lt
              have hg6 := hK2.row (b := g6) (by
                cases hu : Value.ownBlock u13 with
                | none => simp; have h1 := HGg8.out; omega
                | some c => simp; have h1 := HGg8.out; have h2 := HAP.out c hu; omega) (k5.row Rg6.out)
              have HD2 := Lib.hid hd2
              have HR2 := Lib.hid hr2
              have HU2 : Hid (RdU w' sv2 (ansN2 lim bk x).sg) := Lib.hid ((hd2.rd hN2 (Nat.le_trans HDW.out hNW.out.size) HUD.out).rd)
              have HB6 : Hid (goesK lim bk x = ansB lim bk x) := Lib.hid (by unfold goesK wayB; rw [HL9.out, Hr.out, if_neg (by have := HK3.out; omega), if_pos HK3.out]; rfl)
              have HW6 : Hid (wentK lim bk x = ansN2 lim bk x) := Lib.hid (go_went (c := onK lim bk x) HB6.out (by unfold wayK; rw [if_neg (by have := HK3.out; omega), if_neg (by have := HK3.out; omega)]) (rfl))
              clear hB hK2 hOW hpre hr2 hd2
              go_upto_region 6 with fail
              refine wp_region_steps0 NewT [SV.eq (.agg (rowA 5 (bkF ((ansN2 lim bk x)).ep sv2))), SV.eq (.bool (ansB lim bk x))] [([(8, none)], none), ([(9, none)], none)] 33 2 rfl rfl (by kernel_rfl) NewT.trans (NewT.refl _) (Nat.le_of_ble_eq_true rfl) ⟨?_, ?_, trivial⟩ ?_
              · exact fun a wx hT hF K hK => rely_wp rfl (opr_ldK (hT.row HR2.out) rfl hF.1 (hK _ _ (NewT.refl _) rfl))
              · exact fun a wx hT hF K hK => rely_wp rfl (opr_move (.inl rfl) (hK _ _ (NewT.refl _) hF.1))
              · intro w9 k9
                iterate 2 (intro u h; obtain rfl := Eq.symm (h (by simp)); clear h)
                refine relyEnd_nil rfl ?_
                simp only [Act.put, List.setIfInBounds_toArray, List.set_cons_zero, List.set_cons_succ]
                refine wpList_plain rfl (fun K hK => ?_)
                refine opr_putm (g := g6) (o0 := 0) (m := 5) (f := bkF (ansN2 lim bk x).ep sv2) (F := bkF (ansN2 lim bk x).ep sv2) rfl rfl rfl (k9.row hg6) (by decide) info_book (bkF_one _ _ HU2.out.one) (put_allN _ _ _) ?_
                intro W9 hR9 rr9
                refine hK _ _ ?_
                clear hK K
                simp only [Act.put, List.setIfInBounds_toArray, List.set_cons_zero, List.set_cons_succ]
                refine wpList_plain rfl (fun K hK => ?_)
                refine opr_move (.inr rfl) (hK _ _ ?_)
                clear hK K
                refine wpList_end rfl ?_
                simp only [Act.put, List.setIfInBounds_toArray, List.set_cons_zero, List.set_cons_succ]
                go_simp
                go_wp2
                have hN9 : NewT w W9 := NewT.rt (NewT.trans _ _ _ hN2 k9) hR9 (by have := HG.out; omega)
                exact bodyPost_ret (results_rt rfl rfl rfl rr9 Try.underlying28 rfl info_book) rfl ⟨_, rfl, hN9, .agg (rowA 5 (bkF (ansN2 lim bk x).ep sv2)), by first | (rw [HB6.out]; done) | (rw [HB6.out]; rfl), sv2, by rw [HW6.out], by rw [HW6.out]; exact (HD2.out.new k9).rt hR9 hg6n hg6l hN9 (Nat.le_trans HDW.out hNW.out.size) HUD.out⟩
          by_cases h6 : x.kind = 6
          · have HK6 := Lib.hid h6
            have HWF : Hid (wayF x.kind = 62) := Lib.hid (by rw [h6]; rfl)
            clear h1 h3 h6
            go_upto_region 5 with fail
            refine wp_region_rely_tail (NewT) [svWays, SV.eq (.pointer (some ⟨g4, 0, none⟩)), SV.eq (.int .i64 (x.kind)), SV.eq ((.func (.func 62) #[] #[])), SV.eq (.agg (rowA 109 (recF x su dv))), SV.eq (.int .i64 (lim))] [([], none), ([(4, none)], none), ([(25, some 1)], none), ([(24, some 0), (26, some 2)], none), ([(4, none)], none), ([(2, none)], none)] 33 6 (by kernel_rfl) rfl rfl (Nat.zero_lt_succ _) (by kernel_rfl) (by kernel_rfl) (by kernel_rfl) NewT.trans (NewT.drew _) (Nat.le_of_ble_eq_true rfl) ⟨?_, ?_, ?_, ?_, ?_, ?_, trivial⟩ ?_
            · exact fun a wx hT hF K hK => rely_wp rfl (opr_cv (ways_cv wx) rfl Try.func44 (by kernel_rfl) (by kernel_rfl) evs0 hK)
            · exact fun a wx hT hF K hK => rely_wp rfl (opr_fldR (by decide) rfl hF.1 (hK _ _ (NewT.refl _) rfl))
            · exact fun a wx hT hF K hK => rely_wp rfl (opr_ldI (hT.row Rg4.out) (by decide) rfl rfl hF.1 (hK _ _ (NewT.refl _) rfl))
            · exact fun a wx hT hF K hK => rely_wp rfl (opr_lookW HWF.out HKD.out rfl hF.1 hF.2.1 (hK _ _ (NewT.refl _) rfl))
            · exact fun a wx hT hF K hK => rely_wp rfl (opr_ldR (hT.row Rg4.out) rfl hF.1 (hK _ _ (NewT.refl _) rfl))
            · exact fun a wx hT hF K hK => rely_wp rfl (opr_move (.inl rfl) (hK _ _ (NewT.refl _) hF.1))
            · intro w6 k6
              intro _ _
              iterate 5 (intro u h; obtain rfl := Eq.symm (h (by simp)); clear h)
              refine relyEnd_nil rfl ?_
              simp only [Act.put, List.setIfInBounds_toArray, List.set_cons_zero, List.set_cons_succ]
              have hNW : NewT w w6 := NewT.trans _ _ _ HM.out k6
              have hOW : OwnE 48 10 w6 w.heap.size u13 fs := HOW.out.new k6
              have hpre : WayPre D w6 w w.heap.size g8 u13 fs bk := ⟨Nat.le_refl _, hNW, k6.row Rg8.out, by have h1 := HG.out; have h2 := HGg8.out; omega, hOW, fun k hk => (HAP.out k hk).1, HFN.out, HEL.out⟩
              refine wpList_plain rfl (fun K hK => ?_)
              refine opr_callW (vs := #[.pointer (some ⟨g8, 0, none⟩), .agg (rowA 109 (recF x su dv)), .int .i64 lim]) rfl rfl Try.func62 (by kernel_rfl) (by kernel_rfl) (by kernel_rfl) ((rotates_c D w6 w w.heap.size g8 u13 (.agg (rowA 109 (recF x su dv))) fs bk x lim hpre HX.out Hok.out Hr.out).mono ?_)
              rintro e w' ⟨sv2, rfl, hB, hK2, hr2, hd2⟩
              refine ⟨_, rfl, hK _ _ ?_⟩
              clear hK K
              simp only [Act.put, List.setIfInBounds_toArray, List.set_cons_zero, List.set_cons_succ]
              refine wpList_plain rfl (fun K hK => ?_)
              refine opr_move (.inr rfl) (hK _ _ ?_)
              clear hK K
              refine wpList_end rfl ?_
              simp only [Act.put, List.setIfInBounds_toArray, List.set_cons_zero, List.set_cons_succ]
              go_simp
              have hN2 : NewT w w' := hNW.out.trans hB
              have hg6n : Value.ownBlock u13 ≠ some g6 := fun e => by have h1 := HGg8.out; have h2 := HAP.out g6 e; omega
              have hg6l : g6 < w6.heap.size := (k6.row Rg6.out).lt
              have hg6 := hK2.row (b := g6) (by
                cases hu : Value.ownBlock u13 with
                | none => simp; have h1 := HGg8.out; omega
                | some c => simp; have h1 := HGg8.out; have h2 := HAP.out c hu; omega) (k6.row Rg6.out)
              have HD2 := Lib.hid hd2
              have HR2 := Lib.hid hr2
              have HU2 : Hid (RdU w' sv2 (rotN bk x).sg) := Lib.hid ((hd2.rd hN2 (Nat.le_trans HDW.out hNW.out.size) HUD.out).rd)
              have HB6 : Hid (goesK lim bk x = rotB bk x) := Lib.hid (by unfold goesK wayB; rw [HL9.out, Hr.out, if_neg (by have := HK6.out; omega), if_neg (by have := HK6.out; omega), if_pos HK6.out]; rfl)
              have HW6 : Hid (wentK lim bk x = rotN bk x) := Lib.hid (go_went (c := rotK bk x) HB6.out (by unfold wayK; rw [if_neg (by have := HK6.out; omega), if_pos HK6.out]) (rfl))
              clear hB hK2 hOW hpre hr2 hd2
              go_upto_region 6 with fail
              refine wp_region_steps0 NewT [SV.eq (.agg (rowA 5 (bkF ((rotN bk x)).ep sv2))), SV.eq (.bool (rotB bk x))] [([(8, none)], none), ([(9, none)], none)] 33 2 rfl rfl (by kernel_rfl) NewT.trans (NewT.refl _) (Nat.le_of_ble_eq_true rfl) ⟨?_, ?_, trivial⟩ ?_
              · exact fun a wx hT hF K hK => rely_wp rfl (opr_ldK (hT.row HR2.out) rfl hF.1 (hK _ _ (NewT.refl _) rfl))
              · exact fun a wx hT hF K hK => rely_wp rfl (opr_move (.inl rfl) (hK _ _ (NewT.refl _) hF.1))
              · intro w9 k9
                iterate 2 (intro u h; obtain rfl := Eq.symm (h (by simp)); clear h)
                refine relyEnd_nil rfl ?_
                simp only [Act.put, List.setIfInBounds_toArray, List.set_cons_zero, List.set_cons_succ]
                refine wpList_plain rfl (fun K hK => ?_)
                refine opr_putm (g := g6) (o0 := 0) (m := 5) (f := bkF (rotN bk x).ep sv2) (F := bkF (rotN bk x).ep sv2) rfl rfl rfl (k9.row hg6) (by decide) info_book (bkF_one _ _ HU2.out.one) (put_allN _ _ _) ?_
                intro W9 hR9 rr9
                refine hK _ _ ?_
                clear hK K
                simp only [Act.put, List.setIfInBounds_toArray, List.set_cons_zero, List.set_cons_succ]
                refine wpList_plain rfl (fun K hK => ?_)
                refine opr_move (.inr rfl) (hK _ _ ?_)
                clear hK K
                refine wpList_end rfl ?_
                simp only [Act.put, List.setIfInBounds_toArray, List.set_cons_zero, List.set_cons_succ]
                go_simp
                go_wp2
                have hN9 : NewT w W9 := NewT.rt (NewT.trans _ _ _ hN2 k9) hR9 (by have := HG.out; omega)
                exact bodyPost_ret (results_rt rfl rfl rfl rr9 Try.underlying28 rfl info_book) rfl ⟨_, rfl, hN9, .agg (rowA 5 (bkF (rotN bk x).ep sv2)), by first | (rw [HB6.out]; done) | (rw [HB6.out]; rfl), sv2, by rw [HW6.out], by rw [HW6.out]; exact (HD2.out.new k9).rt hR9 hg6n hg6l hN9 (Nat.le_trans HDW.out hNW.out.size) HUD.out⟩
          have HKO : Hid (x.kind ≠ 1 ∧ x.kind ≠ 3 ∧ x.kind ≠ 6) := Lib.hid ⟨h1, h3, h6⟩
          have HWF : Hid (wayF x.kind = 60) := Lib.hid (by unfold wayF; rw [if_neg h1, if_neg h3, if_neg h6])
          clear h1 h3 h6
          go_upto_region 5 with fail
          refine wp_region_rely_tail (NewT) [svWays, SV.eq (.pointer (some ⟨g4, 0, none⟩)), SV.eq (.int .i64 (x.kind)), SV.eq ((.func (.func 60) #[] #[])), SV.eq (.agg (rowA 109 (recF x su dv))), SV.eq (.int .i64 (lim))] [([], none), ([(4, none)], none), ([(25, some 1)], none), ([(24, some 0), (26, some 2)], none), ([(4, none)], none), ([(2, none)], none)] 33 6 (by kernel_rfl) rfl rfl (Nat.zero_lt_succ _) (by kernel_rfl) (by kernel_rfl) (by kernel_rfl) NewT.trans (NewT.drew _) (Nat.le_of_ble_eq_true rfl) ⟨?_, ?_, ?_, ?_, ?_, ?_, trivial⟩ ?_
          · exact fun a wx hT hF K hK => rely_wp rfl (opr_cv (ways_cv wx) rfl Try.func44 (by kernel_rfl) (by kernel_rfl) evs0 hK)
          · exact fun a wx hT hF K hK => rely_wp rfl (opr_fldR (by decide) rfl hF.1 (hK _ _ (NewT.refl _) rfl))
          · exact fun a wx hT hF K hK => rely_wp rfl (opr_ldI (hT.row Rg4.out) (by decide) rfl rfl hF.1 (hK _ _ (NewT.refl _) rfl))
          · exact fun a wx hT hF K hK => rely_wp rfl (opr_lookW HWF.out HKD.out rfl hF.1 hF.2.1 (hK _ _ (NewT.refl _) rfl))
          · exact fun a wx hT hF K hK => rely_wp rfl (opr_ldR (hT.row Rg4.out) rfl hF.1 (hK _ _ (NewT.refl _) rfl))
          · exact fun a wx hT hF K hK => rely_wp rfl (opr_move (.inl rfl) (hK _ _ (NewT.refl _) hF.1))
          · intro w7 k7
            intro _ _
            iterate 5 (intro u h; obtain rfl := Eq.symm (h (by simp)); clear h)
            refine relyEnd_nil rfl ?_
            simp only [Act.put, List.setIfInBounds_toArray, List.set_cons_zero, List.set_cons_succ]
            have hNW : NewT w w7 := NewT.trans _ _ _ HM.out k7
            have hOW : OwnE 48 10 w7 w.heap.size u13 fs := HOW.out.new k7
            have hpre : WayPre D w7 w w.heap.size g8 u13 fs bk := ⟨Nat.le_refl _, hNW, k7.row Rg8.out, by have h1 := HG.out; have h2 := HGg8.out; omega, hOW, fun k hk => (HAP.out k hk).1, HFN.out, HEL.out⟩
            refine wpList_plain rfl (fun K hK => ?_)
            refine opr_callW (vs := #[.pointer (some ⟨g8, 0, none⟩), .agg (rowA 109 (recF x su dv)), .int .i64 lim]) rfl rfl Try.func60 (by kernel_rfl) (by kernel_rfl) (by kernel_rfl) ((goesOn_c D w7 w w.heap.size g8 u13 (.agg (rowA 109 (recF x su dv))) fs bk x lim hpre HX.out Hok.out Hr.out).mono ?_)
            rintro e w' ⟨sv2, rfl, hB, hK2, hr2, hd2⟩
            refine ⟨_, rfl, hK _ _ ?_⟩
            clear hK K
            simp only [Act.put, List.setIfInBounds_toArray, List.set_cons_zero, List.set_cons_succ]
            refine wpList_plain rfl (fun K hK => ?_)
            refine opr_move (.inr rfl) (hK _ _ ?_)
            clear hK K
            refine wpList_end rfl ?_
            simp only [Act.put, List.setIfInBounds_toArray, List.set_cons_zero, List.set_cons_succ]
            go_simp
            have hN2 : NewT w w' := hNW.out.trans hB
            have hg6n : Value.ownBlock u13 ≠ some g6 := fun e => by have h1 := HGg8.out; have h2 := HAP.out g6 e; omega
            have hg6l : g6 < w7.heap.size := (k7.row Rg6.out).lt
            have hg6 := hK2.row (b := g6) (by
              cases hu : Value.ownBlock u13 with
              | none => simp; have h1 := HGg8.out; omega
              | some c => simp; have h1 := HGg8.out; have h2 := HAP.out c hu; omega) (k7.row Rg6.out)
            have HD2 := Lib.hid hd2
            have HR2 := Lib.hid hr2
            have HU2 : Hid (RdU w' sv2 (onK lim bk x).sg) := Lib.hid ((hd2.rd hN2 (Nat.le_trans HDW.out hNW.out.size) HUD.out).rd)
            have HB6 : Hid (goesK lim bk x = onB lim bk x) := Lib.hid (by unfold goesK wayB; rw [HL9.out, Hr.out, if_neg HKO.out.1, if_neg HKO.out.2.1, if_neg HKO.out.2.2]; rfl)
            have HW6 : Hid (wentK lim bk x = onK lim bk x) := Lib.hid (go_went (c := onK lim bk x) HB6.out (by unfold wayK; rw [if_neg HKO.out.1, if_neg HKO.out.2.2]) (by cases h : onB lim bk x; rw [if_neg (by simp), onK_no h]; rw [if_pos rfl]))
            clear hB hK2 hOW hpre hr2 hd2
            go_upto_region 6 with fail
            refine wp_region_steps0 NewT [SV.eq (.agg (rowA 5 (bkF ((onK lim bk x)).ep sv2))), SV.eq (.bool (onB lim bk x))] [([(8, none)], none), ([(9, none)], none)] 33 2 rfl rfl (by kernel_rfl) NewT.trans (NewT.refl _) (Nat.le_of_ble_eq_true rfl) ⟨?_, ?_, trivial⟩ ?_
            · exact fun a wx hT hF K hK => rely_wp rfl (opr_ldK (hT.row HR2.out) rfl hF.1 (hK _ _ (NewT.refl _) rfl))
            · exact fun a wx hT hF K hK => rely_wp rfl (opr_move (.inl rfl) (hK _ _ (NewT.refl _) hF.1))
            · intro w9 k9
              iterate 2 (intro u h; obtain rfl := Eq.symm (h (by simp)); clear h)
              refine relyEnd_nil rfl ?_
              simp only [Act.put, List.setIfInBounds_toArray, List.set_cons_zero, List.set_cons_succ]
              refine wpList_plain rfl (fun K hK => ?_)
              refine opr_putm (g := g6) (o0 := 0) (m := 5) (f := bkF (onK lim bk x).ep sv2) (F := bkF (onK lim bk x).ep sv2) rfl rfl rfl (k9.row hg6) (by decide) info_book (bkF_one _ _ HU2.out.one) (put_allN _ _ _) ?_
              intro W9 hR9 rr9
              refine hK _ _ ?_
              clear hK K
              simp only [Act.put, List.setIfInBounds_toArray, List.set_cons_zero, List.set_cons_succ]
              refine wpList_plain rfl (fun K hK => ?_)
              refine opr_move (.inr rfl) (hK _ _ ?_)
              clear hK K
              refine wpList_end rfl ?_
              simp only [Act.put, List.setIfInBounds_toArray, List.set_cons_zero, List.set_cons_succ]
              go_simp
              go_wp2
              have hN9 : NewT w W9 := NewT.rt (NewT.trans _ _ _ hN2 k9) hR9 (by have := HG.out; omega)
              exact bodyPost_ret (results_rt rfl rfl rfl rr9 Try.underlying28 rfl info_book) rfl ⟨_, rfl, hN9, .agg (rowA 5 (bkF (onK lim bk x).ep sv2)), by first | (rw [HB6.out]; done) | (rw [HB6.out]; rfl), sv2, by rw [HW6.out], by rw [HW6.out]; exact (HD2.out.new k9).rt hR9 hg6n hg6l hN9 (Nat.le_trans HDW.out hNW.out.size) HUD.out⟩
        · have hq2 : (inR lim 1 9 && rightB x) = false := by
            cases ha : inR lim 1 9 <;> cases hb : rightB x <;> simp_all
          have HB6 : Hid (goesK lim bk x = false) := Lib.hid (by unfold goesK; rw [hq2]; rfl)
          have HW6 : Hid (wentK lim bk x = bk) := Lib.hid (by unfold wentK; rw [HB6.out, if_neg (by simp)])
          clear hq hq2
          go_upto_region 4 with fail
          refine wp_region_steps0 NewT [SV.eq (.agg (rowA 5 (bkF bk.ep u13)))] [([(8, none)], none)] 33 1 rfl rfl (by kernel_rfl) NewT.trans (NewT.refl _) (Nat.le_of_ble_eq_true rfl) ⟨?_, trivial⟩ ?_
          · exact fun a wx hT hF K hK => rely_wp rfl (opr_ldK (hT.row Rg8.out) rfl hF.1 (hK _ _ (NewT.refl _) rfl))
          · intro w8 k8
            intro u h; obtain rfl := Eq.symm (h (by simp)); clear h
            refine relyEnd_nil rfl ?_
            simp only [Act.put, List.setIfInBounds_toArray, List.set_cons_zero, List.set_cons_succ]
            refine wpList_plain rfl (fun K hK => ?_)
            refine opr_putm (g := g6) (o0 := 0) (m := 5) (f := bkF bk.ep u13) (F := bkF bk.ep u13) rfl rfl rfl (k8.row Rg6.out) (by decide) info_book (bkF_one _ _ HUN.out) (put_allN _ _ _) ?_
            intro W8 hR8 rr8
            refine hK _ _ ?_
            clear hK K
            simp only [Act.put, List.setIfInBounds_toArray, List.set_cons_zero, List.set_cons_succ]
            refine wpList_plain rfl (fun K hK => ?_)
            refine opr_move (.inr rfl) (hK _ _ ?_)
            clear hK K
            refine wpList_end rfl ?_
            simp only [Act.put, List.setIfInBounds_toArray, List.set_cons_zero, List.set_cons_succ]
            go_simp
            replace Rg6 := Lib.hid rr8
            replace Rg3 := Lib.hid (hR8.row (by have h_0 := HG.out; have h_1 := HGg8.out; omega) (k8.row Rg3.out))
            replace Rg4 := Lib.hid (hR8.row (by have h_0 := HG.out; have h_1 := HGg8.out; omega) (k8.row Rg4.out))
            replace Rg8 := Lib.hid (hR8.row (by have h_0 := HG.out; have h_1 := HGg8.out; omega) (k8.row Rg8.out))
            replace HM := Lib.hid (NewT.rt (NewT.trans _ _ _ HM.out k8) hR8 (by have h_0 := HG.out; have h_1 := HGg8.out; omega))
            have ho := (HOW.out.new k8).rt hR8 (fun e => by have h1 := HGg8.out; have h2 := HAP.out g6 e; omega)
            go_wp2
            exact bodyPost_ret (results_rt rfl rfl rfl Rg6.out Try.underlying28 rfl info_book) rfl ⟨_, rfl, HM.out, .agg (rowA 5 (bkF bk.ep u13)), by first | (rw [HB6.out]; done) | (rw [HB6.out]; rfl), u13, by rw [HW6.out], by rw [HW6.out]; exact ⟨HUD.out, fs, ho.rd, HFN.out, fun i p hp => by obtain ⟨f0, h1, h2⟩ := HEL.out i p hp; exact ⟨f0, h1, StbE.new h2 HM.out⟩⟩⟩
end Go.Proofs.Ytilmeffmdgcblaa
/- Package book: Of, the book of records, as far as they go. -/
namespace Go.Proofs.Ytilmeffmdgcblaa
open Go Go.RowKit
set_option maxRecDepth 8000
set_option linter.all false
def OfL (lim : Int) (l : List Rc) (g4 g6 : Nat) (w : World) (i : Value) (wr : World) : Prop := ∃ k : Nat, k ≤ l.length ∧ i = .int .i64 (k : Int) ∧ Hid (nOf lim zK (l.take k) = k) ∧ Hid (NewT w wr) ∧ Hid (wr.rowIs g4 28 5 (bkF zK.ep (.slice none 0 0))) ∧ ∃ sv, Hid (wr.rowIs g6 28 5 (bkF (upK lim zK (l.take k)).ep sv)) ∧ Hid (RdUB wr (g6 + 1) sv (upK lim zK (l.take k)).sg)
set_option maxHeartbeats 8000000 in
theorem Of_cv (v : Value) (l : List Rc) (lim : Int) (w : World) (h : RdR w v l) (hl : l.length ≤ 1000) : Cv 10 #[v, .int .i64 lim] w (svBkRB w.heap.size (bkOf lim l) (.int .i64 (nOf lim zK l : Nat))) := by
  unfold Cv
  have HV := Lib.hid h
  have HLL := Lib.hid hl
  obtain ⟨A0, c0, rfl, hl0, hm0⟩ := h.form
  unfold maxLen at hm0
  obtain ⟨v, hv⟩ : ∃ v, Value.slice A0 l.length c0 = v := ⟨_, rfl⟩
  rw [hv] at HV ⊢
  clear h hl hv hl0 hm0
  go_enter Try.func10, Try.ntmps10
  go_upto_region 1 with fail
  have r_g4 := rowIs_box w 28 5 (bkF zK.ep (.slice none 0 0))
  have hN : NewT w (w.alloc (.cells (rowA 5 (bkF zK.ep (.slice none 0 0))) 28)) := NewT.alloc _ _
  change Code.wp _ _ _ _ (w.alloc (.cells (rowA 5 (bkF zK.ep (.slice none 0 0))) 28))
  generalize (w.alloc (.cells (rowA 5 (bkF zK.ep (.slice none 0 0))) 28)) = W0 at r_g4 hN ⊢
  obtain ⟨g4, h_g4⟩ : ∃ g_, w.heap.size = g_ := ⟨_, rfl⟩
  have HG : Hid (w.heap.size ≤ g4) := Lib.hid (by omega)
  rw [h_g4] at r_g4
  simp only [h_g4]
  have Rg4 := Lib.hid r_g4
  have HM := Lib.hid hN
  clear r_g4 hN h_g4
  go_upto_region 1 with fail
  refine wp_region_lit ?_
  refine wpList_plain rfl (fun K hK => ?_)
  refine opr_allocV rfl run_alloc_book (hK _ _ ?_)
  clear hK K
  refine wpList_end rfl ?_
  simp only [Act.put, List.setIfInBounds_toArray, List.set_cons_zero, List.set_cons_succ]
  have hn1 := NewT.alloc W0 (.cells (rowA 5 (bkF zK.ep (.slice none 0 0))) 28)
  have rr1 := rowIs_box W0 28 5 (bkF zK.ep (.slice none 0 0))
  obtain ⟨g6, h_g6⟩ : ∃ g_, W0.heap.size = g_ := ⟨_, rfl⟩
  rw [h_g6] at rr1
  simp only [h_g6]
  generalize W0.alloc (.cells (rowA 5 (bkF zK.ep (.slice none 0 0))) 28) = W1 at *
  go_simp
  have HGg6 : Hid (g4 < g6 ∧ w.heap.size ≤ g6) := Lib.hid (by rw [← h_g6]; exact ⟨Rg4.out.lt, HM.out.out.size⟩)
  clear h_g6
  replace Rg4 := Lib.hid (hn1.row Rg4.out)
  replace HM := Lib.hid (NewT.trans _ _ _ HM.out hn1)
  clear hn1
  have Rg6 := Lib.hid rr1
  clear rr1
  go_upto_region 2 with fail
  refine wp_region_steps0 NewT [SV.eq (v), SV.eq (.int .i64 ((List.length (l) : Int))), SV.eq (.int .i64 (0))] [([(0, none)], none), ([(11, some 0)], none), ([], none)] 34 3 rfl rfl (by kernel_rfl) NewT.trans (NewT.refl _) (Nat.le_of_ble_eq_true rfl) ⟨?_, ?_, ?_, trivial⟩ ?_
  · exact fun a wx hT hF K hK => rely_wp rfl (opr_move (.inl rfl) (hK _ _ (NewT.refl _) hF.1))
  · intro a wx hT hF K hK
    obtain ⟨f11, _⟩ := hF
    have f11 : a.tmps.getD 11 undef = v := f11
    refine rely_wp rfl ?_
    exact opr_lenL rfl recEl (by rw [eval_tmp, f11]; exact (HV.out.new (NewT.trans _ _ _ HM.out hT))) (hK _ _ (NewT.refl _) rfl)
  · exact fun a wx hT hF K hK => rely_wp rfl (opr_move (.inl rfl) (hK _ _ (NewT.refl _) rfl))
  · intro w2 k2
    iterate 3 (intro u h; obtain rfl := Eq.symm (h (by simp)); clear h)
    refine relyEnd_nil rfl ?_
    refine wpList_end rfl ?_
    simp only [Act.put, List.setIfInBounds_toArray, List.set_cons_zero, List.set_cons_succ]
    go_simp
    replace Rg4 := Lib.hid (k2.row Rg4.out)
    replace Rg6 := Lib.hid (k2.row Rg6.out)
    replace HM := Lib.hid (NewT.trans _ _ _ HM.out k2)
    clear k2
    go_wp2
    go_loopw [13] (fun i wr => OfL lim l g4 g6 w i wr) (fun i _ => l.length - (intOf i).toNat)
    case atStart => exact ⟨0, by omega, rfl, Lib.hid rfl, HM, Rg4, (.slice none 0 0), Rg6, Lib.hid (rdUB_nil _ _)⟩
    case round =>
      clear HM Rg4 Rg6
      obtain ⟨k, hk, rfl, HNK, HB, Rg4, sv, Rg6, HSV⟩ := hrel
      obtain ⟨bk, hbk⟩ : ∃ bk, upK lim zK (l.take k) = bk := ⟨_, rfl⟩
      have HBK := Lib.hid hbk
      rw [hbk] at Rg6 HSV
      have HGD : Hid (Good lim k bk) := Lib.hid (by rw [← hbk]; exact good_up k HNK.out hk)
      have HOK : Hid (OkK bk) := Lib.hid (good_ok HGD.out (by have := HLL.out; omega))
      clear hbk
      have HG46 : Hid (g4 < g6 ∧ w.heap.size ≤ g4) := Lib.hid (by have h1 := HG.out; have h2 := HGg6.out; omega)
      have HVR : Hid (RdR wr v l) := Lib.hid (HV.out.new HB.out)
      have HM := Lib.hid (NewT.refl wr)
      have HL6 : Hid (g6 + 1 ≤ wr.heap.size) := Lib.hid Rg6.out.lt
      by_cases hlt : k < l.length
      rotate_left
      · obtain rfl : k = l.length := by omega
        have HE : Hid (nOf lim zK l = l.length ∧ bkOf lim l = bk) := Lib.hid (by
          have h := HNK.out
          rw [List.take_length] at h
          refine ⟨h, ?_⟩
          unfold bkOf
          rw [h]
          exact HBK.out)
        go_upto_region 10 with fail
        refine wp_region_steps0 NewT [SV.eq (.agg (rowA 5 (bkF bk.ep sv))), SV.eq (v), SV.eq (.int .i64 ((List.length (l) : Int)))] [([(6, none)], none), ([(0, none)], none), ([(32, some 1)], none)] 34 3 rfl rfl (by kernel_rfl) NewT.trans (NewT.refl _) (Nat.le_of_ble_eq_true rfl) ⟨?_, ?_, ?_, trivial⟩ ?_
        · exact fun a wx hT hF K hK => rely_wp rfl (opr_ldK (hT.row Rg6.out) rfl hF.1 (hK _ _ (NewT.refl _) rfl))
        · exact fun a wx hT hF K hK => rely_wp rfl (opr_move (.inl rfl) (hK _ _ (NewT.refl _) hF.1))
        · intro a wx hT hF K hK
          obtain ⟨f32, _⟩ := hF
          have f32 : a.tmps.getD 32 undef = v := f32
          refine rely_wp rfl ?_
          exact opr_lenL rfl recEl (by rw [eval_tmp, f32]; exact (HVR.out.new (NewT.trans _ _ _ HM.out hT))) (hK _ _ (NewT.refl _) rfl)
        · intro w3 k3
          iterate 3 (intro u h; obtain rfl := Eq.symm (h (by simp)); clear h)
          refine relyEnd_nil rfl ?_
          simp only [Act.put, List.setIfInBounds_toArray, List.set_cons_zero, List.set_cons_succ]
          refine wpList_plain rfl (fun K hK => ?_)
          refine opr_putm (g := g4) (o0 := 0) (m := 5) (f := bkF bk.ep sv) (F := bkF bk.ep sv) rfl rfl rfl (k3.row Rg4.out) (by decide) info_book (bkF_one _ _ HSV.out.rd.one) (put_allN _ _ _) ?_
          intro W3 hR rr
          refine hK _ _ ?_
          clear hK K
          simp only [Act.put, List.setIfInBounds_toArray, List.set_cons_zero, List.set_cons_succ]
          refine wpList_plain rfl (fun K hK => ?_)
          refine opr_move (.inr rfl) (hK _ _ ?_)
          clear hK K
          refine wpList_end rfl ?_
          simp only [Act.put, List.setIfInBounds_toArray, List.set_cons_zero, List.set_cons_succ]
          go_simp
          have hNw := NewT.trans _ _ _ HB.out (NewT.trans _ _ _ HM.out k3)
          have hsv := ((HSV.out.new (NewT.trans _ _ _ HM.out k3)).rt hR (by have := HG46.out; omega)).mono (B' := w.heap.size) (by have := HG46.out; omega)
          go_wp2
          exact bodyPost_ret (results_rt rfl rfl rfl rr Try.underlying28 rfl info_book) rfl ⟨_, rfl, NewT.rt hNw hR HG46.out.2, .agg (rowA 5 (bkF bk.ep sv)), by first | (rw [HE.out.1]; done) | (rw [HE.out.1]; rfl), sv, by rw [HE.out.2], by rw [HE.out.2]; exact hsv⟩
      have it : (k : Int) < (l.length : Int) := by omega
      obtain ⟨x, hx⟩ : ∃ x, l[k]? = some x := ⟨_, List.getElem?_eq_getElem hlt⟩
      have HX0 := Lib.hid hx
      have HKL := Lib.hid hlt
      clear hx hlt
      go_upto_region 4 with fail
      refine wp_region_steps0 NewT [SV.eq (.int .i64 ((k : Int))), svEl 109 rcE (x), svRec (x)] [([(13, none)], none), ([(11, none), (13, none)], none), ([(16, some 1)], none)] 34 3 rfl rfl (by kernel_rfl) NewT.trans (NewT.refl _) (Nat.le_of_ble_eq_true rfl) ⟨?_, ?_, ?_, trivial⟩ ?_
      · exact fun a wx hT hF K hK => rely_wp rfl (opr_move (.inl rfl) (hK _ _ (NewT.refl _) hF.1))
      · intro a wx hT hF K hK
        obtain ⟨f11, f13, _⟩ := hF
        have f11 : a.tmps.getD 11 undef = v := f11
        have f13 : a.tmps.getD 13 undef = .int .i64 ((k : Int)) := f13
        refine rely_wp rfl ?_
        exact opr_idxL (i := k) (p := x) recEl (HX0.out) (rfl) rfl (by rw [eval_tmp, f11]; exact (HVR.out.new (NewT.trans _ _ _ HM.out hT))) f13 (fun v hv => hK v _ (NewT.refl _) hv)
      · exact fun a wx hT hF K hK => rely_wp rfl (opr_ldRcE rfl hF.1 (fun u hu => hK u _ (NewT.refl _) hu))
      · intro w4 k4
        intro u h; obtain rfl := Eq.symm (h (by simp)); clear h
        intro _ _
        intro u17 h; have g17 := h (by simp); clear h; replace g17 := show (svRec (x)).pred u17 w4 from g17
        refine relyEnd_nil rfl ?_
        simp only [Act.put, List.setIfInBounds_toArray, List.set_cons_zero, List.set_cons_succ]
        obtain ⟨su, dv, rfl, hsx, hd⟩ := (show RecV w4 u17 x from g17)
        refine wpList_newA (n := 109) (f := recF x su dv) rfl rfl rfl rfl rfl rfl rfl rfl (by decide) rfl (by first | (simp; done) | simp [Act.put]) (by kernel_rfl) run_alloc_rec info_rec (recF_one _ _ _ (oneP hsx) (oneR hd)) ?_
        intro W4 hn4 rr4
        refine wpList_end rfl ?_
        simp only [Act.put, List.setIfInBounds_toArray, List.set_cons_zero, List.set_cons_succ]
        go_simp
        obtain ⟨g8, h_g8⟩ : ∃ g_, w4.heap.size = g_ := ⟨_, rfl⟩
        rw [h_g8] at rr4
        simp only [h_g8]
        have HGg8 : Hid (g4 < g8 ∧ g6 < g8 ∧ wr.heap.size ≤ g8) := Lib.hid (by rw [← h_g8]; exact ⟨(k4.row Rg4.out).lt, (k4.row Rg6.out).lt, (NewT.trans _ _ _ HM.out k4).out.size⟩)
        have q4 := NewT.trans _ _ _ k4 hn4
        have HSX := Lib.hid (hn4.pairs hsx)
        have HD := Lib.hid (hn4.rd hd)
        have HX : Hid (RecV W4 (.agg (rowA 109 (recF x su dv))) x) := Lib.hid ⟨su, dv, rfl, HSX.out, HD.out⟩
        clear hsx hd
        clear k4 hn4 h_g8
        replace Rg4 := Lib.hid (q4.row Rg4.out)
        replace Rg6 := Lib.hid (q4.row Rg6.out)
        replace HM := Lib.hid (NewT.trans _ _ _ HM.out q4)
        clear q4
        have Rg8 := Lib.hid rr4
        clear rr4
        replace HSV := Lib.hid (HSV.out.new HM.out)
        replace HB := Lib.hid (NewT.trans _ _ _ HB.out HM.out)
        replace HL6 : Hid (g6 + 1 ≤ W4.heap.size) := Lib.hid (by have h1 := HM.out.out.size; have h2 := HL6.out; omega)
        have HG8 : Hid (g6 < g8) := Lib.hid HGg8.out.2.1
        replace HM := Lib.hid (NewT.refl W4)
        go_upto_region 5 with fail
        refine wp_region_steps0 NewT [SV.eq (.agg (rowA 5 (bkF bk.ep sv))), SV.eq (.agg (rowA 109 (recF x su dv))), SV.eq (.int .i64 (lim)), svBkRB (g6 + 1) (wentK lim bk x) (.bool (goesK lim bk x)), svBkRB (g6 + 1) (wentK lim bk x) (.bool (goesK lim bk x)), svBkB (g6 + 1) (wentK lim bk x), SV.eq (.bool (goesK lim bk x))] [([(6, none)], none), ([(8, none)], none), ([(1, none)], none), ([(19, some 0), (20, some 1), (21, some 2)], none), ([(22, some 3)], none), ([(18, some 4)], none), ([(18, some 4)], none)] 34 7 rfl rfl (by kernel_rfl) NewT.trans (NewT.refl _) (Nat.le_of_ble_eq_true rfl) ⟨?_, ?_, ?_, ?_, ?_, ?_, ?_, trivial⟩ ?_
        · exact fun a wx hT hF K hK => rely_wp rfl (opr_ldK (hT.row Rg6.out) rfl hF.1 (hK _ _ (NewT.refl _) rfl))
        · exact fun a wx hT hF K hK => rely_wp rfl (opr_ldR (hT.row Rg8.out) rfl hF.1 (hK _ _ (NewT.refl _) rfl))
        · exact fun a wx hT hF K hK => rely_wp rfl (opr_move (.inl rfl) (hK _ _ (NewT.refl _) hF.1))
        · exact fun a wx hT hF K hK => rely_wp rfl (opr_cv (bGo_cv (g6 + 1) _ _ bk x lim wx (⟨sv, rfl, HSV.out.new (NewT.trans _ _ _ HM.out hT)⟩) (((NewT.trans _ _ _ HM.out hT).recV HX.out)) HOK.out (Nat.le_trans HL6.out (NewT.trans _ _ _ HM.out hT).out.size)) rfl Try.func24 (by kernel_rfl) (by kernel_rfl) (evs3 hF.1 hF.2.1 hF.2.2.1) hK)
        · exact fun a wx hT hF K hK => rely_wp rfl (opr_move (.inl rfl) (hK _ _ (NewT.refl _) hF.1))
        · exact fun a wx hT hF K hK => rely_wp rfl (opr_extKB0 rfl hF.1 (fun u hu => hK u _ (NewT.refl _) hu))
        · exact fun a wx hT hF K hK => rely_wp rfl (opr_extKB1 rfl hF.1 (hK _ _ (NewT.refl _) rfl))
        · intro w5 k5
          iterate 3 (intro u h; obtain rfl := Eq.symm (h (by simp)); clear h)
          iterate 2 (intro _ _)
          intro u23 h; have g23 := h (by simp); clear h; replace g23 := show (svBkB (g6 + 1) (wentK lim bk x)).pred u23 w5 from g23
          intro u h; obtain rfl := Eq.symm (h (by simp)); clear h
          refine relyEnd_nil rfl ?_
          simp only [Act.put, List.setIfInBounds_toArray, List.set_cons_zero, List.set_cons_succ]
          obtain ⟨s9, rfl, hs9⟩ := (show BkVB w5 (g6 + 1) u23 (wentK lim bk x) from g23)
          refine wpList_new (n := 5) (f := bkF ((wentK lim bk x)).ep s9) rfl rfl rfl rfl rfl rfl (by first | (simp; done) | simp [Act.put]) run_alloc_book info_book (bkF_one _ _ hs9.rd.one) rfl ?_
          intro W5 hn5 rr5
          simp only [Act.put, List.setIfInBounds_toArray, List.set_cons_zero, List.set_cons_succ]
          refine wpList_plain rfl (fun K hK => ?_)
          refine opr_move (.inr rfl) (hK _ _ ?_)
          clear hK K
          refine wpList_end rfl ?_
          simp only [Act.put, List.setIfInBounds_toArray, List.set_cons_zero, List.set_cons_succ]
          go_simp
          obtain ⟨g9, h_g9⟩ : ∃ g_, w5.heap.size = g_ := ⟨_, rfl⟩
          rw [h_g9] at rr5
          simp only [h_g9]
          have HGg9 : Hid (g4 < g9 ∧ g6 < g9 ∧ g8 < g9 ∧ W4.heap.size ≤ g9) := Lib.hid (by rw [← h_g9]; exact ⟨(k5.row Rg4.out).lt, (k5.row Rg6.out).lt, (k5.row Rg8.out).lt, (NewT.trans _ _ _ HM.out k5).out.size⟩)
          have q5 := NewT.trans _ _ _ k5 hn5
          have HS9 := Lib.hid (hs9.new hn5)
          clear hs9
          clear k5 hn5 h_g9
          replace Rg4 := Lib.hid (q5.row Rg4.out)
          replace Rg6 := Lib.hid (q5.row Rg6.out)
          replace Rg8 := Lib.hid (q5.row Rg8.out)
          replace HM := Lib.hid (NewT.trans _ _ _ HM.out q5)
          clear q5
          have Rg9 := Lib.hid rr5
          clear rr5
          replace HSV := Lib.hid (HSV.out.new HM.out)
          replace HB := Lib.hid (NewT.trans _ _ _ HB.out HM.out)
          have HG9 : Hid (g6 < g9) := Lib.hid HGg9.out.2.1
          replace HM := Lib.hid (NewT.refl W5)
          obtain ⟨b, hb⟩ : ∃ b, goesK lim bk x = b := ⟨_, rfl⟩
          have HGB := Lib.hid hb
          rw [hb]
          clear hb
          go_upto_region 6 with fail
          refine wp_region_steps0 NewT [SV.eq (.bool (b)), SV.eq (.bool (!b))] [([(10, none)], none), ([(25, some 0)], none)] 34 2 rfl rfl (by kernel_rfl) NewT.trans (NewT.refl _) (Nat.le_of_ble_eq_true rfl) ⟨?_, ?_, trivial⟩ ?_
          · exact fun a wx hT hF K hK => rely_wp rfl (opr_move (.inl rfl) (hK _ _ (NewT.refl _) hF.1))
          · exact fun a wx hT hF K hK => rely_wp rfl (opr_not rfl hF.1 (hK _ _ (NewT.refl _) rfl))
          · intro w6 k6
            iterate 2 (intro u h; obtain rfl := Eq.symm (h (by simp)); clear h)
            refine relyEnd_nil rfl ?_
            refine wpList_end rfl ?_
            simp only [Act.put, List.setIfInBounds_toArray, List.set_cons_zero, List.set_cons_succ]
            go_simp
            replace Rg4 := Lib.hid (k6.row Rg4.out)
            replace Rg6 := Lib.hid (k6.row Rg6.out)
            replace Rg8 := Lib.hid (k6.row Rg8.out)
            replace Rg9 := Lib.hid (k6.row Rg9.out)
            replace HM := Lib.hid (NewT.trans _ _ _ HM.out k6)
            clear k6
            cases b
            · have HE : Hid (nOf lim zK l = k ∧ bkOf lim l = bk) := Lib.hid (by
                have h := nOf_stop lim l zK k x HX0.out HNK.out (by rw [HBK.out]; exact HGB.out)
                refine ⟨h, ?_⟩
                unfold bkOf
                rw [h]
                exact HBK.out)
              go_upto_region 7 with fail
              refine wp_region_steps0 NewT [SV.eq (.agg (rowA 5 (bkF bk.ep sv))), SV.eq (.int .i64 ((k : Int)))] [([(6, none)], none), ([(7, none)], none)] 34 2 rfl rfl (by kernel_rfl) NewT.trans (NewT.refl _) (Nat.le_of_ble_eq_true rfl) ⟨?_, ?_, trivial⟩ ?_
              · exact fun a wx hT hF K hK => rely_wp rfl (opr_ldK (hT.row Rg6.out) rfl hF.1 (hK _ _ (NewT.refl _) rfl))
              · exact fun a wx hT hF K hK => rely_wp rfl (opr_move (.inl rfl) (hK _ _ (NewT.refl _) hF.1))
              · intro w7 k7
                iterate 2 (intro u h; obtain rfl := Eq.symm (h (by simp)); clear h)
                refine relyEnd_nil rfl ?_
                simp only [Act.put, List.setIfInBounds_toArray, List.set_cons_zero, List.set_cons_succ]
                refine wpList_plain rfl (fun K hK => ?_)
                refine opr_putm (g := g4) (o0 := 0) (m := 5) (f := bkF bk.ep sv) (F := bkF bk.ep sv) rfl rfl rfl (k7.row Rg4.out) (by decide) info_book (bkF_one _ _ HSV.out.rd.one) (put_allN _ _ _) ?_
                intro W7 hR rr
                refine hK _ _ ?_
                clear hK K
                simp only [Act.put, List.setIfInBounds_toArray, List.set_cons_zero, List.set_cons_succ]
                refine wpList_plain rfl (fun K hK => ?_)
                refine opr_move (.inr rfl) (hK _ _ ?_)
                clear hK K
                refine wpList_end rfl ?_
                simp only [Act.put, List.setIfInBounds_toArray, List.set_cons_zero, List.set_cons_succ]
                go_simp
                have hNw := NewT.trans _ _ _ HB.out (NewT.trans _ _ _ HM.out k7)
                have hsv := ((HSV.out.new (NewT.trans _ _ _ HM.out k7)).rt hR (by have := HG46.out; omega)).mono (B' := w.heap.size) (by have := HG46.out; omega)
                go_wp2
                exact bodyPost_ret (results_rt rfl rfl rfl rr Try.underlying28 rfl info_book) rfl ⟨_, rfl, NewT.rt hNw hR HG46.out.2, .agg (rowA 5 (bkF bk.ep sv)), by first | (rw [HE.out.1]; done) | (rw [HE.out.1]; rfl), sv, by rw [HE.out.2], by rw [HE.out.2]; exact hsv⟩
            · have HE : Hid (nOf lim zK (l.take (k + 1)) = k + 1 ∧ upK lim zK (l.take (k + 1)) = wentK lim bk x) := Lib.hid ⟨nOf_succ lim l zK k x HX0.out HNK.out (by rw [HBK.out]; exact HGB.out), by rw [upK_succ HX0.out, HBK.out]⟩
              go_upto_region 8 with fail
              refine wp_region_steps0 NewT [SV.eq (.agg (rowA 5 (bkF ((wentK lim bk x)).ep s9)))] [([(9, none)], none)] 34 1 rfl rfl (by kernel_rfl) NewT.trans (NewT.refl _) (Nat.le_of_ble_eq_true rfl) ⟨?_, trivial⟩ ?_
              · exact fun a wx hT hF K hK => rely_wp rfl (opr_ldK (hT.row Rg9.out) rfl hF.1 (hK _ _ (NewT.refl _) rfl))
              · intro w8 k8
                intro u h; obtain rfl := Eq.symm (h (by simp)); clear h
                refine relyEnd_nil rfl ?_
                simp only [Act.put, List.setIfInBounds_toArray, List.set_cons_zero, List.set_cons_succ]
                refine wpList_plain rfl (fun K hK => ?_)
                refine opr_putm (g := g6) (o0 := 0) (m := 5) (f := bkF (wentK lim bk x).ep s9) (F := bkF (wentK lim bk x).ep s9) rfl rfl rfl (k8.row Rg6.out) (by decide) info_book (bkF_one _ _ HS9.out.rd.one) (put_allN _ _ _) ?_
                intro W8 hR rr
                refine hK _ _ ?_
                clear hK K
                refine wpList_end rfl ?_
                simp only [Act.put, List.setIfInBounds_toArray, List.set_cons_zero, List.set_cons_succ]
                go_simp
                have hs := ((HS9.out.new (NewT.trans _ _ _ HM.out k8)).rt hR (Nat.lt_succ_self _))
                have h4 := hR.row (b := g4) (by have := HG46.out; omega) (k8.row Rg4.out)
                have hB2 := NewT.rt (NewT.trans _ _ _ HB.out (NewT.trans _ _ _ HM.out k8)) hR (by have := HG46.out; omega)
                have hkm := HKL.out
                have hll := HLL.out
                clear HM HSV HS9 Rg4 Rg6 Rg8 Rg9
                go_wp2
                go_roundw
                case rel => exact ⟨k + 1, by omega, by go_num, Lib.hid HE.out.1, Lib.hid hB2, Lib.hid h4, s9, Lib.hid (by rw [HE.out.2]; exact rr), Lib.hid (by rw [HE.out.2]; exact hs)⟩
                case measure => simp [intOf]; omega
end Go.Proofs.Ytilmeffmdgcblaa
/- Package book: lists compared by a generic function; lines; Clean; the reference's comparisons. -/
namespace Go.Proofs.Ytilmeffmdgcblaa
open Go Go.RowKit
set_option maxRecDepth 8000
set_option linter.all false
set_option maxHeartbeats 4000000 in
theorem sameUL_cv (v1 v2 : Value) (L M : List Ug) (w : World) (hv : RdU w v1 L) (hu : RdU w v2 M) (hl : L.length ≤ 1000000) : Cv 28 #[v1, v2, .func (.func 29) #[] #[]] w (.eq (.bool (sameLs zU eqU L M))) := by
  unfold Cv
  have HV := Lib.hid hv
  have HU := Lib.hid hu
  have HLL := Lib.hid hl
  clear hv hu hl
  go_enter Try.func28, Try.ntmps28
  have HB := Lib.hid (NewT.refl w)
  have HM := Lib.hid (NewT.refl w)
  go_upto_region 1 with fail
  refine wp_region_steps0 NewT [SV.eq (v1), SV.eq (.int .i64 ((List.length (L) : Int))), SV.eq (v2), SV.eq (.int .i64 ((List.length (M) : Int))), SV.eq (.bool (((List.length (L) : Int)) != ((List.length (M) : Int))))] [([(0, none)], none), ([(9, some 0)], none), ([(1, none)], none), ([(11, some 2)], none), ([(10, some 1), (12, some 3)], none)] 30 5 rfl rfl (by kernel_rfl) NewT.trans (NewT.refl _) (Nat.le_of_ble_eq_true rfl) ⟨?_, ?_, ?_, ?_, ?_, trivial⟩ ?_
  · exact fun a wx hT hF K hK => rely_wp rfl (opr_move (.inl rfl) (hK _ _ (NewT.refl _) hF.1))
  · intro a wx hT hF K hK
    obtain ⟨f9, _⟩ := hF
    have f9 : a.tmps.getD 9 undef = v1 := f9
    refine rely_wp rfl ?_
    exact opr_lenL rfl sagaEl (by rw [eval_tmp, f9]; exact (HV.out.new (NewT.trans _ _ _ HM.out hT))) (hK _ _ (NewT.refl _) rfl)
  · exact fun a wx hT hF K hK => rely_wp rfl (opr_move (.inl rfl) (hK _ _ (NewT.refl _) hF.1))
  · intro a wx hT hF K hK
    obtain ⟨f11, _⟩ := hF
    have f11 : a.tmps.getD 11 undef = v2 := f11
    refine rely_wp rfl ?_
    exact opr_lenL rfl sagaEl (by rw [eval_tmp, f11]; exact (HU.out.new (NewT.trans _ _ _ HM.out hT))) (hK _ _ (NewT.refl _) rfl)
  · exact fun a wx hT hF K hK => rely_wp rfl (opr_cmp (b := ((List.length (L) : Int)) != ((List.length (M) : Int))) (.inr (.inl ⟨rfl, rfl⟩)) Try.underlying3 rfl hF.1 hF.2.1 (hK _ _ (NewT.refl _) rfl))
  · intro w1 k1
    iterate 5 (intro u h; obtain rfl := Eq.symm (h (by simp)); clear h)
    refine relyEnd_nil rfl ?_
    refine wpList_end rfl ?_
    simp only [Act.put, List.setIfInBounds_toArray, List.set_cons_zero, List.set_cons_succ]
    go_simp
    replace HM := Lib.hid (NewT.trans _ _ _ HM.out k1)
    clear k1
    by_cases hl : L.length = M.length
    rotate_left
    · have HF := Lib.hid (sameLs_len (d := zU) (e := eqU) hl)
      have t1 : ((L.length : Int) != (M.length : Int)) = true := by simp; omega
      clear hl
      go_wp2
      go_ret
      exact ⟨_, rfl, HM.out, by rw [HF.out]; rfl⟩
    have t1 : ((L.length : Int) != (M.length : Int)) = false := by rw [hl]; simp
    have HLE := Lib.hid hl
    clear hl
    go_upto_region 3 with fail
    refine wp_region_steps0 NewT [SV.eq (v1), SV.eq (.int .i64 ((List.length (L) : Int))), SV.eq (.int .i64 (0))] [([(0, none)], none), ([(14, some 0)], none), ([], none)] 30 3 rfl rfl (by kernel_rfl) NewT.trans (NewT.refl _) (Nat.le_of_ble_eq_true rfl) ⟨?_, ?_, ?_, trivial⟩ ?_
    · exact fun a wx hT hF K hK => rely_wp rfl (opr_move (.inl rfl) (hK _ _ (NewT.refl _) hF.1))
    · intro a wx hT hF K hK
      obtain ⟨f14, _⟩ := hF
      have f14 : a.tmps.getD 14 undef = v1 := f14
      refine rely_wp rfl ?_
      exact opr_lenL rfl sagaEl (by rw [eval_tmp, f14]; exact (HV.out.new (NewT.trans _ _ _ HM.out hT))) (hK _ _ (NewT.refl _) rfl)
    · exact fun a wx hT hF K hK => rely_wp rfl (opr_move (.inl rfl) (hK _ _ (NewT.refl _) rfl))
    · intro w2 k2
      iterate 3 (intro u h; obtain rfl := Eq.symm (h (by simp)); clear h)
      refine relyEnd_nil rfl ?_
      refine wpList_end rfl ?_
      simp only [Act.put, List.setIfInBounds_toArray, List.set_cons_zero, List.set_cons_succ]
      go_simp
      replace HM := Lib.hid (NewT.trans _ _ _ HM.out k2)
      clear k2
      go_wp2
      go_loopw [16] (fun i wr => ∃ k : Nat, k ≤ L.length ∧ i = .int .i64 (k : Int) ∧ Hid (∀ i, i < k → eqU (L.getD i zU) (M.getD i zU) = true) ∧ Hid (NewT w wr)) (fun i _ => L.length - (intOf i).toNat)
      case atStart => exact ⟨0, by omega, rfl, Lib.hid (fun i hi => by omega), Lib.hid (NewT.trans _ _ _ HB.out HM.out)⟩
      case round =>
        clear HM 
        obtain ⟨k, hk, rfl, HA, HM⟩ := hrel
        replace HB := Lib.hid (NewT.refl w)
        have hll := HLL.out
        by_cases hlt : k < L.length
        rotate_left
        · obtain rfl : k = L.length := by omega
          have HF := Lib.hid (sameLs_yes (d := zU) (e := eqU) HLE.out HA.out)
          go_wp2
          go_ret
          exact ⟨_, rfl, HM.out, by rw [HF.out]; rfl⟩
        obtain ⟨p, hp⟩ : ∃ p, L[k]? = some p := ⟨_, List.getElem?_eq_getElem hlt⟩
        obtain ⟨q, hq⟩ : ∃ q, M[k]? = some q := ⟨_, List.getElem?_eq_getElem (by have := HLE.out; omega)⟩
        have HPP := Lib.hid hp
        have HQQ := Lib.hid hq
        have HNX : Hid (eqU p q = true → ∀ i, i < k + 1 → eqU (L.getD i zU) (M.getD i zU) = true) := Lib.hid (fun h i hi => by
          by_cases e : i = k
          · subst e; rw [getD_of hp, getD_of hq]; exact h
          · exact HA.out i (by omega))
        have it : (k : Int) < (L.length : Int) := by omega
        have HIT := Lib.hid it
        clear hp hq HA hlt
        go_upto_region 5 with fail
        refine wp_region_steps0 NewT [SV.eq (.int .i64 ((k : Int))), svEl 10 sgE (p), svSg p.1 p.2] [([(16, none)], none), ([(14, none), (16, none)], none), ([(19, some 1)], none)] 30 3 rfl rfl (by kernel_rfl) NewT.trans (NewT.refl _) (Nat.le_of_ble_eq_true rfl) ⟨?_, ?_, ?_, trivial⟩ ?_
        · exact fun a wx hT hF K hK => rely_wp rfl (opr_move (.inl rfl) (hK _ _ (NewT.refl _) hF.1))
        · intro a wx hT hF K hK
          obtain ⟨f14, f16, _⟩ := hF
          have f14 : a.tmps.getD 14 undef = v1 := f14
          have f16 : a.tmps.getD 16 undef = .int .i64 ((k : Int)) := f16
          refine rely_wp rfl ?_
          exact opr_idxL (i := k) (p := p) sagaEl (HPP.out) (rfl) rfl (by rw [eval_tmp, f14]; exact (HV.out.new (NewT.trans _ _ _ HM.out hT))) f16 (fun v hv => hK v _ (NewT.refl _) hv)
        · exact fun a wx hT hF K hK => rely_wp rfl (opr_ldUg rfl hF.1 (fun u hu => hK u _ (NewT.refl _) hu))
        · intro w3 k3
          intro u h; obtain rfl := Eq.symm (h (by simp)); clear h
          intro _ _
          intro u20 h; have g20 := h (by simp); clear h; replace g20 := show (svSg p.1 p.2).pred u20 w3 from g20
          refine relyEnd_nil rfl ?_
          simp only [Act.put, List.setIfInBounds_toArray, List.set_cons_zero, List.set_cons_succ]
          obtain ⟨sv, rfl, hs⟩ := (show SgV w3 u20 p.1 p.2 from g20)
          refine wpList_newA (n := 10) (f := sgF sv p.2) rfl rfl rfl rfl rfl rfl rfl rfl (by decide) rfl (by first | (simp; done) | simp [Act.put]) (by kernel_rfl) run_alloc_saga info_saga (sgF_one _ _ (oneP hs)) ?_
          intro W3 hn3 rr3
          refine wpList_end rfl ?_
          simp only [Act.put, List.setIfInBounds_toArray, List.set_cons_zero, List.set_cons_succ]
          go_simp
          obtain ⟨g8, h_g8⟩ : ∃ g_, w3.heap.size = g_ := ⟨_, rfl⟩
          rw [h_g8] at rr3
          simp only [h_g8]
          have HGg8 : Hid (w.heap.size ≤ g8) := Lib.hid (by rw [← h_g8]; exact (NewT.trans _ _ _ HM.out k3).out.size)
          have q3 := NewT.trans _ _ _ k3 hn3
          have HS := Lib.hid (hn3.pairs hs)
          clear hs
          clear k3 hn3 h_g8
          replace HM := Lib.hid (NewT.trans _ _ _ HM.out q3)
          clear q3
          have Rg8 := Lib.hid rr3
          clear rr3
          have HV2 := Lib.hid (HV.out.new HM.out)
          have HU2 := Lib.hid (HU.out.new HM.out)
          replace HB := HM
          replace HM := Lib.hid (NewT.refl W3)
          go_upto_region 6 with fail
          refine wp_region_rely (NewT) [SV.eq ((.func (.func 29) #[] #[])), SV.eq (.agg (rowA 10 (sgF sv p.2))), SV.eq (v2), SV.eq (.int .i64 ((k : Int))), svEl 10 sgE (q), svSg q.1 q.2, SV.eq (.bool (sameG p.1 q.1 p.2 q.2))] [([(2, none)], none), ([(8, none)], none), ([(1, none)], none), ([(7, none)], none), ([(23, some 2), (24, some 3)], none), ([(25, some 4)], none), ([(21, some 0), (22, some 1), (26, some 5)], none)] 30 rfl (by kernel_rfl) rfl (by kernel_rfl) (by kernel_rfl) rfl NewT.trans (NewT.drew _) (Nat.le_of_ble_eq_true rfl) ⟨?_, ?_, ?_, ?_, ?_, ?_, ?_, trivial⟩ ?_
          · exact fun a wx hT hF K hK => rely_wp rfl (opr_move (.inl rfl) (hK _ _ (NewT.refl _) hF.1))
          · exact fun a wx hT hF K hK => rely_wp rfl (opr_ldU (hT.row Rg8.out) rfl hF.1 (hK _ _ (NewT.refl _) rfl))
          · exact fun a wx hT hF K hK => rely_wp rfl (opr_move (.inl rfl) (hK _ _ (NewT.refl _) hF.1))
          · exact fun a wx hT hF K hK => rely_wp rfl (opr_move (.inl rfl) (hK _ _ (NewT.refl _) hF.1))
          · intro a wx hT hF K hK
            obtain ⟨f23, f24, _⟩ := hF
            have f23 : a.tmps.getD 23 undef = v2 := f23
            have f24 : a.tmps.getD 24 undef = .int .i64 ((k : Int)) := f24
            refine rely_wp rfl ?_
            exact opr_idxL (i := k) (p := q) sagaEl (HQQ.out) (rfl) rfl (by rw [eval_tmp, f23]; exact (HU2.out.new (NewT.trans _ _ _ HM.out hT))) f24 (fun v hv => hK v _ (NewT.refl _) hv)
          · exact fun a wx hT hF K hK => rely_wp rfl (opr_ldUg rfl hF.1 (fun u hu => hK u _ (NewT.refl _) hu))
          · intro a wx hT hF K hK
            obtain ⟨f21, f22, f26, _⟩ := hF
            have f21 : a.tmps.getD 21 undef = (.func (.func 29) #[] #[]) := f21
            have f22 : a.tmps.getD 22 undef = .agg (rowA 10 (sgF sv p.2)) := f22
            replace f26 := show (svSg q.1 q.2).pred (a.tmps.getD 26 undef) wx from f26
            refine rely_wp rfl ?_
            exact opr_cvW (SameU_cv _ _ p.1 q.1 p.2 q.2 wx ((⟨sv, rfl, ((NewT.trans _ _ _ HM.out hT).pairs HS.out)⟩ : SgV wx _ p.1 p.2)) (f26)) rfl f21 Try.func29 (by kernel_rfl) (by kernel_rfl) (by simp only [List.map_toArray, List.map_cons, List.map_nil, eval_tmp, f22]) hK
          · intro w4 k4
            iterate 4 (intro u h; obtain rfl := Eq.symm (h (by simp)); clear h)
            iterate 2 (intro _ _)
            intro u h; obtain rfl := Eq.symm (h (by simp)); clear h
            refine relyEnd_nil rfl ?_
            simp only [Act.put, List.setIfInBounds_toArray, List.set_cons_zero, List.set_cons_succ]
            refine opr_not rfl rfl ?_
            go_simp
            replace Rg8 := Lib.hid (k4.row Rg8.out)
            replace HM := Lib.hid (NewT.trans _ _ _ HM.out k4)
            clear k4
            have HEX : Hid ((!(sameG p.1 q.1 p.2 q.2)) = !eqU p q) := Lib.hid rfl
            cases hb : (!(sameG p.1 q.1 p.2 q.2))
            · have he : eqU p q = true := by have h1 := HEX.out.symm.trans hb; simpa using h1
              have HN := Lib.hid (HNX.out he)
              have hBM := (NewT.trans _ _ _ HB.out HM.out)
              clear hb he HEX HNX
              have it2 := HIT.out
              go_wp2
              go_roundw
              case rel => exact ⟨k + 1, by omega, by go_num, by first | exact HN | trivial, by first | exact Lib.hid hBM | trivial⟩
              case measure => simp [intOf]; omega
            · have he : eqU p q = false := by have h1 := HEX.out.symm.trans hb; simpa using h1
              have HF := Lib.hid (sameLs_no (d := zU) HPP.out HQQ.out he)
              have hBM := (NewT.trans _ _ _ HB.out HM.out)
              clear hb he HEX HNX
              go_wp2
              go_ret
              exact ⟨_, rfl, hBM, by rw [HF.out]; rfl⟩
set_option maxHeartbeats 1000000 in
theorem line1_cv (p q : Int × Int) (w : World) : Cv 31 #[.agg (rowA 2 (stepF p)), .agg (rowA 2 (stepF q))] w (.eq (.bool (eqN p q))) := by
  unfold Cv
  go_enter Try.func31, Try.ntmps31
  go_upto_region 1 with fail
  have r_g1 := (rowIs_box w 34 2 (stepF p)).alloc (.cells (rowA 2 (stepF q)) 34)
  have r_g2 := rowIs_box (w.alloc (.cells (rowA 2 (stepF p)) 34)) 34 2 (stepF q)
  rw [World.size_alloc] at r_g2
  have hN : NewT w ((w.alloc (.cells (rowA 2 (stepF p)) 34)).alloc (.cells (rowA 2 (stepF q)) 34)) := (NewT.trans _ _ _ (NewT.alloc _ _) (NewT.alloc _ _))
  change Code.wp _ _ _ _ ((w.alloc (.cells (rowA 2 (stepF p)) 34)).alloc (.cells (rowA 2 (stepF q)) 34))
  generalize ((w.alloc (.cells (rowA 2 (stepF p)) 34)).alloc (.cells (rowA 2 (stepF q)) 34)) = W0 at r_g1 r_g2 hN ⊢
  obtain ⟨g1, h_g1⟩ : ∃ g_, w.heap.size = g_ := ⟨_, rfl⟩
  obtain ⟨g2, h_g2⟩ : ∃ g_, w.heap.size + 1 = g_ := ⟨_, rfl⟩
  have HG : Hid (w.heap.size ≤ g1 ∧ g1 < g2) := Lib.hid (by omega)
  rw [h_g1] at r_g1
  rw [h_g2] at r_g2
  try rw [h_g2]
  simp only [h_g1]
  have Rg1 := Lib.hid r_g1
  have Rg2 := Lib.hid r_g2
  have HM := Lib.hid hN
  clear r_g1 r_g2 hN h_g1 h_g2
  go_upto_region 1 with fail
  refine wp_region_steps0 NewT [SV.eq (.agg (rowA 2 (stepF p))), SV.eq (.agg (rowA 2 (stepF q))), SV.eq (.bool (decide (p = q))), SV.eq (.bool (decide (p = q)))] [([(2, none)], none), ([(3, none)], none), ([(5, some 0), (6, some 1)], none), ([(7, some 2)], none)] 8 4 rfl rfl (by kernel_rfl) NewT.trans (NewT.refl _) (Nat.le_of_ble_eq_true rfl) ⟨?_, ?_, ?_, ?_, trivial⟩ ?_
  · exact fun a wx hT hF K hK => rely_wp rfl (opr_ldN (hT.row Rg1.out) rfl hF.1 (hK _ _ (NewT.refl _) rfl))
  · exact fun a wx hT hF K hK => rely_wp rfl (opr_ldN (hT.row Rg2.out) rfl hF.1 (hK _ _ (NewT.refl _) rfl))
  · exact fun a wx hT hF K hK => rely_wp rfl (opr_eqlLn rfl rfl hF.1 hF.2.1 (hK _ _ (NewT.refl _) rfl))
  · exact fun a wx hT hF K hK => rely_wp rfl (opr_move (.inr rfl) (hK _ _ (NewT.refl _) hF.1))
  · intro w1 k1
    iterate 4 (intro u h; obtain rfl := Eq.symm (h (by simp)); clear h)
    refine relyEnd_nil rfl ?_
    refine wpList_end rfl ?_
    simp only [Act.put, List.setIfInBounds_toArray, List.set_cons_zero, List.set_cons_succ]
    go_simp
    replace Rg1 := Lib.hid (k1.row Rg1.out)
    replace Rg2 := Lib.hid (k1.row Rg2.out)
    replace HM := Lib.hid (NewT.trans _ _ _ HM.out k1)
    clear k1
    go_wp2
    go_ret
    exact ⟨_, rfl, HM.out, rfl⟩
set_option maxHeartbeats 4000000 in
theorem sameNL_cv (v1 v2 : Value) (L M : List (Int × Int)) (w : World) (hv : RdN w v1 L) (hu : RdN w v2 M) (hl : L.length ≤ 1000000) : Cv 30 #[v1, v2, .func (.func 31) #[] #[]] w (.eq (.bool (sameLs (0, 0) eqN L M))) := by
  unfold Cv
  have HV := Lib.hid hv
  have HU := Lib.hid hu
  have HLL := Lib.hid hl
  clear hv hu hl
  go_enter Try.func30, Try.ntmps30
  have HB := Lib.hid (NewT.refl w)
  have HM := Lib.hid (NewT.refl w)
  go_upto_region 1 with fail
  refine wp_region_steps0 NewT [SV.eq (v1), SV.eq (.int .i64 ((List.length (L) : Int))), SV.eq (v2), SV.eq (.int .i64 ((List.length (M) : Int))), SV.eq (.bool (((List.length (L) : Int)) != ((List.length (M) : Int))))] [([(0, none)], none), ([(9, some 0)], none), ([(1, none)], none), ([(11, some 2)], none), ([(10, some 1), (12, some 3)], none)] 30 5 rfl rfl (by kernel_rfl) NewT.trans (NewT.refl _) (Nat.le_of_ble_eq_true rfl) ⟨?_, ?_, ?_, ?_, ?_, trivial⟩ ?_
  · exact fun a wx hT hF K hK => rely_wp rfl (opr_move (.inl rfl) (hK _ _ (NewT.refl _) hF.1))
  · intro a wx hT hF K hK
    obtain ⟨f9, _⟩ := hF
    have f9 : a.tmps.getD 9 undef = v1 := f9
    refine rely_wp rfl ?_
    exact opr_lenL rfl lineEl (by rw [eval_tmp, f9]; exact (HV.out.new (NewT.trans _ _ _ HM.out hT))) (hK _ _ (NewT.refl _) rfl)
  · exact fun a wx hT hF K hK => rely_wp rfl (opr_move (.inl rfl) (hK _ _ (NewT.refl _) hF.1))
  · intro a wx hT hF K hK
    obtain ⟨f11, _⟩ := hF
    have f11 : a.tmps.getD 11 undef = v2 := f11
    refine rely_wp rfl ?_
    exact opr_lenL rfl lineEl (by rw [eval_tmp, f11]; exact (HU.out.new (NewT.trans _ _ _ HM.out hT))) (hK _ _ (NewT.refl _) rfl)
  · exact fun a wx hT hF K hK => rely_wp rfl (opr_cmp (b := ((List.length (L) : Int)) != ((List.length (M) : Int))) (.inr (.inl ⟨rfl, rfl⟩)) Try.underlying3 rfl hF.1 hF.2.1 (hK _ _ (NewT.refl _) rfl))
  · intro w1 k1
    iterate 5 (intro u h; obtain rfl := Eq.symm (h (by simp)); clear h)
    refine relyEnd_nil rfl ?_
    refine wpList_end rfl ?_
    simp only [Act.put, List.setIfInBounds_toArray, List.set_cons_zero, List.set_cons_succ]
    go_simp
    replace HM := Lib.hid (NewT.trans _ _ _ HM.out k1)
    clear k1
    by_cases hl : L.length = M.length
    rotate_left
    · have HF := Lib.hid (sameLs_len (d := (0, 0)) (e := eqN) hl)
      have t1 : ((L.length : Int) != (M.length : Int)) = true := by simp; omega
      clear hl
      go_wp2
      go_ret
      exact ⟨_, rfl, HM.out, by rw [HF.out]; rfl⟩
    have t1 : ((L.length : Int) != (M.length : Int)) = false := by rw [hl]; simp
    have HLE := Lib.hid hl
    clear hl
    go_upto_region 3 with fail
    refine wp_region_steps0 NewT [SV.eq (v1), SV.eq (.int .i64 ((List.length (L) : Int))), SV.eq (.int .i64 (0))] [([(0, none)], none), ([(14, some 0)], none), ([], none)] 30 3 rfl rfl (by kernel_rfl) NewT.trans (NewT.refl _) (Nat.le_of_ble_eq_true rfl) ⟨?_, ?_, ?_, trivial⟩ ?_
    · exact fun a wx hT hF K hK => rely_wp rfl (opr_move (.inl rfl) (hK _ _ (NewT.refl _) hF.1))
    · intro a wx hT hF K hK
      obtain ⟨f14, _⟩ := hF
      have f14 : a.tmps.getD 14 undef = v1 := f14
      refine rely_wp rfl ?_
      exact opr_lenL rfl lineEl (by rw [eval_tmp, f14]; exact (HV.out.new (NewT.trans _ _ _ HM.out hT))) (hK _ _ (NewT.refl _) rfl)
    · exact fun a wx hT hF K hK => rely_wp rfl (opr_move (.inl rfl) (hK _ _ (NewT.refl _) rfl))
    · intro w2 k2
      iterate 3 (intro u h; obtain rfl := Eq.symm (h (by simp)); clear h)
      refine relyEnd_nil rfl ?_
      refine wpList_end rfl ?_
      simp only [Act.put, List.setIfInBounds_toArray, List.set_cons_zero, List.set_cons_succ]
      go_simp
      replace HM := Lib.hid (NewT.trans _ _ _ HM.out k2)
      clear k2
      go_wp2
      go_loopw [16] (fun i wr => ∃ k : Nat, k ≤ L.length ∧ i = .int .i64 (k : Int) ∧ Hid (∀ i, i < k → eqN (L.getD i (0, 0)) (M.getD i (0, 0)) = true) ∧ Hid (NewT w wr)) (fun i _ => L.length - (intOf i).toNat)
      case atStart => exact ⟨0, by omega, rfl, Lib.hid (fun i hi => by omega), Lib.hid (NewT.trans _ _ _ HB.out HM.out)⟩
      case round =>
        clear HM 
        obtain ⟨k, hk, rfl, HA, HM⟩ := hrel
        replace HB := Lib.hid (NewT.refl w)
        have hll := HLL.out
        by_cases hlt : k < L.length
        rotate_left
        · obtain rfl : k = L.length := by omega
          have HF := Lib.hid (sameLs_yes (d := (0, 0)) (e := eqN) HLE.out HA.out)
          go_wp2
          go_ret
          exact ⟨_, rfl, HM.out, by rw [HF.out]; rfl⟩
        obtain ⟨p, hp⟩ : ∃ p, L[k]? = some p := ⟨_, List.getElem?_eq_getElem hlt⟩
        obtain ⟨q, hq⟩ : ∃ q, M[k]? = some q := ⟨_, List.getElem?_eq_getElem (by have := HLE.out; omega)⟩
        have HPP := Lib.hid hp
        have HQQ := Lib.hid hq
        have HNX : Hid (eqN p q = true → ∀ i, i < k + 1 → eqN (L.getD i (0, 0)) (M.getD i (0, 0)) = true) := Lib.hid (fun h i hi => by
          by_cases e : i = k
          · subst e; rw [getD_of hp, getD_of hq]; exact h
          · exact HA.out i (by omega))
        have it : (k : Int) < (L.length : Int) := by omega
        have HIT := Lib.hid it
        clear hp hq HA hlt
        go_upto_region 5 with fail
        refine wp_region_steps0 NewT [SV.eq (.int .i64 ((k : Int))), svEl 2 lnE (p), SV.eq ((.agg (rowA 2 (stepF p))))] [([(16, none)], none), ([(14, none), (16, none)], none), ([(19, some 1)], none)] 30 3 rfl rfl (by kernel_rfl) NewT.trans (NewT.refl _) (Nat.le_of_ble_eq_true rfl) ⟨?_, ?_, ?_, trivial⟩ ?_
        · exact fun a wx hT hF K hK => rely_wp rfl (opr_move (.inl rfl) (hK _ _ (NewT.refl _) hF.1))
        · intro a wx hT hF K hK
          obtain ⟨f14, f16, _⟩ := hF
          have f14 : a.tmps.getD 14 undef = v1 := f14
          have f16 : a.tmps.getD 16 undef = .int .i64 ((k : Int)) := f16
          refine rely_wp rfl ?_
          exact opr_idxL (i := k) (p := p) lineEl (HPP.out) (rfl) rfl (by rw [eval_tmp, f14]; exact (HV.out.new (NewT.trans _ _ _ HM.out hT))) f16 (fun v hv => hK v _ (NewT.refl _) hv)
        · exact fun a wx hT hF K hK => rely_wp rfl (opr_ldLn rfl hF.1 (hK _ _ (NewT.refl _) rfl))
        · intro w3 k3
          intro u h; obtain rfl := Eq.symm (h (by simp)); clear h
          intro _ _
          intro u h; obtain rfl := Eq.symm (h (by simp)); clear h
          refine relyEnd_nil rfl ?_
          simp only [Act.put, List.setIfInBounds_toArray, List.set_cons_zero, List.set_cons_succ]
          refine wpList_newA (n := 2) (f := stepF p) rfl rfl rfl rfl rfl rfl rfl rfl (by decide) rfl (by first | (simp; done) | simp [Act.put]) (by kernel_rfl) run_alloc_line info_line (stepF_one _) ?_
          intro W3 hn3 rr3
          refine wpList_end rfl ?_
          simp only [Act.put, List.setIfInBounds_toArray, List.set_cons_zero, List.set_cons_succ]
          go_simp
          obtain ⟨g8, h_g8⟩ : ∃ g_, w3.heap.size = g_ := ⟨_, rfl⟩
          rw [h_g8] at rr3
          simp only [h_g8]
          have HGg8 : Hid (w.heap.size ≤ g8) := Lib.hid (by rw [← h_g8]; exact (NewT.trans _ _ _ HM.out k3).out.size)
          have q3 := NewT.trans _ _ _ k3 hn3
          clear k3 hn3 h_g8
          replace HM := Lib.hid (NewT.trans _ _ _ HM.out q3)
          clear q3
          have Rg8 := Lib.hid rr3
          clear rr3
          have HV2 := Lib.hid (HV.out.new HM.out)
          have HU2 := Lib.hid (HU.out.new HM.out)
          replace HB := HM
          replace HM := Lib.hid (NewT.refl W3)
          go_upto_region 6 with fail
          refine wp_region_rely (NewT) [SV.eq ((.func (.func 31) #[] #[])), SV.eq (.agg (rowA 2 (stepF p))), SV.eq (v2), SV.eq (.int .i64 ((k : Int))), svEl 2 lnE (q), SV.eq ((.agg (rowA 2 (stepF q)))), SV.eq (.bool (eqN p q))] [([(2, none)], none), ([(8, none)], none), ([(1, none)], none), ([(7, none)], none), ([(23, some 2), (24, some 3)], none), ([(25, some 4)], none), ([(21, some 0), (22, some 1), (26, some 5)], none)] 30 rfl (by kernel_rfl) rfl (by kernel_rfl) (by kernel_rfl) rfl NewT.trans (NewT.drew _) (Nat.le_of_ble_eq_true rfl) ⟨?_, ?_, ?_, ?_, ?_, ?_, ?_, trivial⟩ ?_
          · exact fun a wx hT hF K hK => rely_wp rfl (opr_move (.inl rfl) (hK _ _ (NewT.refl _) hF.1))
          · exact fun a wx hT hF K hK => rely_wp rfl (opr_ldN (hT.row Rg8.out) rfl hF.1 (hK _ _ (NewT.refl _) rfl))
          · exact fun a wx hT hF K hK => rely_wp rfl (opr_move (.inl rfl) (hK _ _ (NewT.refl _) hF.1))
          · exact fun a wx hT hF K hK => rely_wp rfl (opr_move (.inl rfl) (hK _ _ (NewT.refl _) hF.1))
          · intro a wx hT hF K hK
            obtain ⟨f23, f24, _⟩ := hF
            have f23 : a.tmps.getD 23 undef = v2 := f23
            have f24 : a.tmps.getD 24 undef = .int .i64 ((k : Int)) := f24
            refine rely_wp rfl ?_
            exact opr_idxL (i := k) (p := q) lineEl (HQQ.out) (rfl) rfl (by rw [eval_tmp, f23]; exact (HU2.out.new (NewT.trans _ _ _ HM.out hT))) f24 (fun v hv => hK v _ (NewT.refl _) hv)
          · exact fun a wx hT hF K hK => rely_wp rfl (opr_ldLn rfl hF.1 (hK _ _ (NewT.refl _) rfl))
          · intro a wx hT hF K hK
            obtain ⟨f21, f22, f26, _⟩ := hF
            have f21 : a.tmps.getD 21 undef = (.func (.func 31) #[] #[]) := f21
            have f22 : a.tmps.getD 22 undef = .agg (rowA 2 (stepF p)) := f22
            have f26 : a.tmps.getD 26 undef = (.agg (rowA 2 (stepF q))) := f26
            refine rely_wp rfl ?_
            exact opr_cvW (line1_cv p q wx) rfl f21 Try.func31 (by kernel_rfl) (by kernel_rfl) (by simp only [List.map_toArray, List.map_cons, List.map_nil, eval_tmp, f22, f26]) hK
          · intro w4 k4
            iterate 4 (intro u h; obtain rfl := Eq.symm (h (by simp)); clear h)
            intro _ _
            iterate 2 (intro u h; obtain rfl := Eq.symm (h (by simp)); clear h)
            refine relyEnd_nil rfl ?_
            simp only [Act.put, List.setIfInBounds_toArray, List.set_cons_zero, List.set_cons_succ]
            refine opr_not rfl rfl ?_
            go_simp
            replace Rg8 := Lib.hid (k4.row Rg8.out)
            replace HM := Lib.hid (NewT.trans _ _ _ HM.out k4)
            clear k4
            have HEX : Hid ((!(eqN p q)) = !eqN p q) := Lib.hid rfl
            cases hb : (!(eqN p q))
            · have he : eqN p q = true := by have h1 := HEX.out.symm.trans hb; simpa using h1
              have HN := Lib.hid (HNX.out he)
              have hBM := (NewT.trans _ _ _ HB.out HM.out)
              clear hb he HEX HNX
              have it2 := HIT.out
              go_wp2
              go_roundw
              case rel => exact ⟨k + 1, by omega, by go_num, by first | exact HN | trivial, by first | exact Lib.hid hBM | trivial⟩
              case measure => simp [intOf]; omega
            · have he : eqN p q = false := by have h1 := HEX.out.symm.trans hb; simpa using h1
              have HF := Lib.hid (sameLs_no (d := (0, 0)) HPP.out HQQ.out he)
              have hBM := (NewT.trans _ _ _ HB.out HM.out)
              clear hb he HEX HNX
              go_wp2
              go_ret
              exact ⟨_, rfl, hBM, by rw [HF.out]; rfl⟩
set_option maxHeartbeats 4000000 in
theorem rLines_cv (v1 v2 : Value) (L M : List (Int × Int)) (w : World) (hv : RdN w v1 L) (hu : RdN w v2 M) (hl : L.length ≤ 1000000) : Cv 13 #[v1, v2] w (.eq (.bool (sameLs (0, 0) eqN L M))) := by
  unfold Cv
  have HV := Lib.hid hv
  have HU := Lib.hid hu
  have HLL := Lib.hid hl
  clear hv hu hl
  go_enter Try.func13, Try.ntmps13
  have HB := Lib.hid (NewT.refl w)
  have HM := Lib.hid (NewT.refl w)
  go_upto_region 1 with fail
  refine wp_region_steps0 NewT [SV.eq (v1), SV.eq (.int .i64 ((List.length (L) : Int))), SV.eq (v2), SV.eq (.int .i64 ((List.length (M) : Int))), SV.eq (.bool (((List.length (L) : Int)) != ((List.length (M) : Int))))] [([(0, none)], none), ([(6, some 0)], none), ([(1, none)], none), ([(8, some 2)], none), ([(7, some 1), (9, some 3)], none)] 26 5 rfl rfl (by kernel_rfl) NewT.trans (NewT.refl _) (Nat.le_of_ble_eq_true rfl) ⟨?_, ?_, ?_, ?_, ?_, trivial⟩ ?_
  · exact fun a wx hT hF K hK => rely_wp rfl (opr_move (.inl rfl) (hK _ _ (NewT.refl _) hF.1))
  · intro a wx hT hF K hK
    obtain ⟨f6, _⟩ := hF
    have f6 : a.tmps.getD 6 undef = v1 := f6
    refine rely_wp rfl ?_
    exact opr_lenL rfl lineEl (by rw [eval_tmp, f6]; exact (HV.out.new (NewT.trans _ _ _ HM.out hT))) (hK _ _ (NewT.refl _) rfl)
  · exact fun a wx hT hF K hK => rely_wp rfl (opr_move (.inl rfl) (hK _ _ (NewT.refl _) hF.1))
  · intro a wx hT hF K hK
    obtain ⟨f8, _⟩ := hF
    have f8 : a.tmps.getD 8 undef = v2 := f8
    refine rely_wp rfl ?_
    exact opr_lenL rfl lineEl (by rw [eval_tmp, f8]; exact (HU.out.new (NewT.trans _ _ _ HM.out hT))) (hK _ _ (NewT.refl _) rfl)
  · exact fun a wx hT hF K hK => rely_wp rfl (opr_cmp (b := ((List.length (L) : Int)) != ((List.length (M) : Int))) (.inr (.inl ⟨rfl, rfl⟩)) Try.underlying3 rfl hF.1 hF.2.1 (hK _ _ (NewT.refl _) rfl))
  · intro w1 k1
    iterate 5 (intro u h; obtain rfl := Eq.symm (h (by simp)); clear h)
    refine relyEnd_nil rfl ?_
    refine wpList_end rfl ?_
    simp only [Act.put, List.setIfInBounds_toArray, List.set_cons_zero, List.set_cons_succ]
    go_simp
    replace HM := Lib.hid (NewT.trans _ _ _ HM.out k1)
    clear k1
    by_cases hl : L.length = M.length
    rotate_left
    · have HF := Lib.hid (sameLs_len (d := (0, 0)) (e := eqN) hl)
      have t1 : ((L.length : Int) != (M.length : Int)) = true := by simp; omega
      clear hl
      go_wp2
      go_ret
      exact ⟨_, rfl, HM.out, by rw [HF.out]; rfl⟩
    have t1 : ((L.length : Int) != (M.length : Int)) = false := by rw [hl]; simp
    have HLE := Lib.hid hl
    clear hl
    go_wp2
    go_loopw [5] (fun i wr => ∃ k : Nat, k ≤ L.length ∧ i = .int .i64 (k : Int) ∧ Hid (∀ i, i < k → eqN (L.getD i (0, 0)) (M.getD i (0, 0)) = true) ∧ Hid (NewT w wr)) (fun i _ => L.length - (intOf i).toNat)
    case atStart => exact ⟨0, by omega, rfl, Lib.hid (fun i hi => by omega), Lib.hid (NewT.trans _ _ _ HB.out HM.out)⟩
    case round =>
      clear HM 
      obtain ⟨k, hk, rfl, HA, HM⟩ := hrel
      replace HB := Lib.hid (NewT.refl w)
      have hll := HLL.out
      by_cases hlt : k < L.length
      rotate_left
      · obtain rfl : k = L.length := by omega
        have HF := Lib.hid (sameLs_yes (d := (0, 0)) (e := eqN) HLE.out HA.out)
        go_upto_region 4 with fail
        refine wp_region_steps0 NewT [SV.eq (.int .i64 ((L.length : Int))), SV.eq (v1), SV.eq (.int .i64 ((List.length (L) : Int))), SV.eq (.bool (decide (((L.length : Int)) < ((List.length (L) : Int)))))] [([(5, none)], none), ([(0, none)], none), ([(12, some 1)], none), ([(11, some 0), (13, some 2)], none)] 26 4 rfl rfl (by kernel_rfl) NewT.trans (NewT.refl _) (Nat.le_of_ble_eq_true rfl) ⟨?_, ?_, ?_, ?_, trivial⟩ ?_
        · exact fun a wx hT hF K hK => rely_wp rfl (opr_move (.inl rfl) (hK _ _ (NewT.refl _) hF.1))
        · exact fun a wx hT hF K hK => rely_wp rfl (opr_move (.inl rfl) (hK _ _ (NewT.refl _) hF.1))
        · intro a wx hT hF K hK
          obtain ⟨f12, _⟩ := hF
          have f12 : a.tmps.getD 12 undef = v1 := f12
          refine rely_wp rfl ?_
          exact opr_lenL rfl lineEl (by rw [eval_tmp, f12]; exact (HV.out.new (NewT.trans _ _ _ HM.out hT))) (hK _ _ (NewT.refl _) rfl)
        · exact fun a wx hT hF K hK => rely_wp rfl (opr_cmp (b := decide (((L.length : Int)) < ((List.length (L) : Int)))) (.inr (.inr (.inr (.inl ⟨rfl, rfl⟩)))) Try.underlying3 rfl hF.1 hF.2.1 (hK _ _ (NewT.refl _) rfl))
        · intro w2 k2
          iterate 4 (intro u h; obtain rfl := Eq.symm (h (by simp)); clear h)
          refine relyEnd_nil rfl ?_
          refine wpList_end rfl ?_
          simp only [Act.put, List.setIfInBounds_toArray, List.set_cons_zero, List.set_cons_succ]
          go_simp
          replace HM := Lib.hid (NewT.trans _ _ _ HM.out k2)
          clear k2
          go_wp2
          go_ret
          exact ⟨_, rfl, HM.out, by rw [HF.out]; rfl⟩
      obtain ⟨p, hp⟩ : ∃ p, L[k]? = some p := ⟨_, List.getElem?_eq_getElem hlt⟩
      obtain ⟨q, hq⟩ : ∃ q, M[k]? = some q := ⟨_, List.getElem?_eq_getElem (by have := HLE.out; omega)⟩
      have HPP := Lib.hid hp
      have HQQ := Lib.hid hq
      have HNX : Hid (eqN p q = true → ∀ i, i < k + 1 → eqN (L.getD i (0, 0)) (M.getD i (0, 0)) = true) := Lib.hid (fun h i hi => by
        by_cases e : i = k
        · subst e; rw [getD_of hp, getD_of hq]; exact h
        · exact HA.out i (by omega))
      have it : (k : Int) < (L.length : Int) := by omega
      have HIT := Lib.hid it
      clear hp hq HA hlt
      go_upto_region 4 with fail
      refine wp_region_steps0 NewT [SV.eq (.int .i64 ((k : Int))), SV.eq (v1), SV.eq (.int .i64 ((List.length (L) : Int))), SV.eq (.bool (decide (((k : Int)) < ((List.length (L) : Int)))))] [([(5, none)], none), ([(0, none)], none), ([(12, some 1)], none), ([(11, some 0), (13, some 2)], none)] 26 4 rfl rfl (by kernel_rfl) NewT.trans (NewT.refl _) (Nat.le_of_ble_eq_true rfl) ⟨?_, ?_, ?_, ?_, trivial⟩ ?_
      · exact fun a wx hT hF K hK => rely_wp rfl (opr_move (.inl rfl) (hK _ _ (NewT.refl _) hF.1))
      · exact fun a wx hT hF K hK => rely_wp rfl (opr_move (.inl rfl) (hK _ _ (NewT.refl _) hF.1))
      · intro a wx hT hF K hK
        obtain ⟨f12, _⟩ := hF
        have f12 : a.tmps.getD 12 undef = v1 := f12
        refine rely_wp rfl ?_
        exact opr_lenL rfl lineEl (by rw [eval_tmp, f12]; exact (HV.out.new (NewT.trans _ _ _ HM.out hT))) (hK _ _ (NewT.refl _) rfl)
      · exact fun a wx hT hF K hK => rely_wp rfl (opr_cmp (b := decide (((k : Int)) < ((List.length (L) : Int)))) (.inr (.inr (.inr (.inl ⟨rfl, rfl⟩)))) Try.underlying3 rfl hF.1 hF.2.1 (hK _ _ (NewT.refl _) rfl))
      · intro w3 k3
        iterate 4 (intro u h; obtain rfl := Eq.symm (h (by simp)); clear h)
        refine relyEnd_nil rfl ?_
        refine wpList_end rfl ?_
        simp only [Act.put, List.setIfInBounds_toArray, List.set_cons_zero, List.set_cons_succ]
        go_simp
        replace HM := Lib.hid (NewT.trans _ _ _ HM.out k3)
        clear k3
        go_upto_region 6 with fail
        refine wp_region_rely (NewT) [SV.eq (v1), SV.eq (.int .i64 ((k : Int))), svEl 2 lnE (p), SV.eq ((.agg (rowA 2 (stepF p)))), SV.eq (v2), SV.eq (.int .i64 ((k : Int))), svEl 2 lnE (q), SV.eq ((.agg (rowA 2 (stepF q))))] [([(0, none)], none), ([(5, none)], none), ([(17, some 0), (18, some 1)], none), ([(19, some 2)], none), ([(1, none)], none), ([(5, none)], none), ([(21, some 4), (22, some 5)], none), ([(23, some 6)], none)] 26 rfl (by kernel_rfl) rfl (by kernel_rfl) (by kernel_rfl) rfl NewT.trans (NewT.drew _) (Nat.le_of_ble_eq_true rfl) ⟨?_, ?_, ?_, ?_, ?_, ?_, ?_, ?_, trivial⟩ ?_
        · exact fun a wx hT hF K hK => rely_wp rfl (opr_move (.inl rfl) (hK _ _ (NewT.refl _) hF.1))
        · exact fun a wx hT hF K hK => rely_wp rfl (opr_move (.inl rfl) (hK _ _ (NewT.refl _) hF.1))
        · intro a wx hT hF K hK
          obtain ⟨f17, f18, _⟩ := hF
          have f17 : a.tmps.getD 17 undef = v1 := f17
          have f18 : a.tmps.getD 18 undef = .int .i64 ((k : Int)) := f18
          refine rely_wp rfl ?_
          exact opr_idxL (i := k) (p := p) lineEl (HPP.out) (rfl) rfl (by rw [eval_tmp, f17]; exact (HV.out.new (NewT.trans _ _ _ HM.out hT))) f18 (fun v hv => hK v _ (NewT.refl _) hv)
        · exact fun a wx hT hF K hK => rely_wp rfl (opr_ldLn rfl hF.1 (hK _ _ (NewT.refl _) rfl))
        · exact fun a wx hT hF K hK => rely_wp rfl (opr_move (.inl rfl) (hK _ _ (NewT.refl _) hF.1))
        · exact fun a wx hT hF K hK => rely_wp rfl (opr_move (.inl rfl) (hK _ _ (NewT.refl _) hF.1))
        · intro a wx hT hF K hK
          obtain ⟨f21, f22, _⟩ := hF
          have f21 : a.tmps.getD 21 undef = v2 := f21
          have f22 : a.tmps.getD 22 undef = .int .i64 ((k : Int)) := f22
          refine rely_wp rfl ?_
          exact opr_idxL (i := k) (p := q) lineEl (HQQ.out) (rfl) rfl (by rw [eval_tmp, f21]; exact (HU.out.new (NewT.trans _ _ _ HM.out hT))) f22 (fun v hv => hK v _ (NewT.refl _) hv)
        · exact fun a wx hT hF K hK => rely_wp rfl (opr_ldLn rfl hF.1 (hK _ _ (NewT.refl _) rfl))
        · intro w4 k4
          iterate 2 (intro u h; obtain rfl := Eq.symm (h (by simp)); clear h)
          intro _ _
          iterate 3 (intro u h; obtain rfl := Eq.symm (h (by simp)); clear h)
          intro _ _
          intro u h; obtain rfl := Eq.symm (h (by simp)); clear h
          refine relyEnd_nil rfl ?_
          simp only [Act.put, List.setIfInBounds_toArray, List.set_cons_zero, List.set_cons_succ]
          refine opr_neqLn (b := !decide (p = q)) rfl rfl rfl rfl ?_
          go_simp
          replace HM := Lib.hid (NewT.trans _ _ _ HM.out k4)
          clear k4
          have HEX : Hid ((!decide (p = q)) = !eqN p q) := Lib.hid rfl
          cases hb : (!decide (p = q))
          · have he : eqN p q = true := by have h1 := HEX.out.symm.trans hb; simpa using h1
            have HN := Lib.hid (HNX.out he)
            have hBM := HM.out
            clear hb he HEX HNX
            have it2 := HIT.out
            go_wp2
            go_roundw
            case rel => exact ⟨k + 1, by omega, by go_num, by first | exact HN | trivial, by first | exact Lib.hid hBM | trivial⟩
            case measure => simp [intOf]; omega
          · have he : eqN p q = false := by have h1 := HEX.out.symm.trans hb; simpa using h1
            have HF := Lib.hid (sameLs_no (d := (0, 0)) HPP.out HQQ.out he)
            have hBM := HM.out
            clear hb he HEX HNX
            go_wp2
            go_ret
            exact ⟨_, rfl, hBM, by rw [HF.out]; rfl⟩
end Go.Proofs.Ytilmeffmdgcblaa
/- Package book: Same, Lines, Clean; the reference's Same, Recs, Great. -/
namespace Go.Proofs.Ytilmeffmdgcblaa
open Go Go.RowKit
set_option maxRecDepth 8000
set_option linter.all false
set_option maxHeartbeats 4000000 in
theorem bSame_cv (bv cv : Value) (bk bl : Bk) (w : World) (hb : BkV w bv bk) (hc : BkV w cv bl) (hl : bk.sg.length ≤ 1000000) : Cv 15 #[bv, cv] w (.eq (.bool (sameK bk bl))) := by
  unfold Cv
  obtain ⟨sv, rfl, hsv⟩ := hb
  obtain ⟨tv, rfl, htv⟩ := hc
  have HSV := Lib.hid hsv
  have HTV := Lib.hid htv
  have HLL := Lib.hid hl
  clear hsv htv hl
  go_enter Try.func15, Try.ntmps15
  go_upto_region 1 with fail
  have r_g2 := (rowIs_box w 28 5 (bkF bk.ep sv)).alloc (.cells (rowA 5 (bkF bl.ep tv)) 28)
  have r_g3 := rowIs_box (w.alloc (.cells (rowA 5 (bkF bk.ep sv)) 28)) 28 5 (bkF bl.ep tv)
  rw [World.size_alloc] at r_g3
  have hN : NewT w ((w.alloc (.cells (rowA 5 (bkF bk.ep sv)) 28)).alloc (.cells (rowA 5 (bkF bl.ep tv)) 28)) := (NewT.trans _ _ _ (NewT.alloc _ _) (NewT.alloc _ _))
  change Code.wp _ _ _ _ ((w.alloc (.cells (rowA 5 (bkF bk.ep sv)) 28)).alloc (.cells (rowA 5 (bkF bl.ep tv)) 28))
  generalize ((w.alloc (.cells (rowA 5 (bkF bk.ep sv)) 28)).alloc (.cells (rowA 5 (bkF bl.ep tv)) 28)) = W0 at r_g2 r_g3 hN ⊢
  obtain ⟨g2, h_g2⟩ : ∃ g_, w.heap.size = g_ := ⟨_, rfl⟩
  obtain ⟨g3, h_g3⟩ : ∃ g_, w.heap.size + 1 = g_ := ⟨_, rfl⟩
  have HG : Hid (w.heap.size ≤ g2 ∧ g2 < g3) := Lib.hid (by omega)
  rw [h_g2] at r_g2
  rw [h_g3] at r_g3
  try rw [h_g3]
  simp only [h_g2]
  have Rg2 := Lib.hid r_g2
  have Rg3 := Lib.hid r_g3
  have HM := Lib.hid hN
  clear r_g2 r_g3 hN h_g2 h_g3
  go_upto_region 1 with fail
  obtain ⟨q1_1, Q1_1⟩ : ∃ bq_, ((epB bk.ep bl.ep) && (sameLs zU eqU bk.sg bl.sg)) = bq_ := ⟨_, rfl⟩
  refine wp_region_steps0 NewT [SV.eq (.pointer (some ⟨g2, 0, none⟩)), SV.eq ((.agg (rowA 4 (epF bk.ep)))), SV.eq (.pointer (some ⟨g3, 0, none⟩)), SV.eq ((.agg (rowA 4 (epF bl.ep)))), SV.eq (.bool (epB bk.ep bl.ep)), SV.eq (.bool (epB bk.ep bl.ep)), svIf (epB bk.ep bl.ep) (SV.eq (.pointer (some ⟨g2, 4, none⟩))), svIf (epB bk.ep bl.ep) (SV.eq (sv)), svIf (epB bk.ep bl.ep) (SV.eq (.pointer (some ⟨g3, 4, none⟩))), svIf (epB bk.ep bl.ep) (SV.eq (tv)), svIf (epB bk.ep bl.ep) (SV.eq (.bool (sameLs zU eqU bk.sg bl.sg))), SV.eq (.bool (q1_1)), SV.eq (.bool (q1_1))] [([(2, none)], none), ([(5, some 0)], none), ([(3, none)], none), ([(7, some 2)], none), ([(6, some 1), (8, some 3)], none), ([(9, some 4)], none), ([(2, none), (10, some 5)], some (10, true)), ([(11, some 6), (10, some 5)], some (10, true)), ([(3, none), (10, some 5)], some (10, true)), ([(13, some 8), (10, some 5)], some (10, true)), ([(12, some 7), (14, some 9), (10, some 5)], some (10, true)), ([(10, some 5), (15, some 10)], none), ([(16, some 11)], none)] 17 13 rfl rfl (by kernel_rfl) NewT.trans (NewT.refl _) (Nat.le_of_ble_eq_true rfl) ⟨?_, ?_, ?_, ?_, ?_, ?_, ?_, ?_, ?_, ?_, ?_, ?_, ?_, trivial⟩ ?_
  · exact fun a wx hT hF K hK => rely_wp rfl (opr_fldK0 rfl hF.1 (hK _ _ (NewT.refl _) rfl))
  · exact fun a wx hT hF K hK => rely_wp rfl (opr_ldEp (hT.row Rg2.out) rfl hF.1 (hK _ _ (NewT.refl _) rfl))
  · exact fun a wx hT hF K hK => rely_wp rfl (opr_fldK0 rfl hF.1 (hK _ _ (NewT.refl _) rfl))
  · exact fun a wx hT hF K hK => rely_wp rfl (opr_ldEp (hT.row Rg3.out) rfl hF.1 (hK _ _ (NewT.refl _) rfl))
  · exact fun a wx hT hF K hK => rely_wp rfl (opr_eqlEp rfl hF.1 hF.2.1 (hK _ _ (NewT.refl _) rfl))
  · exact fun a wx hT hF K hK => rely_wp rfl (opr_move (.inl rfl) (hK _ _ (NewT.refl _) hF.1))
  · exact fun a wx hT hF K hK => rely_if (rely_gt hF.2.1) (NewT.refl _) hK fun hE hK => opr_fldK1 rfl hF.1 (hK _ _ (NewT.refl _) rfl)
  · exact fun a wx hT hF K hK => rely_if (rely_gt hF.2.1) (NewT.refl _) hK fun hE hK => opr_ldUs (hT.row Rg2.out) (by decide) rfl rfl (hF.1 hE) (hK _ _ (NewT.refl _) rfl)
  · exact fun a wx hT hF K hK => rely_if (rely_gt hF.2.1) (NewT.refl _) hK fun hE hK => opr_fldK1 rfl hF.1 (hK _ _ (NewT.refl _) rfl)
  · exact fun a wx hT hF K hK => rely_if (rely_gt hF.2.1) (NewT.refl _) hK fun hE hK => opr_ldUs (hT.row Rg3.out) (by decide) rfl rfl (hF.1 hE) (hK _ _ (NewT.refl _) rfl)
  · exact fun a wx hT hF K hK => rely_if (rely_gt hF.2.2.1) (NewT.refl _) hK fun hE hK => opr_cv (sameUL_cv _ _ bk.sg bl.sg wx ((HSV.out.new (NewT.trans _ _ _ HM.out hT))) ((HTV.out.new (NewT.trans _ _ _ HM.out hT))) (HLL.out)) rfl Try.func28 (by kernel_rfl) (by kernel_rfl) (evs3 (hF.1 hE) (hF.2.1 hE) rfl) hK
  · exact fun a wx hT hF K hK => rely_wp rfl (opr_pick_b rfl hF.1 (fun hb => hK _ _ (NewT.refl _) (pn_and1 Q1_1 (hF.2.1 hb) hb)) (fun hb => hK _ _ (NewT.refl _) (pn_and0 Q1_1 hb)))
  · exact fun a wx hT hF K hK => rely_wp rfl (opr_move (.inr rfl) (hK _ _ (NewT.refl _) hF.1))
  · intro w1 k1
    iterate 6 (intro u h; obtain rfl := Eq.symm (h (by simp)); clear h)
    iterate 5 (intro _ _)
    iterate 2 (intro u h; obtain rfl := Eq.symm (h (by simp)); clear h)
    subst Q1_1
    refine relyEnd_nil rfl ?_
    refine wpList_end rfl ?_
    simp only [Act.put, List.setIfInBounds_toArray, List.set_cons_zero, List.set_cons_succ]
    go_simp
    replace Rg2 := Lib.hid (k1.row Rg2.out)
    replace Rg3 := Lib.hid (k1.row Rg3.out)
    replace HM := Lib.hid (NewT.trans _ _ _ HM.out k1)
    clear k1
    go_wp2
    go_ret
    exact ⟨_, rfl, HM.out, rfl⟩
set_option maxHeartbeats 4000000 in
theorem bLines_cv (v1 v2 : Value) (L M : List (Int × Int)) (w : World) (hv : RdN w v1 L) (hu : RdN w v2 M) (hl : L.length ≤ 1000000) : Cv 17 #[v1, v2] w (.eq (.bool (sameLs (0, 0) eqN L M))) := by
  unfold Cv
  have HV := Lib.hid hv
  have HU := Lib.hid hu
  have HLL := Lib.hid hl
  clear hv hu hl
  go_enter Try.func17, Try.ntmps17
  have HM := Lib.hid (NewT.refl w)
  go_upto_region 1 with fail
  refine wp_region_steps0 NewT [SV.eq (v1), SV.eq (v2), SV.eq (.bool (sameLs (0, 0) eqN L M)), SV.eq (.bool (sameLs (0, 0) eqN L M))] [([(0, none)], none), ([(1, none)], none), ([(5, some 0), (6, some 1)], none), ([(7, some 2)], none)] 8 4 rfl rfl (by kernel_rfl) NewT.trans (NewT.refl _) (Nat.le_of_ble_eq_true rfl) ⟨?_, ?_, ?_, ?_, trivial⟩ ?_
  · exact fun a wx hT hF K hK => rely_wp rfl (opr_move (.inl rfl) (hK _ _ (NewT.refl _) hF.1))
  · exact fun a wx hT hF K hK => rely_wp rfl (opr_move (.inl rfl) (hK _ _ (NewT.refl _) hF.1))
  · exact fun a wx hT hF K hK => rely_wp rfl (opr_cv (sameNL_cv _ _ L M wx ((HV.out.new (NewT.trans _ _ _ HM.out hT))) ((HU.out.new (NewT.trans _ _ _ HM.out hT))) (HLL.out)) rfl Try.func30 (by kernel_rfl) (by kernel_rfl) (evs3 hF.1 hF.2.1 rfl) hK)
  · exact fun a wx hT hF K hK => rely_wp rfl (opr_move (.inr rfl) (hK _ _ (NewT.refl _) hF.1))
  · intro w1 k1
    iterate 4 (intro u h; obtain rfl := Eq.symm (h (by simp)); clear h)
    refine relyEnd_nil rfl ?_
    refine wpList_end rfl ?_
    simp only [Act.put, List.setIfInBounds_toArray, List.set_cons_zero, List.set_cons_succ]
    go_simp
    replace HM := Lib.hid (NewT.trans _ _ _ HM.out k1)
    clear k1
    go_wp2
    go_ret
    exact ⟨_, rfl, HM.out, rfl⟩
set_option maxHeartbeats 4000000 in
theorem Clean_cv (v : Value) (l : List (Int × Int)) (w : World) (h : RdN w v l) (hl : l.length ≤ 1000000) : Cv 14 #[v] w (.eq (.bool (cleanL l))) := by
  unfold Cv
  have HV := Lib.hid h
  have HLL := Lib.hid hl
  clear h hl
  go_enter Try.func14, Try.ntmps14
  have HM := Lib.hid (NewT.refl w)
  go_upto_region 1 with fail
  refine wp_region_steps0 NewT [SV.eq (v), SV.eq (.int .i64 ((List.length (l) : Int))), SV.eq (.int .i64 (0))] [([(0, none)], none), ([(5, some 0)], none), ([], none)] 20 3 rfl rfl (by kernel_rfl) NewT.trans (NewT.refl _) (Nat.le_of_ble_eq_true rfl) ⟨?_, ?_, ?_, trivial⟩ ?_
  · exact fun a wx hT hF K hK => rely_wp rfl (opr_move (.inl rfl) (hK _ _ (NewT.refl _) hF.1))
  · intro a wx hT hF K hK
    obtain ⟨f5, _⟩ := hF
    have f5 : a.tmps.getD 5 undef = v := f5
    refine rely_wp rfl ?_
    exact opr_lenL rfl lineEl (by rw [eval_tmp, f5]; exact (HV.out.new (NewT.trans _ _ _ HM.out hT))) (hK _ _ (NewT.refl _) rfl)
  · exact fun a wx hT hF K hK => rely_wp rfl (opr_move (.inl rfl) (hK _ _ (NewT.refl _) rfl))
  · intro w1 k1
    iterate 3 (intro u h; obtain rfl := Eq.symm (h (by simp)); clear h)
    refine relyEnd_nil rfl ?_
    refine wpList_end rfl ?_
    simp only [Act.put, List.setIfInBounds_toArray, List.set_cons_zero, List.set_cons_succ]
    go_simp
    replace HM := Lib.hid (NewT.trans _ _ _ HM.out k1)
    clear k1
    go_wp2
    go_loopw [7] (fun i wr => ∃ k : Nat, k ≤ l.length ∧ i = .int .i64 (k : Int) ∧ Hid (cleanL (l.take k) = true) ∧ Hid (NewT w wr)) (fun i _ => l.length - (intOf i).toNat)
    case atStart => exact ⟨0, by omega, rfl, Lib.hid rfl, HM⟩
    case round =>
      clear HM
      obtain ⟨k, hk, rfl, HA, HM⟩ := hrel
      have hll := HLL.out
      by_cases hlt : k < l.length
      rotate_left
      · obtain rfl : k = l.length := by omega
        have HF : Hid (cleanL l = true) := Lib.hid (by have := HA.out; rwa [List.take_length] at this)
        go_wp2
        go_ret
        exact ⟨_, rfl, HM.out, by rw [HF.out]; rfl⟩
      obtain ⟨p, hp⟩ : ∃ p, l[k]? = some p := ⟨_, List.getElem?_eq_getElem hlt⟩
      have HPP := Lib.hid hp
      have it : (k : Int) < (l.length : Int) := by omega
      have HIT := Lib.hid it
      clear hp hlt
      go_upto_region 3 with fail
      refine wp_region_steps0 NewT [svEl 2 lnE (p), SV.eq ((.agg (rowA 2 (stepF p))))] [([(5, none), (7, none)], none), ([(9, some 0)], none)] 20 2 rfl rfl (by kernel_rfl) NewT.trans (NewT.refl _) (Nat.le_of_ble_eq_true rfl) ⟨?_, ?_, trivial⟩ ?_
      · intro a wx hT hF K hK
        obtain ⟨f5, f7, _⟩ := hF
        have f5 : a.tmps.getD 5 undef = v := f5
        have f7 : a.tmps.getD 7 undef = .int .i64 ((k : Int)) := f7
        refine rely_wp rfl ?_
        exact opr_idxL (i := k) (p := p) lineEl (HPP.out) (rfl) rfl (by rw [eval_tmp, f5]; exact (HV.out.new (NewT.trans _ _ _ HM.out hT))) f7 (fun v hv => hK v _ (NewT.refl _) hv)
      · exact fun a wx hT hF K hK => rely_wp rfl (opr_ldLn rfl hF.1 (hK _ _ (NewT.refl _) rfl))
      · intro w2 k2
        intro _ _
        intro u h; obtain rfl := Eq.symm (h (by simp)); clear h
        refine relyEnd_nil rfl ?_
        simp only [Act.put, List.setIfInBounds_toArray, List.set_cons_zero, List.set_cons_succ]
        refine wpList_new (n := 2) (f := stepF p) rfl rfl rfl rfl rfl rfl (by first | (simp; done) | simp [Act.put]) run_alloc_line info_line (stepF_one _) rfl ?_
        intro W2 hn2 rr2
        refine wpList_end rfl ?_
        simp only [Act.put, List.setIfInBounds_toArray, List.set_cons_zero, List.set_cons_succ]
        go_simp
        obtain ⟨g8, h_g8⟩ : ∃ g_, w2.heap.size = g_ := ⟨_, rfl⟩
        rw [h_g8] at rr2
        simp only [h_g8]
        have HGg8 : Hid (w.heap.size ≤ g8) := Lib.hid (by rw [← h_g8]; exact (NewT.trans _ _ _ HM.out k2).out.size)
        have q2 := NewT.trans _ _ _ k2 hn2
        clear k2 hn2 h_g8
        replace HM := Lib.hid (NewT.trans _ _ _ HM.out q2)
        clear q2
        have Rg8 := Lib.hid rr2
        clear rr2
        go_upto_region 4 with fail
        refine wp_region_steps0 NewT [SV.eq (.pointer (some ⟨g8, 0, none⟩)), SV.eq (.int .i64 (p.1)), SV.eq (.bool (p.1 != 2)), SV.eq (.bool (p.1 != 2)), svIf (p.1 != 2) (SV.eq (.pointer (some ⟨g8, 0, none⟩))), svIf (p.1 != 2) (SV.eq (.int .i64 (p.1))), svIf (p.1 != 2) (SV.eq (.bool (p.1 != 3))), SV.eq (.bool ((p.1 != 2) && (p.1 != 3)))] [([(4, none)], none), ([(11, some 0)], none), ([(12, some 1)], none), ([(13, some 2)], none), ([(4, none), (14, some 3)], some (14, true)), ([(15, some 4), (14, some 3)], some (14, true)), ([(16, some 5), (14, some 3)], some (14, true)), ([(14, some 3), (17, some 6)], none)] 20 8 rfl rfl (by kernel_rfl) NewT.trans (NewT.refl _) (Nat.le_of_ble_eq_true rfl) ⟨?_, ?_, ?_, ?_, ?_, ?_, ?_, ?_, trivial⟩ ?_
        · exact fun a wx hT hF K hK => rely_wp rfl (opr_fldN0 rfl hF.1 (hK _ _ (NewT.refl _) rfl))
        · exact fun a wx hT hF K hK => rely_wp rfl (opr_ldI (hT.row Rg8.out) (by decide) rfl rfl hF.1 (hK _ _ (NewT.refl _) rfl))
        · exact fun a wx hT hF K hK => rely_wp rfl (opr_cmp (b := p.1 != 2) (.inr (.inl ⟨rfl, rfl⟩)) Try.underlying3 rfl hF.1 rfl (hK _ _ (NewT.refl _) rfl))
        · exact fun a wx hT hF K hK => rely_wp rfl (opr_move (.inl rfl) (hK _ _ (NewT.refl _) hF.1))
        · exact fun a wx hT hF K hK => rely_if (rely_gt hF.2.1) (NewT.refl _) hK fun hE hK => opr_fldN0 rfl hF.1 (hK _ _ (NewT.refl _) rfl)
        · exact fun a wx hT hF K hK => rely_if (rely_gt hF.2.1) (NewT.refl _) hK fun hE hK => opr_ldI (hT.row Rg8.out) (by decide) rfl rfl (hF.1 hE) (hK _ _ (NewT.refl _) rfl)
        · exact fun a wx hT hF K hK => rely_if (rely_gt hF.2.1) (NewT.refl _) hK fun hE hK => opr_cmp (b := p.1 != 3) (.inr (.inl ⟨rfl, rfl⟩)) Try.underlying3 rfl (hF.1 hE) rfl (hK _ _ (NewT.refl _) rfl)
        · exact fun a wx hT hF K hK => rely_wp rfl (opr_pick_b rfl hF.1 (fun hb => hK _ _ (NewT.refl _) (pk_and1 (hF.2.1 hb) hb)) (fun hb => hK _ _ (NewT.refl _) (pk_and0 hb)))
        · intro w3 k3
          iterate 4 (intro u h; obtain rfl := Eq.symm (h (by simp)); clear h)
          iterate 3 (intro _ _)
          intro u h; obtain rfl := Eq.symm (h (by simp)); clear h
          refine relyEnd_nil rfl ?_
          refine wpList_end rfl ?_
          simp only [Act.put, List.setIfInBounds_toArray, List.set_cons_zero, List.set_cons_succ]
          go_simp
          replace Rg8 := Lib.hid (k3.row Rg8.out)
          replace HM := Lib.hid (NewT.trans _ _ _ HM.out k3)
          clear k3
          have HEX : Hid (((p.1 != 2) && (p.1 != 3)) = !(p.1 == 2 || p.1 == 3)) := Lib.hid (by cases h1 : (p.1 == 2) <;> cases h2 : (p.1 == 3) <;> simp_all [bne])
          cases hb : ((p.1 != 2) && (p.1 != 3))
          · have he : (p.1 == 2 || p.1 == 3) = true := by have h1 := HEX.out.symm.trans hb; rwa [Bool.not_eq_false'] at h1
            have HN : Hid (cleanL (l.take (k + 1)) = true) := Lib.hid (take_all HPP.out HA.out he)
            clear hb he HEX
            have it2 := HIT.out
            go_wp2
            go_roundw
            case rel => exact ⟨k + 1, by omega, by go_num, by first | exact HN | trivial, by first | exact HM | trivial⟩
            case measure => simp [intOf]; omega
          · have he : (p.1 == 2 || p.1 == 3) = false := by have h1 := HEX.out.symm.trans hb; rwa [Bool.not_eq_true'] at h1
            have HF : Hid (cleanL l = false) := Lib.hid (by unfold cleanL; rw [List.all_eq_false]; exact ⟨p, List.mem_of_getElem? HPP.out, by rw [he]; simp⟩)
            clear hb he HEX
            go_wp2
            go_ret
            exact ⟨_, rfl, HM.out, by rw [HF.out]; rfl⟩
set_option maxHeartbeats 4000000 in
theorem rSameK_cv (bv cv : Value) (bk bl : Bk) (w : World) (hb : BkV w bv bk) (hc : BkV w cv bl) (hl : bk.sg.length ≤ 1000000) : Cv 16 #[bv, cv] w (.eq (.bool (sameK bk bl))) := by
  unfold Cv
  obtain ⟨sv, rfl, hsv⟩ := hb
  obtain ⟨tv, rfl, htv⟩ := hc
  have HSV := Lib.hid hsv
  have HTV := Lib.hid htv
  have HLL := Lib.hid hl
  clear hsv htv hl
  go_enter Try.func16, Try.ntmps16
  go_upto_region 1 with fail
  have r_g2 := (rowIs_box w 28 5 (bkF bk.ep sv)).alloc (.cells (rowA 5 (bkF bl.ep tv)) 28)
  have r_g3 := rowIs_box (w.alloc (.cells (rowA 5 (bkF bk.ep sv)) 28)) 28 5 (bkF bl.ep tv)
  rw [World.size_alloc] at r_g3
  have hN : NewT w ((w.alloc (.cells (rowA 5 (bkF bk.ep sv)) 28)).alloc (.cells (rowA 5 (bkF bl.ep tv)) 28)) := (NewT.trans _ _ _ (NewT.alloc _ _) (NewT.alloc _ _))
  change Code.wp _ _ _ _ ((w.alloc (.cells (rowA 5 (bkF bk.ep sv)) 28)).alloc (.cells (rowA 5 (bkF bl.ep tv)) 28))
  generalize ((w.alloc (.cells (rowA 5 (bkF bk.ep sv)) 28)).alloc (.cells (rowA 5 (bkF bl.ep tv)) 28)) = W0 at r_g2 r_g3 hN ⊢
  obtain ⟨g2, h_g2⟩ : ∃ g_, w.heap.size = g_ := ⟨_, rfl⟩
  obtain ⟨g3, h_g3⟩ : ∃ g_, w.heap.size + 1 = g_ := ⟨_, rfl⟩
  have HG : Hid (w.heap.size ≤ g2 ∧ g2 < g3) := Lib.hid (by omega)
  rw [h_g2] at r_g2
  rw [h_g3] at r_g3
  try rw [h_g3]
  simp only [h_g2]
  have Rg2 := Lib.hid r_g2
  have Rg3 := Lib.hid r_g3
  have HM := Lib.hid hN
  clear r_g2 r_g3 hN h_g2 h_g3
  obtain ⟨q1_1, Q1_1⟩ : ∃ bq_, ((!(epB bk.ep bl.ep)) || (((List.length (bk.sg) : Int)) != ((List.length (bl.sg) : Int)))) = bq_ := ⟨_, rfl⟩
  refine wp_region_steps0 NewT [SV.eq (.pointer (some ⟨g2, 0, none⟩)), SV.eq ((.agg (rowA 4 (epF bk.ep)))), SV.eq (.pointer (some ⟨g3, 0, none⟩)), SV.eq ((.agg (rowA 4 (epF bl.ep)))), SV.eq (.bool (!(epB bk.ep bl.ep))), SV.eq (.bool (!(epB bk.ep bl.ep))), svIf ((!(!(epB bk.ep bl.ep)))) (SV.eq (.pointer (some ⟨g2, 4, none⟩))), svIf ((!(!(epB bk.ep bl.ep)))) (SV.eq (sv)), svIf ((!(!(epB bk.ep bl.ep)))) (SV.eq (.int .i64 ((List.length (bk.sg) : Int)))), svIf ((!(!(epB bk.ep bl.ep)))) (SV.eq (.pointer (some ⟨g3, 4, none⟩))), svIf ((!(!(epB bk.ep bl.ep)))) (SV.eq (tv)), svIf ((!(!(epB bk.ep bl.ep)))) (SV.eq (.int .i64 ((List.length (bl.sg) : Int)))), svIf ((!(!(epB bk.ep bl.ep)))) (SV.eq (.bool (((List.length (bk.sg) : Int)) != ((List.length (bl.sg) : Int))))), SV.eq (.bool (q1_1))] [([(2, none)], none), ([(6, some 0)], none), ([(3, none)], none), ([(8, some 2)], none), ([(7, some 1), (9, some 3)], none), ([(10, some 4)], none), ([(2, none), (11, some 5)], some (11, false)), ([(12, some 6), (11, some 5)], some (11, false)), ([(13, some 7), (11, some 5)], some (11, false)), ([(3, none), (11, some 5)], some (11, false)), ([(15, some 9), (11, some 5)], some (11, false)), ([(16, some 10), (11, some 5)], some (11, false)), ([(14, some 8), (17, some 11), (11, some 5)], some (11, false)), ([(11, some 5), (18, some 12)], none)] 39 14 rfl rfl (by kernel_rfl) NewT.trans (NewT.refl _) (Nat.le_of_ble_eq_true rfl) ⟨?_, ?_, ?_, ?_, ?_, ?_, ?_, ?_, ?_, ?_, ?_, ?_, ?_, ?_, trivial⟩ ?_
  · exact fun a wx hT hF K hK => rely_wp rfl (opr_fldK0 rfl hF.1 (hK _ _ (NewT.refl _) rfl))
  · exact fun a wx hT hF K hK => rely_wp rfl (opr_ldEp (hT.row Rg2.out) rfl hF.1 (hK _ _ (NewT.refl _) rfl))
  · exact fun a wx hT hF K hK => rely_wp rfl (opr_fldK0 rfl hF.1 (hK _ _ (NewT.refl _) rfl))
  · exact fun a wx hT hF K hK => rely_wp rfl (opr_ldEp (hT.row Rg3.out) rfl hF.1 (hK _ _ (NewT.refl _) rfl))
  · exact fun a wx hT hF K hK => rely_wp rfl (opr_neqEp rfl hF.1 hF.2.1 (hK _ _ (NewT.refl _) rfl))
  · exact fun a wx hT hF K hK => rely_wp rfl (opr_move (.inl rfl) (hK _ _ (NewT.refl _) hF.1))
  · exact fun a wx hT hF K hK => rely_if (rely_gf hF.2.1) (NewT.refl _) hK fun hE hK => opr_fldK1 rfl hF.1 (hK _ _ (NewT.refl _) rfl)
  · exact fun a wx hT hF K hK => rely_if (rely_gf hF.2.1) (NewT.refl _) hK fun hE hK => opr_ldUs (hT.row Rg2.out) (by decide) rfl rfl (hF.1 hE) (hK _ _ (NewT.refl _) rfl)
  · intro a wx hT hF K hK
    obtain ⟨f13, f11, _⟩ := hF
    have f13 : ((!(!(epB bk.ep bl.ep)))) = true → a.tmps.getD 13 undef = sv := f13
    have f11 : a.tmps.getD 11 undef = .bool (!(epB bk.ep bl.ep)) := f11
    refine rely_if (rely_gf f11) (NewT.refl _) hK (fun hE hK => ?_)
    exact opr_lenL rfl sagaEl (by rw [eval_tmp, (f13 hE)]; exact (HSV.out.new (NewT.trans _ _ _ HM.out hT))) (hK _ _ (NewT.refl _) rfl)
  · exact fun a wx hT hF K hK => rely_if (rely_gf hF.2.1) (NewT.refl _) hK fun hE hK => opr_fldK1 rfl hF.1 (hK _ _ (NewT.refl _) rfl)
  · exact fun a wx hT hF K hK => rely_if (rely_gf hF.2.1) (NewT.refl _) hK fun hE hK => opr_ldUs (hT.row Rg3.out) (by decide) rfl rfl (hF.1 hE) (hK _ _ (NewT.refl _) rfl)
  · intro a wx hT hF K hK
    obtain ⟨f16, f11, _⟩ := hF
    have f16 : ((!(!(epB bk.ep bl.ep)))) = true → a.tmps.getD 16 undef = tv := f16
    have f11 : a.tmps.getD 11 undef = .bool (!(epB bk.ep bl.ep)) := f11
    refine rely_if (rely_gf f11) (NewT.refl _) hK (fun hE hK => ?_)
    exact opr_lenL rfl sagaEl (by rw [eval_tmp, (f16 hE)]; exact (HTV.out.new (NewT.trans _ _ _ HM.out hT))) (hK _ _ (NewT.refl _) rfl)
  · exact fun a wx hT hF K hK => rely_if (rely_gf hF.2.2.1) (NewT.refl _) hK fun hE hK => opr_cmp (b := ((List.length (bk.sg) : Int)) != ((List.length (bl.sg) : Int))) (.inr (.inl ⟨rfl, rfl⟩)) Try.underlying3 rfl (hF.1 hE) (hF.2.1 hE) (hK _ _ (NewT.refl _) rfl)
  · exact fun a wx hT hF K hK => rely_wp rfl (opr_pick_b rfl hF.1 (fun hb => hK _ _ (NewT.refl _) (pn_or1 Q1_1 hb)) (fun hb => hK _ _ (NewT.refl _) (pn_or0 Q1_1 (hF.2.1 (bnot hb)) hb)))
  · intro w1 k1
    iterate 6 (intro u h; obtain rfl := Eq.symm (h (by simp)); clear h)
    iterate 7 (intro _ _)
    intro u h; obtain rfl := Eq.symm (h (by simp)); clear h
    subst Q1_1
    refine relyEnd_nil rfl ?_
    refine wpList_end rfl ?_
    simp only [Act.put, List.setIfInBounds_toArray, List.set_cons_zero, List.set_cons_succ]
    go_simp
    replace Rg2 := Lib.hid (k1.row Rg2.out)
    replace Rg3 := Lib.hid (k1.row Rg3.out)
    replace HM := Lib.hid (NewT.trans _ _ _ HM.out k1)
    clear k1
    cases hq : (((!(epB bk.ep bl.ep)) || (((List.length (bk.sg) : Int)) != ((List.length (bl.sg) : Int)))))
    rotate_left
    · have HF : Hid (sameK bk bl = false) := Lib.hid (by
        simp only [Bool.or_eq_true, Bool.not_eq_true', bne_iff_ne] at hq
        unfold sameK
        rcases hq with hq | hq
        · rw [hq]; rfl
        · rw [sameLs_len (fun e => hq (by rw [e])), Bool.and_false])
      go_wp2
      go_ret
      exact ⟨_, rfl, HM.out, by rw [HF.out]; rfl⟩
    have hq2 : epB bk.ep bl.ep = true ∧ bk.sg.length = bl.sg.length := by
      simp only [Bool.or_eq_false_iff, Bool.not_eq_false', bne_eq_false_iff_eq] at hq
      exact ⟨hq.1, by have := hq.2; omega⟩
    have HEP := Lib.hid hq2.1
    have HLE := Lib.hid hq2.2
    have HKE : Hid (sameK bk bl = sameLs zU eqU bk.sg bl.sg) := Lib.hid (by unfold sameK; rw [HEP.out]; rfl)
    have HB := Lib.hid (NewT.refl w)
    clear hq hq2
    go_wp2
    go_loopw [5] (fun i wr => ∃ k : Nat, k ≤ bk.sg.length ∧ i = .int .i64 (k : Int) ∧ Hid (∀ i, i < k → eqU (bk.sg.getD i zU) (bl.sg.getD i zU) = true) ∧ Hid (NewT w wr) ∧ Hid (wr.rowIs g2 28 5 (bkF bk.ep sv)) ∧ Hid (wr.rowIs g3 28 5 (bkF bl.ep tv))) (fun i _ => bk.sg.length - (intOf i).toNat)
    case atStart => exact ⟨0, by omega, rfl, Lib.hid (fun i hi => by omega), Lib.hid (NewT.trans _ _ _ HB.out HM.out), Rg2, Rg3⟩
    case round =>
      clear HM Rg2 Rg3
      obtain ⟨k, hk, rfl, HA, HM, Rg2, Rg3⟩ := hrel
      replace HB := Lib.hid (NewT.refl w)
      have hll := HLL.out
      by_cases hlt : k < bk.sg.length
      rotate_left
      · obtain rfl : k = bk.sg.length := by omega
        have HF := Lib.hid (sameLs_yes (d := zU) (e := eqU) HLE.out HA.out)
        go_upto_region 4 with fail
        refine wp_region_steps0 NewT [SV.eq (.int .i64 ((bk.sg.length : Int))), SV.eq (.pointer (some ⟨g2, 4, none⟩)), SV.eq (sv), SV.eq (.int .i64 ((List.length (bk.sg) : Int))), SV.eq (.bool (decide (((bk.sg.length : Int)) < ((List.length (bk.sg) : Int)))))] [([(5, none)], none), ([(2, none)], none), ([(21, some 1)], none), ([(22, some 2)], none), ([(20, some 0), (23, some 3)], none)] 39 5 rfl rfl (by kernel_rfl) NewT.trans (NewT.refl _) (Nat.le_of_ble_eq_true rfl) ⟨?_, ?_, ?_, ?_, ?_, trivial⟩ ?_
        · exact fun a wx hT hF K hK => rely_wp rfl (opr_move (.inl rfl) (hK _ _ (NewT.refl _) hF.1))
        · exact fun a wx hT hF K hK => rely_wp rfl (opr_fldK1 rfl hF.1 (hK _ _ (NewT.refl _) rfl))
        · exact fun a wx hT hF K hK => rely_wp rfl (opr_ldUs (hT.row Rg2.out) (by decide) rfl rfl hF.1 (hK _ _ (NewT.refl _) rfl))
        · intro a wx hT hF K hK
          obtain ⟨f22, _⟩ := hF
          have f22 : a.tmps.getD 22 undef = sv := f22
          refine rely_wp rfl ?_
          exact opr_lenL rfl sagaEl (by rw [eval_tmp, f22]; exact (HSV.out.new (NewT.trans _ _ _ HM.out hT))) (hK _ _ (NewT.refl _) rfl)
        · exact fun a wx hT hF K hK => rely_wp rfl (opr_cmp (b := decide (((bk.sg.length : Int)) < ((List.length (bk.sg) : Int)))) (.inr (.inr (.inr (.inl ⟨rfl, rfl⟩)))) Try.underlying3 rfl hF.1 hF.2.1 (hK _ _ (NewT.refl _) rfl))
        · intro w2 k2
          iterate 5 (intro u h; obtain rfl := Eq.symm (h (by simp)); clear h)
          refine relyEnd_nil rfl ?_
          refine wpList_end rfl ?_
          simp only [Act.put, List.setIfInBounds_toArray, List.set_cons_zero, List.set_cons_succ]
          go_simp
          replace Rg2 := Lib.hid (k2.row Rg2.out)
          replace Rg3 := Lib.hid (k2.row Rg3.out)
          replace HM := Lib.hid (NewT.trans _ _ _ HM.out k2)
          clear k2
          go_wp2
          go_ret
          exact ⟨_, rfl, HM.out, by rw [HKE.out, HF.out]; rfl⟩
      obtain ⟨p, hp⟩ : ∃ p, bk.sg[k]? = some p := ⟨_, List.getElem?_eq_getElem hlt⟩
      obtain ⟨q, hq⟩ : ∃ q, bl.sg[k]? = some q := ⟨_, List.getElem?_eq_getElem (by have := HLE.out; omega)⟩
      have HPP := Lib.hid hp
      have HQQ := Lib.hid hq
      have HNX : Hid (eqU p q = true → ∀ i, i < k + 1 → eqU (bk.sg.getD i zU) (bl.sg.getD i zU) = true) := Lib.hid (fun h i hi => by
        by_cases e : i = k
        · subst e; rw [getD_of hp, getD_of hq]; exact h
        · exact HA.out i (by omega))
      have it : (k : Int) < (bk.sg.length : Int) := by omega
      have HIT := Lib.hid it
      clear hp hq HA hlt
      go_upto_region 4 with fail
      refine wp_region_steps0 NewT [SV.eq (.int .i64 ((k : Int))), SV.eq (.pointer (some ⟨g2, 4, none⟩)), SV.eq (sv), SV.eq (.int .i64 ((List.length (bk.sg) : Int))), SV.eq (.bool (decide (((k : Int)) < ((List.length (bk.sg) : Int)))))] [([(5, none)], none), ([(2, none)], none), ([(21, some 1)], none), ([(22, some 2)], none), ([(20, some 0), (23, some 3)], none)] 39 5 rfl rfl (by kernel_rfl) NewT.trans (NewT.refl _) (Nat.le_of_ble_eq_true rfl) ⟨?_, ?_, ?_, ?_, ?_, trivial⟩ ?_
      · exact fun a wx hT hF K hK => rely_wp rfl (opr_move (.inl rfl) (hK _ _ (NewT.refl _) hF.1))
      · exact fun a wx hT hF K hK => rely_wp rfl (opr_fldK1 rfl hF.1 (hK _ _ (NewT.refl _) rfl))
      · exact fun a wx hT hF K hK => rely_wp rfl (opr_ldUs (hT.row Rg2.out) (by decide) rfl rfl hF.1 (hK _ _ (NewT.refl _) rfl))
      · intro a wx hT hF K hK
        obtain ⟨f22, _⟩ := hF
        have f22 : a.tmps.getD 22 undef = sv := f22
        refine rely_wp rfl ?_
        exact opr_lenL rfl sagaEl (by rw [eval_tmp, f22]; exact (HSV.out.new (NewT.trans _ _ _ HM.out hT))) (hK _ _ (NewT.refl _) rfl)
      · exact fun a wx hT hF K hK => rely_wp rfl (opr_cmp (b := decide (((k : Int)) < ((List.length (bk.sg) : Int)))) (.inr (.inr (.inr (.inl ⟨rfl, rfl⟩)))) Try.underlying3 rfl hF.1 hF.2.1 (hK _ _ (NewT.refl _) rfl))
      · intro w3 k3
        iterate 5 (intro u h; obtain rfl := Eq.symm (h (by simp)); clear h)
        refine relyEnd_nil rfl ?_
        refine wpList_end rfl ?_
        simp only [Act.put, List.setIfInBounds_toArray, List.set_cons_zero, List.set_cons_succ]
        go_simp
        replace Rg2 := Lib.hid (k3.row Rg2.out)
        replace Rg3 := Lib.hid (k3.row Rg3.out)
        replace HM := Lib.hid (NewT.trans _ _ _ HM.out k3)
        clear k3
        go_upto_region 6 with fail
        refine wp_region_rely (NewT) [SV.eq (.pointer (some ⟨g2, 4, none⟩)), SV.eq (sv), SV.eq (.int .i64 ((k : Int))), svEl 10 sgE (p), svSg p.1 p.2, SV.eq (.pointer (some ⟨g3, 4, none⟩)), SV.eq (tv), SV.eq (.int .i64 ((k : Int))), svEl 10 sgE (q), svSg q.1 q.2, SV.eq (.bool (sameG p.1 q.1 p.2 q.2))] [([(2, none)], none), ([(27, some 0)], none), ([(5, none)], none), ([(28, some 1), (29, some 2)], none), ([(30, some 3)], none), ([(3, none)], none), ([(32, some 5)], none), ([(5, none)], none), ([(33, some 6), (34, some 7)], none), ([(35, some 8)], none), ([(31, some 4), (36, some 9)], none)] 39 rfl (by kernel_rfl) rfl (by kernel_rfl) (by kernel_rfl) rfl NewT.trans (NewT.drew _) (Nat.le_of_ble_eq_true rfl) ⟨?_, ?_, ?_, ?_, ?_, ?_, ?_, ?_, ?_, ?_, ?_, trivial⟩ ?_
        · exact fun a wx hT hF K hK => rely_wp rfl (opr_fldK1 rfl hF.1 (hK _ _ (NewT.refl _) rfl))
        · exact fun a wx hT hF K hK => rely_wp rfl (opr_ldUs (hT.row Rg2.out) (by decide) rfl rfl hF.1 (hK _ _ (NewT.refl _) rfl))
        · exact fun a wx hT hF K hK => rely_wp rfl (opr_move (.inl rfl) (hK _ _ (NewT.refl _) hF.1))
        · intro a wx hT hF K hK
          obtain ⟨f28, f29, _⟩ := hF
          have f28 : a.tmps.getD 28 undef = sv := f28
          have f29 : a.tmps.getD 29 undef = .int .i64 ((k : Int)) := f29
          refine rely_wp rfl ?_
          exact opr_idxL (i := k) (p := p) sagaEl (HPP.out) (rfl) rfl (by rw [eval_tmp, f28]; exact (HSV.out.new (NewT.trans _ _ _ HM.out hT))) f29 (fun v hv => hK v _ (NewT.refl _) hv)
        · exact fun a wx hT hF K hK => rely_wp rfl (opr_ldUg rfl hF.1 (fun u hu => hK u _ (NewT.refl _) hu))
        · exact fun a wx hT hF K hK => rely_wp rfl (opr_fldK1 rfl hF.1 (hK _ _ (NewT.refl _) rfl))
        · exact fun a wx hT hF K hK => rely_wp rfl (opr_ldUs (hT.row Rg3.out) (by decide) rfl rfl hF.1 (hK _ _ (NewT.refl _) rfl))
        · exact fun a wx hT hF K hK => rely_wp rfl (opr_move (.inl rfl) (hK _ _ (NewT.refl _) hF.1))
        · intro a wx hT hF K hK
          obtain ⟨f33, f34, _⟩ := hF
          have f33 : a.tmps.getD 33 undef = tv := f33
          have f34 : a.tmps.getD 34 undef = .int .i64 ((k : Int)) := f34
          refine rely_wp rfl ?_
          exact opr_idxL (i := k) (p := q) sagaEl (HQQ.out) (rfl) rfl (by rw [eval_tmp, f33]; exact (HTV.out.new (NewT.trans _ _ _ HM.out hT))) f34 (fun v hv => hK v _ (NewT.refl _) hv)
        · exact fun a wx hT hF K hK => rely_wp rfl (opr_ldUg rfl hF.1 (fun u hu => hK u _ (NewT.refl _) hu))
        · exact fun a wx hT hF K hK => rely_wp rfl (opr_cv (rSameU_cv _ _ p.1 q.1 p.2 q.2 wx (hF.1) (hF.2.1)) rfl Try.func23 (by kernel_rfl) (by kernel_rfl) (evs2 rfl rfl) hK)
        · intro w4 k4
          iterate 3 (intro u h; obtain rfl := Eq.symm (h (by simp)); clear h)
          iterate 2 (intro _ _)
          iterate 3 (intro u h; obtain rfl := Eq.symm (h (by simp)); clear h)
          iterate 2 (intro _ _)
          intro u h; obtain rfl := Eq.symm (h (by simp)); clear h
          refine relyEnd_nil rfl ?_
          simp only [Act.put, List.setIfInBounds_toArray, List.set_cons_zero, List.set_cons_succ]
          refine opr_not rfl rfl ?_
          go_simp
          replace Rg2 := Lib.hid (k4.row Rg2.out)
          replace Rg3 := Lib.hid (k4.row Rg3.out)
          replace HM := Lib.hid (NewT.trans _ _ _ HM.out k4)
          clear k4
          have HEX : Hid ((!(sameG p.1 q.1 p.2 q.2)) = !eqU p q) := Lib.hid rfl
          cases hb : (!(sameG p.1 q.1 p.2 q.2))
          · have he : eqU p q = true := by have h1 := HEX.out.symm.trans hb; simpa using h1
            have HN := Lib.hid (HNX.out he)
            have hBM := HM.out
            clear hb he HEX HNX
            have it2 := HIT.out
            go_wp2
            go_roundw
            case rel => exact ⟨k + 1, by omega, by go_num, by first | exact HN | trivial, by first | exact Lib.hid hBM | trivial, by first | exact Rg2 | trivial, by first | exact Rg3 | trivial⟩
            case measure => simp [intOf]; omega
          · have he : eqU p q = false := by have h1 := HEX.out.symm.trans hb; simpa using h1
            have HF := Lib.hid (sameLs_no (d := zU) HPP.out HQQ.out he)
            have hBM := HM.out
            clear hb he HEX HNX
            go_wp2
            go_ret
            exact ⟨_, rfl, hBM, by rw [HKE.out, HF.out]; rfl⟩
set_option maxHeartbeats 4000000 in
theorem Recs_cv (v1 v2 : Value) (L M : List Rc) (w : World) (hv : RdR w v1 L) (hu : RdR w v2 M) (hl : L.length ≤ 1000000) (hd : (∀ p ∈ L, p.data.length ≤ 1000000) ∧ ∀ p ∈ M, p.data.length ≤ 1000000) : Cv 18 #[v1, v2] w (.eq (.bool (sameLs zR sameB L M))) := by
  unfold Cv
  have HV := Lib.hid hv
  have HU := Lib.hid hu
  have HLL := Lib.hid hl
  clear hv hu hl
  have HDL := Lib.hid hd
  clear hd
  go_enter Try.func18, Try.ntmps18
  have HB := Lib.hid (NewT.refl w)
  have HM := Lib.hid (NewT.refl w)
  go_upto_region 1 with fail
  refine wp_region_steps0 NewT [SV.eq (v1), SV.eq (.int .i64 ((List.length (L) : Int))), SV.eq (v2), SV.eq (.int .i64 ((List.length (M) : Int))), SV.eq (.bool (((List.length (L) : Int)) != ((List.length (M) : Int))))] [([(0, none)], none), ([(6, some 0)], none), ([(1, none)], none), ([(8, some 2)], none), ([(7, some 1), (9, some 3)], none)] 27 5 rfl rfl (by kernel_rfl) NewT.trans (NewT.refl _) (Nat.le_of_ble_eq_true rfl) ⟨?_, ?_, ?_, ?_, ?_, trivial⟩ ?_
  · exact fun a wx hT hF K hK => rely_wp rfl (opr_move (.inl rfl) (hK _ _ (NewT.refl _) hF.1))
  · intro a wx hT hF K hK
    obtain ⟨f6, _⟩ := hF
    have f6 : a.tmps.getD 6 undef = v1 := f6
    refine rely_wp rfl ?_
    exact opr_lenL rfl recEl (by rw [eval_tmp, f6]; exact (HV.out.new (NewT.trans _ _ _ HM.out hT))) (hK _ _ (NewT.refl _) rfl)
  · exact fun a wx hT hF K hK => rely_wp rfl (opr_move (.inl rfl) (hK _ _ (NewT.refl _) hF.1))
  · intro a wx hT hF K hK
    obtain ⟨f8, _⟩ := hF
    have f8 : a.tmps.getD 8 undef = v2 := f8
    refine rely_wp rfl ?_
    exact opr_lenL rfl recEl (by rw [eval_tmp, f8]; exact (HU.out.new (NewT.trans _ _ _ HM.out hT))) (hK _ _ (NewT.refl _) rfl)
  · exact fun a wx hT hF K hK => rely_wp rfl (opr_cmp (b := ((List.length (L) : Int)) != ((List.length (M) : Int))) (.inr (.inl ⟨rfl, rfl⟩)) Try.underlying3 rfl hF.1 hF.2.1 (hK _ _ (NewT.refl _) rfl))
  · intro w1 k1
    iterate 5 (intro u h; obtain rfl := Eq.symm (h (by simp)); clear h)
    refine relyEnd_nil rfl ?_
    refine wpList_end rfl ?_
    simp only [Act.put, List.setIfInBounds_toArray, List.set_cons_zero, List.set_cons_succ]
    go_simp
    replace HM := Lib.hid (NewT.trans _ _ _ HM.out k1)
    clear k1
    by_cases hl : L.length = M.length
    rotate_left
    · have HF := Lib.hid (sameLs_len (d := zR) (e := sameB) hl)
      have t1 : ((L.length : Int) != (M.length : Int)) = true := by simp; omega
      clear hl
      go_wp2
      go_ret
      exact ⟨_, rfl, HM.out, by rw [HF.out]; rfl⟩
    have t1 : ((L.length : Int) != (M.length : Int)) = false := by rw [hl]; simp
    have HLE := Lib.hid hl
    clear hl
    go_wp2
    go_loopw [5] (fun i wr => ∃ k : Nat, k ≤ L.length ∧ i = .int .i64 (k : Int) ∧ Hid (∀ i, i < k → sameB (L.getD i zR) (M.getD i zR) = true) ∧ Hid (NewT w wr)) (fun i _ => L.length - (intOf i).toNat)
    case atStart => exact ⟨0, by omega, rfl, Lib.hid (fun i hi => by omega), Lib.hid (NewT.trans _ _ _ HB.out HM.out)⟩
    case round =>
      clear HM 
      obtain ⟨k, hk, rfl, HA, HM⟩ := hrel
      replace HB := Lib.hid (NewT.refl w)
      have hll := HLL.out
      by_cases hlt : k < L.length
      rotate_left
      · obtain rfl : k = L.length := by omega
        have HF := Lib.hid (sameLs_yes (d := zR) (e := sameB) HLE.out HA.out)
        go_upto_region 4 with fail
        refine wp_region_steps0 NewT [SV.eq (.int .i64 ((L.length : Int))), SV.eq (v1), SV.eq (.int .i64 ((List.length (L) : Int))), SV.eq (.bool (decide (((L.length : Int)) < ((List.length (L) : Int)))))] [([(5, none)], none), ([(0, none)], none), ([(12, some 1)], none), ([(11, some 0), (13, some 2)], none)] 27 4 rfl rfl (by kernel_rfl) NewT.trans (NewT.refl _) (Nat.le_of_ble_eq_true rfl) ⟨?_, ?_, ?_, ?_, trivial⟩ ?_
        · exact fun a wx hT hF K hK => rely_wp rfl (opr_move (.inl rfl) (hK _ _ (NewT.refl _) hF.1))
        · exact fun a wx hT hF K hK => rely_wp rfl (opr_move (.inl rfl) (hK _ _ (NewT.refl _) hF.1))
        · intro a wx hT hF K hK
          obtain ⟨f12, _⟩ := hF
          have f12 : a.tmps.getD 12 undef = v1 := f12
          refine rely_wp rfl ?_
          exact opr_lenL rfl recEl (by rw [eval_tmp, f12]; exact (HV.out.new (NewT.trans _ _ _ HM.out hT))) (hK _ _ (NewT.refl _) rfl)
        · exact fun a wx hT hF K hK => rely_wp rfl (opr_cmp (b := decide (((L.length : Int)) < ((List.length (L) : Int)))) (.inr (.inr (.inr (.inl ⟨rfl, rfl⟩)))) Try.underlying3 rfl hF.1 hF.2.1 (hK _ _ (NewT.refl _) rfl))
        · intro w2 k2
          iterate 4 (intro u h; obtain rfl := Eq.symm (h (by simp)); clear h)
          refine relyEnd_nil rfl ?_
          refine wpList_end rfl ?_
          simp only [Act.put, List.setIfInBounds_toArray, List.set_cons_zero, List.set_cons_succ]
          go_simp
          replace HM := Lib.hid (NewT.trans _ _ _ HM.out k2)
          clear k2
          go_wp2
          go_ret
          exact ⟨_, rfl, HM.out, by rw [HF.out]; rfl⟩
      obtain ⟨p, hp⟩ : ∃ p, L[k]? = some p := ⟨_, List.getElem?_eq_getElem hlt⟩
      obtain ⟨q, hq⟩ : ∃ q, M[k]? = some q := ⟨_, List.getElem?_eq_getElem (by have := HLE.out; omega)⟩
      have HPP := Lib.hid hp
      have HQQ := Lib.hid hq
      have HNX : Hid (sameB p q = true → ∀ i, i < k + 1 → sameB (L.getD i zR) (M.getD i zR) = true) := Lib.hid (fun h i hi => by
        by_cases e : i = k
        · subst e; rw [getD_of hp, getD_of hq]; exact h
        · exact HA.out i (by omega))
      have it : (k : Int) < (L.length : Int) := by omega
      have HIT := Lib.hid it
      clear hp hq HA hlt
      go_upto_region 4 with fail
      refine wp_region_steps0 NewT [SV.eq (.int .i64 ((k : Int))), SV.eq (v1), SV.eq (.int .i64 ((List.length (L) : Int))), SV.eq (.bool (decide (((k : Int)) < ((List.length (L) : Int)))))] [([(5, none)], none), ([(0, none)], none), ([(12, some 1)], none), ([(11, some 0), (13, some 2)], none)] 27 4 rfl rfl (by kernel_rfl) NewT.trans (NewT.refl _) (Nat.le_of_ble_eq_true rfl) ⟨?_, ?_, ?_, ?_, trivial⟩ ?_
      · exact fun a wx hT hF K hK => rely_wp rfl (opr_move (.inl rfl) (hK _ _ (NewT.refl _) hF.1))
      · exact fun a wx hT hF K hK => rely_wp rfl (opr_move (.inl rfl) (hK _ _ (NewT.refl _) hF.1))
      · intro a wx hT hF K hK
        obtain ⟨f12, _⟩ := hF
        have f12 : a.tmps.getD 12 undef = v1 := f12
        refine rely_wp rfl ?_
        exact opr_lenL rfl recEl (by rw [eval_tmp, f12]; exact (HV.out.new (NewT.trans _ _ _ HM.out hT))) (hK _ _ (NewT.refl _) rfl)
      · exact fun a wx hT hF K hK => rely_wp rfl (opr_cmp (b := decide (((k : Int)) < ((List.length (L) : Int)))) (.inr (.inr (.inr (.inl ⟨rfl, rfl⟩)))) Try.underlying3 rfl hF.1 hF.2.1 (hK _ _ (NewT.refl _) rfl))
      · intro w3 k3
        iterate 4 (intro u h; obtain rfl := Eq.symm (h (by simp)); clear h)
        refine relyEnd_nil rfl ?_
        refine wpList_end rfl ?_
        simp only [Act.put, List.setIfInBounds_toArray, List.set_cons_zero, List.set_cons_succ]
        go_simp
        replace HM := Lib.hid (NewT.trans _ _ _ HM.out k3)
        clear k3
        go_upto_region 6 with fail
        refine wp_region_rely (NewT) [SV.eq (v1), SV.eq (.int .i64 ((k : Int))), svEl 109 rcE (p), svRec (p), SV.eq (v2), SV.eq (.int .i64 ((k : Int))), svEl 109 rcE (q), svRec (q), SV.eq (.bool (sameB p q))] [([(0, none)], none), ([(5, none)], none), ([(17, some 0), (18, some 1)], none), ([(19, some 2)], none), ([(1, none)], none), ([(5, none)], none), ([(21, some 4), (22, some 5)], none), ([(23, some 6)], none), ([(20, some 3), (24, some 7)], none)] 27 rfl (by kernel_rfl) rfl (by kernel_rfl) (by kernel_rfl) rfl NewT.trans (NewT.drew _) (Nat.le_of_ble_eq_true rfl) ⟨?_, ?_, ?_, ?_, ?_, ?_, ?_, ?_, ?_, trivial⟩ ?_
        · exact fun a wx hT hF K hK => rely_wp rfl (opr_move (.inl rfl) (hK _ _ (NewT.refl _) hF.1))
        · exact fun a wx hT hF K hK => rely_wp rfl (opr_move (.inl rfl) (hK _ _ (NewT.refl _) hF.1))
        · intro a wx hT hF K hK
          obtain ⟨f17, f18, _⟩ := hF
          have f17 : a.tmps.getD 17 undef = v1 := f17
          have f18 : a.tmps.getD 18 undef = .int .i64 ((k : Int)) := f18
          refine rely_wp rfl ?_
          exact opr_idxL (i := k) (p := p) recEl (HPP.out) (rfl) rfl (by rw [eval_tmp, f17]; exact (HV.out.new (NewT.trans _ _ _ HM.out hT))) f18 (fun v hv => hK v _ (NewT.refl _) hv)
        · exact fun a wx hT hF K hK => rely_wp rfl (opr_ldRcE rfl hF.1 (fun u hu => hK u _ (NewT.refl _) hu))
        · exact fun a wx hT hF K hK => rely_wp rfl (opr_move (.inl rfl) (hK _ _ (NewT.refl _) hF.1))
        · exact fun a wx hT hF K hK => rely_wp rfl (opr_move (.inl rfl) (hK _ _ (NewT.refl _) hF.1))
        · intro a wx hT hF K hK
          obtain ⟨f21, f22, _⟩ := hF
          have f21 : a.tmps.getD 21 undef = v2 := f21
          have f22 : a.tmps.getD 22 undef = .int .i64 ((k : Int)) := f22
          refine rely_wp rfl ?_
          exact opr_idxL (i := k) (p := q) recEl (HQQ.out) (rfl) rfl (by rw [eval_tmp, f21]; exact (HU.out.new (NewT.trans _ _ _ HM.out hT))) f22 (fun v hv => hK v _ (NewT.refl _) hv)
        · exact fun a wx hT hF K hK => rely_wp rfl (opr_ldRcE rfl hF.1 (fun u hu => hK u _ (NewT.refl _) hu))
        · exact fun a wx hT hF K hK => rely_wp rfl (opr_cv (RSame_cv _ _ p q wx hF.1 hF.2.1 (HDL.out.1 p (List.mem_of_getElem? HPP.out)) (HDL.out.2 q (List.mem_of_getElem? HQQ.out))) rfl Try.func32 (by kernel_rfl) (by kernel_rfl) (evs2 rfl rfl) hK)
        · intro w4 k4
          iterate 2 (intro u h; obtain rfl := Eq.symm (h (by simp)); clear h)
          iterate 2 (intro _ _)
          iterate 2 (intro u h; obtain rfl := Eq.symm (h (by simp)); clear h)
          iterate 2 (intro _ _)
          intro u h; obtain rfl := Eq.symm (h (by simp)); clear h
          refine relyEnd_nil rfl ?_
          simp only [Act.put, List.setIfInBounds_toArray, List.set_cons_zero, List.set_cons_succ]
          refine opr_not rfl rfl ?_
          go_simp
          replace HM := Lib.hid (NewT.trans _ _ _ HM.out k4)
          clear k4
          have HEX : Hid ((!(sameB p q)) = !sameB p q) := Lib.hid rfl
          cases hb : (!(sameB p q))
          · have he : sameB p q = true := by have h1 := HEX.out.symm.trans hb; simpa using h1
            have HN := Lib.hid (HNX.out he)
            have hBM := HM.out
            clear hb he HEX HNX
            have it2 := HIT.out
            go_wp2
            go_roundw
            case rel => exact ⟨k + 1, by omega, by go_num, by first | exact HN | trivial, by first | exact Lib.hid hBM | trivial⟩
            case measure => simp [intOf]; omega
          · have he : sameB p q = false := by have h1 := HEX.out.symm.trans hb; simpa using h1
            have HF := Lib.hid (sameLs_no (d := zR) HPP.out HQQ.out he)
            have hBM := HM.out
            clear hb he HEX HNX
            go_wp2
            go_ret
            exact ⟨_, rfl, hBM, by rw [HF.out]; rfl⟩
set_option maxHeartbeats 2000000 in
theorem Great4_cv (v : Value) (x : Rc) (w : World) (hx : RecV w v x) : Cv 25 #[v] w (.eq (.bool (greatR x))) := by
  unfold Cv
  obtain ⟨su, dv, rfl, hsx, hd⟩ := hx
  have HX : Hid (RecV w (.agg (rowA 109 (recF x su dv))) x) := Lib.hid ⟨su, dv, rfl, hsx, hd⟩
  have HSX := Lib.hid hsx
  have HD := Lib.hid hd
  clear hsx hd
  go_enter Try.func25, Try.ntmps25
  go_upto_region 1 with fail
  have r_g1 := rowIs_box w 46 109 (recF x su dv)
  have hN : NewT w (w.alloc (.cells (rowA 109 (recF x su dv)) 46)) := NewT.alloc _ _
  change Code.wp _ _ _ _ (w.alloc (.cells (rowA 109 (recF x su dv)) 46))
  generalize (w.alloc (.cells (rowA 109 (recF x su dv)) 46)) = W0 at r_g1 hN ⊢
  obtain ⟨g1, h_g1⟩ : ∃ g_, w.heap.size = g_ := ⟨_, rfl⟩
  have HG : Hid (w.heap.size ≤ g1) := Lib.hid (by omega)
  rw [h_g1] at r_g1
  simp only [h_g1]
  have Rg1 := Lib.hid r_g1
  have HM := Lib.hid hN
  clear r_g1 hN h_g1
  go_upto_region 1 with fail
  obtain ⟨q1_1, Q1_1⟩ : ∃ bq_, ((decide (30 < ((List.length (x.steps) : Int)))) || (decide (300 < ((List.length (x.data) : Int))))) = bq_ := ⟨_, rfl⟩
  refine wp_region_steps0 NewT [SV.eq (.pointer (some ⟨g1, 42, none⟩)), SV.eq (su), SV.eq (.int .i64 ((List.length (x.steps) : Int))), SV.eq (.bool (decide (30 < ((List.length (x.steps) : Int))))), SV.eq (.bool (decide (30 < ((List.length (x.steps) : Int))))), svIf ((!(decide (30 < ((List.length (x.steps) : Int)))))) (SV.eq (.pointer (some ⟨g1, 43, none⟩))), svIf ((!(decide (30 < ((List.length (x.steps) : Int)))))) (SV.eq (dv)), svIf ((!(decide (30 < ((List.length (x.steps) : Int)))))) (SV.eq (.int .i64 ((List.length (x.data) : Int)))), svIf ((!(decide (30 < ((List.length (x.steps) : Int)))))) (SV.eq (.bool (decide (300 < ((List.length (x.data) : Int)))))), SV.eq (.bool (q1_1)), SV.eq (.bool (q1_1))] [([(1, none)], none), ([(3, some 0)], none), ([(4, some 1)], none), ([(5, some 2)], none), ([(6, some 3)], none), ([(1, none), (7, some 4)], some (7, false)), ([(8, some 5), (7, some 4)], some (7, false)), ([(9, some 6), (7, some 4)], some (7, false)), ([(10, some 7), (7, some 4)], some (7, false)), ([(7, some 4), (11, some 8)], none), ([(12, some 9)], none)] 13 11 rfl rfl (by kernel_rfl) NewT.trans (NewT.refl _) (Nat.le_of_ble_eq_true rfl) ⟨?_, ?_, ?_, ?_, ?_, ?_, ?_, ?_, ?_, ?_, ?_, trivial⟩ ?_
  · exact fun a wx hT hF K hK => rely_wp rfl (opr_fldR (by decide) rfl hF.1 (hK _ _ (NewT.refl _) rfl))
  · exact fun a wx hT hF K hK => rely_wp rfl (opr_ldS (hT.row Rg1.out) (by decide) rfl rfl hF.1 (hK _ _ (NewT.refl _) rfl))
  · intro a wx hT hF K hK
    obtain ⟨f4, _⟩ := hF
    have f4 : a.tmps.getD 4 undef = su := f4
    refine rely_wp rfl ?_
    exact opr_len_pairs rfl (by rw [eval_tmp, f4]; exact ((NewT.trans _ _ _ HM.out hT).pairs HSX.out)) (hK _ _ (NewT.refl _) rfl)
  · exact fun a wx hT hF K hK => rely_wp rfl (opr_cmp (b := decide (30 < ((List.length (x.steps) : Int)))) (.inr (.inr (.inr (.inr (.inl ⟨rfl, rfl⟩))))) Try.underlying3 rfl hF.1 rfl (hK _ _ (NewT.refl _) rfl))
  · exact fun a wx hT hF K hK => rely_wp rfl (opr_move (.inl rfl) (hK _ _ (NewT.refl _) hF.1))
  · exact fun a wx hT hF K hK => rely_if (rely_gf hF.2.1) (NewT.refl _) hK fun hE hK => opr_fldR (by decide) rfl hF.1 (hK _ _ (NewT.refl _) rfl)
  · exact fun a wx hT hF K hK => rely_if (rely_gf hF.2.1) (NewT.refl _) hK fun hE hK => opr_ldB (hT.row Rg1.out) (by decide) rfl rfl (hF.1 hE) (hK _ _ (NewT.refl _) rfl)
  · intro a wx hT hF K hK
    obtain ⟨f9, f7, _⟩ := hF
    have f9 : ((!(decide (30 < ((List.length (x.steps) : Int)))))) = true → a.tmps.getD 9 undef = dv := f9
    have f7 : a.tmps.getD 7 undef = .bool (decide (30 < ((List.length (x.steps) : Int)))) := f7
    refine rely_if (rely_gf f7) (NewT.refl _) hK (fun hE hK => ?_)
    exact opr_len_rd rfl (by rw [eval_tmp, (f9 hE)]; exact ((NewT.trans _ _ _ HM.out hT).rd HD.out)) (hK _ _ (NewT.refl _) rfl)
  · exact fun a wx hT hF K hK => rely_if (rely_gf hF.2.1) (NewT.refl _) hK fun hE hK => opr_cmp (b := decide (300 < ((List.length (x.data) : Int)))) (.inr (.inr (.inr (.inr (.inl ⟨rfl, rfl⟩))))) Try.underlying3 rfl (hF.1 hE) rfl (hK _ _ (NewT.refl _) rfl)
  · exact fun a wx hT hF K hK => rely_wp rfl (opr_pick_b rfl hF.1 (fun hb => hK _ _ (NewT.refl _) (pn_or1 Q1_1 hb)) (fun hb => hK _ _ (NewT.refl _) (pn_or0 Q1_1 (hF.2.1 (bnot hb)) hb)))
  · exact fun a wx hT hF K hK => rely_wp rfl (opr_move (.inr rfl) (hK _ _ (NewT.refl _) hF.1))
  · intro w1 k1
    iterate 5 (intro u h; obtain rfl := Eq.symm (h (by simp)); clear h)
    iterate 4 (intro _ _)
    iterate 2 (intro u h; obtain rfl := Eq.symm (h (by simp)); clear h)
    subst Q1_1
    refine relyEnd_nil rfl ?_
    refine wpList_end rfl ?_
    simp only [Act.put, List.setIfInBounds_toArray, List.set_cons_zero, List.set_cons_succ]
    go_simp
    replace Rg1 := Lib.hid (k1.row Rg1.out)
    replace HM := Lib.hid (NewT.trans _ _ _ HM.out k1)
    clear k1
    go_wp2
    go_ret
    exact ⟨_, rfl, HM.out, rfl⟩
set_option maxHeartbeats 4000000 in
theorem Great_cv (v : Value) (l : List Rc) (w : World) (h : RdR w v l) : Cv 9 #[v] w (.eq (.bool (greatL l))) := by
  unfold Cv
  have HV := Lib.hid h
  clear h
  go_enter Try.func9, Try.ntmps9
  have HM := Lib.hid (NewT.refl w)
  go_upto_region 1 with fail
  refine wp_region_steps0 NewT [SV.eq (v), SV.eq (.int .i64 ((List.length (l) : Int))), SV.eq (.bool (decide (150 < ((List.length (l) : Int)))))] [([(0, none)], none), ([(4, some 0)], none), ([(5, some 1)], none)] 18 3 rfl rfl (by kernel_rfl) NewT.trans (NewT.refl _) (Nat.le_of_ble_eq_true rfl) ⟨?_, ?_, ?_, trivial⟩ ?_
  · exact fun a wx hT hF K hK => rely_wp rfl (opr_move (.inl rfl) (hK _ _ (NewT.refl _) hF.1))
  · intro a wx hT hF K hK
    obtain ⟨f4, _⟩ := hF
    have f4 : a.tmps.getD 4 undef = v := f4
    refine rely_wp rfl ?_
    exact opr_lenL rfl recEl (by rw [eval_tmp, f4]; exact (HV.out.new (NewT.trans _ _ _ HM.out hT))) (hK _ _ (NewT.refl _) rfl)
  · exact fun a wx hT hF K hK => rely_wp rfl (opr_cmp (b := decide (150 < ((List.length (l) : Int)))) (.inr (.inr (.inr (.inr (.inl ⟨rfl, rfl⟩))))) Try.underlying3 rfl hF.1 rfl (hK _ _ (NewT.refl _) rfl))
  · intro w1 k1
    iterate 3 (intro u h; obtain rfl := Eq.symm (h (by simp)); clear h)
    refine relyEnd_nil rfl ?_
    refine wpList_end rfl ?_
    simp only [Act.put, List.setIfInBounds_toArray, List.set_cons_zero, List.set_cons_succ]
    go_simp
    replace HM := Lib.hid (NewT.trans _ _ _ HM.out k1)
    clear k1
    cases hq : decide ((150 : Int) < (l.length : Int))
    rotate_left
    · have HF : Hid (greatL l = true) := Lib.hid (by unfold greatL; rw [hq]; rfl)
      clear hq
      go_wp2
      go_ret
      exact ⟨_, rfl, HM.out, by rw [HF.out]; rfl⟩
    have hl150 : l.length ≤ 150 := by have := of_decide_eq_false hq; omega
    have HL150 := Lib.hid hl150
    have HQ := Lib.hid hq
    clear hq hl150
    go_wp2
    go_loopw [3] (fun i wr => ∃ k : Nat, k ≤ l.length ∧ i = .int .i64 (k : Int) ∧ Hid ((l.take k).any greatR = false) ∧ Hid (NewT w wr)) (fun i _ => l.length - (intOf i).toNat)
    case atStart => exact ⟨0, by omega, rfl, Lib.hid rfl, HM⟩
    case round =>
      clear HM
      obtain ⟨k, hk, rfl, HA, HM⟩ := hrel
      have hll := HL150.out
      by_cases hlt : k < l.length
      rotate_left
      · obtain rfl : k = l.length := by omega
        have HF : Hid (greatL l = false) := Lib.hid (by unfold greatL; rw [HQ.out]; have := HA.out; rwa [List.take_length] at this)
        go_upto_region 4 with fail
        refine wp_region_steps0 NewT [SV.eq (.int .i64 ((l.length : Int))), SV.eq (v), SV.eq (.int .i64 ((List.length (l) : Int))), SV.eq (.bool (decide (((l.length : Int)) < ((List.length (l) : Int)))))] [([(3, none)], none), ([(0, none)], none), ([(8, some 1)], none), ([(7, some 0), (9, some 2)], none)] 18 4 rfl rfl (by kernel_rfl) NewT.trans (NewT.refl _) (Nat.le_of_ble_eq_true rfl) ⟨?_, ?_, ?_, ?_, trivial⟩ ?_
        · exact fun a wx hT hF K hK => rely_wp rfl (opr_move (.inl rfl) (hK _ _ (NewT.refl _) hF.1))
        · exact fun a wx hT hF K hK => rely_wp rfl (opr_move (.inl rfl) (hK _ _ (NewT.refl _) hF.1))
        · intro a wx hT hF K hK
          obtain ⟨f8, _⟩ := hF
          have f8 : a.tmps.getD 8 undef = v := f8
          refine rely_wp rfl ?_
          exact opr_lenL rfl recEl (by rw [eval_tmp, f8]; exact (HV.out.new (NewT.trans _ _ _ HM.out hT))) (hK _ _ (NewT.refl _) rfl)
        · exact fun a wx hT hF K hK => rely_wp rfl (opr_cmp (b := decide (((l.length : Int)) < ((List.length (l) : Int)))) (.inr (.inr (.inr (.inl ⟨rfl, rfl⟩)))) Try.underlying3 rfl hF.1 hF.2.1 (hK _ _ (NewT.refl _) rfl))
        · intro w2 k2
          iterate 4 (intro u h; obtain rfl := Eq.symm (h (by simp)); clear h)
          refine relyEnd_nil rfl ?_
          refine wpList_end rfl ?_
          simp only [Act.put, List.setIfInBounds_toArray, List.set_cons_zero, List.set_cons_succ]
          go_simp
          replace HM := Lib.hid (NewT.trans _ _ _ HM.out k2)
          clear k2
          go_wp2
          go_ret
          exact ⟨_, rfl, HM.out, by rw [HF.out]; rfl⟩
      obtain ⟨x, hx⟩ : ∃ p, l[k]? = some p := ⟨_, List.getElem?_eq_getElem hlt⟩
      have HPP := Lib.hid hx
      have it : (k : Int) < (l.length : Int) := by omega
      have HIT := Lib.hid it
      clear hx hlt
      go_upto_region 4 with fail
      refine wp_region_steps0 NewT [SV.eq (.int .i64 ((k : Int))), SV.eq (v), SV.eq (.int .i64 ((List.length (l) : Int))), SV.eq (.bool (decide (((k : Int)) < ((List.length (l) : Int)))))] [([(3, none)], none), ([(0, none)], none), ([(8, some 1)], none), ([(7, some 0), (9, some 2)], none)] 18 4 rfl rfl (by kernel_rfl) NewT.trans (NewT.refl _) (Nat.le_of_ble_eq_true rfl) ⟨?_, ?_, ?_, ?_, trivial⟩ ?_
      · exact fun a wx hT hF K hK => rely_wp rfl (opr_move (.inl rfl) (hK _ _ (NewT.refl _) hF.1))
      · exact fun a wx hT hF K hK => rely_wp rfl (opr_move (.inl rfl) (hK _ _ (NewT.refl _) hF.1))
      · intro a wx hT hF K hK
        obtain ⟨f8, _⟩ := hF
        have f8 : a.tmps.getD 8 undef = v := f8
        refine rely_wp rfl ?_
        exact opr_lenL rfl recEl (by rw [eval_tmp, f8]; exact (HV.out.new (NewT.trans _ _ _ HM.out hT))) (hK _ _ (NewT.refl _) rfl)
      · exact fun a wx hT hF K hK => rely_wp rfl (opr_cmp (b := decide (((k : Int)) < ((List.length (l) : Int)))) (.inr (.inr (.inr (.inl ⟨rfl, rfl⟩)))) Try.underlying3 rfl hF.1 hF.2.1 (hK _ _ (NewT.refl _) rfl))
      · intro w3 k3
        iterate 4 (intro u h; obtain rfl := Eq.symm (h (by simp)); clear h)
        refine relyEnd_nil rfl ?_
        refine wpList_end rfl ?_
        simp only [Act.put, List.setIfInBounds_toArray, List.set_cons_zero, List.set_cons_succ]
        go_simp
        replace HM := Lib.hid (NewT.trans _ _ _ HM.out k3)
        clear k3
        go_upto_region 6 with fail
        refine wp_region_steps0 NewT [SV.eq (v), SV.eq (.int .i64 ((k : Int))), svEl 109 rcE (x), svRec (x), SV.eq (.bool (greatR x))] [([(0, none)], none), ([(3, none)], none), ([(13, some 0), (14, some 1)], none), ([(15, some 2)], none), ([(16, some 3)], none)] 18 5 rfl rfl (by kernel_rfl) NewT.trans (NewT.refl _) (Nat.le_of_ble_eq_true rfl) ⟨?_, ?_, ?_, ?_, ?_, trivial⟩ ?_
        · exact fun a wx hT hF K hK => rely_wp rfl (opr_move (.inl rfl) (hK _ _ (NewT.refl _) hF.1))
        · exact fun a wx hT hF K hK => rely_wp rfl (opr_move (.inl rfl) (hK _ _ (NewT.refl _) hF.1))
        · intro a wx hT hF K hK
          obtain ⟨f13, f14, _⟩ := hF
          have f13 : a.tmps.getD 13 undef = v := f13
          have f14 : a.tmps.getD 14 undef = .int .i64 ((k : Int)) := f14
          refine rely_wp rfl ?_
          exact opr_idxL (i := k) (p := x) recEl (HPP.out) (rfl) rfl (by rw [eval_tmp, f13]; exact (HV.out.new (NewT.trans _ _ _ HM.out hT))) f14 (fun v hv => hK v _ (NewT.refl _) hv)
        · exact fun a wx hT hF K hK => rely_wp rfl (opr_ldRcE rfl hF.1 (fun u hu => hK u _ (NewT.refl _) hu))
        · exact fun a wx hT hF K hK => rely_wp rfl (opr_cv (Great4_cv _ x wx (hF.1)) rfl Try.func25 (by kernel_rfl) (by kernel_rfl) (evs1 rfl) hK)
        · intro w4 k4
          iterate 2 (intro u h; obtain rfl := Eq.symm (h (by simp)); clear h)
          iterate 2 (intro _ _)
          intro u h; obtain rfl := Eq.symm (h (by simp)); clear h
          refine relyEnd_nil rfl ?_
          refine wpList_end rfl ?_
          simp only [Act.put, List.setIfInBounds_toArray, List.set_cons_zero, List.set_cons_succ]
          go_simp
          replace HM := Lib.hid (NewT.trans _ _ _ HM.out k4)
          clear k4
          cases hb : greatR x
          · have HN : Hid ((l.take (k + 1)).any greatR = false) := Lib.hid (take_any HPP.out HA.out hb)
            clear hb
            have it2 := HIT.out
            go_wp2
            go_roundw
            case rel => exact ⟨k + 1, by omega, by go_num, by first | exact HN | trivial, by first | exact HM | trivial⟩
            case measure => simp [intOf]; omega
          · have HF : Hid (greatL l = true) := Lib.hid (by unfold greatL; rw [Bool.or_eq_true]; right; rw [List.any_eq_true]; exact ⟨x, List.mem_of_getElem? HPP.out, hb⟩)
            clear hb
            go_wp2
            go_ret
            exact ⟨_, rfl, HM.out, by rw [HF.out]; rfl⟩
end Go.Proofs.Ytilmeffmdgcblaa
/- Steps of a region that stores into the steps of a record's variable; new rows of lines; bytes cloned. -/
namespace Go.Proofs.Ytilmeffmdgcblaa
open Go Go.RowKit
set_option maxRecDepth 8000
set_option linter.all false
/-- Block g alone is written, and there but cell 42. -/
structure ST (g : Nat) (w w' : World) : Prop where
  rt : RT g w w'
  cells : ∀ j, j < 109 → j ≠ 42 → w'.cell? ⟨g, j, none⟩ = w.cell? ⟨g, j, none⟩
theorem ST.trans {g : Nat} (a b c : World) (h : ST g a b) (k : ST g b c) : ST g a c := ⟨RT.trans _ _ _ h.rt k.rt, fun j hj hn => (k.cells j hj hn).trans (h.cells j hj hn)⟩
theorem ST.size {g : Nat} {w w' : World} (h : ST g w w') : w.heap.size ≤ w'.heap.size := h.rt.size
theorem ST.new {g : Nat} {w w' : World} (hg : g < w.heap.size) (h : NewT w w') : ST g w w' := ⟨RT.new hg h, fun j _ _ => h.out.cell (p := ⟨g, j, none⟩) hg⟩
theorem ST.drew (g : Nat) (w : World) : ST g w w.drew := ⟨RT.drew _ _, fun j _ _ => rfl⟩
def svPairsS (R C : Nat) (hC : R < C) (l : List (Int × Int)) : SV (ST R) := ⟨fun v w => RdPB w C v l, fun _ _ _ h hT => h.rt hT.rt hC⟩
def svRdS (R C : Nat) (hC : R < C) (l : List UInt8) : SV (ST R) := ⟨fun v w => RdVB w C v l, fun _ _ _ h hT => h.rt hT.rt hC⟩
def CopJ (g C : Nat) (x : Rc) (sv dv : Value) (k : Nat) (w : World) : Prop := if k < 2 then w.rowIs g 46 109 (recF x sv dv) else ∃ u, RdPB w C u x.steps ∧ w.rowIs g 46 109 (recF x u dv)
theorem copJ_new {g C : Nat} {x : Rc} {sv dv : Value} {k : Nat} {w w' : World} (h : CopJ g C x sv dv k w) (hN : NewT w w') : CopJ g C x sv dv k w' := by
  unfold CopJ at h ⊢
  split at h
  · rename_i h0; rw [if_pos h0]; exact hN.row h
  · rename_i h0; rw [if_neg h0]
    obtain ⟨u, h1, h2⟩ := h
    exact ⟨u, h1.new hN, hN.row h2⟩
theorem st_put {g : Nat} {w w' : World} {F F' : Nat → Value} {t : TypeId} (hT : RT g w w') (hr : w.rowIs g t 109 F) (hr' : w'.rowIs g t 109 F') (h : ∀ j, j < 109 → j ≠ 42 → F' j = F j) : ST g w w' :=
  ⟨hT, fun j hj hn => by rw [hr'.cell hj, hr.cell hj, h j hj hn]⟩
/-- A new row of lines. -/
theorem run_mkN (m : Nat) (hm : m ≤ 1000000) (W : World) : (Instr.makeSlice 31 (.int .i64 (m : Int)) (.int .i64 (m : Int))).run Try.prog W = .ok (.slice (some ⟨W.heap.size, 0, none⟩) m m) (W.alloc (.cells (rowA (m * 2) (fun _ => .int .i64 0)) 34)) := by
  obtain ⟨i0, z, hi, hz0, hz1, hz2, hz3⟩ := lineEl.inf
  have hz : z = .agg (rowA 2 (stepF (0, 0))) := by
    have h : (Try.prog.info? 34).map (fun i => i.zero) = some (some (.agg (rowA 2 (stepF (0, 0))))) := by kernel_rfl
    rw [hi] at h
    simp at h
    rw [hz0] at h
    exact Option.some.inj h
  have := run_make (P := Try.prog) W 31 34 i0 _ Try.underlying31 hi hz0 .i64 .i64 (m : Int) (m : Int) (by omega) (by omega) (by have : i0.bytes * m ≤ 1000 * 1000000 := Nat.mul_le_mul hz2 hm; have h2 : ((i0.bytes * m : Nat) : Int) ≤ 1000000000 := (by omega); rw [Int.natCast_mul] at h2; omega) (by omega)
  rw [this, hz1, Int.toNat_natCast]
  have e : madeCells z.cells (m * 2) = rowA (m * 2) (fun _ => .int .i64 0) := by
    subst hz
    apply Array.ext_getElem?
    intro i
    by_cases hi2 : i < m * 2
    · rw [rowA_at _ _ _ hi2]
      have hs : (Value.agg (rowA 2 (stepF (0, 0)))).cells = #[.int .i64 0, .int .i64 0] := rfl
      rw [hs]
      unfold madeCells
      have : i % 2 = 0 ∨ i % 2 = 1 := by omega
      rcases this with h | h <;> simp [hi2, h]
    · rw [Array.getElem?_eq_none (by rw [size_madeCells]; omega), Array.getElem?_eq_none (by rw [rowA_size]; omega)]
  rw [e]
theorem opr_mkN {a : Act} {w : World} {o : Oper} {K : Act → World → Prop} {Q : Exit → Act → World → Prop} {x y : Operand} {m : Nat} (hm : m ≤ 1000000) (ho : o.op = .makeSlice 31 x y) (hx : a.eval x = .int .i64 (m : Int)) (hy : a.eval y = .int .i64 (m : Int)) (h : ∀ w', NewT w w' → w'.rowIs w.heap.size 34 (m * 2) (fun _ => .int .i64 0) → K (a.put o.dst (.slice (some ⟨w.heap.size, 0, none⟩) m m)) w') : o.wp Try.prog a w K Q := by
  obtain ⟨dst, op, type, pos, after, guard⟩ := o
  simp only at ho
  subst ho
  exact opr_val (s := Instr.makeSlice 31 (a.eval x) (a.eval y)) rfl (by rw [hx, hy]; exact run_mkN m hm w) (h _ (NewT.alloc _ _) (rowIs_box w _ (m * 2) _))
theorem bClone_cv (v : Value) (l : List UInt8) (L : List Nat) (w : World) (h : RdV w L v l) (hl : l.length ≤ 1000000) : Cv 49 #[v] w (svRdN w l) := by
  unfold Cv
  have H := Lib.hid h
  obtain ⟨A, cap, rfl, h1, h2, h3⟩ := h
  obtain ⟨i0, hi, hz0, hz1, hz2⟩ := info_parts info5
  have hq : ∀ (w : World) (a : Option Addr) (n c n' c' : Nat), (binOp .eql 44 (.slice a n c) (.slice none n' c')).run Try.prog w = .ok (.bool a.isNone) w := fun w a n c n' c' => Lib.run_eql_slice_nil w _ _ a n c n' c' Try.underlying44
  cases A with
  | none =>
    have h0 : l = [] := by
      cases l with
      | nil => rfl
      | cons b l => obtain ⟨_, _, h, _⟩ := h3 (by simp); cases h
    subst h0
    clear h3
    go_enter Try.func49, Try.ntmps49
    go_wp2
    go_ret
    exact ⟨_, rfl, NewT.refl _, fun L _ => rdV_nil _ _⟩
  | some a =>
    clear h3
    have r0 : (w.alloc (.cells #[] 5)).rowIs w.heap.size 5 0 (fun _ => undef) := rowIs_box w 5 0 (fun _ => undef)
    have o0 := ownsRow_row r0 w.heap.size 0 (by omega) (by unfold maxLen; omega) (Nat.le_refl _)
    have hB : Below w.heap.size w (w.alloc (.cells #[] 5)) := (Below.refl _ w).alloc (Nat.le_refl _) _
    have Hrd := Lib.hid (H.out.keep (KeepBut.below hB))
    generalize hn : l.length = n at *
    go_enter Try.func49, Try.ntmps49
    go_wp2_with (at_builtin; refine wpList_append_rd rfl (.tmp 5) (.tmp 6) 44 rfl (base := w.heap.size) Try.underlying44 hi hz0 hz1 hz2 rfl o0 rfl Hrd.out (by omega) hB.size ?_; intro v2 w2 o2 grow2)
    go_ret
    exact ⟨_, rfl, hB.grown grow2 hB.size (fun k e => (o0.lt k e).1), rdN_own o2 (by omega)⟩
end Go.Proofs.Ytilmeffmdgcblaa
/- A row of records of the call's own, one appended behind the other; their steps and payloads lie beside it. -/
namespace Go.Proofs.Ytilmeffmdgcblaa
open Go Go.RowKit
set_option maxRecDepth 8000
set_option linter.all false
/-- Steps, in no block of L. -/
def RdPA (w : World) (L : List Nat) (v : Value) (l : List (Int × Int)) : Prop := RdP w v l ∧ (0 < l.length → ∀ a n c, v = .slice (some a) n c → a.block ∉ L)
theorem RdPA.new {w w' : World} {L : List Nat} {v : Value} {l : List (Int × Int)} (h : RdPA w L v l) (hN : NewT w w') : RdPA w' L v l := ⟨hN.pairs h.1, h.2⟩
theorem RdPA.keep {w w' : World} {L : List Nat} {v : Value} {l : List (Int × Int)} (h : RdPA w L v l) (hK : KeepBut L w w') : RdPA w' L v l := by
  refine ⟨?_, h.2⟩
  obtain ⟨A, cap, rfl, h1, h2, h3⟩ := h.1
  refine ⟨A, cap, rfl, h1, h2, fun h0 => ?_⟩
  obtain ⟨b, o, rfl, hc⟩ := h3 h0
  have hb : b ∉ L := h.2 h0 ⟨b, o, none⟩ _ _ rfl
  exact ⟨b, o, rfl, fun i hi => ⟨hK.cell (a := ⟨b, o + 2 * i, none⟩) hb (hc i hi).1, hK.cell (a := ⟨b, o + 2 * i + 1, none⟩) hb (hc i hi).2⟩⟩
theorem RdPA.more {w : World} {L L' : List Nat} {v : Value} {l : List (Int × Int)} (h : RdPA w L v l) (hL : ∀ k, k < w.heap.size → k ∉ L → k ∉ L') : RdPA w L' v l := by
  refine ⟨h.1, fun h0 a n c hv => hL _ ?_ (h.2 h0 a n c hv)⟩
  obtain ⟨A, cap, hv2, h1, h2, h3⟩ := h.1
  obtain ⟨b, o, hA, hc⟩ := h3 h0
  rw [hv] at hv2
  injection hv2 with e
  rw [hA] at e
  cases e
  exact World.block_lt_of_cell? _ _ (hc 0 h0).1
theorem RdPB.apart {w : World} {B : Nat} {L : List Nat} {v : Value} {l : List (Int × Int)} (h : RdPB w B v l) (hL : ∀ k ∈ L, k < B) : RdPA w L v l :=
  ⟨h.1, fun h0 a n c hv hm => by have h1 := h.2 h0 a n c hv; have h2 := hL _ hm; omega⟩
theorem rdPA_elder {w0 w : World} {L : List Nat} {v : Value} {l : List (Int × Int)} (h : RdP w0 v l) (hN : NewT w0 w) (hL : ∀ k ∈ L, w0.heap.size ≤ k) : RdPA w L v l :=
  RdPA.new (RdPA.more (L := []) ⟨h, fun _ _ _ _ _ => by simp⟩ fun k hk _ hm => by have := hL k hm; omega) hN
theorem rdV_elder {w0 w : World} {L : List Nat} {v : Value} {l : List UInt8} (h : RdV w0 [] v l) (hN : NewT w0 w) (hL : ∀ k ∈ L, w0.heap.size ≤ k) : RdV w L v l :=
  hN.rd (h.more fun k hk _ hm => by have := hL k hm; omega)
/-- A record's row whose steps and payload lie in no block of L. -/
def rcA (L : List Nat) (w : World) (f : Nat → Value) (x : Rc) : Prop := ∃ sv dv, f = recF x sv dv ∧ RdPA w L sv x.steps ∧ RdV w L dv x.data
instance (L : List Nat) : StbE (rcA L) := ⟨fun ⟨sv, dv, h1, h2, h3⟩ hN => ⟨sv, dv, h1, h2.new hN, hN.rd h3⟩⟩
theorem rcA_more {w : World} {L L' : List Nat} {f : Nat → Value} {x : Rc} (h : rcA L w f x) (hL : ∀ k, k < w.heap.size → k ∉ L → k ∉ L') : rcA L' w f x := by
  obtain ⟨sv, dv, h1, h2, h3⟩ := h; exact ⟨sv, dv, h1, h2.more hL, h3.more hL⟩
theorem rcA_keep {w w' : World} {L : List Nat} {f : Nat → Value} {x : Rc} (h : rcA L w f x) (hK : KeepBut L w w') : rcA L w' f x := by
  obtain ⟨sv, dv, h1, h2, h3⟩ := h; exact ⟨sv, dv, h1, h2.keep hK, h3.keep hK⟩
theorem rcA_rd {w : World} {L : List Nat} {f : Nat → Value} {x : Rc} (h : rcA L w f x) : rcE w f x := by
  obtain ⟨sv, dv, h1, h2, h3⟩ := h; exact ⟨sv, dv, h1, h2.1, h3.less (by simp)⟩
theorem rcA_one {w : World} {L : List Nat} {f : Nat → Value} {x : Rc} (h : rcA L w f x) (j : Nat) : (f j).oneCell' = true := by
  obtain ⟨sv, dv, rfl, h2, h3⟩ := h; exact recF_one _ _ _ (oneP h2.1) (oneR h3) j
theorem rcA_elder {w0 w : World} {L : List Nat} {f : Nat → Value} {x : Rc} (h : rcE w0 f x) (hN : NewT w0 w) (hL : ∀ k ∈ L, w0.heap.size ≤ k) : rcA L w f x := by
  obtain ⟨sv, dv, h1, h2, h3⟩ := h; exact ⟨sv, dv, h1, rdPA_elder h2 hN hL, rdV_elder h3 hN hL⟩
/-- Records in a row of the own, which their steps and payloads lie beside. -/
def OwnR (w : World) (B : Nat) (v : Value) (X : List Rc) : Prop := ∃ fs : List (Nat → Value), OwnE 46 109 w B v fs ∧ fs.length = X.length ∧ ∀ (i : Nat) (x : Rc), X[i]? = some x → ∃ f : Nat → Value, fs[i]? = some f ∧ rcA v.ownBlock.toList w f x
theorem OwnR.rd {w : World} {B : Nat} {v : Value} {X : List Rc} (h : OwnR w B v X) : RdR w v X := by
  obtain ⟨fs, h1, h2, h3⟩ := h
  exact ⟨fs, h1.rd, h2, fun i x hx => by obtain ⟨f, e1, e2⟩ := h3 i x hx; exact ⟨f, e1, rcA_rd e2⟩⟩
theorem ownR_nil (w : World) (B : Nat) : OwnR w B (.slice none 0 0) [] := ⟨[], ownE_nil w B, rfl, fun i x h => by simp at h⟩
theorem OwnR.new {w w' : World} {B : Nat} {v : Value} {X : List Rc} (h : OwnR w B v X) (hN : NewT w w') : OwnR w' B v X := by
  obtain ⟨fs, h1, h2, h3⟩ := h
  exact ⟨fs, h1.new hN, h2, fun i x hx => by obtain ⟨f, e1, e2⟩ := h3 i x hx; exact ⟨f, e1, StbE.new e2 hN⟩⟩
theorem OwnR.at_ {w : World} {B : Nat} {v : Value} {X : List Rc} (h : OwnR w B v X) : ∀ k ∈ v.ownBlock.toList, B ≤ k ∧ k < w.heap.size := by
  obtain ⟨fs, h1, _⟩ := h
  intro k hk
  exact h1.lt k (by simpa using hk)
/-- A slice of one record. -/
def RoV (w : World) (L : List Nat) (v : Value) (x : Rc) : Prop := ∃ b f, v = .slice (some ⟨b, 0, none⟩) 1 1 ∧ w.rowIs b 46 109 f ∧ rcA L w f x
def svRo (L : List Nat) (x : Rc) : SV NewT := ⟨fun v w => RoV w L v x, fun _ _ _ ⟨b, f, h1, h2, h3⟩ hT => ⟨b, f, h1, hT.row h2, StbE.new h3 hT⟩⟩
/-- A record as a value. -/
def svRecA (L : List Nat) (x : Rc) : SV NewT := ⟨fun v w => ∃ f, v = .agg (rowA 109 f) ∧ rcA L w f x, fun _ _ _ ⟨f, h1, h2⟩ hT => ⟨f, h1, StbE.new h2 hT⟩⟩
/-- A record whose steps and payload lie in blocks from B on. -/
def svRecN (B : Nat) (x : Rc) : SV NewT := ⟨fun v w => ∃ sv dv, v = .agg (rowA 109 (recF x sv dv)) ∧ RdPB w B sv x.steps ∧ RdVB w B dv x.data, fun _ _ _ ⟨sv, dv, h1, h2, h3⟩ hT => ⟨sv, dv, h1, h2.new hT, h3.new hT⟩⟩
theorem opr_bsRo {a : Act} {w : World} {o : Oper} {K : Act → World → Prop} {Q : Exit → Act → World → Prop} {y : Operand} {L : List Nat} {x : Rc} (ho : o.op = .buildSlice 22 1 #[(0, y)]) (hx : (svRecA L x).pred (a.eval y) w) (h : ∀ v w', NewT w w' → RoV w' L v x → K (a.put o.dst v) w') : o.wp Try.prog a w K Q := by
  obtain ⟨dst, op, type, pos, after, guard⟩ := o
  simp only at ho
  subst ho
  obtain ⟨f, hv, hf⟩ := hx
  exact opr_val (s := Instr.buildSlice 22 1 #[(0, a.eval y)]) (by simp [execOp]) (by rw [hv]; exact run_bsR1 _ w) (h _ _ (NewT.alloc _ _) ⟨_, f, rfl, rowIs_box w _ 109 f, StbE.new hf (NewT.alloc _ _)⟩)
theorem run_appR {W : World} {B : Nat} {v u : Value} {X : List Rc} {x : Rc} (h : OwnR W B v X) (hu : RoV W v.ownBlock.toList u x) (hn : X.length + 1 ≤ 1000000) (hB : B ≤ W.heap.size) (ty : TypeId) :
    ∃ v' w', (Builtin.append_ #[22, 22] ty #[v, u]).run Try.prog W = .ok v' w' ∧ OwnR w' B v' (X ++ [x]) ∧ Below B W w' := by
  have hat := h.at_
  obtain ⟨fs, h1, h2, h3⟩ := h
  obtain ⟨b, f, hu1, hu2, hu3⟩ := hu
  have hone : OneE 109 [f] := fun f' hf' j _ => by simp at hf'; subst hf'; exact rcA_one hu3 j
  have els : ∀ (w' : World) (v' : Value), (∀ g y, rcA v.ownBlock.toList W g y → rcA v'.ownBlock.toList w' g y) → ∀ (i : Nat) (y : Rc), (X ++ [x])[i]? = some y → ∃ g : Nat → Value, (fs ++ [f])[i]? = some g ∧ rcA v'.ownBlock.toList w' g y := fun w' v' hc i y hy => by
    by_cases hi : i < X.length
    · rw [List.getElem?_append_left hi] at hy
      obtain ⟨g, e1, e2⟩ := h3 i y hy
      exact ⟨g, by rw [List.getElem?_append_left (by omega)]; exact e1, hc g y e2⟩
    · have hi2 : i < X.length + 1 := by have := (List.getElem?_eq_some_iff.1 hy).1; simpa using this
      obtain rfl : i = X.length := by omega
      simp at hy
      subst hy
      exact ⟨f, by rw [← h2]; simp, hc f x hu3⟩
  by_cases hroom : ∃ c cap, v = .slice (some ⟨c, 0, none⟩) fs.length cap ∧ fs.length + 1 ≤ cap
  · obtain ⟨c, cap, hcv, hcap⟩ := hroom
    have hBc := (hat c (by rw [hcv]; simp [Value.ownBlock])).1
    subst hcv
    obtain ⟨w', hr, ho, hT⟩ := run_appE_near (u := u) recEl h1 (by rw [hu1]; exact rdE_rowOne hu2) hone (by simp) (by simp; omega) hB (by simpa using hcap) ty
    exact ⟨_, w', hr, ⟨_, ho, by simp [h2], els w' _ (fun g y hg => rcA_keep hg (hT.keep.more (by simp [Value.ownBlock])))⟩, hT.below.mono hBc⟩
  · obtain ⟨v', w', hr, ho, hN, hk⟩ := run_appE_far (u := u) recEl h1 (by rw [hu1]; exact rdE_rowOne hu2) hone (by simp) (by simp; omega) hB (fun g c hv => by
      by_cases hc : fs.length + 1 ≤ c
      · exact absurd ⟨g, c, hv, hc⟩ hroom
      · simpa using hc) ty
    refine ⟨v', w', hr, ⟨_, ho, by simp [h2], els w' v' (fun g y hg => StbE.new (rcA_more hg fun k hk2 _ hm => ?_) hN)⟩, hN.out.mono hB⟩
    have := hk k (by simpa using hm)
    omega
end Go.Proofs.Ytilmeffmdgcblaa
/- Package book: a record copied; Only; Report. -/
namespace Go.Proofs.Ytilmeffmdgcblaa
open Go Go.RowKit
set_option maxRecDepth 8000
set_option linter.all false
set_option maxHeartbeats 4000000 in
theorem copyOf_cv (v : Value) (x : Rc) (w : World) (hx : RecV w v x) (hl : x.steps.length ≤ 900000 ∧ x.data.length ≤ 900000) : Cv 34 #[v] w (svRecN w.heap.size x) := by
  unfold Cv
  obtain ⟨sv, dv, rfl, hsx, hd⟩ := hx
  have HX : Hid (RecV w (.agg (rowA 109 (recF x sv dv))) x) := Lib.hid ⟨sv, dv, rfl, hsx, hd⟩
  have HS := Lib.hid hsx
  have HD := Lib.hid hd
  have HLS := Lib.hid hl.1
  have HLD := Lib.hid hl.2
  clear hsx hd hl
  go_enter Try.func34, Try.ntmps34
  go_upto_region 1 with fail
  have r_g1 := (rowIs_box w 46 109 (recF x sv dv)).alloc (.cells (rowA 109 (recF zR (.slice none 0 0) (.slice none 0 0))) 46)
  have r_g2 := rowIs_box (w.alloc (.cells (rowA 109 (recF x sv dv)) 46)) 46 109 (recF zR (.slice none 0 0) (.slice none 0 0))
  rw [World.size_alloc] at r_g2
  have hN : NewT w ((w.alloc (.cells (rowA 109 (recF x sv dv)) 46)).alloc (.cells (rowA 109 (recF zR (.slice none 0 0) (.slice none 0 0))) 46)) := (NewT.trans _ _ _ (NewT.alloc _ _) (NewT.alloc _ _))
  change Code.wp _ _ _ _ ((w.alloc (.cells (rowA 109 (recF x sv dv)) 46)).alloc (.cells (rowA 109 (recF zR (.slice none 0 0) (.slice none 0 0))) 46))
  generalize ((w.alloc (.cells (rowA 109 (recF x sv dv)) 46)).alloc (.cells (rowA 109 (recF zR (.slice none 0 0) (.slice none 0 0))) 46)) = W0 at r_g1 r_g2 hN ⊢
  obtain ⟨g1, h_g1⟩ : ∃ g_, w.heap.size = g_ := ⟨_, rfl⟩
  obtain ⟨g2, h_g2⟩ : ∃ g_, w.heap.size + 1 = g_ := ⟨_, rfl⟩
  have HG : Hid (w.heap.size ≤ g1 ∧ g1 < g2) := Lib.hid (by omega)
  rw [h_g1] at r_g1
  rw [h_g2] at r_g2
  try rw [h_g2]
  simp only [h_g1]
  have Rg1 := Lib.hid r_g1
  have Rg2 := Lib.hid r_g2
  have HM := Lib.hid hN
  clear r_g1 r_g2 hN h_g1 h_g2
  have HSZ : Hid (w.heap.size ≤ W0.heap.size) := Lib.hid HM.out.out.size
  refine wp_region_relyP (ST g1) (CopJ g1 W0.heap.size x sv dv) [SV.eq (.pointer (some ⟨g1, 42, none⟩)), SV.eq (sv), svPairsS g1 W0.heap.size Rg1.out.lt x.steps, SV.eq (.pointer (some ⟨g1, 43, none⟩)), SV.eq (dv), svRdS g1 W0.heap.size Rg1.out.lt x.data, SV.eq (.pointer (some ⟨g1, 42, none⟩)), SV.any, SV.eq (.pointer (some ⟨g1, 43, none⟩))] [([(1, none)], none), ([(3, some 0)], none), ([(4, some 1)], none), ([(1, none)], none), ([(6, some 3)], none), ([(7, some 4)], none), ([(1, none)], none), ([(9, some 6), (5, some 2)], none), ([(1, none)], none)] [none, some 0, none, none, none, none, none, some 1, none] [1, 7] 12 rfl (by kernel_rfl) rfl (by kernel_rfl) (by kernel_rfl) rfl (by kernel_rfl) (ST.trans) (ST.drew _ _) (show World.rowIs _ g1 46 109 _ from (NewT.drew _).row Rg1.out) (Nat.le_of_ble_eq_true rfl) ⟨?_, ?_, ?_, ?_, ?_, ?_, ?_, ?_, ?_, trivial⟩ ?_
  · exact fun a wx hT hF K hK => have hK := fun v w' (hN : NewT wx w') hv => hK v w' (ST.new (Nat.lt_of_lt_of_le Rg1.out.lt hT.size) hN) (fun k h => copJ_new h hN) hv; rely_wp rfl (opr_fldR (by decide) rfl hF.1 (hK _ _ (NewT.refl _) rfl))
  · exact fun a wx hT hF hJ K hK => rely_wp rfl (opr_ldS (show wx.rowIs g1 46 109 (recF x sv dv) from hJ) (by decide) rfl rfl hF.1 (hK _ _ (ST.new hJ.lt (NewT.refl _)) hJ rfl))
  · intro a wx hT hF K hK
    replace hK := fun v w' (hN : NewT wx w') hv => hK v w' (ST.new (Nat.lt_of_lt_of_le Rg1.out.lt hT.size) hN) (fun k h => copJ_new h hN) hv
    obtain ⟨f4, _⟩ := hF
    have f4 : a.tmps.getD 4 undef = sv := f4
    refine rely_wp rfl ?_
    refine opr_cv (CloneS_cvN sv x.steps wx (((HM.out.rt hT.rt (by have := HG.out; omega))).pairs HS.out) HLS.out) rfl Try.func36 (by kernel_rfl) (by kernel_rfl) (by simp only [List.map_toArray, List.map_cons, List.map_nil, eval_tmp, f4]) (fun v w' hN hv => hK v w' hN (RdPB.mono hv ?_))
    exact hT.size
  · exact fun a wx hT hF K hK => have hK := fun v w' (hN : NewT wx w') hv => hK v w' (ST.new (Nat.lt_of_lt_of_le Rg1.out.lt hT.size) hN) (fun k h => copJ_new h hN) hv; rely_wp rfl (opr_fldR (by decide) rfl hF.1 (hK _ _ (NewT.refl _) rfl))
  · exact fun a wx hT hF K hK => have hK := fun v w' (hN : NewT wx w') hv => hK v w' (ST.new (Nat.lt_of_lt_of_le Rg1.out.lt hT.size) hN) (fun k h => copJ_new h hN) hv; rely_wp rfl (opr_ld1 Try.underlying44 rfl rfl hF.1 ((hT.cells 43 (by decide) (by decide)).trans (Rg1.out.cell (i := 43) (by decide))) (hK _ _ (NewT.refl _) rfl))
  · intro a wx hT hF K hK
    replace hK := fun v w' (hN : NewT wx w') hv => hK v w' (ST.new (Nat.lt_of_lt_of_le Rg1.out.lt hT.size) hN) (fun k h => copJ_new h hN) hv
    obtain ⟨f7, _⟩ := hF
    have f7 : a.tmps.getD 7 undef = dv := f7
    refine rely_wp rfl ?_
    refine opr_cv (bClone_cv dv x.data [] wx (((HM.out.rt hT.rt (by have := HG.out; omega))).rd HD.out) (by have := HLD.out; omega)) rfl Try.func49 (by kernel_rfl) (by kernel_rfl) (by simp only [List.map_toArray, List.map_cons, List.map_nil, eval_tmp, f7]) (fun v w' hN hv => hK v w' hN (RdVB.mono (B := wx.heap.size) hv ?_))
    exact hT.size
  · exact fun a wx hT hF K hK => have hK := fun v w' (hN : NewT wx w') hv => hK v w' (ST.new (Nat.lt_of_lt_of_le Rg1.out.lt hT.size) hN) (fun k h => copJ_new h hN) hv; rely_wp rfl (opr_fldR (by decide) rfl hF.1 (hK _ _ (NewT.refl _) rfl))
  · intro a wx hT hF hJ K hK
    obtain ⟨f9, f5, _⟩ := hF
    have f9 : a.tmps.getD 9 undef = .pointer (some ⟨g1, 42, none⟩) := f9
    replace f5 := show (svPairsS g1 W0.heap.size Rg1.out.lt x.steps).pred (a.tmps.getD 5 undef) wx from f5
    refine rely_wp rfl ?_
    refine opr_put1 rfl f9 rfl (show wx.rowIs g1 46 109 (recF x sv dv) from hJ) (by decide) info_s1 (oneP f5.1) (fun i _ => rs_steps x sv dv i _) ?_
    intro w' hT' hr'
    exact hK _ _ (st_put hT' hJ hr' (fun j _ hn => by rw [rs_steps x sv dv j, if_neg hn])) ⟨_, RdPB.rt f5 hT' Rg1.out.lt, hr'⟩ trivial
  · exact fun a wx hT hF K hK => have hK := fun v w' (hN : NewT wx w') hv => hK v w' (ST.new (Nat.lt_of_lt_of_le Rg1.out.lt hT.size) hN) (fun k h => copJ_new h hN) hv; rely_wp rfl (opr_fldR (by decide) rfl hF.1 (hK _ _ (NewT.refl _) rfl))
  · intro w1 k1 hJ
    iterate 2 (intro u h; obtain rfl := Eq.symm (h (by simp)); clear h)
    intro _ _
    iterate 2 (intro u h; obtain rfl := Eq.symm (h (by simp)); clear h)
    intro u8 h; have g8 := h (by simp); clear h; replace g8 := show (svRdS g1 W0.heap.size Rg1.out.lt x.data).pred u8 w1 from g8
    intro u h; obtain rfl := Eq.symm (h (by simp)); clear h
    intro _ _
    intro u h; obtain rfl := Eq.symm (h (by simp)); clear h
    refine relyEnd_nil rfl ?_
    simp only [Act.put, List.setIfInBounds_toArray, List.set_cons_zero, List.set_cons_succ]
    obtain ⟨su, hsu, hrow⟩ := hJ
    refine opr_put1 rfl rfl rfl hrow (by decide) info_d1 (oneR (RdVB.out g8)) (fun i _ => rs_data x su dv i u8) ?_
    intro w2 hT2 hr2
    replace hsu := RdPB.rt hsu hT2 Rg1.out.lt
    replace g8 := RdVB.rt g8 hT2 Rg1.out.lt
    go_simp
    have hRT := RT.trans _ _ _ k1.rt hT2
    have hg12 : g2 ≠ g1 := by have := HG.out; omega
    have hN2 := HM.out.rt hRT (by have := HG.out; omega)
    have r2 := hRT.row hg12 Rg2.out
    go_upto_region 2 with fail
    refine wp_region_steps0 NewT [SV.eq (.agg (rowA 109 (recF x su u8)))] [([(1, none)], none)] 12 1 rfl rfl (by kernel_rfl) NewT.trans (NewT.refl _) (Nat.le_of_ble_eq_true rfl) ⟨?_, trivial⟩ ?_
    · exact fun a wx hT hF K hK => rely_wp rfl (opr_ldR (hT.row hr2) rfl hF.1 (hK _ _ (NewT.refl _) rfl))
    · intro w9 k9
      intro u h; obtain rfl := Eq.symm (h (by simp)); clear h
      refine relyEnd_nil rfl ?_
      simp only [Act.put, List.setIfInBounds_toArray, List.set_cons_zero, List.set_cons_succ]
      refine wpList_plain rfl (fun K hK => ?_)
      refine opr_putm (g := g2) (o0 := 0) (m := 109) (f := recF x su u8) (F := recF x su u8) rfl rfl rfl (k9.row r2) (by decide) info_rec (recF_one _ _ _ (oneP hsu.1) (oneR g8.out)) (put_allN _ _ _) ?_
      intro W9 hR9 rr9
      refine hK _ _ ?_
      clear hK K
      refine wpList_end rfl ?_
      simp only [Act.put, List.setIfInBounds_toArray, List.set_cons_zero, List.set_cons_succ]
      go_simp
      go_wp2
      exact bodyPost_ret (results_agg rfl _ rfl rr9 Try.underlying46 rfl info_rec) rfl ⟨_, rfl, NewT.rt (NewT.trans _ _ _ hN2 k9) hR9 (by have := HG.out; omega), su, u8, rfl, (RdPB.rt (hsu.new k9) hR9 Rg2.out.lt).mono HSZ.out, (RdVB.rt (g8.new k9) hR9 Rg2.out.lt).mono HSZ.out⟩
theorem copyA_cv (L : List Nat) (v : Value) (x : Rc) (w : World) (hx : RecV w v x) (hl : x.steps.length ≤ 900000 ∧ x.data.length ≤ 900000) (hL : ∀ k ∈ L, k < w.heap.size) : Cv 34 #[v] w (svRecA L x) :=
  (copyOf_cv v x w hx hl).mono fun _ _ ⟨u, h1, h2, sv, dv, h3, h4, h5⟩ => ⟨u, h1, h2, _, h3, sv, dv, rfl, h4.apart hL, h5 L hL⟩
set_option maxHeartbeats 4000000 in
theorem Only_cv (v : Value) (l : List Rc) (n : Int) (w : World) (h : RdR w v l) (hl : l.length ≤ 1000) (hx : ∀ x ∈ l, x.steps.length ≤ 30 ∧ x.data.length ≤ 300) : Cv 19 #[v, .int .i64 n] w (svL 109 rcE (onlyL l n)) := by
  unfold Cv
  have HV := Lib.hid h
  have HLL := Lib.hid hl
  have HLX := Lib.hid hx
  clear h hl hx
  go_enter Try.func19, Try.ntmps19
  have HM := Lib.hid (NewT.refl w)
  go_upto_region 2 with fail
  refine wp_region_steps0 NewT [SV.eq (v), SV.eq (.int .i64 ((List.length (l) : Int))), SV.eq (.int .i64 (0))] [([(0, none)], none), ([(8, some 0)], none), ([], none)] 30 3 rfl rfl (by kernel_rfl) NewT.trans (NewT.refl _) (Nat.le_of_ble_eq_true rfl) ⟨?_, ?_, ?_, trivial⟩ ?_
  · exact fun a wx hT hF K hK => rely_wp rfl (opr_move (.inl rfl) (hK _ _ (NewT.refl _) hF.1))
  · intro a wx hT hF K hK
    obtain ⟨f8, _⟩ := hF
    have f8 : a.tmps.getD 8 undef = v := f8
    refine rely_wp rfl ?_
    exact opr_lenL rfl recEl (by rw [eval_tmp, f8]; exact (HV.out.new (NewT.trans _ _ _ HM.out hT))) (hK _ _ (NewT.refl _) rfl)
  · exact fun a wx hT hF K hK => rely_wp rfl (opr_move (.inl rfl) (hK _ _ (NewT.refl _) rfl))
  · intro w1 k1
    iterate 3 (intro u h; obtain rfl := Eq.symm (h (by simp)); clear h)
    refine relyEnd_nil rfl ?_
    refine wpList_end rfl ?_
    simp only [Act.put, List.setIfInBounds_toArray, List.set_cons_zero, List.set_cons_succ]
    go_simp
    replace HM := Lib.hid (NewT.trans _ _ _ HM.out k1)
    clear k1
    go_wp2
    go_loopw [5, 10] (fun o i wr => ∃ (k : Nat) (ov : Value), k ≤ l.length ∧ i = .int .i64 (k : Int) ∧ ov = o ∧ Hid (OwnR wr w.heap.size ov ((l.take k).filter (isOf n))) ∧ Hid (NewT w wr)) (fun _ i _ => l.length - (intOf i).toNat)
    case atStart => exact ⟨0, _, by omega, rfl, rfl, Lib.hid (ownR_nil _ _), HM⟩
    case round =>
      clear HM
      obtain ⟨k, ov, hk, rfl, rfl, HO, HM⟩ := hrel
      have hll := HLL.out
      by_cases hlt : k < l.length
      rotate_left
      · obtain rfl : k = l.length := by omega
        have HF : Hid (OwnR wr w.heap.size ov (onlyL l n)) := Lib.hid (by have := HO.out; rwa [List.take_length] at this)
        go_wp2
        go_ret
        exact ⟨_, rfl, HM.out, HF.out.rd⟩
      obtain ⟨x, hx⟩ : ∃ p, l[k]? = some p := ⟨_, List.getElem?_eq_getElem hlt⟩
      have HPP := Lib.hid hx
      have HXL := Lib.hid (HLX.out x (List.mem_of_getElem? hx))
      have it : (k : Int) < (l.length : Int) := by omega
      have HIT := Lib.hid it
      clear hx hlt
      obtain ⟨X, hX⟩ : ∃ X, (l.take k).filter (isOf n) = X := ⟨_, rfl⟩
      have HX0 := Lib.hid hX
      rw [hX] at HO
      have HXN : Hid (X.length ≤ 1000) := Lib.hid (by rw [← hX]; have := List.length_filter_le (isOf n) (l.take k); have := List.length_take_le k l; omega)
      clear hX
      go_upto_region 4 with fail
      refine wp_region_steps0 NewT [svEl 109 rcE (x), svRec (x)] [([(8, none), (10, none)], none), ([(12, some 0)], none)] 30 2 rfl rfl (by kernel_rfl) NewT.trans (NewT.refl _) (Nat.le_of_ble_eq_true rfl) ⟨?_, ?_, trivial⟩ ?_
      · intro a wx hT hF K hK
        obtain ⟨f8, f10, _⟩ := hF
        have f8 : a.tmps.getD 8 undef = v := f8
        have f10 : a.tmps.getD 10 undef = .int .i64 ((k : Int)) := f10
        refine rely_wp rfl ?_
        exact opr_idxL (i := k) (p := x) recEl (HPP.out) (rfl) rfl (by rw [eval_tmp, f8]; exact (HV.out.new (NewT.trans _ _ _ HM.out hT))) f10 (fun v hv => hK v _ (NewT.refl _) hv)
      · exact fun a wx hT hF K hK => rely_wp rfl (opr_ldRcE rfl hF.1 (fun u hu => hK u _ (NewT.refl _) hu))
      · intro w2 k2
        intro _ _
        intro u13 h; have g13 := h (by simp); clear h; replace g13 := show (svRec (x)).pred u13 w2 from g13
        refine relyEnd_nil rfl ?_
        simp only [Act.put, List.setIfInBounds_toArray, List.set_cons_zero, List.set_cons_succ]
        obtain ⟨su, dv, rfl, hsx, hd⟩ := (show RecV w2 u13 x from g13)
        refine wpList_new (n := 109) (f := recF x su dv) rfl rfl rfl rfl rfl rfl (by first | (simp; done) | simp [Act.put]) run_alloc_rec info_rec (recF_one _ _ _ (oneP hsx) (oneR hd)) rfl ?_
        intro W2 hn2 rr2
        refine wpList_end rfl ?_
        simp only [Act.put, List.setIfInBounds_toArray, List.set_cons_zero, List.set_cons_succ]
        go_simp
        obtain ⟨g7, h_g7⟩ : ∃ g_, w2.heap.size = g_ := ⟨_, rfl⟩
        rw [h_g7] at rr2
        simp only [h_g7]
        have HGg7 : Hid (w.heap.size ≤ g7) := Lib.hid (by rw [← h_g7]; exact (NewT.trans _ _ _ HM.out k2).out.size)
        have q2 := NewT.trans _ _ _ k2 hn2
        have HSX := Lib.hid (hn2.pairs hsx)
        have HD := Lib.hid (hn2.rd hd)
        have HX : Hid (RecV W2 (.agg (rowA 109 (recF x su dv))) x) := Lib.hid ⟨su, dv, rfl, HSX.out, HD.out⟩
        replace HO := Lib.hid (HO.out.new (NewT.trans _ _ _ k2 hn2))
        clear hsx hd
        clear k2 hn2 h_g7
        replace HM := Lib.hid (NewT.trans _ _ _ HM.out q2)
        clear q2
        have Rg7 := Lib.hid rr2
        clear rr2
        have HB := HM
        replace HM := Lib.hid (NewT.refl W2)
        go_upto_region 5 with fail
        refine wp_region_steps0 NewT [SV.eq (.pointer (some ⟨g7, 0, none⟩)), SV.eq (.int .i64 (x.kind)), SV.eq (.bool (ofB x.kind)), SV.eq (.bool (ofB x.kind)), svIf (ofB x.kind) (SV.eq (.pointer (some ⟨g7, 1, none⟩))), svIf (ofB x.kind) (SV.eq (.int .i64 (x.saga))), svIf (ofB x.kind) (SV.eq (.int .i64 (n))), svIf (ofB x.kind) (SV.eq (.bool (x.saga == n))), SV.eq (.bool ((ofB x.kind) && (x.saga == n)))] [([(7, none)], none), ([(14, some 0)], none), ([(15, some 1)], none), ([(16, some 2)], none), ([(7, none), (17, some 3)], some (17, true)), ([(18, some 4), (17, some 3)], some (17, true)), ([(1, none), (17, some 3)], some (17, true)), ([(19, some 5), (20, some 6), (17, some 3)], some (17, true)), ([(17, some 3), (21, some 7)], none)] 30 9 rfl rfl (by kernel_rfl) NewT.trans (NewT.refl _) (Nat.le_of_ble_eq_true rfl) ⟨?_, ?_, ?_, ?_, ?_, ?_, ?_, ?_, ?_, trivial⟩ ?_
        · exact fun a wx hT hF K hK => rely_wp rfl (opr_fldR (by decide) rfl hF.1 (hK _ _ (NewT.refl _) rfl))
        · exact fun a wx hT hF K hK => rely_wp rfl (opr_ldI (hT.row Rg7.out) (by decide) rfl rfl hF.1 (hK _ _ (NewT.refl _) rfl))
        · exact fun a wx hT hF K hK => rely_wp rfl (opr_cv (ofSaga_cv x.kind wx) rfl Try.func33 (by kernel_rfl) (by kernel_rfl) (evs1 hF.1) hK)
        · exact fun a wx hT hF K hK => rely_wp rfl (opr_move (.inl rfl) (hK _ _ (NewT.refl _) hF.1))
        · exact fun a wx hT hF K hK => rely_if (rely_gt hF.2.1) (NewT.refl _) hK fun hE hK => opr_fldR (by decide) rfl hF.1 (hK _ _ (NewT.refl _) rfl)
        · exact fun a wx hT hF K hK => rely_if (rely_gt hF.2.1) (NewT.refl _) hK fun hE hK => opr_ldI (hT.row Rg7.out) (by decide) rfl rfl (hF.1 hE) (hK _ _ (NewT.refl _) rfl)
        · exact fun a wx hT hF K hK => rely_if (rely_gt hF.2.1) (NewT.refl _) hK fun hE hK => opr_move (.inl rfl) (hK _ _ (NewT.refl _) hF.1)
        · exact fun a wx hT hF K hK => rely_if (rely_gt hF.2.2.1) (NewT.refl _) hK fun hE hK => opr_cmp (b := x.saga == n) (.inl ⟨rfl, rfl⟩) Try.underlying3 rfl (hF.1 hE) (hF.2.1 hE) (hK _ _ (NewT.refl _) rfl)
        · exact fun a wx hT hF K hK => rely_wp rfl (opr_pick_b rfl hF.1 (fun hb => hK _ _ (NewT.refl _) (pk_and1 (hF.2.1 hb) hb)) (fun hb => hK _ _ (NewT.refl _) (pk_and0 hb)))
        · intro w3 k3
          iterate 4 (intro u h; obtain rfl := Eq.symm (h (by simp)); clear h)
          iterate 4 (intro _ _)
          intro u h; obtain rfl := Eq.symm (h (by simp)); clear h
          refine relyEnd_nil rfl ?_
          refine wpList_end rfl ?_
          simp only [Act.put, List.setIfInBounds_toArray, List.set_cons_zero, List.set_cons_succ]
          go_simp
          replace Rg7 := Lib.hid (k3.row Rg7.out)
          replace HM := Lib.hid (NewT.trans _ _ _ HM.out k3)
          clear k3
          have HEX : Hid (((ofB x.kind) && (x.saga == n)) = isOf n x) := Lib.hid rfl
          cases hb : ((ofB x.kind) && (x.saga == n))
          · have he : isOf n x = false := HEX.out.symm.trans hb
            have HN : Hid (OwnR w3 w.heap.size ov ((l.take (k + 1)).filter (isOf n))) := Lib.hid (by rw [take_filter HPP.out, HX0.out, if_neg (by rw [he]; simp), List.append_nil]; exact HO.out.new HM.out)
            have hBM := NewT.trans _ _ _ HB.out HM.out
            clear hb he HEX
            have it2 := HIT.out
            go_wp2
            go_roundw
            case rel => exact ⟨k + 1, _, by omega, by go_num, rfl, by first | exact HN | trivial, Lib.hid hBM⟩
            case measure => simp [intOf]; omega
          · have he : isOf n x = true := HEX.out.symm.trans hb
            clear hb HEX
            replace HX := Lib.hid (HM.out.recV HX.out)
            replace HSX := Lib.hid (HM.out.pairs HSX.out)
            replace HD := Lib.hid (HM.out.rd HD.out)
            replace HO := Lib.hid (HO.out.new HM.out)
            replace HB := Lib.hid (NewT.trans _ _ _ HB.out HM.out)
            replace HM := Lib.hid (NewT.refl w3)
            go_upto_region 6 with fail
            refine wp_region_steps0 NewT [SV.eq (ov), SV.eq (.agg (rowA 109 (recF x su dv))), svRecA (Value.ownBlock ov).toList x, svRo (Value.ownBlock ov).toList x] [([(5, none)], none), ([(7, none)], none), ([(24, some 1)], none), ([(25, some 2)], none)] 30 4 rfl rfl (by kernel_rfl) NewT.trans (NewT.refl _) (Nat.le_of_ble_eq_true rfl) ⟨?_, ?_, ?_, ?_, trivial⟩ ?_
            · exact fun a wx hT hF K hK => rely_wp rfl (opr_move (.inl rfl) (hK _ _ (NewT.refl _) hF.1))
            · exact fun a wx hT hF K hK => rely_wp rfl (opr_ldR (hT.row Rg7.out) rfl hF.1 (hK _ _ (NewT.refl _) rfl))
            · exact fun a wx hT hF K hK => rely_wp rfl (opr_cv (copyA_cv _ _ x wx (((NewT.trans _ _ _ HM.out hT).recV HX.out)) (by have := HXL.out; omega) (fun k hk => Nat.lt_of_lt_of_le (HO.out.at_ k hk).2 hT.out.size)) rfl Try.func34 (by kernel_rfl) (by kernel_rfl) (evs1 hF.1) hK)
            · exact fun a wx hT hF K hK => rely_wp rfl (opr_bsRo rfl hF.1 (fun v w' hN hv => hK v w' hN hv))
            · intro w4 k4
              iterate 2 (intro u h; obtain rfl := Eq.symm (h (by simp)); clear h)
              intro _ _
              intro u26 h; have g26 := h (by simp); clear h; replace g26 := show (svRo (Value.ownBlock ov).toList x).pred u26 w4 from g26
              refine relyEnd_nil rfl ?_
              simp only [Act.put, List.setIfInBounds_toArray, List.set_cons_zero, List.set_cons_succ]
              obtain ⟨v2, w2, hrun, ho, hB⟩ := run_appR (HO.out.new k4) g26 (by have := HXN.out; omega) (Nat.le_trans HB.out.out.size k4.out.size) 22
              refine wpList_plain rfl (fun K hK => ?_)
              refine opr_append rfl rfl rfl hrun (hK _ _ ?_)
              clear hK K hrun
              simp only [Act.put, List.setIfInBounds_toArray, List.set_cons_zero, List.set_cons_succ]
              refine wpList_plain rfl (fun K hK => ?_)
              refine opr_move (.inr rfl) (hK _ _ ?_)
              clear hK K
              refine wpList_end rfl ?_
              simp only [Act.put, List.setIfInBounds_toArray, List.set_cons_zero, List.set_cons_succ]
              go_simp
              have HN : Hid (OwnR w2 w.heap.size v2 ((l.take (k + 1)).filter (isOf n))) := Lib.hid (by rw [take_filter HPP.out, HX0.out, if_pos he]; exact ho)
              have hBM : NewT w w2 := NewT.of ((NewT.trans _ _ _ HB.out k4).out.trans hB)
              have it2 := HIT.out
              clear HM HB HO
              go_wp2
              go_roundw
              case rel => exact ⟨k + 1, _, by omega, by go_num, rfl, by first | exact HN | trivial, Lib.hid hBM⟩
              case measure => simp [intOf]; omega
end Go.Proofs.Ytilmeffmdgcblaa
