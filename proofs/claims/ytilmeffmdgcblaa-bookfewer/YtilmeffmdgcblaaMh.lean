/- Package book: Report. -/
import Derived.Test.YtilmeffmdgcblaaMg
import Derived.Test.YtilmeffmdgcblaaMe
import Derived.Test.YtilmeffmdgcblaaMf
set_option linter.all false
namespace Go.Proofs.Ytilmeffmdgcblaa
open Go Go.RowKit
set_option maxRecDepth 8000
set_option linter.all false
theorem build_line (p q : Int) (w : World) : (Instr.build 34 #[(0, .int .i64 p), (1, .int .i64 q)]).run Try.prog w = .ok (.agg (rowA 2 (stepF (p, q)))) w := by kernel_rfl
/-- Lines in a row of cells. -/
def LinesIn (F : Nat → Value) (l : List (Int × Int)) : Prop := ∀ (i : Nat) (p : Int × Int), l[i]? = some p → ∀ j, j < 2 → F (i * 2 + j) = stepF p j
theorem lines_put {F : Nat → Value} {L : List Ug} {k : Nat} {p : Ug} (h : LinesIn F ((repL L).take k)) (hp : L[k]? = some p) : LinesIn (fun z => if k * 2 ≤ z ∧ z < k * 2 + 2 then stepF (lineOf p) (z - k * 2) else F z) ((repL L).take (k + 1)) := by
  intro i q hq j hj
  have hl : (repL L)[k]? = some (lineOf p) := by simp [repL, hp]
  by_cases hi : i < k
  · have hq2 : ((repL L).take k)[i]? = some q := by
      rw [List.getElem?_take_of_lt (by omega)] at hq
      rw [List.getElem?_take_of_lt hi]; exact hq
    show (if _ then _ else _) = _
    rw [if_neg (by omega)]
    exact h i q hq2 j hj
  · have hi2 : i < k + 1 := by have := (List.getElem?_eq_some_iff.1 hq).1; rw [List.length_take] at this; omega
    obtain rfl : i = k := by omega
    rw [List.getElem?_take_of_lt (by omega), hl] at hq
    cases hq
    show (if _ then _ else _) = _
    rw [if_pos (by omega), show i * 2 + j - i * 2 = j by omega]
theorem rdN_lines {W : World} {g t m : Nat} {F : Nat → Value} {l : List (Int × Int)} (h : W.rowIs g t (m * 2) F) (hl : l.length = m) (hm : m ≤ 1000000) (hf : LinesIn F l) : RdN W (.slice (some ⟨g, 0, none⟩) m m) l := by
  subst hl
  have h1 := rdE_rowc (l := l.map stepF) h (by simp) (by unfold maxLen; omega) (fun i d hd j hj => by
    rw [List.getElem?_map] at hd
    cases hq : l[i]? with
    | none => rw [hq] at hd; cases hd
    | some q => rw [hq] at hd; cases hd; exact hf i q hq j hj)
  rw [List.length_map] at h1
  refine ⟨l.map stepF, h1, by simp, fun i p hp => ⟨stepF p, by simp [hp], rfl⟩⟩
set_option maxHeartbeats 4000000 in
theorem Report_cv (bv : Value) (bk : Bk) (w : World) (hb : BkV w bv bk) (hl : bk.sg.length ≤ 1000000) : Cv 11 #[bv] w (svL 2 lnE (repL bk.sg)) := by
  unfold Cv
  obtain ⟨sv, rfl, hsv⟩ := hb
  have HSV := Lib.hid hsv
  have HLL := Lib.hid hl
  clear hsv hl
  go_enter Try.func11, Try.ntmps11
  go_upto_region 1 with fail
  have r_g1 := rowIs_box w 28 5 (bkF bk.ep sv)
  have hN : NewT w (w.alloc (.cells (rowA 5 (bkF bk.ep sv)) 28)) := NewT.alloc _ _
  change Code.wp _ _ _ _ (w.alloc (.cells (rowA 5 (bkF bk.ep sv)) 28))
  generalize (w.alloc (.cells (rowA 5 (bkF bk.ep sv)) 28)) = W0 at r_g1 hN ⊢
  obtain ⟨g1, h_g1⟩ : ∃ g_, w.heap.size = g_ := ⟨_, rfl⟩
  have HG : Hid (w.heap.size ≤ g1) := Lib.hid (by omega)
  rw [h_g1] at r_g1
  simp only [h_g1]
  have Rg1 := Lib.hid r_g1
  have HM := Lib.hid hN
  clear r_g1 hN h_g1
  refine wp_region_steps0 NewT [SV.eq (.pointer (some ⟨g1, 4, none⟩)), SV.eq (sv), SV.eq (.int .i64 ((List.length (bk.sg) : Int)))] [([(1, none)], none), ([(6, some 0)], none), ([(7, some 1)], none)] 28 3 rfl rfl (by kernel_rfl) NewT.trans (NewT.refl _) (Nat.le_of_ble_eq_true rfl) ⟨?_, ?_, ?_, trivial⟩ ?_
  · exact fun a wx hT hF K hK => rely_wp rfl (opr_fldK1 rfl hF.1 (hK _ _ (NewT.refl _) rfl))
  · exact fun a wx hT hF K hK => rely_wp rfl (opr_ldUs (hT.row Rg1.out) (by decide) rfl rfl hF.1 (hK _ _ (NewT.refl _) rfl))
  · intro a wx hT hF K hK
    obtain ⟨f7, _⟩ := hF
    have f7 : a.tmps.getD 7 undef = sv := f7
    refine rely_wp rfl ?_
    exact opr_lenL rfl sagaEl (by rw [eval_tmp, f7]; exact (HSV.out.new (NewT.trans _ _ _ HM.out hT))) (hK _ _ (NewT.refl _) rfl)
  · intro w1 k1
    iterate 3 (intro u h; obtain rfl := Eq.symm (h (by simp)); clear h)
    refine relyEnd_nil rfl ?_
    simp only [Act.put, List.setIfInBounds_toArray, List.set_cons_zero, List.set_cons_succ]
    refine wpList_plain rfl (fun K hK => ?_)
    refine opr_mkN (m := bk.sg.length) HLL.out rfl rfl rfl (fun W1 hn1 rr1 => hK _ _ ?_)
    clear hK K
    simp only [Act.put, List.setIfInBounds_toArray, List.set_cons_zero, List.set_cons_succ]
    refine wpList_plain rfl (fun K hK => ?_)
    refine opr_move (.inr rfl) (hK _ _ ?_)
    clear hK K
    refine wpList_end rfl ?_
    simp only [Act.put, List.setIfInBounds_toArray, List.set_cons_zero, List.set_cons_succ]
    go_simp
    obtain ⟨gl, h_gl⟩ : ∃ g_, w1.heap.size = g_ := ⟨_, rfl⟩
    rw [h_gl] at rr1
    simp only [h_gl]
    have HGL : Hid (g1 < gl ∧ w.heap.size ≤ gl) := Lib.hid (by rw [← h_gl]; exact ⟨(k1.row Rg1.out).lt, (NewT.trans _ _ _ HM.out k1).out.size⟩)
    have q1 := NewT.trans _ _ _ k1 hn1
    clear k1 hn1 h_gl
    replace Rg1 := Lib.hid (q1.row Rg1.out)
    replace HM := Lib.hid (NewT.trans _ _ _ HM.out q1)
    clear q1
    have Rgl := Lib.hid rr1
    clear rr1
    go_upto_region 2 with fail
    refine wp_region_steps0 NewT [SV.eq (.pointer (some ⟨g1, 4, none⟩)), SV.eq (sv), SV.eq (.int .i64 ((List.length (bk.sg) : Int))), SV.eq (.int .i64 (0))] [([(1, none)], none), ([(10, some 0)], none), ([(11, some 1)], none), ([], none)] 28 4 rfl rfl (by kernel_rfl) NewT.trans (NewT.refl _) (Nat.le_of_ble_eq_true rfl) ⟨?_, ?_, ?_, ?_, trivial⟩ ?_
    · exact fun a wx hT hF K hK => rely_wp rfl (opr_fldK1 rfl hF.1 (hK _ _ (NewT.refl _) rfl))
    · exact fun a wx hT hF K hK => rely_wp rfl (opr_ldUs (hT.row Rg1.out) (by decide) rfl rfl hF.1 (hK _ _ (NewT.refl _) rfl))
    · intro a wx hT hF K hK
      obtain ⟨f11, _⟩ := hF
      have f11 : a.tmps.getD 11 undef = sv := f11
      refine rely_wp rfl ?_
      exact opr_lenL rfl sagaEl (by rw [eval_tmp, f11]; exact (HSV.out.new (NewT.trans _ _ _ HM.out hT))) (hK _ _ (NewT.refl _) rfl)
    · exact fun a wx hT hF K hK => rely_wp rfl (opr_move (.inl rfl) (hK _ _ (NewT.refl _) rfl))
    · intro w2 k2
      iterate 4 (intro u h; obtain rfl := Eq.symm (h (by simp)); clear h)
      refine relyEnd_nil rfl ?_
      refine wpList_end rfl ?_
      simp only [Act.put, List.setIfInBounds_toArray, List.set_cons_zero, List.set_cons_succ]
      go_simp
      replace Rg1 := Lib.hid (k2.row Rg1.out)
      replace HM := Lib.hid (NewT.trans _ _ _ HM.out k2)
      replace Rgl := Lib.hid (k2.row Rgl.out)
      clear k2
      go_wp2
      go_loopw [13] (fun i wr => ∃ (k : Nat) (F : Nat → Value), k ≤ bk.sg.length ∧ i = .int .i64 (k : Int) ∧ Hid (LinesIn F ((repL bk.sg).take k)) ∧ Hid (wr.rowIs gl 34 (bk.sg.length * 2) F) ∧ Hid (NewT w wr) ∧ Hid (wr.rowIs g1 28 5 (bkF bk.ep sv))) (fun i _ => bk.sg.length - (intOf i).toNat)
      case atStart => exact ⟨0, _, by omega, rfl, Lib.hid (fun i p hp => by simp at hp), Rgl, HM, Rg1⟩
      case round =>
        clear HM Rgl Rg1
        obtain ⟨k, F0, hk, rfl, HLI, Rgl, HM, Rg1⟩ := hrel
        have hll := HLL.out
        by_cases hlt : k < bk.sg.length
        rotate_left
        · obtain rfl : k = bk.sg.length := by omega
          have HF : Hid (LinesIn F0 (repL bk.sg)) := Lib.hid (by have := HLI.out; rwa [List.take_of_length_le (by simp [repL])] at this)
          go_wp2
          go_ret
          exact ⟨_, rfl, HM.out, rdN_lines Rgl.out (by simp [repL]) HLL.out HF.out⟩
        obtain ⟨p, hp⟩ : ∃ p, bk.sg[k]? = some p := ⟨_, List.getElem?_eq_getElem hlt⟩
        have HPP := Lib.hid hp
        have it : (k : Int) < (bk.sg.length : Int) := by omega
        have HIT := Lib.hid it
        have HKL := Lib.hid hlt
        clear hp hlt
        go_upto_region 4 with fail
        refine wp_region_steps0 NewT [SV.eq (.int .i64 ((k : Int))), svEl 10 sgE (p), svSg p.1 p.2] [([(13, none)], none), ([(11, none), (13, none)], none), ([(16, some 1)], none)] 28 3 rfl rfl (by kernel_rfl) NewT.trans (NewT.refl _) (Nat.le_of_ble_eq_true rfl) ⟨?_, ?_, ?_, trivial⟩ ?_
        · exact fun a wx hT hF K hK => rely_wp rfl (opr_move (.inl rfl) (hK _ _ (NewT.refl _) hF.1))
        · intro a wx hT hF K hK
          obtain ⟨f11, f13, _⟩ := hF
          have f11 : a.tmps.getD 11 undef = sv := f11
          have f13 : a.tmps.getD 13 undef = .int .i64 ((k : Int)) := f13
          refine rely_wp rfl ?_
          exact opr_idxL (i := k) (p := p) sagaEl (HPP.out) (rfl) rfl (by rw [eval_tmp, f11]; exact (HSV.out.new (NewT.trans _ _ _ HM.out hT))) f13 (fun v hv => hK v _ (NewT.refl _) hv)
        · exact fun a wx hT hF K hK => rely_wp rfl (opr_ldUg rfl hF.1 (fun u hu => hK u _ (NewT.refl _) hu))
        · intro w3 k3
          intro u h; obtain rfl := Eq.symm (h (by simp)); clear h
          intro _ _
          intro u17 h; have g17 := h (by simp); clear h; replace g17 := show (svSg p.1 p.2).pred u17 w3 from g17
          refine relyEnd_nil rfl ?_
          simp only [Act.put, List.setIfInBounds_toArray, List.set_cons_zero, List.set_cons_succ]
          obtain ⟨ts, rfl, hs⟩ := (show SgV w3 u17 p.1 p.2 from g17)
          refine wpList_newA (n := 10) (f := sgF ts p.2) rfl rfl rfl rfl rfl rfl rfl rfl (by decide) rfl (by first | (simp; done) | simp [Act.put]) (by kernel_rfl) run_alloc_saga info_saga (sgF_one _ _ (oneP hs)) ?_
          intro W3 hn3 rr3
          refine wpList_end rfl ?_
          simp only [Act.put, List.setIfInBounds_toArray, List.set_cons_zero, List.set_cons_succ]
          go_simp
          obtain ⟨g5, h_g5⟩ : ∃ g_, w3.heap.size = g_ := ⟨_, rfl⟩
          rw [h_g5] at rr3
          simp only [h_g5]
          have HGg5 : Hid (g1 < g5 ∧ gl < g5 ∧ w.heap.size ≤ g5) := Lib.hid (by rw [← h_g5]; exact ⟨(k3.row Rg1.out).lt, (k3.row Rgl.out).lt, (NewT.trans _ _ _ HM.out k3).out.size⟩)
          have q3 := NewT.trans _ _ _ k3 hn3
          have HTS := Lib.hid (hn3.pairs hs)
          clear hs
          clear k3 hn3 h_g5
          replace Rg1 := Lib.hid (q3.row Rg1.out)
          replace Rgl := Lib.hid (q3.row Rgl.out)
          replace HM := Lib.hid (NewT.trans _ _ _ HM.out q3)
          clear q3
          have Rg5 := Lib.hid rr3
          clear rr3
          go_upto_region 5 with fail
          refine wp_region_rely (NewT) [SV.eq ((.slice (some ⟨gl, 0, none⟩) bk.sg.length bk.sg.length)), SV.eq (.int .i64 ((k : Int))), SV.eq (.pointer (some ⟨g5, 1, none⟩)), SV.eq (.int .i64 (p.2.ph)), SV.eq (.agg (rowA 10 (sgF ts p.2))), SV.eq (.int .i64 (missG p.2)), SV.eq ((.agg (rowA 2 (stepF (lineOf p))))), SV.eq (.pointer (some ⟨gl, k * 2, none⟩))] [([(3, none)], none), ([(4, none)], none), ([(5, none)], none), ([(20, some 2)], none), ([(5, none)], none), ([(22, some 4)], none), ([(21, some 3), (23, some 5)], none), ([(18, some 0), (19, some 1)], none)] 28 rfl (by kernel_rfl) rfl (by kernel_rfl) (by kernel_rfl) rfl NewT.trans (NewT.drew _) (Nat.le_of_ble_eq_true rfl) ⟨?_, ?_, ?_, ?_, ?_, ?_, ?_, ?_, trivial⟩ ?_
          · exact fun a wx hT hF K hK => rely_wp rfl (opr_move (.inl rfl) (hK _ _ (NewT.refl _) hF.1))
          · exact fun a wx hT hF K hK => rely_wp rfl (opr_move (.inl rfl) (hK _ _ (NewT.refl _) hF.1))
          · exact fun a wx hT hF K hK => rely_wp rfl (opr_fldU1 rfl hF.1 (hK _ _ (NewT.refl _) rfl))
          · exact fun a wx hT hF K hK => rely_wp rfl (opr_ldI (hT.row Rg5.out) (by decide) rfl rfl hF.1 (hK _ _ (NewT.refl _) rfl))
          · exact fun a wx hT hF K hK => rely_wp rfl (opr_ldU (hT.row Rg5.out) rfl hF.1 (hK _ _ (NewT.refl _) rfl))
          · exact fun a wx hT hF K hK => rely_wp rfl (opr_cv (MissU_cv _ p.1 p.2 wx ((⟨ts, rfl, (hT.pairs HTS.out)⟩ : SgV wx _ p.1 p.2))) rfl Try.func26 (by kernel_rfl) (by kernel_rfl) (evs1 hF.1) hK)
          · intro a wx hT hF K hK
            obtain ⟨f21, f23, _⟩ := hF
            have f21 : a.tmps.getD 21 undef = .int .i64 (p.2.ph) := f21
            have f23 : a.tmps.getD 23 undef = .int .i64 (missG p.2) := f23
            refine rely_wp rfl ?_
            exact opr_build (pv := #[(0, .int .i64 p.2.ph), (1, .int .i64 (missG p.2))]) rfl (by simp only [List.map_toArray, List.map_cons, List.map_nil, eval_tmp, f21, f23]) (build_line p.2.ph (missG p.2) wx) (hK _ _ (NewT.refl _) rfl)
          · exact fun a wx hT hF K hK => rely_wp rfl (opr_idxX lineEl HKL.out rfl rfl hF.1 hF.2.1 (hK _ _ (NewT.refl _) rfl))
          · intro w4 k4
            iterate 8 (intro u h; obtain rfl := Eq.symm (h (by simp)); clear h)
            refine relyEnd_nil rfl ?_
            simp only [Act.put, List.setIfInBounds_toArray, List.set_cons_zero, List.set_cons_succ]
            refine opr_putm (g := gl) (o0 := k * 2) (m := 2) (f := stepF (lineOf p)) (F := (fun z => if k * 2 ≤ z ∧ z < k * 2 + 2 then stepF (lineOf p) (z - k * 2) else F0 z)) rfl rfl rfl (k4.row Rgl.out) (by have := HKL.out; omega) info_line (stepF_one _) (fun i _ => rfl) ?_
            intro W4 hR rr
            go_simp
            have HN := Lib.hid (lines_put HLI.out HPP.out)
            have hB := NewT.rt (NewT.trans _ _ _ HM.out k4) hR HGL.out.2
            have h1 := hR.row (b := g1) (by have := HGL.out; omega) (k4.row Rg1.out)
            have hkl := HKL.out
            clear HM Rg1 Rgl Rg5
            go_wp2
            go_roundw
            case rel => exact ⟨k + 1, _, by omega, by go_num, HN, Lib.hid rr, Lib.hid hB, Lib.hid h1⟩
            case measure => simp [intOf]; omega
end Go.Proofs.Ytilmeffmdgcblaa
/- The document's example of package book, as records; a slice of five records. -/
namespace Go.Proofs.Ytilmeffmdgcblaa
open Go Go.RowKit
set_option maxRecDepth 8000
set_option linter.all false
def exX : Rc := { zR with kind := 6, part := 1, epoch := 1 }
def exB : Rc := { zR with kind := 1, steps := [(1, 1)] }
def exI : Rc := { zR with kind := 2, seq := 1, tr := 1 }
def exA : Rc := { zR with kind := 3, seq := 2, tr := 1, good := true, part := 1, epoch := 1 }
def exC : Rc := { zR with kind := 5, seq := 3, nd := 2 }
def exR : List Rc := [exX, exB, exI, exA, exC]
def exK : Bk := wentK 2 zK exX
theorem ex_goes : goesK 2 zK exX = true ∧ goesK 2 exK exX = false := by decide +kernel
theorem ex_n : nOf 2 zK exR = 5 ∧ nOf 2 zK (exR.drop 1) = 2 := by decide +kernel
theorem ex_rep : repL (bkOf 2 exR).sg = [(2, 0)] := by decide +kernel
theorem ex_same : sameK exK (bkOf 2 exR) = false := by decide +kernel
theorem ex_only : (onlyL exR 0).length = 4 := by decide +kernel
theorem ex_len : (bkOf 2 exR).sg.length = 1 ∧ exK.sg.length = 0 ∧ exR.length = 5 := by decide +kernel
theorem ex_ok : OkK zK ∧ OkK exK := ⟨good_ok (good_zero 2) (by omega), good_ok (good_step (good_zero 2) ex_goes.1) (by omega)⟩
theorem build_exX (w : World) : (Instr.build 46 #[(0, .int .i64 6), (8, .int .i64 1), (9, .int .i64 1)]).run Try.prog w = .ok (.agg (rowA 109 (recF exX (.slice none 0 0) (.slice none 0 0)))) w := by kernel_rfl
theorem build_exB (A : Option Addr) (n c : Nat) (w : World) : (Instr.build 46 #[(0, .int .i64 1), (11, .slice A n c)]).run Try.prog w = .ok (.agg (rowA 109 (recF exB (.slice A n c) (.slice none 0 0)))) w := by kernel_rfl
theorem build_exI (w : World) : (Instr.build 46 #[(0, .int .i64 2), (2, .int .i64 1), (4, .int .i64 1)]).run Try.prog w = .ok (.agg (rowA 109 (recF exI (.slice none 0 0) (.slice none 0 0)))) w := by kernel_rfl
theorem build_exA (w : World) : (Instr.build 46 #[(0, .int .i64 3), (2, .int .i64 2), (4, .int .i64 1), (6, .bool true), (8, .int .i64 1), (9, .int .i64 1)]).run Try.prog w = .ok (.agg (rowA 109 (recF exA (.slice none 0 0) (.slice none 0 0)))) w := by kernel_rfl
theorem build_exC (w : World) : (Instr.build 46 #[(0, .int .i64 5), (2, .int .i64 3), (7, .int .i64 2)]).run Try.prog w = .ok (.agg (rowA 109 (recF exC (.slice none 0 0) (.slice none 0 0)))) w := by kernel_rfl
theorem build_stp (w : World) : (Instr.build 58 #[(0, .int .i64 1), (1, .int .i64 1)]).run Try.prog w = .ok (.agg (rowA 2 (stepF (1, 1)))) w := by kernel_rfl
theorem run_bsS1 (d : Int × Int) (w : World) : (Instr.buildSlice 43 1 #[(0, .agg (rowA 2 (stepF d)))]).run Try.prog w = .ok (.slice (some ⟨w.heap.size, 0, none⟩) 1 1) (w.alloc (.cells (rowA 2 (stepF d)) 58)) := by kernel_rfl
theorem recV_nilB {w : World} {x : Rc} (hs : x.steps = []) (hd : x.data = []) : RecV w (.agg (rowA 109 (recF x (.slice none 0 0) (.slice none 0 0)))) x :=
  ⟨_, _, rfl, by rw [hs]; exact rdP_nil w, by rw [hd]; exact rdV_nil w []⟩
def cat5 (f0 f1 f2 f3 f4 : Nat → Value) (i : Nat) : Value := bif Nat.blt i 109 then f0 i else bif Nat.blt i 218 then f1 (i - 109) else bif Nat.blt i 327 then f2 (i - 218) else bif Nat.blt i 436 then f3 (i - 327) else f4 (i - 436)
theorem run_bsR5 (f0 f1 f2 f3 f4 : Nat → Value) (w : World) : (Instr.buildSlice 22 5 #[(0, .agg (rowA 109 f0)), (1, .agg (rowA 109 f1)), (2, .agg (rowA 109 f2)), (3, .agg (rowA 109 f3)), (4, .agg (rowA 109 f4))]).run Try.prog w = .ok (.slice (some ⟨w.heap.size, 0, none⟩) 5 5) (w.alloc (.cells (rowA 545 (cat5 f0 f1 f2 f3 f4)) 46)) := by kernel_rfl
theorem cat5_at (f0 f1 f2 f3 f4 : Nat → Value) : ∀ (i : Nat) (d : Nat → Value), [f0, f1, f2, f3, f4][i]? = some d → ∀ j, j < 109 → cat5 f0 f1 f2 f3 f4 (i * 109 + j) = d j := by
  intro i d hd j hj
  have hi : i < 5 := (List.getElem?_eq_some_iff.1 hd).1
  have : i = 0 ∨ i = 1 ∨ i = 2 ∨ i = 3 ∨ i = 4 := by omega
  have bt : ∀ a b : Nat, a < b → Nat.blt a b = true := fun a b h => by rw [Nat.blt_eq]; exact h
  have bf : ∀ a b : Nat, ¬ a < b → Nat.blt a b = false := fun a b h => by rw [Bool.eq_false_iff]; intro e; rw [Nat.blt_eq] at e; exact h e
  unfold cat5
  rcases this with rfl | rfl | rfl | rfl | rfl <;> (simp at hd; subst hd)
  · rw [bt _ _ (by omega)]; simp
  · rw [bf _ 109 (by omega), bt _ 218 (by omega)]; simp
  · rw [bf _ 109 (by omega), bf _ 218 (by omega), bt _ 327 (by omega)]; simp
  · rw [bf _ 109 (by omega), bf _ 218 (by omega), bf _ 327 (by omega), bt _ 436 (by omega)]; simp
  · rw [bf _ 109 (by omega), bf _ 218 (by omega), bf _ 327 (by omega), bf _ 436 (by omega)]; simp
section
variable {a : Act} {w : World} {o : Oper} {K : Act → World → Prop} {Q : Exit → Act → World → Prop} {x y y0 y1 y2 y3 y4 : Operand}
theorem opr_bsS1 {d : Int × Int} (ho : o.op = .buildSlice 43 1 #[(0, x)]) (hx : a.eval x = .agg (rowA 2 (stepF d))) (h : ∀ v w', NewT w w' → (svPairs [d]).pred v w' → K (a.put o.dst v) w') : o.wp Try.prog a w K Q := by
  obtain ⟨dst, op, type, pos, after, guard⟩ := o
  simp only at ho
  subst ho
  refine opr_val (s := Instr.buildSlice 43 1 #[(0, a.eval x)]) (by simp [execOp]) (by rw [hx]; exact run_bsS1 d w) (h _ _ (NewT.alloc _ _) ?_)
  have hr := rowIs_box w 58 2 (stepF d)
  refine ⟨some ⟨w.heap.size, 0, none⟩, 1, rfl, Nat.le_refl _, by unfold maxLen; omega, fun _ => ⟨w.heap.size, 0, rfl, fun i hi => ?_⟩⟩
  obtain rfl : i = 0 := by simp at hi; exact hi
  exact ⟨hr.cell (i := 0) (by omega), hr.cell (i := 1) (by omega)⟩
theorem opr_bldB (ho : o.op = .build 46 #[(0, .const (.int .i64 1)), (11, x)]) (hx : (svPairs [(1, 1)]).pred (a.eval x) w) (h : ∀ v, RecV w v exB → K (a.put o.dst v) w) : o.wp Try.prog a w K Q := by
  have hr : RdP w (a.eval x) [(1, 1)] := hx
  have hr0 := hr
  obtain ⟨A, c, hv, _⟩ := hr
  rw [hv] at hr0
  exact opr_build (pv := #[(0, .int .i64 1), (11, a.eval x)]) ho (by simp only [List.map_toArray, List.map_cons, List.map_nil, eval_const]) (by rw [hv]; exact build_exB A _ c w) (h _ ⟨_, _, rfl, hr0, rdV_nil w []⟩)
theorem opr_bsR5 {x0 x1 x2 x3 x4 : Rc} (ho : o.op = .buildSlice 22 5 #[(0, y0), (1, y1), (2, y2), (3, y3), (4, y4)]) (h0 : RecV w (a.eval y0) x0) (h1 : RecV w (a.eval y1) x1) (h2 : RecV w (a.eval y2) x2) (h3 : RecV w (a.eval y3) x3) (h4 : RecV w (a.eval y4) x4)
    (h : ∀ v w', NewT w w' → RdR w' v [x0, x1, x2, x3, x4] → K (a.put o.dst v) w') : o.wp Try.prog a w K Q := by
  obtain ⟨dst, op, type, pos, after, guard⟩ := o
  simp only at ho
  subst ho
  obtain ⟨s0, d0, e0, p0, q0⟩ := h0
  obtain ⟨s1, d1, e1, p1, q1⟩ := h1
  obtain ⟨s2, d2, e2, p2, q2⟩ := h2
  obtain ⟨s3, d3, e3, p3, q3⟩ := h3
  obtain ⟨s4, d4, e4, p4, q4⟩ := h4
  have hN := NewT.alloc w (.cells (rowA 545 (cat5 (recF x0 s0 d0) (recF x1 s1 d1) (recF x2 s2 d2) (recF x3 s3 d3) (recF x4 s4 d4))) 46)
  refine opr_val (s := Instr.buildSlice 22 5 #[(0, a.eval y0), (1, a.eval y1), (2, a.eval y2), (3, a.eval y3), (4, a.eval y4)]) (by simp [execOp]) (by rw [e0, e1, e2, e3, e4]; exact run_bsR5 _ _ _ _ _ w) (h _ _ hN ?_)
  refine ⟨[recF x0 s0 d0, recF x1 s1 d1, recF x2 s2 d2, recF x3 s3 d3, recF x4 s4 d4], rdE_rowc (c := 5) (l := [recF x0 s0 d0, recF x1 s1 d1, recF x2 s2 d2, recF x3 s3 d3, recF x4 s4 d4]) (rowIs_box w _ 545 _) (by simp) (by unfold maxLen; omega) (cat5_at _ _ _ _ _), rfl, fun i p hp => ?_⟩
  have hi : i < 5 := (List.getElem?_eq_some_iff.1 hp).1
  have : i = 0 ∨ i = 1 ∨ i = 2 ∨ i = 3 ∨ i = 4 := by omega
  rcases this with rfl | rfl | rfl | rfl | rfl <;> (simp at hp; subst hp)
  · exact ⟨_, rfl, _, _, rfl, hN.pairs p0, hN.rd q0⟩
  · exact ⟨_, rfl, _, _, rfl, hN.pairs p1, hN.rd q1⟩
  · exact ⟨_, rfl, _, _, rfl, hN.pairs p2, hN.rd q2⟩
  · exact ⟨_, rfl, _, _, rfl, hN.pairs p3, hN.rd q3⟩
  · exact ⟨_, rfl, _, _, rfl, hN.pairs p4, hN.rd q4⟩
end
end Go.Proofs.Ytilmeffmdgcblaa
/- The laws' question whether package book answers as the document's example. -/
namespace Go.Proofs.Ytilmeffmdgcblaa
open Go Go.RowKit
set_option maxRecDepth 8000
set_option linter.all false
theorem svBkRB_le {f : Nat} {vs : Array Value} {w : World} {D : Nat} {bk k2 : Bk} {u u2 : Value} (h : Cv f vs w (svBkRB D bk u)) (hb : bk = k2) (hu : u = u2) : Cv f vs w (svBkRB 0 k2 u2) := by
  subst hb hu
  exact h.mono fun _ _ ⟨v, h1, h2, b, h3, h4⟩ => ⟨v, h1, h2, b, h3, h4.mono (Nat.zero_le _)⟩
set_option maxHeartbeats 8000000 in
theorem alive12_c (w : World) : Cv 8 #[] w (.eq (.bool true)) := by
  unfold Cv
  go_enter Try.func8, Try.ntmps8
  have HM := Lib.hid (NewT.refl w)
  have HB := Lib.hid (NewT.refl w)
  obtain ⟨x, HX⟩ := hid_ex exX
  obtain ⟨k1, HK1⟩ := hid_ex exK
  obtain ⟨l, HL⟩ := hid_ex exR
  obtain ⟨ka, HKA⟩ := hid_ex (bkOf 2 exR)
  obtain ⟨kb, HKB⟩ := hid_ex (bkOf 2 (exR.drop 1))
  have HX0 : Hid (x.steps = [] ∧ x.data = []) := Lib.hid (by rw [← HX.out]; exact ⟨rfl, rfl⟩)
  have HW1 : Hid (wentK 2 zK x = k1) := Lib.hid (by rw [← HX.out, ← HK1.out]; rfl)
  have HG1 : Hid (goesK 2 zK x = true) := Lib.hid (by rw [← HX.out]; exact ex_goes.1)
  have HG2 : Hid (goesK 2 k1 x = false) := Lib.hid (by rw [← HX.out, ← HK1.out]; exact ex_goes.2)
  have HO1 : Hid (OkK k1) := Lib.hid (by rw [← HK1.out]; exact ex_ok.2)
  have HNA : Hid (nOf 2 zK l = 5 ∧ nOf 2 zK (l.drop 1) = 2) := Lib.hid (by rw [← HL.out]; exact ex_n)
  have HOA : Hid (bkOf 2 l = ka ∧ bkOf 2 (l.drop 1) = kb) := Lib.hid (by rw [← HL.out]; exact ⟨HKA.out, HKB.out⟩)
  have HLE : Hid (ka.sg.length = 1 ∧ k1.sg.length = 0 ∧ l.length = 5) := Lib.hid (by rw [← HL.out, ← HKA.out, ← HK1.out]; exact ex_len)
  have HRP : Hid (repL ka.sg = [(2, 0)]) := Lib.hid (by rw [← HKA.out]; exact ex_rep)
  have HSM : Hid (sameK ka ka = true ∧ sameK k1 ka = false) := Lib.hid ⟨sameK_self ka, by rw [← HK1.out, ← HKA.out]; exact ex_same⟩
  have HON : Hid ((onlyL l 0).length = 4) := Lib.hid (by rw [← HL.out]; exact ex_only)
  have HLG : Hid (∀ y ∈ l, y.steps.length ≤ 30 ∧ y.data.length ≤ 300) := Lib.hid (by rw [← HL.out]; intro y hy; simp [exR] at hy; rcases hy with rfl | rfl | rfl | rfl | rfl <;> simp [exX, exB, exI, exA, exC, zR])
  have HL5 : Hid ([x, exB, exI, exA, exC] = l) := Lib.hid (by rw [← HX.out]; exact HL.out)
  go_upto_region 1 with fail
  refine wp_region_steps0 NewT [SV.eq ((.agg (rowA 109 (recF x (.slice none 0 0) (.slice none 0 0)))))] [([], none)] 97 1 rfl rfl (by kernel_rfl) NewT.trans (NewT.refl _) (Nat.le_of_ble_eq_true rfl) ⟨?_, trivial⟩ ?_
  · intro a wx hT hF K hK
    refine rely_wp rfl ?_
    exact opr_build (pv := #[(0, .int .i64 6), (8, .int .i64 1), (9, .int .i64 1)]) rfl (by simp only [List.map_toArray, List.map_cons, List.map_nil, eval_const]) (HX.out ▸ build_exX wx) (hK _ _ (NewT.refl _) rfl)
  · intro w1 k1
    intro u h; obtain rfl := Eq.symm (h (by simp)); clear h
    refine relyEnd_nil rfl ?_
    simp only [Act.put, List.setIfInBounds_toArray, List.set_cons_zero, List.set_cons_succ]
    refine wpList_new (n := 109) (f := recF x (.slice none 0 0) (.slice none 0 0)) rfl rfl rfl rfl rfl rfl (by first | (simp; done) | simp [Act.put]) run_alloc_rec info_rec (recF_one _ _ _ rfl rfl) rfl ?_
    intro W1 hn1 rr1
    refine wpList_end rfl ?_
    simp only [Act.put, List.setIfInBounds_toArray, List.set_cons_zero, List.set_cons_succ]
    go_simp
    obtain ⟨g1, h_g1⟩ : ∃ g_, w1.heap.size = g_ := ⟨_, rfl⟩
    rw [h_g1] at rr1
    simp only [h_g1]
    have HGg1 : Hid (w.heap.size ≤ g1) := Lib.hid (by rw [← h_g1]; exact (NewT.trans _ _ _ HM.out k1).out.size)
    have q1 := NewT.trans _ _ _ k1 hn1
    clear k1 hn1 h_g1
    replace HM := Lib.hid (NewT.trans _ _ _ HM.out q1)
    clear q1
    have Rg1 := Lib.hid rr1
    clear rr1
    go_upto_region 2 with fail
    refine wp_region_steps0 NewT [SV.eq ((.agg (rowA 5 (bkF zK.ep (.slice none 0 0))))), SV.eq (.agg (rowA 109 (recF x (.slice none 0 0) (.slice none 0 0)))), svBkRB 0 k1 (.bool true), svBkRB 0 k1 (.bool true), svBkB (0) k1, SV.eq (.bool true)] [([], none), ([(1, none)], none), ([(14, some 0), (15, some 1)], none), ([(16, some 2)], none), ([(13, some 3)], none), ([(13, some 3)], none)] 97 6 rfl rfl (by kernel_rfl) NewT.trans (NewT.refl _) (Nat.le_of_ble_eq_true rfl) ⟨?_, ?_, ?_, ?_, ?_, ?_, trivial⟩ ?_
    · exact fun a wx hT hF K hK => rely_wp rfl (opr_build (pv := #[]) rfl (by simp) (build_book0 wx) (hK _ _ (NewT.refl _) rfl))
    · exact fun a wx hT hF K hK => rely_wp rfl (opr_ldR (hT.row Rg1.out) rfl hF.1 (hK _ _ (NewT.refl _) rfl))
    · exact fun a wx hT hF K hK => rely_wp rfl (opr_cv (svBkRB_le (bGo_cv 0 _ _ zK x 2 wx (⟨(.slice none 0 0), rfl, rdUB_nil wx 0⟩) ((recV_nilB HX0.out.1 HX0.out.2)) ex_ok.1 (Nat.zero_le _)) HW1.out (congrArg Value.bool HG1.out)) rfl Try.func24 (by kernel_rfl) (by kernel_rfl) (evs3 hF.1 hF.2.1 rfl) hK)
    · exact fun a wx hT hF K hK => rely_wp rfl (opr_move (.inl rfl) (hK _ _ (NewT.refl _) hF.1))
    · exact fun a wx hT hF K hK => rely_wp rfl (opr_extKB0 rfl hF.1 (fun u hu => hK u _ (NewT.refl _) hu))
    · exact fun a wx hT hF K hK => rely_wp rfl (opr_extKB1 rfl hF.1 (hK _ _ (NewT.refl _) rfl))
    · intro w2 k2
      iterate 2 (intro u h; obtain rfl := Eq.symm (h (by simp)); clear h)
      iterate 2 (intro _ _)
      intro u17 h; have g17 := h (by simp); clear h; replace g17 := show (svBkB (0) k1).pred u17 w2 from g17
      intro u h; obtain rfl := Eq.symm (h (by simp)); clear h
      refine relyEnd_nil rfl ?_
      simp only [Act.put, List.setIfInBounds_toArray, List.set_cons_zero, List.set_cons_succ]
      obtain ⟨s2, rfl, hs2⟩ := (show BkVB w2 (0) u17 k1 from g17)
      refine wpList_new (n := 5) (f := bkF k1.ep s2) rfl rfl rfl rfl rfl rfl (by first | (simp; done) | simp [Act.put]) run_alloc_book info_book (bkF_one _ _ hs2.rd.one) rfl ?_
      intro W2 hn2 rr2
      simp only [Act.put, List.setIfInBounds_toArray, List.set_cons_zero, List.set_cons_succ]
      refine wpList_plain rfl (fun K hK => ?_)
      refine opr_move (.inr rfl) (hK _ _ ?_)
      clear hK K
      refine wpList_end rfl ?_
      simp only [Act.put, List.setIfInBounds_toArray, List.set_cons_zero, List.set_cons_succ]
      go_simp
      obtain ⟨g2, h_g2⟩ : ∃ g_, w2.heap.size = g_ := ⟨_, rfl⟩
      rw [h_g2] at rr2
      simp only [h_g2]
      have HGg2 : Hid (g1 < g2 ∧ w.heap.size ≤ g2) := Lib.hid (by rw [← h_g2]; exact ⟨(k2.row Rg1.out).lt, (NewT.trans _ _ _ HM.out k2).out.size⟩)
      have q2 := NewT.trans _ _ _ k2 hn2
      have HS2 := Lib.hid (hs2.new hn2)
      clear hs2
      clear k2 hn2 h_g2
      replace Rg1 := Lib.hid (q2.row Rg1.out)
      replace HM := Lib.hid (NewT.trans _ _ _ HM.out q2)
      clear q2
      have Rg2 := Lib.hid rr2
      clear rr2
      replace HB := Lib.hid (NewT.trans _ _ _ HB.out HM.out)
      replace HM := Lib.hid (NewT.refl W2)
      go_upto_region 3 with fail
      refine wp_region_steps0 NewT [SV.eq (.agg (rowA 5 (bkF k1.ep s2))), SV.eq (.agg (rowA 109 (recF x (.slice none 0 0) (.slice none 0 0)))), svBkRB 0 (wentK 2 k1 x) (.bool false), svBkRB 0 (wentK 2 k1 x) (.bool false), svBkB (0) ((wentK 2 k1 x)), SV.eq (.bool false)] [([(2, none)], none), ([(1, none)], none), ([(20, some 0), (21, some 1)], none), ([(22, some 2)], none), ([(19, some 3)], none), ([(19, some 3)], none)] 97 6 rfl rfl (by kernel_rfl) NewT.trans (NewT.refl _) (Nat.le_of_ble_eq_true rfl) ⟨?_, ?_, ?_, ?_, ?_, ?_, trivial⟩ ?_
      · exact fun a wx hT hF K hK => rely_wp rfl (opr_ldK (hT.row Rg2.out) rfl hF.1 (hK _ _ (NewT.refl _) rfl))
      · exact fun a wx hT hF K hK => rely_wp rfl (opr_ldR (hT.row Rg1.out) rfl hF.1 (hK _ _ (NewT.refl _) rfl))
      · exact fun a wx hT hF K hK => rely_wp rfl (opr_cv (svBkRB_le (bGo_cv 0 _ _ k1 x 2 wx (⟨s2, rfl, HS2.out.new (NewT.trans _ _ _ HM.out hT)⟩) ((recV_nilB HX0.out.1 HX0.out.2)) HO1.out (Nat.zero_le _)) rfl (congrArg Value.bool HG2.out)) rfl Try.func24 (by kernel_rfl) (by kernel_rfl) (evs3 hF.1 hF.2.1 rfl) hK)
      · exact fun a wx hT hF K hK => rely_wp rfl (opr_move (.inl rfl) (hK _ _ (NewT.refl _) hF.1))
      · exact fun a wx hT hF K hK => rely_wp rfl (opr_extKB0 rfl hF.1 (fun u hu => hK u _ (NewT.refl _) hu))
      · exact fun a wx hT hF K hK => rely_wp rfl (opr_extKB1 rfl hF.1 (hK _ _ (NewT.refl _) rfl))
      · intro w3 k3
        iterate 2 (intro u h; obtain rfl := Eq.symm (h (by simp)); clear h)
        iterate 2 (intro _ _)
        intro u23 h; have g23 := h (by simp); clear h; replace g23 := show (svBkB (0) ((wentK 2 k1 x))).pred u23 w3 from g23
        intro u h; obtain rfl := Eq.symm (h (by simp)); clear h
        refine relyEnd_nil rfl ?_
        simp only [Act.put, List.setIfInBounds_toArray, List.set_cons_zero, List.set_cons_succ]
        obtain ⟨s4, rfl, hs4⟩ := (show BkVB w3 (0) u23 ((wentK 2 k1 x)) from g23)
        refine wpList_new (n := 5) (f := bkF ((wentK 2 k1 x)).ep s4) rfl rfl rfl rfl rfl rfl (by first | (simp; done) | simp [Act.put]) run_alloc_book info_book (bkF_one _ _ hs4.rd.one) rfl ?_
        intro W3 hn3 rr3
        simp only [Act.put, List.setIfInBounds_toArray, List.set_cons_zero, List.set_cons_succ]
        refine wpList_plain rfl (fun K hK => ?_)
        refine opr_move (.inr rfl) (hK _ _ ?_)
        clear hK K
        refine wpList_end rfl ?_
        simp only [Act.put, List.setIfInBounds_toArray, List.set_cons_zero, List.set_cons_succ]
        go_simp
        obtain ⟨g4, h_g4⟩ : ∃ g_, w3.heap.size = g_ := ⟨_, rfl⟩
        rw [h_g4] at rr3
        simp only [h_g4]
        have HGg4 : Hid (g1 < g4 ∧ g2 < g4 ∧ W2.heap.size ≤ g4) := Lib.hid (by rw [← h_g4]; exact ⟨(k3.row Rg1.out).lt, (k3.row Rg2.out).lt, (NewT.trans _ _ _ HM.out k3).out.size⟩)
        have q3 := NewT.trans _ _ _ k3 hn3
        have HS4 := Lib.hid (hs4.new hn3)
        clear hs4
        clear k3 hn3 h_g4
        replace Rg1 := Lib.hid (q3.row Rg1.out)
        replace Rg2 := Lib.hid (q3.row Rg2.out)
        replace HM := Lib.hid (NewT.trans _ _ _ HM.out q3)
        clear q3
        have Rg4 := Lib.hid rr3
        clear rr3
        replace HS2 := Lib.hid (HS2.out.new HM.out)
        replace HB := Lib.hid (NewT.trans _ _ _ HB.out HM.out)
        replace HM := Lib.hid (NewT.refl W3)
        go_upto_region 4 with fail
        refine wp_region_steps0 NewT [SV.eq (.agg (rowA 109 (recF x (.slice none 0 0) (.slice none 0 0)))), SV.eq ((.agg (rowA 2 (stepF (1, 1))))), svPairs [(1, 1)], svRec exB, SV.eq ((.agg (rowA 109 (recF exI (.slice none 0 0) (.slice none 0 0))))), SV.eq ((.agg (rowA 109 (recF exA (.slice none 0 0) (.slice none 0 0))))), SV.eq ((.agg (rowA 109 (recF exC (.slice none 0 0) (.slice none 0 0))))), svL 109 rcE l] [([(1, none)], none), ([], none), ([(26, some 1)], none), ([(27, some 2)], none), ([], none), ([], none), ([], none), ([(25, some 0), (28, some 3), (29, some 4), (30, some 5), (31, some 6)], none)] 97 8 rfl rfl (by kernel_rfl) NewT.trans (NewT.refl _) (Nat.le_of_ble_eq_true rfl) ⟨?_, ?_, ?_, ?_, ?_, ?_, ?_, ?_, trivial⟩ ?_
        · exact fun a wx hT hF K hK => rely_wp rfl (opr_ldR (hT.row Rg1.out) rfl hF.1 (hK _ _ (NewT.refl _) rfl))
        · intro a wx hT hF K hK
          refine rely_wp rfl ?_
          exact opr_build (pv := #[(0, .int .i64 1), (1, .int .i64 1)]) rfl (by simp only [List.map_toArray, List.map_cons, List.map_nil, eval_const]) (build_stp wx) (hK _ _ (NewT.refl _) rfl)
        · exact fun a wx hT hF K hK => rely_wp rfl (opr_bsS1 rfl hF.1 (fun v w' hN hv => hK v w' hN hv))
        · exact fun a wx hT hF K hK => rely_wp rfl (opr_bldB rfl hF.1 (fun v hv => hK v _ (NewT.refl _) hv))
        · intro a wx hT hF K hK
          refine rely_wp rfl ?_
          exact opr_build (pv := #[(0, .int .i64 2), (2, .int .i64 1), (4, .int .i64 1)]) rfl (by simp only [List.map_toArray, List.map_cons, List.map_nil, eval_const]) (build_exI wx) (hK _ _ (NewT.refl _) rfl)
        · intro a wx hT hF K hK
          refine rely_wp rfl ?_
          exact opr_build (pv := #[(0, .int .i64 3), (2, .int .i64 2), (4, .int .i64 1), (6, .bool true), (8, .int .i64 1), (9, .int .i64 1)]) rfl (by simp only [List.map_toArray, List.map_cons, List.map_nil, eval_const]) (build_exA wx) (hK _ _ (NewT.refl _) rfl)
        · intro a wx hT hF K hK
          refine rely_wp rfl ?_
          exact opr_build (pv := #[(0, .int .i64 5), (2, .int .i64 3), (7, .int .i64 2)]) rfl (by simp only [List.map_toArray, List.map_cons, List.map_nil, eval_const]) (build_exC wx) (hK _ _ (NewT.refl _) rfl)
        · intro a wx hT hF K hK
          obtain ⟨f25, f28, f29, f30, f31, _⟩ := hF
          have f25 : a.tmps.getD 25 undef = .agg (rowA 109 (recF x (.slice none 0 0) (.slice none 0 0))) := f25
          replace f28 := show (svRec exB).pred (a.tmps.getD 28 undef) wx from f28
          have f29 : a.tmps.getD 29 undef = (.agg (rowA 109 (recF exI (.slice none 0 0) (.slice none 0 0)))) := f29
          have f30 : a.tmps.getD 30 undef = (.agg (rowA 109 (recF exA (.slice none 0 0) (.slice none 0 0)))) := f30
          have f31 : a.tmps.getD 31 undef = (.agg (rowA 109 (recF exC (.slice none 0 0) (.slice none 0 0)))) := f31
          refine rely_wp rfl ?_
          exact opr_bsR5 rfl (by rw [eval_tmp, f25]; exact recV_nilB HX0.out.1 HX0.out.2) f28 (by rw [eval_tmp, f29]; exact recV_nilB rfl rfl) (by rw [eval_tmp, f30]; exact recV_nilB rfl rfl) (by rw [eval_tmp, f31]; exact recV_nilB rfl rfl) (fun v w' hN hv => hK v w' hN (show RdR w' v l from (HL5.out ▸ hv)))
        · intro w4 k4
          iterate 2 (intro u h; obtain rfl := Eq.symm (h (by simp)); clear h)
          iterate 2 (intro _ _)
          iterate 3 (intro u h; obtain rfl := Eq.symm (h (by simp)); clear h)
          intro u32 h; have g32 := h (by simp); clear h; replace g32 := show (svL 109 rcE l).pred u32 w4 from g32
          refine relyEnd_nil rfl ?_
          simp only [Act.put, List.setIfInBounds_toArray, List.set_cons_zero, List.set_cons_succ]
          refine wpList_plain rfl (fun K hK => ?_)
          refine opr_move (.inr rfl) (hK _ _ ?_)
          clear hK K
          refine wpList_end rfl ?_
          simp only [Act.put, List.setIfInBounds_toArray, List.set_cons_zero, List.set_cons_succ]
          go_simp
          replace Rg1 := Lib.hid (k4.row Rg1.out)
          replace Rg2 := Lib.hid (k4.row Rg2.out)
          replace Rg4 := Lib.hid (k4.row Rg4.out)
          replace HM := Lib.hid (NewT.trans _ _ _ HM.out k4)
          clear k4
          have HLV : Hid (RdR w4 u32 l) := Lib.hid g32
          replace HS2 := Lib.hid (HS2.out.new HM.out)
          replace HS4 := Lib.hid (HS4.out.new HM.out)
          replace HB := Lib.hid (NewT.trans _ _ _ HB.out HM.out)
          replace HM := Lib.hid (NewT.refl w4)
          go_upto_region 5 with fail
          refine wp_region_steps0 NewT [SV.eq (u32), svBkRB 0 ka (.int .i64 5), svBkRB 0 ka (.int .i64 5), svBkB (0) ka, SV.eq (.int .i64 (5))] [([(6, none)], none), ([(34, some 0)], none), ([(35, some 1)], none), ([(33, some 2)], none), ([(33, some 2)], none)] 97 5 rfl rfl (by kernel_rfl) NewT.trans (NewT.refl _) (Nat.le_of_ble_eq_true rfl) ⟨?_, ?_, ?_, ?_, ?_, trivial⟩ ?_
          · exact fun a wx hT hF K hK => rely_wp rfl (opr_move (.inl rfl) (hK _ _ (NewT.refl _) hF.1))
          · exact fun a wx hT hF K hK => rely_wp rfl (opr_cv (svBkRB_le (Of_cv _ l 2 wx ((HLV.out.new (NewT.trans _ _ _ HM.out hT))) (by have := HLE.out; omega)) HOA.out.1 (congrArg (fun n : Nat => Value.int .i64 (n : Int)) HNA.out.1)) rfl Try.func10 (by kernel_rfl) (by kernel_rfl) (evs2 hF.1 rfl) hK)
          · exact fun a wx hT hF K hK => rely_wp rfl (opr_move (.inl rfl) (hK _ _ (NewT.refl _) hF.1))
          · exact fun a wx hT hF K hK => rely_wp rfl (opr_extKB0 rfl hF.1 (fun u hu => hK u _ (NewT.refl _) hu))
          · exact fun a wx hT hF K hK => rely_wp rfl (opr_extKB1 rfl hF.1 (hK _ _ (NewT.refl _) rfl))
          · intro w5 k5
            intro u h; obtain rfl := Eq.symm (h (by simp)); clear h
            iterate 2 (intro _ _)
            intro u36 h; have g36 := h (by simp); clear h; replace g36 := show (svBkB (0) ka).pred u36 w5 from g36
            intro u h; obtain rfl := Eq.symm (h (by simp)); clear h
            refine relyEnd_nil rfl ?_
            simp only [Act.put, List.setIfInBounds_toArray, List.set_cons_zero, List.set_cons_succ]
            obtain ⟨s7, rfl, hs7⟩ := (show BkVB w5 (0) u36 ka from g36)
            refine wpList_new (n := 5) (f := bkF ka.ep s7) rfl rfl rfl rfl rfl rfl (by first | (simp; done) | simp [Act.put]) run_alloc_book info_book (bkF_one _ _ hs7.rd.one) rfl ?_
            intro W5 hn5 rr5
            simp only [Act.put, List.setIfInBounds_toArray, List.set_cons_zero, List.set_cons_succ]
            refine wpList_plain rfl (fun K hK => ?_)
            refine opr_move (.inr rfl) (hK _ _ ?_)
            clear hK K
            refine wpList_end rfl ?_
            simp only [Act.put, List.setIfInBounds_toArray, List.set_cons_zero, List.set_cons_succ]
            go_simp
            obtain ⟨g7, h_g7⟩ : ∃ g_, w5.heap.size = g_ := ⟨_, rfl⟩
            rw [h_g7] at rr5
            simp only [h_g7]
            have HGg7 : Hid (g1 < g7 ∧ g2 < g7 ∧ g4 < g7 ∧ w4.heap.size ≤ g7) := Lib.hid (by rw [← h_g7]; exact ⟨(k5.row Rg1.out).lt, (k5.row Rg2.out).lt, (k5.row Rg4.out).lt, (NewT.trans _ _ _ HM.out k5).out.size⟩)
            have q5 := NewT.trans _ _ _ k5 hn5
            have HS7 := Lib.hid (hs7.new hn5)
            clear hs7
            clear k5 hn5 h_g7
            replace Rg1 := Lib.hid (q5.row Rg1.out)
            replace Rg2 := Lib.hid (q5.row Rg2.out)
            replace Rg4 := Lib.hid (q5.row Rg4.out)
            replace HM := Lib.hid (NewT.trans _ _ _ HM.out q5)
            clear q5
            have Rg7 := Lib.hid rr5
            clear rr5
            replace HS2 := Lib.hid (HS2.out.new HM.out)
            replace HS4 := Lib.hid (HS4.out.new HM.out)
            replace HLV := Lib.hid (HLV.out.new HM.out)
            replace HB := Lib.hid (NewT.trans _ _ _ HB.out HM.out)
            replace HM := Lib.hid (NewT.refl W5)
            go_upto_region 6 with fail
            refine wp_region_steps0 NewT [SV.eq (.agg (rowA 5 (bkF ka.ep s7))), svL 2 lnE (repL ka.sg), svL 2 lnE (repL ka.sg)] [([(7, none)], none), ([(38, some 0)], none), ([(39, some 1)], none)] 97 3 rfl rfl (by kernel_rfl) NewT.trans (NewT.refl _) (Nat.le_of_ble_eq_true rfl) ⟨?_, ?_, ?_, trivial⟩ ?_
            · exact fun a wx hT hF K hK => rely_wp rfl (opr_ldK (hT.row Rg7.out) rfl hF.1 (hK _ _ (NewT.refl _) rfl))
            · exact fun a wx hT hF K hK => rely_wp rfl (opr_cv (Report_cv _ ka wx ((show BkVB wx _ _ ka from ⟨s7, rfl, HS7.out.new (NewT.trans _ _ _ HM.out hT)⟩).rd) ((by have := HLE.out; omega))) rfl Try.func11 (by kernel_rfl) (by kernel_rfl) (evs1 hF.1) hK)
            · exact fun a wx hT hF K hK => rely_wp rfl (opr_move (.inr rfl) (hK _ _ (NewT.refl _) hF.1))
            · intro w6 k6
              intro u h; obtain rfl := Eq.symm (h (by simp)); clear h
              intro _ _
              intro u9 h; have g9 := h (by simp); clear h; replace g9 := show (svL 2 lnE (repL ka.sg)).pred u9 w6 from g9
              refine relyEnd_nil rfl ?_
              refine wpList_end rfl ?_
              simp only [Act.put, List.setIfInBounds_toArray, List.set_cons_zero, List.set_cons_succ]
              go_simp
              replace Rg1 := Lib.hid (k6.row Rg1.out)
              replace Rg2 := Lib.hid (k6.row Rg2.out)
              replace Rg4 := Lib.hid (k6.row Rg4.out)
              replace Rg7 := Lib.hid (k6.row Rg7.out)
              replace HM := Lib.hid (NewT.trans _ _ _ HM.out k6)
              clear k6
              have HRV : Hid (RdN w6 u9 (repL ka.sg)) := Lib.hid g9
              replace HS2 := Lib.hid (HS2.out.new HM.out)
              replace HS4 := Lib.hid (HS4.out.new HM.out)
              replace HLV := Lib.hid (HLV.out.new HM.out)
              replace HS7 := Lib.hid (HS7.out.new HM.out)
              replace HB := Lib.hid (NewT.trans _ _ _ HB.out HM.out)
              replace HM := Lib.hid (NewT.refl w6)
              go_upto_region 7 with fail
              refine wp_region_steps0 NewT [SV.eq (u32), svL 109 rcE (List.drop 1 l), svBkRB 0 kb (.int .i64 2), svBkRB 0 kb (.int .i64 2), svBkB (0) kb, SV.eq (.int .i64 (2))] [([(6, none)], none), ([(41, some 0)], none), ([(42, some 1)], none), ([(43, some 2)], none), ([(40, some 3)], none), ([(40, some 3)], none)] 97 6 rfl rfl (by kernel_rfl) NewT.trans (NewT.refl _) (Nat.le_of_ble_eq_true rfl) ⟨?_, ?_, ?_, ?_, ?_, ?_, trivial⟩ ?_
              · exact fun a wx hT hF K hK => rely_wp rfl (opr_move (.inl rfl) (hK _ _ (NewT.refl _) hF.1))
              · intro a wx hT hF K hK
                obtain ⟨f41, _⟩ := hF
                have f41 : a.tmps.getD 41 undef = u32 := f41
                refine rely_wp rfl ?_
                exact opr_fromL (k := 1) recEl (by have := HLE.out; omega) (rfl) rfl (by rw [eval_tmp, f41]; exact (HLV.out.new (NewT.trans _ _ _ HM.out hT))) rfl (fun v hv => hK v _ (NewT.refl _) hv)
              · exact fun a wx hT hF K hK => rely_wp rfl (opr_cv (svBkRB_le (Of_cv _ (l.drop 1) 2 wx (hF.1) (by have := HLE.out; rw [List.length_drop]; omega)) HOA.out.2 (congrArg (fun n : Nat => Value.int .i64 (n : Int)) HNA.out.2)) rfl Try.func10 (by kernel_rfl) (by kernel_rfl) (evs2 rfl rfl) hK)
              · exact fun a wx hT hF K hK => rely_wp rfl (opr_move (.inl rfl) (hK _ _ (NewT.refl _) hF.1))
              · exact fun a wx hT hF K hK => rely_wp rfl (opr_extKB0 rfl hF.1 (fun u hu => hK u _ (NewT.refl _) hu))
              · exact fun a wx hT hF K hK => rely_wp rfl (opr_extKB1 rfl hF.1 (hK _ _ (NewT.refl _) rfl))
              · intro w7 k7
                intro u h; obtain rfl := Eq.symm (h (by simp)); clear h
                iterate 3 (intro _ _)
                intro u44 h; have g44 := h (by simp); clear h; replace g44 := show (svBkB (0) kb).pred u44 w7 from g44
                intro u h; obtain rfl := Eq.symm (h (by simp)); clear h
                refine relyEnd_nil rfl ?_
                simp only [Act.put, List.setIfInBounds_toArray, List.set_cons_zero, List.set_cons_succ]
                obtain ⟨s10, rfl, hs10⟩ := (show BkVB w7 (0) u44 kb from g44)
                refine wpList_new (n := 5) (f := bkF kb.ep s10) rfl rfl rfl rfl rfl rfl (by first | (simp; done) | simp [Act.put]) run_alloc_book info_book (bkF_one _ _ hs10.rd.one) rfl ?_
                intro W7 hn7 rr7
                simp only [Act.put, List.setIfInBounds_toArray, List.set_cons_zero, List.set_cons_succ]
                refine wpList_plain rfl (fun K hK => ?_)
                refine opr_move (.inr rfl) (hK _ _ ?_)
                clear hK K
                refine wpList_end rfl ?_
                simp only [Act.put, List.setIfInBounds_toArray, List.set_cons_zero, List.set_cons_succ]
                go_simp
                obtain ⟨g10, h_g10⟩ : ∃ g_, w7.heap.size = g_ := ⟨_, rfl⟩
                rw [h_g10] at rr7
                simp only [h_g10]
                have HGg10 : Hid (g1 < g10 ∧ g2 < g10 ∧ g4 < g10 ∧ g7 < g10 ∧ w6.heap.size ≤ g10) := Lib.hid (by rw [← h_g10]; exact ⟨(k7.row Rg1.out).lt, (k7.row Rg2.out).lt, (k7.row Rg4.out).lt, (k7.row Rg7.out).lt, (NewT.trans _ _ _ HM.out k7).out.size⟩)
                have q7 := NewT.trans _ _ _ k7 hn7
                have HS10 := Lib.hid (hs10.new hn7)
                clear hs10
                clear k7 hn7 h_g10
                replace Rg1 := Lib.hid (q7.row Rg1.out)
                replace Rg2 := Lib.hid (q7.row Rg2.out)
                replace Rg4 := Lib.hid (q7.row Rg4.out)
                replace Rg7 := Lib.hid (q7.row Rg7.out)
                replace HM := Lib.hid (NewT.trans _ _ _ HM.out q7)
                clear q7
                have Rg10 := Lib.hid rr7
                clear rr7
                replace HS2 := Lib.hid (HS2.out.new HM.out)
                replace HS4 := Lib.hid (HS4.out.new HM.out)
                replace HLV := Lib.hid (HLV.out.new HM.out)
                replace HS7 := Lib.hid (HS7.out.new HM.out)
                replace HRV := Lib.hid (HRV.out.new HM.out)
                replace HB := Lib.hid (NewT.trans _ _ _ HB.out HM.out)
                replace HM := Lib.hid (NewT.refl W7)
                go_upto_region 8 with fail
                refine wp_region_steps0 NewT [SV.eq (.bool true), SV.eq (.bool true), SV.eq (.bool false), SV.eq (.bool true), SV.eq (.bool true), SV.eq (.bool true), SV.eq (.int .i64 (5)), SV.eq (.bool true), SV.eq (.bool true), SV.eq (.bool true), SV.eq (.int .i64 (2)), SV.eq (.bool true), SV.eq (.bool true), SV.eq (.bool true), SV.eq (u9), SV.eq (.int .i64 ((List.length (repL ka.sg) : Int))), SV.eq (.bool true), SV.eq (.bool true), SV.eq (.bool true), SV.eq (u9), svEl 2 lnE (((2 : Int), (0 : Int))), svIp ((((2 : Int), (0 : Int))).1), SV.eq (.int .i64 ((((2 : Int), (0 : Int))).1)), SV.eq (.bool true), SV.eq (.bool true), SV.eq (.bool true), SV.eq (u9), SV.eq (.bool true), SV.eq (.bool true), SV.eq (.bool true), SV.eq (.agg (rowA 5 (bkF ka.ep s7))), SV.eq (.agg (rowA 5 (bkF ka.ep s7))), SV.eq (.bool true), SV.eq (.bool true), SV.eq (.bool true), SV.eq (.agg (rowA 5 (bkF k1.ep s2))), SV.eq (.agg (rowA 5 (bkF ka.ep s7))), SV.eq (.bool false), SV.eq (.bool true), SV.eq (.bool true), SV.eq (.bool true), SV.eq (u9), SV.eq (u9), SV.eq (.bool true), SV.eq (.bool true), SV.eq (.bool true), SV.eq (u32), svL 109 rcE (onlyL l 0), SV.eq (.int .i64 ((List.length (onlyL l 0) : Int))), SV.eq (.bool true), SV.eq (.bool true)] [([(3, none)], none), ([(46, some 0)], none), ([(5, none), (47, some 1)], some (47, true)), ([(48, some 2), (47, some 1)], some (47, true)), ([(47, some 1), (49, some 3)], none), ([(50, some 4)], none), ([(8, none), (51, some 5)], some (51, true)), ([(52, some 6), (51, some 5)], some (51, true)), ([(51, some 5), (53, some 7)], none), ([(54, some 8)], none), ([(11, none), (55, some 9)], some (55, true)), ([(56, some 10), (55, some 9)], some (55, true)), ([(55, some 9), (57, some 11)], none), ([(58, some 12)], none), ([(9, none), (59, some 13)], some (59, true)), ([(60, some 14), (59, some 13)], some (59, true)), ([(61, some 15), (59, some 13)], some (59, true)), ([(59, some 13), (62, some 16)], none), ([(63, some 17)], none), ([(9, none), (64, some 18)], some (64, true)), ([(65, some 19), (64, some 18)], some (64, true)), ([(66, some 20), (64, some 18)], some (64, true)), ([(67, some 21), (64, some 18)], some (64, true)), ([(68, some 22), (64, some 18)], some (64, true)), ([(64, some 18), (69, some 23)], none), ([(70, some 24)], none), ([(9, none), (71, some 25)], some (71, true)), ([(72, some 26), (71, some 25)], some (71, true)), ([(71, some 25), (73, some 27)], none), ([(74, some 28)], none), ([(7, none), (75, some 29)], some (75, true)), ([(7, none), (75, some 29)], some (75, true)), ([(76, some 30), (77, some 31), (75, some 29)], some (75, true)), ([(75, some 29), (78, some 32)], none), ([(79, some 33)], none), ([(2, none), (80, some 34)], some (80, true)), ([(7, none), (80, some 34)], some (80, true)), ([(81, some 35), (82, some 36), (80, some 34)], some (80, true)), ([(83, some 37), (80, some 34)], some (80, true)), ([(80, some 34), (84, some 38)], none), ([(85, some 39)], none), ([(9, none), (86, some 40)], some (86, true)), ([(9, none), (86, some 40)], some (86, true)), ([(87, some 41), (88, some 42), (86, some 40)], some (86, true)), ([(86, some 40), (89, some 43)], none), ([(90, some 44)], none), ([(6, none), (91, some 45)], some (91, true)), ([(92, some 46), (91, some 45)], some (91, true)), ([(93, some 47), (91, some 45)], some (91, true)), ([(94, some 48), (91, some 45)], some (91, true)), ([(91, some 45), (95, some 49)], none)] 97 51 rfl rfl (by kernel_rfl) NewT.trans (NewT.refl _) (Nat.le_of_ble_eq_true rfl) ⟨?_, ?_, ?_, ?_, ?_, ?_, ?_, ?_, ?_, ?_, ?_, ?_, ?_, ?_, ?_, ?_, ?_, ?_, ?_, ?_, ?_, ?_, ?_, ?_, ?_, ?_, ?_, ?_, ?_, ?_, ?_, ?_, ?_, ?_, ?_, ?_, ?_, ?_, ?_, ?_, ?_, ?_, ?_, ?_, ?_, ?_, ?_, ?_, ?_, ?_, ?_, trivial⟩ ?_
                · exact fun a wx hT hF K hK => rely_wp rfl (opr_move (.inl rfl) (hK _ _ (NewT.refl _) hF.1))
                · exact fun a wx hT hF K hK => rely_wp rfl (opr_move (.inl rfl) (hK _ _ (NewT.refl _) hF.1))
                · exact fun a wx hT hF K hK => rely_wp (rely_guard hF.2.1) (opr_move (.inl rfl) (hK _ _ (NewT.refl _) hF.1))
                · exact fun a wx hT hF K hK => rely_wp (rely_guard hF.2.1) (opr_not rfl hF.1 (hK _ _ (NewT.refl _) rfl))
                · exact fun a wx hT hF K hK => rely_wp rfl (opr_pick_true rfl hF.1 (hK _ _ (NewT.refl _) hF.2.1))
                · exact fun a wx hT hF K hK => rely_wp rfl (opr_move (.inl rfl) (hK _ _ (NewT.refl _) hF.1))
                · exact fun a wx hT hF K hK => rely_wp (rely_guard hF.2.1) (opr_move (.inl rfl) (hK _ _ (NewT.refl _) hF.1))
                · exact fun a wx hT hF K hK => rely_wp (rely_guard hF.2.1) (opr_cmp (b := true) (.inl ⟨rfl, (by decide)⟩) Try.underlying3 rfl hF.1 rfl (hK _ _ (NewT.refl _) rfl))
                · exact fun a wx hT hF K hK => rely_wp rfl (opr_pick_true rfl hF.1 (hK _ _ (NewT.refl _) hF.2.1))
                · exact fun a wx hT hF K hK => rely_wp rfl (opr_move (.inl rfl) (hK _ _ (NewT.refl _) hF.1))
                · exact fun a wx hT hF K hK => rely_wp (rely_guard hF.2.1) (opr_move (.inl rfl) (hK _ _ (NewT.refl _) hF.1))
                · exact fun a wx hT hF K hK => rely_wp (rely_guard hF.2.1) (opr_cmp (b := true) (.inl ⟨rfl, (by decide)⟩) Try.underlying3 rfl hF.1 rfl (hK _ _ (NewT.refl _) rfl))
                · exact fun a wx hT hF K hK => rely_wp rfl (opr_pick_true rfl hF.1 (hK _ _ (NewT.refl _) hF.2.1))
                · exact fun a wx hT hF K hK => rely_wp rfl (opr_move (.inl rfl) (hK _ _ (NewT.refl _) hF.1))
                · exact fun a wx hT hF K hK => rely_wp (rely_guard hF.2.1) (opr_move (.inl rfl) (hK _ _ (NewT.refl _) hF.1))
                · intro a wx hT hF K hK
                  obtain ⟨f60, f59, _⟩ := hF
                  have f60 : a.tmps.getD 60 undef = u9 := f60
                  have f59 : a.tmps.getD 59 undef = .bool true := f59
                  refine rely_wp (rely_guard f59) ?_
                  exact opr_lenL rfl lineEl (by rw [eval_tmp, f60]; exact (HRV.out.new (NewT.trans _ _ _ HM.out hT))) (hK _ _ (NewT.refl _) rfl)
                · exact fun a wx hT hF K hK => rely_wp (rely_guard hF.2.1) (opr_cmp (b := true) (.inl ⟨rfl, (by rw [HRP.out]; rfl)⟩) Try.underlying3 rfl hF.1 rfl (hK _ _ (NewT.refl _) rfl))
                · exact fun a wx hT hF K hK => rely_wp rfl (opr_pick_true rfl hF.1 (hK _ _ (NewT.refl _) hF.2.1))
                · exact fun a wx hT hF K hK => rely_wp rfl (opr_move (.inl rfl) (hK _ _ (NewT.refl _) hF.1))
                · exact fun a wx hT hF K hK => rely_wp (rely_guard hF.2.1) (opr_move (.inl rfl) (hK _ _ (NewT.refl _) hF.1))
                · intro a wx hT hF K hK
                  obtain ⟨f65, f64, _⟩ := hF
                  have f65 : a.tmps.getD 65 undef = u9 := f65
                  have f64 : a.tmps.getD 64 undef = .bool true := f64
                  refine rely_wp (rely_guard f64) ?_
                  exact opr_idxL (i := 0) (p := ((2 : Int), (0 : Int))) lineEl (show (repL ka.sg)[0]? = some (2, 0) by rw [HRP.out]; rfl) (rfl) rfl (by rw [eval_tmp, f65]; exact (HRV.out.new (NewT.trans _ _ _ HM.out hT))) rfl (fun v hv => hK v _ (NewT.refl _) hv)
                · exact fun a wx hT hF K hK => rely_wp (rely_guard hF.2.1) (opr_fldNe0 rfl hF.1 (fun u hu => hK u _ (NewT.refl _) hu))
                · exact fun a wx hT hF K hK => rely_wp (rely_guard hF.2.1) (opr_ldIp rfl hF.1 (hK _ _ (NewT.refl _) rfl))
                · exact fun a wx hT hF K hK => rely_wp (rely_guard hF.2.1) (opr_cmp (b := true) (.inl ⟨rfl, (by rfl)⟩) Try.underlying3 rfl hF.1 rfl (hK _ _ (NewT.refl _) rfl))
                · exact fun a wx hT hF K hK => rely_wp rfl (opr_pick_true rfl hF.1 (hK _ _ (NewT.refl _) hF.2.1))
                · exact fun a wx hT hF K hK => rely_wp rfl (opr_move (.inl rfl) (hK _ _ (NewT.refl _) hF.1))
                · exact fun a wx hT hF K hK => rely_wp (rely_guard hF.2.1) (opr_move (.inl rfl) (hK _ _ (NewT.refl _) hF.1))
                · exact fun a wx hT hF K hK => rely_wp (rely_guard hF.2.1) (opr_cv ((show cleanL (repL ka.sg) = true by rw [HRP.out]; rfl) ▸ Clean_cv _ (repL ka.sg) wx ((HRV.out.new (NewT.trans _ _ _ HM.out hT))) (by rw [HRP.out]; simp)) rfl Try.func14 (by kernel_rfl) (by kernel_rfl) (evs1 hF.1) hK)
                · exact fun a wx hT hF K hK => rely_wp rfl (opr_pick_true rfl hF.1 (hK _ _ (NewT.refl _) hF.2.1))
                · exact fun a wx hT hF K hK => rely_wp rfl (opr_move (.inl rfl) (hK _ _ (NewT.refl _) hF.1))
                · exact fun a wx hT hF K hK => rely_wp (rely_guard hF.2.1) (opr_ldK (hT.row Rg7.out) rfl hF.1 (hK _ _ (NewT.refl _) rfl))
                · exact fun a wx hT hF K hK => rely_wp (rely_guard hF.2.1) (opr_ldK (hT.row Rg7.out) rfl hF.1 (hK _ _ (NewT.refl _) rfl))
                · exact fun a wx hT hF K hK => rely_wp (rely_guard hF.2.2.1) (opr_cv (HSM.out.1 ▸ bSame_cv _ _ ka ka wx (BkVB.rd ⟨s7, rfl, HS7.out.new (NewT.trans _ _ _ HM.out hT)⟩) (BkVB.rd ⟨s7, rfl, HS7.out.new (NewT.trans _ _ _ HM.out hT)⟩) (by have := HLE.out; omega)) rfl Try.func15 (by kernel_rfl) (by kernel_rfl) (evs2 hF.1 hF.2.1) hK)
                · exact fun a wx hT hF K hK => rely_wp rfl (opr_pick_true rfl hF.1 (hK _ _ (NewT.refl _) hF.2.1))
                · exact fun a wx hT hF K hK => rely_wp rfl (opr_move (.inl rfl) (hK _ _ (NewT.refl _) hF.1))
                · exact fun a wx hT hF K hK => rely_wp (rely_guard hF.2.1) (opr_ldK (hT.row Rg2.out) rfl hF.1 (hK _ _ (NewT.refl _) rfl))
                · exact fun a wx hT hF K hK => rely_wp (rely_guard hF.2.1) (opr_ldK (hT.row Rg7.out) rfl hF.1 (hK _ _ (NewT.refl _) rfl))
                · exact fun a wx hT hF K hK => rely_wp (rely_guard hF.2.2.1) (opr_cv (HSM.out.2 ▸ bSame_cv _ _ k1 ka wx (BkVB.rd ⟨s2, rfl, HS2.out.new (NewT.trans _ _ _ HM.out hT)⟩) (BkVB.rd ⟨s7, rfl, HS7.out.new (NewT.trans _ _ _ HM.out hT)⟩) (by have := HLE.out; omega)) rfl Try.func15 (by kernel_rfl) (by kernel_rfl) (evs2 hF.1 hF.2.1) hK)
                · exact fun a wx hT hF K hK => rely_wp (rely_guard hF.2.1) (opr_not rfl hF.1 (hK _ _ (NewT.refl _) rfl))
                · exact fun a wx hT hF K hK => rely_wp rfl (opr_pick_true rfl hF.1 (hK _ _ (NewT.refl _) hF.2.1))
                · exact fun a wx hT hF K hK => rely_wp rfl (opr_move (.inl rfl) (hK _ _ (NewT.refl _) hF.1))
                · exact fun a wx hT hF K hK => rely_wp (rely_guard hF.2.1) (opr_move (.inl rfl) (hK _ _ (NewT.refl _) hF.1))
                · exact fun a wx hT hF K hK => rely_wp (rely_guard hF.2.1) (opr_move (.inl rfl) (hK _ _ (NewT.refl _) hF.1))
                · exact fun a wx hT hF K hK => rely_wp (rely_guard hF.2.2.1) (opr_cv ((sameLs_self (d := (0, 0)) (e := eqN) (repL ka.sg) (fun p => by simp [eqN])) ▸ bLines_cv _ _ (repL ka.sg) (repL ka.sg) wx ((HRV.out.new (NewT.trans _ _ _ HM.out hT))) ((HRV.out.new (NewT.trans _ _ _ HM.out hT))) (by rw [HRP.out]; simp)) rfl Try.func17 (by kernel_rfl) (by kernel_rfl) (evs2 hF.1 hF.2.1) hK)
                · exact fun a wx hT hF K hK => rely_wp rfl (opr_pick_true rfl hF.1 (hK _ _ (NewT.refl _) hF.2.1))
                · exact fun a wx hT hF K hK => rely_wp rfl (opr_move (.inl rfl) (hK _ _ (NewT.refl _) hF.1))
                · exact fun a wx hT hF K hK => rely_wp (rely_guard hF.2.1) (opr_move (.inl rfl) (hK _ _ (NewT.refl _) hF.1))
                · exact fun a wx hT hF K hK => rely_wp (rely_guard hF.2.1) (opr_cv (Only_cv _ l 0 wx ((HLV.out.new (NewT.trans _ _ _ HM.out hT))) (by have := HLE.out; omega) (HLG.out)) rfl Try.func19 (by kernel_rfl) (by kernel_rfl) (evs2 hF.1 rfl) hK)
                · exact fun a wx hT hF K hK => rely_wp (rely_guard hF.2.1) (opr_lenL rfl recEl hF.1 (hK _ _ (NewT.refl _) rfl))
                · exact fun a wx hT hF K hK => rely_wp (rely_guard hF.2.1) (opr_cmp (b := true) (.inl ⟨rfl, (by rw [HON.out]; rfl)⟩) Try.underlying3 rfl hF.1 rfl (hK _ _ (NewT.refl _) rfl))
                · exact fun a wx hT hF K hK => rely_wp rfl (opr_pick_true rfl hF.1 (hK _ _ (NewT.refl _) hF.2.1))
                · intro w8 k8
                  iterate 20 (intro u h; obtain rfl := Eq.symm (h (by simp)); clear h)
                  iterate 2 (intro _ _)
                  iterate 25 (intro u h; obtain rfl := Eq.symm (h (by simp)); clear h)
                  intro _ _
                  iterate 3 (intro u h; obtain rfl := Eq.symm (h (by simp)); clear h)
                  refine relyEnd_nil rfl ?_
                  simp only [Act.put, List.setIfInBounds_toArray, List.set_cons_zero, List.set_cons_succ]
                  refine wpList_plain rfl (fun K hK => ?_)
                  refine opr_move (.inr rfl) (hK _ _ ?_)
                  clear hK K
                  refine wpList_end rfl ?_
                  simp only [Act.put, List.setIfInBounds_toArray, List.set_cons_zero, List.set_cons_succ]
                  go_simp
                  replace Rg1 := Lib.hid (k8.row Rg1.out)
                  replace Rg2 := Lib.hid (k8.row Rg2.out)
                  replace Rg4 := Lib.hid (k8.row Rg4.out)
                  replace Rg7 := Lib.hid (k8.row Rg7.out)
                  replace Rg10 := Lib.hid (k8.row Rg10.out)
                  replace HM := Lib.hid (NewT.trans _ _ _ HM.out k8)
                  clear k8
                  go_wp2
                  go_ret
                  exact ⟨_, rfl, NewT.trans _ _ _ HB.out HM.out, rfl⟩
end Go.Proofs.Ytilmeffmdgcblaa
/- Drawn regions that keep a book in a variable of their own; elements read in an elder world; what the laws on books share. -/
namespace Go.Proofs.Ytilmeffmdgcblaa
open Go Go.RowKit
set_option maxRecDepth 8000
set_option linter.all false
def MayAll (L : List Ug) : Prop := ∀ p ∈ L, mayL p.1 = true
theorem good_may {lim : Int} {n : Nat} {K : Bk} (h : Good lim n K) : MayAll K.sg := fun p hp => (h.sg p hp).1
/-- Memory that was there in W stays, and books that are known to be. -/
structure BelM (W w w' : World) : Prop where
  below : BelT W w w'
  keep : ∀ v K, MayAll K.sg → BkV w v K → BkV w' v K
theorem BelM.trans (W : World) (a b c : World) (h : BelM W a b) (k : BelM W b c) : BelM W a c := ⟨BelT.trans W a b c h.below k.below, fun v K hm hb => k.keep v K hm (h.keep v K hm hb)⟩
theorem BelM.new {W w w' : World} (hW : NewT W w) (hN : NewT w w') : BelM W w w' := ⟨BelT.new hW hN, fun _ _ _ hb => hb.new hN⟩
theorem BelM.drew (W w : World) : BelM W w w.drew := ⟨BelT.drew W w, fun _ _ _ hb => hb.new (NewT.drew w)⟩
theorem row_end {w : World} {g t n : Nat} {F : Nat → Value} (h : w.rowIs g t n F) {i : Nat} (hi : n ≤ i) : w.cell? ⟨g, i, none⟩ = none := by
  obtain ⟨cur, hg, hs, _⟩ := h
  simp [World.cell?, hg, hs, hi]
theorem BelM.store {W w w' : World} {g : Nat} (hg : W.heap.size ≤ g) (hr : w.rowIs g 28 5 (bkF zK.ep (.slice none 0 0))) (hT : RT g w w') : BelM W w w' := by
  refine ⟨BelT.rt hg hT, fun v K hm hb => ?_⟩
  obtain ⟨sv, hv, fs, hE, hl, hels⟩ := hb
  refine ⟨sv, hv, fs, ?_, hl, fun i p hp => ?_⟩
  · obtain ⟨A, c, h0, h1, h2, h3⟩ := hE
    refine ⟨A, c, h0, h1, h2, fun h4 => ?_⟩
    obtain ⟨b, o, hA, hc⟩ := h3 h4
    have hb : b ≠ g := fun e => by
      subst e
      have := hc 0 fs[0] (List.getElem?_eq_getElem h4) 5 (by omega)
      rw [row_end hr (by omega)] at this
      cases this
    exact ⟨b, o, hA, fun i d hd j hj => hT.keep.cell (a := ⟨b, o + i * 10 + j, none⟩) (by simpa using hb) (hc i d hd j hj)⟩
  · obtain ⟨f, e1, tv, e2, A, c, h0, h1, h2, h3⟩ := hels i p hp
    refine ⟨f, e1, tv, e2, A, c, h0, h1, h2, fun h4 => ?_⟩
    obtain ⟨b, o, hA, hc⟩ := h3 h4
    have hk := (may_step (hm p (List.mem_of_getElem? hp)) h4).2.1
    have hb : b ≠ g := fun e => by
      subst e
      have h5 := (hc 0 h4).2
      have hlt : o + 2 * 0 + 1 < 5 := by
        by_cases hx : o + 2 * 0 + 1 < 5
        · exact hx
        · rw [row_end hr (by omega)] at h5; cases h5
      rw [hr.cell hlt] at h5
      unfold bkF at h5
      split at h5
      · injection h5 with h5
        injection h5 with _ h6
        have h7 : (0 : Int) = kdL p.1 0 := h6
        omega
      · cases h5
    exact ⟨b, o, hA, fun i hi => ⟨hT.keep.cell (a := ⟨b, o + 2 * i, none⟩) (by simpa using hb) (hc i hi).1, hT.keep.cell (a := ⟨b, o + 2 * i + 1, none⟩) (by simpa using hb) (hc i hi).2⟩⟩
def svBkM (W : World) (K : Bk) (hm : MayAll K.sg) : SV (BelM W) := ⟨fun v w => BkV w v K, fun _ _ _ h hT => hT.keep _ _ hm h⟩
def svBkMR (W : World) (K : Bk) (hm : MayAll K.sg) (u : Value) : SV (BelM W) := ⟨fun v w => ∃ b, v = .tuple #[b, u] ∧ BkV w b K, fun _ _ _ ⟨b, h1, h2⟩ hT => ⟨b, h1, hT.keep _ _ hm h2⟩⟩
/-- What is known in an elder world. -/
def svAt {T : World → World → Prop} (W : World) (c : SV NewT) : SV T := ⟨fun v _ => c.pred v W, fun _ _ _ h _ => h⟩
section
variable {α : Type} {n : Nat} {E : World → (Nat → Value) → α → Prop} {P : Program} {sT eT : TypeId} {a : Act} {w W : World} {o : Oper} {K : Act → World → Prop} {Q : Exit → Act → World → Prop} {x y : Operand} [StbE E]
/-- An element's place, in an elder world. -/
theorem opr_idxLW {L : List α} {i : Nat} {m : Int} {p : α} (T : ElTy P sT eT n) (hd : L[i]? = some p) (hn : m = (i : Int)) (ho : o.op = .indexAddr sT x y) (hx : RdL n E W (a.eval x) L) (hy : a.eval y = .int .i64 m) (h : ∀ v, (svEl n E p).pred v W → K (a.put o.dst v) w) : o.wp P a w K Q := by
  subst hn
  obtain ⟨dst, op, type, pos, after, guard⟩ := o
  simp only at ho
  subst ho
  obtain ⟨fs, ⟨A, c, hv, _, _, h3⟩, e, h4⟩ := hx
  have hi : i < fs.length := by rw [e]; exact (List.getElem?_eq_some_iff.1 hd).1
  obtain ⟨f, hf, hE⟩ := h4 i p hd
  obtain ⟨b, off, rfl, hc⟩ := h3 (by omega)
  exact opr_val (s := Instr.indexAt sT (a.eval x) (a.eval y)) rfl (by rw [hv, hy]; exact run_idxE T w hi) (h _ ⟨b, off + i * n, f, rfl, fun _ j hj => hc i f hf j hj, hE⟩)
theorem opr_ldRcW {p : Rc} (hN : NewT W w) (ho : o.op = .load 46 x) (hx : (svEl 109 rcE p).pred (a.eval x) W) (h : ∀ v, RecV W v p → K (a.put o.dst v) w) : o.wp Try.prog a w K Q := by
  obtain ⟨dst, op, type, pos, after, guard⟩ := o
  simp only at ho
  subst ho
  obtain ⟨b, off, f, hv, hc, sv, dv, hf, h2, h3⟩ := hx
  exact opr_val (s := Instr.loadAt 46 (a.eval x)) rfl (by rw [hv]; exact run_ldE recEl (fun j hj => (hN.out.cell (p := ⟨b, off + j, none⟩) (World.block_lt_of_cell? _ _ (hc (by omega) j hj))).trans (hc (by omega) j hj))) (h _ ⟨sv, dv, by rw [hf], h2, h3⟩)
end
/-- No record goes twice. -/
theorem once {lim : Int} {l : List Rc} {x : Rc} {m : Nat} (hn : nOf lim zK l = m + 1) (hx : l[m]? = some x) : goesK lim (bkOf lim l) x = false := by
  have hlt : m < nOf lim zK l := by omega
  have hg := nOf_goes lim l zK m x hx hlt
  have hm : nOf lim zK (l.take m) = m := nOf_take lim l zK m (by omega)
  have hG := good_up (lim := lim) (l := l) m hm (by have := (List.getElem?_eq_some_iff.1 hx).1; omega)
  have hb : bkOf lim l = wentK lim (upK lim zK (l.take m)) x := by unfold bkOf; rw [hn, upK_succ hx]
  rw [hb]
  generalize upK lim zK (l.take m) = K at hg hG
  obtain ⟨hl, hr, hw⟩ := goes_lim hg
  have hw1 := went_goes hg
  cases h2 : goesK lim (wentK lim K x) x with
  | false => rfl
  | true =>
    exfalso
    obtain ⟨_, _, hw2⟩ := goes_lim h2
    rcases way_cases hr hw with ⟨a1, a2, a3, e⟩ | ⟨a1, a2, e⟩ | ⟨a1, k, p, a2, a3, a4, e⟩
    · rcases way_cases hr hw2 with ⟨b1, b2, b3, _⟩ | ⟨b1, _⟩ | ⟨b1, _⟩
      · rw [hw1, e] at b2; simp at b2; omega
      · omega
      · omega
    · rcases way_cases hr hw2 with ⟨b1, _⟩ | ⟨b1, b2, _⟩ | ⟨b1, _⟩
      · omega
      · rw [hw1, e] at b2
        have : (rotK K x).ep x.part.toNat = x.epoch := by show (if x.part.toNat = x.part.toNat then x.epoch else _) = _; rw [if_pos rfl]
        omega
      · omega
    · rcases way_cases hr hw2 with ⟨b1, _⟩ | ⟨b1, _⟩ | ⟨b1, k', p', b2, b3, b4, _⟩
      · omega
      · omega
      · have hk : k' = k := by omega
        subst hk
        rw [hw1, e] at b3
        have hlt2 := (List.getElem?_eq_some_iff.1 a3).1
        rw [List.getElem?_set_self hlt2] at b3
        cases b3
        have sq1 : x.seq = p.2.sq := by
          unfold goesB at a4
          simp only [Bool.not_eq_true', Bool.or_eq_false_iff, bne_eq_false_iff_eq] at a4
          exact a4.1.2
        have sq2 : x.seq = (wentG p.1 lim p.2 x).sq := by
          unfold goesB at b4
          simp only [Bool.not_eq_true', Bool.or_eq_false_iff, bne_eq_false_iff_eq] at b4
          exact b4.1.2
        obtain ⟨hm1, s, q, e2, hi, _⟩ := hG.sg p (List.mem_of_getElem? a3)
        have hlt3 : lim = (lim.toNat : Int) := by omega
        rw [hlt3, e2] at a4
        obtain ⟨s', e3, _⟩ := goes_st hm1 hi (by omega) (by omega) (right_good hr) a4
        rw [← hlt3] at e3
        rw [e2, e3] at sq2
        rw [e2] at sq1
        have h1 : x.seq = (q : Int) := sq1
        have h2 : x.seq = (q : Int) + 1 := sq2
        omega
end Go.Proofs.Ytilmeffmdgcblaa
