/- Package book: Report. -/
import Derived.Test.YtilmeffmdgcblaaMf
import Derived.Test.YtilmeffmdgcblaaMd
import Derived.Test.YtilmeffmdgcblaaMe
import Derived.Test.YtilmeffmdgcblaaMb
import Derived.Test.YtilmeffmdgcblaaMa
import Derived.Test.YtilmeffmdgcblaaMc
import Derived.Deep.Slices
set_option linter.all false
namespace Go.Proofs.Ytilmeffmdgcblaa
open Go Go.RowKit
set_option maxRecDepth 8000
set_option linter.all false
theorem build_line (p q : Int) (w : World) : (Instr.build 34 #[(0, .int .i64 p), (1, .int .i64 q)]).run Try.prog w = .ok (.agg (rowA 2 (stepF (p, q)))) w := by kernel_rfl
/-- Lines in a row of cells. -/
def LinesIn (F : Nat → Value) (l : List (Int × Int)) : Prop := ∀ (i : Nat) (p : Int × Int), l[i]? = some p → ∀ j, j < 2 → F (i * 2 + j) = stepF p j
theorem lines_put {F : Nat → Value} {L : List Ug} {k : Nat} {p : Ug} (h : LinesIn F ((repL L).take k)) (hp : L[k]? = some p) : LinesIn (fun z => if k * 2 ≤ z ∧ z < k * 2 + 2 then stepF (lineOf p) (z - k * 2) else F z) ((repL L).take (k + 1)) := by
  intro i q hq j hj
  have hl : (repL L)[k]? = some (lineOf p) := by simp [repL, hp]
  by_cases hi : i < k
  · have hq2 : ((repL L).take k)[i]? = some q := by
      rw [List.getElem?_take_of_lt (by omega)] at hq
      rw [List.getElem?_take_of_lt hi]; exact hq
    show (if _ then _ else _) = _
    rw [if_neg (by omega)]
    exact h i q hq2 j hj
  · have hi2 : i < k + 1 := by have := (List.getElem?_eq_some_iff.1 hq).1; rw [List.length_take] at this; omega
    obtain rfl : i = k := by omega
    rw [List.getElem?_take_of_lt (by omega), hl] at hq
    cases hq
    show (if _ then _ else _) = _
    rw [if_pos (by omega), show i * 2 + j - i * 2 = j by omega]
theorem rdN_lines {W : World} {g t m : Nat} {F : Nat → Value} {l : List (Int × Int)} (h : W.rowIs g t (m * 2) F) (hl : l.length = m) (hm : m ≤ 1000000) (hf : LinesIn F l) : RdN W (.slice (some ⟨g, 0, none⟩) m m) l := by
  subst hl
  have h1 := rdE_rowc (l := l.map stepF) h (by simp) (by unfold maxLen; omega) (fun i d hd j hj => by
    rw [List.getElem?_map] at hd
    cases hq : l[i]? with
    | none => rw [hq] at hd; cases hd
    | some q => rw [hq] at hd; cases hd; exact hf i q hq j hj)
  rw [List.length_map] at h1
  refine ⟨l.map stepF, h1, by simp, fun i p hp => ⟨stepF p, by simp [hp], rfl⟩⟩
set_option maxHeartbeats 4000000 in
theorem Report_cv (bv : Value) (bk : Bk) (w : World) (hb : BkV w bv bk) (hl : bk.sg.length ≤ 1000000) : Cv 11 #[bv] w (svL 2 lnE (repL bk.sg)) := by
  unfold Cv
  obtain ⟨sv, rfl, hsv⟩ := hb
  have HSV := Lib.hid hsv
  have HLL := Lib.hid hl
  clear hsv hl
  go_enter Try.func11, Try.ntmps11
  go_upto_region 1 with fail
  have r_g1 := rowIs_box w 28 5 (bkF bk.ep sv)
  have hN : NewT w (w.alloc (.cells (rowA 5 (bkF bk.ep sv)) 28)) := NewT.alloc _ _
  change Code.wp _ _ _ _ (w.alloc (.cells (rowA 5 (bkF bk.ep sv)) 28))
  generalize (w.alloc (.cells (rowA 5 (bkF bk.ep sv)) 28)) = W0 at r_g1 hN ⊢
  obtain ⟨g1, h_g1⟩ : ∃ g_, w.heap.size = g_ := ⟨_, rfl⟩
  have HG : Hid (w.heap.size ≤ g1) := Lib.hid (by omega)
  rw [h_g1] at r_g1
  simp only [h_g1]
  have Rg1 := Lib.hid r_g1
  have HM := Lib.hid hN
  clear r_g1 hN h_g1
  refine wp_region_steps0 NewT [SV.eq (.pointer (some ⟨g1, 4, none⟩)), SV.eq (sv), SV.eq (.int .i64 ((List.length (bk.sg) : Int)))] [([(1, none)], none), ([(6, some 0)], none), ([(7, some 1)], none)] 28 3 rfl rfl (by kernel_rfl) NewT.trans (NewT.refl _) (Nat.le_of_ble_eq_true rfl) ⟨?_, ?_, ?_, trivial⟩ ?_
  · exact fun a wx hT hF K hK => rely_wp rfl (opr_fldK1 rfl hF.1 (hK _ _ (NewT.refl _) rfl))
  · exact fun a wx hT hF K hK => rely_wp rfl (opr_ldUs (hT.row Rg1.out) (by decide) rfl rfl hF.1 (hK _ _ (NewT.refl _) rfl))
  · intro a wx hT hF K hK
    obtain ⟨f7, _⟩ := hF
    have f7 : a.tmps.getD 7 undef = sv := f7
    refine rely_wp rfl ?_
    exact opr_lenL rfl sagaEl (by rw [eval_tmp, f7]; exact (HSV.out.new (NewT.trans _ _ _ HM.out hT))) (hK _ _ (NewT.refl _) rfl)
  · intro w1 k1
    iterate 3 (intro u h; obtain rfl := Eq.symm (h (by simp)); clear h)
    refine relyEnd_nil rfl ?_
    simp only [Act.put, List.setIfInBounds_toArray, List.set_cons_zero, List.set_cons_succ]
    refine wpList_plain rfl (fun K hK => ?_)
    refine opr_mkN (m := bk.sg.length) HLL.out rfl rfl rfl (fun W1 hn1 rr1 => hK _ _ ?_)
    clear hK K
    simp only [Act.put, List.setIfInBounds_toArray, List.set_cons_zero, List.set_cons_succ]
    refine wpList_plain rfl (fun K hK => ?_)
    refine opr_move (.inr rfl) (hK _ _ ?_)
    clear hK K
    refine wpList_end rfl ?_
    simp only [Act.put, List.setIfInBounds_toArray, List.set_cons_zero, List.set_cons_succ]
    go_simp
    obtain ⟨gl, h_gl⟩ : ∃ g_, w1.heap.size = g_ := ⟨_, rfl⟩
    rw [h_gl] at rr1
    simp only [h_gl]
    have HGL : Hid (g1 < gl ∧ w.heap.size ≤ gl) := Lib.hid (by rw [← h_gl]; exact ⟨(k1.row Rg1.out).lt, (NewT.trans _ _ _ HM.out k1).out.size⟩)
    have q1 := NewT.trans _ _ _ k1 hn1
    clear k1 hn1 h_gl
    replace Rg1 := Lib.hid (q1.row Rg1.out)
    replace HM := Lib.hid (NewT.trans _ _ _ HM.out q1)
    clear q1
    have Rgl := Lib.hid rr1
    clear rr1
    go_upto_region 2 with fail
    refine wp_region_steps0 NewT [SV.eq (.pointer (some ⟨g1, 4, none⟩)), SV.eq (sv), SV.eq (.int .i64 ((List.length (bk.sg) : Int))), SV.eq (.int .i64 (0))] [([(1, none)], none), ([(10, some 0)], none), ([(11, some 1)], none), ([], none)] 28 4 rfl rfl (by kernel_rfl) NewT.trans (NewT.refl _) (Nat.le_of_ble_eq_true rfl) ⟨?_, ?_, ?_, ?_, trivial⟩ ?_
    · exact fun a wx hT hF K hK => rely_wp rfl (opr_fldK1 rfl hF.1 (hK _ _ (NewT.refl _) rfl))
    · exact fun a wx hT hF K hK => rely_wp rfl (opr_ldUs (hT.row Rg1.out) (by decide) rfl rfl hF.1 (hK _ _ (NewT.refl _) rfl))
    · intro a wx hT hF K hK
      obtain ⟨f11, _⟩ := hF
      have f11 : a.tmps.getD 11 undef = sv := f11
      refine rely_wp rfl ?_
      exact opr_lenL rfl sagaEl (by rw [eval_tmp, f11]; exact (HSV.out.new (NewT.trans _ _ _ HM.out hT))) (hK _ _ (NewT.refl _) rfl)
    · exact fun a wx hT hF K hK => rely_wp rfl (opr_move (.inl rfl) (hK _ _ (NewT.refl _) rfl))
    · intro w2 k2
      iterate 4 (intro u h; obtain rfl := Eq.symm (h (by simp)); clear h)
      refine relyEnd_nil rfl ?_
      refine wpList_end rfl ?_
      simp only [Act.put, List.setIfInBounds_toArray, List.set_cons_zero, List.set_cons_succ]
      go_simp
      replace Rg1 := Lib.hid (k2.row Rg1.out)
      replace HM := Lib.hid (NewT.trans _ _ _ HM.out k2)
      replace Rgl := Lib.hid (k2.row Rgl.out)
      clear k2
      go_wp2
      go_loopw [13] (fun i wr => ∃ (k : Nat) (F : Nat → Value), k ≤ bk.sg.length ∧ i = .int .i64 (k : Int) ∧ Hid (LinesIn F ((repL bk.sg).take k)) ∧ Hid (wr.rowIs gl 34 (bk.sg.length * 2) F) ∧ Hid (NewT w wr) ∧ Hid (wr.rowIs g1 28 5 (bkF bk.ep sv))) (fun i _ => bk.sg.length - (intOf i).toNat)
      case atStart => exact ⟨0, _, by omega, rfl, Lib.hid (fun i p hp => by simp at hp), Rgl, HM, Rg1⟩
      case round =>
        clear HM Rgl Rg1
        obtain ⟨k, F0, hk, rfl, HLI, Rgl, HM, Rg1⟩ := hrel
        have hll := HLL.out
        by_cases hlt : k < bk.sg.length
        rotate_left
        · obtain rfl : k = bk.sg.length := by omega
          have HF : Hid (LinesIn F0 (repL bk.sg)) := Lib.hid (by have := HLI.out; rwa [List.take_of_length_le (by simp [repL])] at this)
          go_wp2
          go_ret
          exact ⟨_, rfl, HM.out, rdN_lines Rgl.out (by simp [repL]) HLL.out HF.out⟩
        obtain ⟨p, hp⟩ : ∃ p, bk.sg[k]? = some p := ⟨_, List.getElem?_eq_getElem hlt⟩
        have HPP := Lib.hid hp
        have it : (k : Int) < (bk.sg.length : Int) := by omega
        have HIT := Lib.hid it
        have HKL := Lib.hid hlt
        clear hp hlt
        go_upto_region 4 with fail
        refine wp_region_steps0 NewT [SV.eq (.int .i64 ((k : Int))), svEl 10 sgE (p), svSg p.1 p.2] [([(13, none)], none), ([(11, none), (13, none)], none), ([(16, some 1)], none)] 28 3 rfl rfl (by kernel_rfl) NewT.trans (NewT.refl _) (Nat.le_of_ble_eq_true rfl) ⟨?_, ?_, ?_, trivial⟩ ?_
        · exact fun a wx hT hF K hK => rely_wp rfl (opr_move (.inl rfl) (hK _ _ (NewT.refl _) hF.1))
        · intro a wx hT hF K hK
          obtain ⟨f11, f13, _⟩ := hF
          have f11 : a.tmps.getD 11 undef = sv := f11
          have f13 : a.tmps.getD 13 undef = .int .i64 ((k : Int)) := f13
          refine rely_wp rfl ?_
          exact opr_idxL (i := k) (p := p) sagaEl (HPP.out) (rfl) rfl (by rw [eval_tmp, f11]; exact (HSV.out.new (NewT.trans _ _ _ HM.out hT))) f13 (fun v hv => hK v _ (NewT.refl _) hv)
        · exact fun a wx hT hF K hK => rely_wp rfl (opr_ldUg rfl hF.1 (fun u hu => hK u _ (NewT.refl _) hu))
        · intro w3 k3
          intro u h; obtain rfl := Eq.symm (h (by simp)); clear h
          intro _ _
          intro u17 h; have g17 := h (by simp); clear h; replace g17 := show (svSg p.1 p.2).pred u17 w3 from g17
          refine relyEnd_nil rfl ?_
          simp only [Act.put, List.setIfInBounds_toArray, List.set_cons_zero, List.set_cons_succ]
          obtain ⟨ts, rfl, hs⟩ := (show SgV w3 u17 p.1 p.2 from g17)
          refine wpList_newA (n := 10) (f := sgF ts p.2) rfl rfl rfl rfl rfl rfl rfl rfl (by decide) rfl (by first | (simp; done) | simp [Act.put]) (by kernel_rfl) run_alloc_saga info_saga (sgF_one _ _ (oneP hs)) ?_
          intro W3 hn3 rr3
          refine wpList_end rfl ?_
          simp only [Act.put, List.setIfInBounds_toArray, List.set_cons_zero, List.set_cons_succ]
          go_simp
          obtain ⟨g5, h_g5⟩ : ∃ g_, w3.heap.size = g_ := ⟨_, rfl⟩
          rw [h_g5] at rr3
          simp only [h_g5]
          have HGg5 : Hid (g1 < g5 ∧ gl < g5 ∧ w.heap.size ≤ g5) := Lib.hid (by rw [← h_g5]; exact ⟨(k3.row Rg1.out).lt, (k3.row Rgl.out).lt, (NewT.trans _ _ _ HM.out k3).out.size⟩)
          have q3 := NewT.trans _ _ _ k3 hn3
          have HTS := Lib.hid (hn3.pairs hs)
          clear hs
          clear k3 hn3 h_g5
          replace Rg1 := Lib.hid (q3.row Rg1.out)
          replace Rgl := Lib.hid (q3.row Rgl.out)
          replace HM := Lib.hid (NewT.trans _ _ _ HM.out q3)
          clear q3
          have Rg5 := Lib.hid rr3
          clear rr3
          go_upto_region 5 with fail
          refine wp_region_rely (NewT) [SV.eq ((.slice (some ⟨gl, 0, none⟩) bk.sg.length bk.sg.length)), SV.eq (.int .i64 ((k : Int))), SV.eq (.pointer (some ⟨g5, 1, none⟩)), SV.eq (.int .i64 (p.2.ph)), SV.eq (.agg (rowA 10 (sgF ts p.2))), SV.eq (.int .i64 (missG p.2)), SV.eq ((.agg (rowA 2 (stepF (lineOf p))))), SV.eq (.pointer (some ⟨gl, k * 2, none⟩))] [([(3, none)], none), ([(4, none)], none), ([(5, none)], none), ([(20, some 2)], none), ([(5, none)], none), ([(22, some 4)], none), ([(21, some 3), (23, some 5)], none), ([(18, some 0), (19, some 1)], none)] 28 rfl (by kernel_rfl) rfl (by kernel_rfl) (by kernel_rfl) rfl NewT.trans (NewT.drew _) (Nat.le_of_ble_eq_true rfl) ⟨?_, ?_, ?_, ?_, ?_, ?_, ?_, ?_, trivial⟩ ?_
          · exact fun a wx hT hF K hK => rely_wp rfl (opr_move (.inl rfl) (hK _ _ (NewT.refl _) hF.1))
          · exact fun a wx hT hF K hK => rely_wp rfl (opr_move (.inl rfl) (hK _ _ (NewT.refl _) hF.1))
          · exact fun a wx hT hF K hK => rely_wp rfl (opr_fldU1 rfl hF.1 (hK _ _ (NewT.refl _) rfl))
          · exact fun a wx hT hF K hK => rely_wp rfl (opr_ldI (hT.row Rg5.out) (by decide) rfl rfl hF.1 (hK _ _ (NewT.refl _) rfl))
          · exact fun a wx hT hF K hK => rely_wp rfl (opr_ldU (hT.row Rg5.out) rfl hF.1 (hK _ _ (NewT.refl _) rfl))
          · exact fun a wx hT hF K hK => rely_wp rfl (opr_cv (MissU_cv _ p.1 p.2 wx ((⟨ts, rfl, (hT.pairs HTS.out)⟩ : SgV wx _ p.1 p.2))) rfl Try.func26 (by kernel_rfl) (by kernel_rfl) (evs1 hF.1) hK)
          · intro a wx hT hF K hK
            obtain ⟨f21, f23, _⟩ := hF
            have f21 : a.tmps.getD 21 undef = .int .i64 (p.2.ph) := f21
            have f23 : a.tmps.getD 23 undef = .int .i64 (missG p.2) := f23
            refine rely_wp rfl ?_
            exact opr_build (pv := #[(0, .int .i64 p.2.ph), (1, .int .i64 (missG p.2))]) rfl (by simp only [List.map_toArray, List.map_cons, List.map_nil, eval_tmp, f21, f23]) (build_line p.2.ph (missG p.2) wx) (hK _ _ (NewT.refl _) rfl)
          · exact fun a wx hT hF K hK => rely_wp rfl (opr_idxX lineEl HKL.out rfl rfl hF.1 hF.2.1 (hK _ _ (NewT.refl _) rfl))
          · intro w4 k4
            iterate 8 (intro u h; obtain rfl := Eq.symm (h (by simp)); clear h)
            refine relyEnd_nil rfl ?_
            simp only [Act.put, List.setIfInBounds_toArray, List.set_cons_zero, List.set_cons_succ]
            refine opr_putm (g := gl) (o0 := k * 2) (m := 2) (f := stepF (lineOf p)) (F := (fun z => if k * 2 ≤ z ∧ z < k * 2 + 2 then stepF (lineOf p) (z - k * 2) else F0 z)) rfl rfl rfl (k4.row Rgl.out) (by have := HKL.out; omega) info_line (stepF_one _) (fun i _ => rfl) ?_
            intro W4 hR rr
            go_simp
            have HN := Lib.hid (lines_put HLI.out HPP.out)
            have hB := NewT.rt (NewT.trans _ _ _ HM.out k4) hR HGL.out.2
            have h1 := hR.row (b := g1) (by have := HGL.out; omega) (k4.row Rg1.out)
            have hkl := HKL.out
            clear HM Rg1 Rgl Rg5
            go_wp2
            go_roundw
            case rel => exact ⟨k + 1, _, by omega, by go_num, HN, Lib.hid rr, Lib.hid hB, Lib.hid h1⟩
            case measure => simp [intOf]; omega
end Go.Proofs.Ytilmeffmdgcblaa
/- The document's example of package book, as records; a slice of five records. -/
namespace Go.Proofs.Ytilmeffmdgcblaa
open Go Go.RowKit
set_option maxRecDepth 8000
set_option linter.all false
def exX : Rc := { zR with kind := 6, part := 1, epoch := 1 }
def exB : Rc := { zR with kind := 1, steps := [(1, 1)] }
def exI : Rc := { zR with kind := 2, seq := 1, tr := 1 }
def exA : Rc := { zR with kind := 3, seq := 2, tr := 1, good := true, part := 1, epoch := 1 }
def exC : Rc := { zR with kind := 5, seq := 3, nd := 2 }
def exR : List Rc := [exX, exB, exI, exA, exC]
def exK : Bk := wentK 2 zK exX
theorem ex_goes : goesK 2 zK exX = true ∧ goesK 2 exK exX = false := by decide +kernel
theorem ex_n : nOf 2 zK exR = 5 ∧ nOf 2 zK (exR.drop 1) = 2 := by decide +kernel
theorem ex_rep : repL (bkOf 2 exR).sg = [(2, 0)] := by decide +kernel
theorem ex_same : sameK exK (bkOf 2 exR) = false := by decide +kernel
theorem ex_only : (onlyL exR 0).length = 4 := by decide +kernel
theorem ex_len : (bkOf 2 exR).sg.length = 1 ∧ exK.sg.length = 0 ∧ exR.length = 5 := by decide +kernel
theorem ex_ok : OkK zK ∧ OkK exK := ⟨good_ok (good_zero 2) (by omega), good_ok (good_step (good_zero 2) ex_goes.1) (by omega)⟩
theorem build_exX (w : World) : (Instr.build 46 #[(0, .int .i64 6), (8, .int .i64 1), (9, .int .i64 1)]).run Try.prog w = .ok (.agg (rowA 109 (recF exX (.slice none 0 0) (.slice none 0 0)))) w := by kernel_rfl
theorem build_exB (A : Option Addr) (n c : Nat) (w : World) : (Instr.build 46 #[(0, .int .i64 1), (11, .slice A n c)]).run Try.prog w = .ok (.agg (rowA 109 (recF exB (.slice A n c) (.slice none 0 0)))) w := by kernel_rfl
theorem build_exI (w : World) : (Instr.build 46 #[(0, .int .i64 2), (2, .int .i64 1), (4, .int .i64 1)]).run Try.prog w = .ok (.agg (rowA 109 (recF exI (.slice none 0 0) (.slice none 0 0)))) w := by kernel_rfl
theorem build_exA (w : World) : (Instr.build 46 #[(0, .int .i64 3), (2, .int .i64 2), (4, .int .i64 1), (6, .bool true), (8, .int .i64 1), (9, .int .i64 1)]).run Try.prog w = .ok (.agg (rowA 109 (recF exA (.slice none 0 0) (.slice none 0 0)))) w := by kernel_rfl
theorem build_exC (w : World) : (Instr.build 46 #[(0, .int .i64 5), (2, .int .i64 3), (7, .int .i64 2)]).run Try.prog w = .ok (.agg (rowA 109 (recF exC (.slice none 0 0) (.slice none 0 0)))) w := by kernel_rfl
theorem build_stp (w : World) : (Instr.build 58 #[(0, .int .i64 1), (1, .int .i64 1)]).run Try.prog w = .ok (.agg (rowA 2 (stepF (1, 1)))) w := by kernel_rfl
theorem run_bsS1 (d : Int × Int) (w : World) : (Instr.buildSlice 43 1 #[(0, .agg (rowA 2 (stepF d)))]).run Try.prog w = .ok (.slice (some ⟨w.heap.size, 0, none⟩) 1 1) (w.alloc (.cells (rowA 2 (stepF d)) 58)) := by kernel_rfl
theorem recV_nilB {w : World} {x : Rc} (hs : x.steps = []) (hd : x.data = []) : RecV w (.agg (rowA 109 (recF x (.slice none 0 0) (.slice none 0 0)))) x :=
  ⟨_, _, rfl, by rw [hs]; exact rdP_nil w, by rw [hd]; exact rdV_nil w []⟩
def cat5 (f0 f1 f2 f3 f4 : Nat → Value) (i : Nat) : Value := bif Nat.blt i 109 then f0 i else bif Nat.blt i 218 then f1 (i - 109) else bif Nat.blt i 327 then f2 (i - 218) else bif Nat.blt i 436 then f3 (i - 327) else f4 (i - 436)
theorem run_bsR5 (f0 f1 f2 f3 f4 : Nat → Value) (w : World) : (Instr.buildSlice 22 5 #[(0, .agg (rowA 109 f0)), (1, .agg (rowA 109 f1)), (2, .agg (rowA 109 f2)), (3, .agg (rowA 109 f3)), (4, .agg (rowA 109 f4))]).run Try.prog w = .ok (.slice (some ⟨w.heap.size, 0, none⟩) 5 5) (w.alloc (.cells (rowA 545 (cat5 f0 f1 f2 f3 f4)) 46)) := by kernel_rfl
theorem cat5_at (f0 f1 f2 f3 f4 : Nat → Value) : ∀ (i : Nat) (d : Nat → Value), [f0, f1, f2, f3, f4][i]? = some d → ∀ j, j < 109 → cat5 f0 f1 f2 f3 f4 (i * 109 + j) = d j := by
  intro i d hd j hj
  have hi : i < 5 := (List.getElem?_eq_some_iff.1 hd).1
  have : i = 0 ∨ i = 1 ∨ i = 2 ∨ i = 3 ∨ i = 4 := by omega
  have bt : ∀ a b : Nat, a < b → Nat.blt a b = true := fun a b h => by rw [Nat.blt_eq]; exact h
  have bf : ∀ a b : Nat, ¬ a < b → Nat.blt a b = false := fun a b h => by rw [Bool.eq_false_iff]; intro e; rw [Nat.blt_eq] at e; exact h e
  unfold cat5
  rcases this with rfl | rfl | rfl | rfl | rfl <;> (simp at hd; subst hd)
  · rw [bt _ _ (by omega)]; simp
  · rw [bf _ 109 (by omega), bt _ 218 (by omega)]; simp
  · rw [bf _ 109 (by omega), bf _ 218 (by omega), bt _ 327 (by omega)]; simp
  · rw [bf _ 109 (by omega), bf _ 218 (by omega), bf _ 327 (by omega), bt _ 436 (by omega)]; simp
  · rw [bf _ 109 (by omega), bf _ 218 (by omega), bf _ 327 (by omega), bf _ 436 (by omega)]; simp
section
variable {a : Act} {w : World} {o : Oper} {K : Act → World → Prop} {Q : Exit → Act → World → Prop} {x y y0 y1 y2 y3 y4 : Operand}
theorem opr_bsS1 {d : Int × Int} (ho : o.op = .buildSlice 43 1 #[(0, x)]) (hx : a.eval x = .agg (rowA 2 (stepF d))) (h : ∀ v w', NewT w w' → (svPairs [d]).pred v w' → K (a.put o.dst v) w') : o.wp Try.prog a w K Q := by
  obtain ⟨dst, op, type, pos, after, guard⟩ := o
  simp only at ho
  subst ho
  refine opr_val (s := Instr.buildSlice 43 1 #[(0, a.eval x)]) (by simp [execOp]) (by rw [hx]; exact run_bsS1 d w) (h _ _ (NewT.alloc _ _) ?_)
  have hr := rowIs_box w 58 2 (stepF d)
  refine ⟨some ⟨w.heap.size, 0, none⟩, 1, rfl, Nat.le_refl _, by unfold maxLen; omega, fun _ => ⟨w.heap.size, 0, rfl, fun i hi => ?_⟩⟩
  obtain rfl : i = 0 := by simp at hi; exact hi
  exact ⟨hr.cell (i := 0) (by omega), hr.cell (i := 1) (by omega)⟩
theorem opr_bldB (ho : o.op = .build 46 #[(0, .const (.int .i64 1)), (11, x)]) (hx : (svPairs [(1, 1)]).pred (a.eval x) w) (h : ∀ v, RecV w v exB → K (a.put o.dst v) w) : o.wp Try.prog a w K Q := by
  have hr : RdP w (a.eval x) [(1, 1)] := hx
  have hr0 := hr
  obtain ⟨A, c, hv, _⟩ := hr
  rw [hv] at hr0
  exact opr_build (pv := #[(0, .int .i64 1), (11, a.eval x)]) ho (by simp only [List.map_toArray, List.map_cons, List.map_nil, eval_const]) (by rw [hv]; exact build_exB A _ c w) (h _ ⟨_, _, rfl, hr0, rdV_nil w []⟩)
theorem opr_bsR5 {x0 x1 x2 x3 x4 : Rc} (ho : o.op = .buildSlice 22 5 #[(0, y0), (1, y1), (2, y2), (3, y3), (4, y4)]) (h0 : RecV w (a.eval y0) x0) (h1 : RecV w (a.eval y1) x1) (h2 : RecV w (a.eval y2) x2) (h3 : RecV w (a.eval y3) x3) (h4 : RecV w (a.eval y4) x4)
    (h : ∀ v w', NewT w w' → RdR w' v [x0, x1, x2, x3, x4] → K (a.put o.dst v) w') : o.wp Try.prog a w K Q := by
  obtain ⟨dst, op, type, pos, after, guard⟩ := o
  simp only at ho
  subst ho
  obtain ⟨s0, d0, e0, p0, q0⟩ := h0
  obtain ⟨s1, d1, e1, p1, q1⟩ := h1
  obtain ⟨s2, d2, e2, p2, q2⟩ := h2
  obtain ⟨s3, d3, e3, p3, q3⟩ := h3
  obtain ⟨s4, d4, e4, p4, q4⟩ := h4
  have hN := NewT.alloc w (.cells (rowA 545 (cat5 (recF x0 s0 d0) (recF x1 s1 d1) (recF x2 s2 d2) (recF x3 s3 d3) (recF x4 s4 d4))) 46)
  refine opr_val (s := Instr.buildSlice 22 5 #[(0, a.eval y0), (1, a.eval y1), (2, a.eval y2), (3, a.eval y3), (4, a.eval y4)]) (by simp [execOp]) (by rw [e0, e1, e2, e3, e4]; exact run_bsR5 _ _ _ _ _ w) (h _ _ hN ?_)
  refine ⟨[recF x0 s0 d0, recF x1 s1 d1, recF x2 s2 d2, recF x3 s3 d3, recF x4 s4 d4], rdE_rowc (c := 5) (l := [recF x0 s0 d0, recF x1 s1 d1, recF x2 s2 d2, recF x3 s3 d3, recF x4 s4 d4]) (rowIs_box w _ 545 _) (by simp) (by unfold maxLen; omega) (cat5_at _ _ _ _ _), rfl, fun i p hp => ?_⟩
  have hi : i < 5 := (List.getElem?_eq_some_iff.1 hp).1
  have : i = 0 ∨ i = 1 ∨ i = 2 ∨ i = 3 ∨ i = 4 := by omega
  rcases this with rfl | rfl | rfl | rfl | rfl <;> (simp at hp; subst hp)
  · exact ⟨_, rfl, _, _, rfl, hN.pairs p0, hN.rd q0⟩
  · exact ⟨_, rfl, _, _, rfl, hN.pairs p1, hN.rd q1⟩
  · exact ⟨_, rfl, _, _, rfl, hN.pairs p2, hN.rd q2⟩
  · exact ⟨_, rfl, _, _, rfl, hN.pairs p3, hN.rd q3⟩
  · exact ⟨_, rfl, _, _, rfl, hN.pairs p4, hN.rd q4⟩
end
end Go.Proofs.Ytilmeffmdgcblaa
/- The laws' question whether package book answers as the document's example. -/
namespace Go.Proofs.Ytilmeffmdgcblaa
open Go Go.RowKit
set_option maxRecDepth 8000
set_option linter.all false
theorem svBkRB_le {f : Nat} {vs : Array Value} {w : World} {D : Nat} {bk k2 : Bk} {u u2 : Value} (h : Cv f vs w (svBkRB D bk u)) (hb : bk = k2) (hu : u = u2) : Cv f vs w (svBkRB 0 k2 u2) := by
  subst hb hu
  exact h.mono fun _ _ ⟨v, h1, h2, b, h3, h4⟩ => ⟨v, h1, h2, b, h3, h4.mono (Nat.zero_le _)⟩
set_option maxHeartbeats 8000000 in
theorem alive12_c (w : World) : Cv 8 #[] w (.eq (.bool true)) := by
  unfold Cv
  go_enter Try.func8, Try.ntmps8
  have HM := Lib.hid (NewT.refl w)
  have HB := Lib.hid (NewT.refl w)
  obtain ⟨x, HX⟩ := hid_ex exX
  obtain ⟨k1, HK1⟩ := hid_ex exK
  obtain ⟨l, HL⟩ := hid_ex exR
  obtain ⟨ka, HKA⟩ := hid_ex (bkOf 2 exR)
  obtain ⟨kb, HKB⟩ := hid_ex (bkOf 2 (exR.drop 1))
  have HX0 : Hid (x.steps = [] ∧ x.data = []) := Lib.hid (by rw [← HX.out]; exact ⟨rfl, rfl⟩)
  have HW1 : Hid (wentK 2 zK x = k1) := Lib.hid (by rw [← HX.out, ← HK1.out]; rfl)
  have HG1 : Hid (goesK 2 zK x = true) := Lib.hid (by rw [← HX.out]; exact ex_goes.1)
  have HG2 : Hid (goesK 2 k1 x = false) := Lib.hid (by rw [← HX.out, ← HK1.out]; exact ex_goes.2)
  have HO1 : Hid (OkK k1) := Lib.hid (by rw [← HK1.out]; exact ex_ok.2)
  have HNA : Hid (nOf 2 zK l = 5 ∧ nOf 2 zK (l.drop 1) = 2) := Lib.hid (by rw [← HL.out]; exact ex_n)
  have HOA : Hid (bkOf 2 l = ka ∧ bkOf 2 (l.drop 1) = kb) := Lib.hid (by rw [← HL.out]; exact ⟨HKA.out, HKB.out⟩)
  have HLE : Hid (ka.sg.length = 1 ∧ k1.sg.length = 0 ∧ l.length = 5) := Lib.hid (by rw [← HL.out, ← HKA.out, ← HK1.out]; exact ex_len)
  have HRP : Hid (repL ka.sg = [(2, 0)]) := Lib.hid (by rw [← HKA.out]; exact ex_rep)
  have HSM : Hid (sameK ka ka = true ∧ sameK k1 ka = false) := Lib.hid ⟨sameK_self ka, by rw [← HK1.out, ← HKA.out]; exact ex_same⟩
  have HON : Hid ((onlyL l 0).length = 4) := Lib.hid (by rw [← HL.out]; exact ex_only)
  have HLG : Hid (∀ y ∈ l, y.steps.length ≤ 30 ∧ y.data.length ≤ 300) := Lib.hid (by rw [← HL.out]; intro y hy; simp [exR] at hy; rcases hy with rfl | rfl | rfl | rfl | rfl <;> simp [exX, exB, exI, exA, exC, zR])
  have HL5 : Hid ([x, exB, exI, exA, exC] = l) := Lib.hid (by rw [← HX.out]; exact HL.out)
  go_upto_region 1 with fail
  refine wp_region_steps0 NewT [SV.eq ((.agg (rowA 109 (recF x (.slice none 0 0) (.slice none 0 0)))))] [([], none)] 97 1 rfl rfl (by kernel_rfl) NewT.trans (NewT.refl _) (Nat.le_of_ble_eq_true rfl) ⟨?_, trivial⟩ ?_
  · intro a wx hT hF K hK
    refine rely_wp rfl ?_
    exact opr_build (pv := #[(0, .int .i64 6), (8, .int .i64 1), (9, .int .i64 1)]) rfl (by simp only [List.map_toArray, List.map_cons, List.map_nil, eval_const]) (HX.out ▸ build_exX wx) (hK _ _ (NewT.refl _) rfl)
  · intro w1 k1
    intro u h; obtain rfl := Eq.symm (h (by simp)); clear h
    refine relyEnd_nil rfl ?_
    simp only [Act.put, List.setIfInBounds_toArray, List.set_cons_zero, List.set_cons_succ]
    refine wpList_new (n := 109) (f := recF x (.slice none 0 0) (.slice none 0 0)) rfl rfl rfl rfl rfl rfl (by first | (simp; done) | simp [Act.put]) run_alloc_rec info_rec (recF_one _ _ _ rfl rfl) rfl ?_
    intro W1 hn1 rr1
    refine wpList_end rfl ?_
    simp only [Act.put, List.setIfInBounds_toArray, List.set_cons_zero, List.set_cons_succ]
    go_simp
    obtain ⟨g1, h_g1⟩ : ∃ g_, w1.heap.size = g_ := ⟨_, rfl⟩
    rw [h_g1] at rr1
    simp only [h_g1]
    have HGg1 : Hid (w.heap.size ≤ g1) := Lib.hid (by rw [← h_g1]; exact (NewT.trans _ _ _ HM.out k1).out.size)
    have q1 := NewT.trans _ _ _ k1 hn1
    clear k1 hn1 h_g1
    replace HM := Lib.hid (NewT.trans _ _ _ HM.out q1)
    clear q1
    have Rg1 := Lib.hid rr1
    clear rr1
    go_upto_region 2 with fail
    refine wp_region_steps0 NewT [SV.eq ((.agg (rowA 5 (bkF zK.ep (.slice none 0 0))))), SV.eq (.agg (rowA 109 (recF x (.slice none 0 0) (.slice none 0 0)))), svBkRB 0 k1 (.bool true), svBkRB 0 k1 (.bool true), svBkB (0) k1, SV.eq (.bool true)] [([], none), ([(1, none)], none), ([(14, some 0), (15, some 1)], none), ([(16, some 2)], none), ([(13, some 3)], none), ([(13, some 3)], none)] 97 6 rfl rfl (by kernel_rfl) NewT.trans (NewT.refl _) (Nat.le_of_ble_eq_true rfl) ⟨?_, ?_, ?_, ?_, ?_, ?_, trivial⟩ ?_
    · exact fun a wx hT hF K hK => rely_wp rfl (opr_build (pv := #[]) rfl (by simp) (build_book0 wx) (hK _ _ (NewT.refl _) rfl))
    · exact fun a wx hT hF K hK => rely_wp rfl (opr_ldR (hT.row Rg1.out) rfl hF.1 (hK _ _ (NewT.refl _) rfl))
    · exact fun a wx hT hF K hK => rely_wp rfl (opr_cv (svBkRB_le (bGo_cv 0 _ _ zK x 2 wx (⟨(.slice none 0 0), rfl, rdUB_nil wx 0⟩) ((recV_nilB HX0.out.1 HX0.out.2)) ex_ok.1 (Nat.zero_le _)) HW1.out (congrArg Value.bool HG1.out)) rfl Try.func24 (by kernel_rfl) (by kernel_rfl) (evs3 hF.1 hF.2.1 rfl) hK)
    · exact fun a wx hT hF K hK => rely_wp rfl (opr_move (.inl rfl) (hK _ _ (NewT.refl _) hF.1))
    · exact fun a wx hT hF K hK => rely_wp rfl (opr_extKB0 rfl hF.1 (fun u hu => hK u _ (NewT.refl _) hu))
    · exact fun a wx hT hF K hK => rely_wp rfl (opr_extKB1 rfl hF.1 (hK _ _ (NewT.refl _) rfl))
    · intro w2 k2
      iterate 2 (intro u h; obtain rfl := Eq.symm (h (by simp)); clear h)
      iterate 2 (intro _ _)
      intro u17 h; have g17 := h (by simp); clear h; replace g17 := show (svBkB (0) k1).pred u17 w2 from g17
      intro u h; obtain rfl := Eq.symm (h (by simp)); clear h
      refine relyEnd_nil rfl ?_
      simp only [Act.put, List.setIfInBounds_toArray, List.set_cons_zero, List.set_cons_succ]
      obtain ⟨s2, rfl, hs2⟩ := (show BkVB w2 (0) u17 k1 from g17)
      refine wpList_new (n := 5) (f := bkF k1.ep s2) rfl rfl rfl rfl rfl rfl (by first | (simp; done) | simp [Act.put]) run_alloc_book info_book (bkF_one _ _ hs2.rd.one) rfl ?_
      intro W2 hn2 rr2
      simp only [Act.put, List.setIfInBounds_toArray, List.set_cons_zero, List.set_cons_succ]
      refine wpList_plain rfl (fun K hK => ?_)
      refine opr_move (.inr rfl) (hK _ _ ?_)
      clear hK K
      refine wpList_end rfl ?_
      simp only [Act.put, List.setIfInBounds_toArray, List.set_cons_zero, List.set_cons_succ]
      go_simp
      obtain ⟨g2, h_g2⟩ : ∃ g_, w2.heap.size = g_ := ⟨_, rfl⟩
      rw [h_g2] at rr2
      simp only [h_g2]
      have HGg2 : Hid (g1 < g2 ∧ w.heap.size ≤ g2) := Lib.hid (by rw [← h_g2]; exact ⟨(k2.row Rg1.out).lt, (NewT.trans _ _ _ HM.out k2).out.size⟩)
      have q2 := NewT.trans _ _ _ k2 hn2
      have HS2 := Lib.hid (hs2.new hn2)
      clear hs2
      clear k2 hn2 h_g2
      replace Rg1 := Lib.hid (q2.row Rg1.out)
      replace HM := Lib.hid (NewT.trans _ _ _ HM.out q2)
      clear q2
      have Rg2 := Lib.hid rr2
      clear rr2
      replace HB := Lib.hid (NewT.trans _ _ _ HB.out HM.out)
      replace HM := Lib.hid (NewT.refl W2)
      go_upto_region 3 with fail
      refine wp_region_steps0 NewT [SV.eq (.agg (rowA 5 (bkF k1.ep s2))), SV.eq (.agg (rowA 109 (recF x (.slice none 0 0) (.slice none 0 0)))), svBkRB 0 (wentK 2 k1 x) (.bool false), svBkRB 0 (wentK 2 k1 x) (.bool false), svBkB (0) ((wentK 2 k1 x)), SV.eq (.bool false)] [([(2, none)], none), ([(1, none)], none), ([(20, some 0), (21, some 1)], none), ([(22, some 2)], none), ([(19, some 3)], none), ([(19, some 3)], none)] 97 6 rfl rfl (by kernel_rfl) NewT.trans (NewT.refl _) (Nat.le_of_ble_eq_true rfl) ⟨?_, ?_, ?_, ?_, ?_, ?_, trivial⟩ ?_
      · exact fun a wx hT hF K hK => rely_wp rfl (opr_ldK (hT.row Rg2.out) rfl hF.1 (hK _ _ (NewT.refl _) rfl))
      · exact fun a wx hT hF K hK => rely_wp rfl (opr_ldR (hT.row Rg1.out) rfl hF.1 (hK _ _ (NewT.refl _) rfl))
      · exact fun a wx hT hF K hK => rely_wp rfl (opr_cv (svBkRB_le (bGo_cv 0 _ _ k1 x 2 wx (⟨s2, rfl, HS2.out.new (NewT.trans _ _ _ HM.out hT)⟩) ((recV_nilB HX0.out.1 HX0.out.2)) HO1.out (Nat.zero_le _)) rfl (congrArg Value.bool HG2.out)) rfl Try.func24 (by kernel_rfl) (by kernel_rfl) (evs3 hF.1 hF.2.1 rfl) hK)
      · exact fun a wx hT hF K hK => rely_wp rfl (opr_move (.inl rfl) (hK _ _ (NewT.refl _) hF.1))
      · exact fun a wx hT hF K hK => rely_wp rfl (opr_extKB0 rfl hF.1 (fun u hu => hK u _ (NewT.refl _) hu))
      · exact fun a wx hT hF K hK => rely_wp rfl (opr_extKB1 rfl hF.1 (hK _ _ (NewT.refl _) rfl))
      · intro w3 k3
        iterate 2 (intro u h; obtain rfl := Eq.symm (h (by simp)); clear h)
        iterate 2 (intro _ _)
        intro u23 h; have g23 := h (by simp); clear h; replace g23 := show (svBkB (0) ((wentK 2 k1 x))).pred u23 w3 from g23
        intro u h; obtain rfl := Eq.symm (h (by simp)); clear h
        refine relyEnd_nil rfl ?_
        simp only [Act.put, List.setIfInBounds_toArray, List.set_cons_zero, List.set_cons_succ]
        obtain ⟨s4, rfl, hs4⟩ := (show BkVB w3 (0) u23 ((wentK 2 k1 x)) from g23)
        refine wpList_new (n := 5) (f := bkF ((wentK 2 k1 x)).ep s4) rfl rfl rfl rfl rfl rfl (by first | (simp; done) | simp [Act.put]) run_alloc_book info_book (bkF_one _ _ hs4.rd.one) rfl ?_
        intro W3 hn3 rr3
        simp only [Act.put, List.setIfInBounds_toArray, List.set_cons_zero, List.set_cons_succ]
        refine wpList_plain rfl (fun K hK => ?_)
        refine opr_move (.inr rfl) (hK _ _ ?_)
        clear hK K
        refine wpList_end rfl ?_
        simp only [Act.put, List.setIfInBounds_toArray, List.set_cons_zero, List.set_cons_succ]
        go_simp
        obtain ⟨g4, h_g4⟩ : ∃ g_, w3.heap.size = g_ := ⟨_, rfl⟩
        rw [h_g4] at rr3
        simp only [h_g4]
        have HGg4 : Hid (g1 < g4 ∧ g2 < g4 ∧ W2.heap.size ≤ g4) := Lib.hid (by rw [← h_g4]; exact ⟨(k3.row Rg1.out).lt, (k3.row Rg2.out).lt, (NewT.trans _ _ _ HM.out k3).out.size⟩)
        have q3 := NewT.trans _ _ _ k3 hn3
        have HS4 := Lib.hid (hs4.new hn3)
        clear hs4
        clear k3 hn3 h_g4
        replace Rg1 := Lib.hid (q3.row Rg1.out)
        replace Rg2 := Lib.hid (q3.row Rg2.out)
        replace HM := Lib.hid (NewT.trans _ _ _ HM.out q3)
        clear q3
        have Rg4 := Lib.hid rr3
        clear rr3
        replace HS2 := Lib.hid (HS2.out.new HM.out)
        replace HB := Lib.hid (NewT.trans _ _ _ HB.out HM.out)
        replace HM := Lib.hid (NewT.refl W3)
        go_upto_region 4 with fail
        refine wp_region_steps0 NewT [SV.eq (.agg (rowA 109 (recF x (.slice none 0 0) (.slice none 0 0)))), SV.eq ((.agg (rowA 2 (stepF (1, 1))))), svPairs [(1, 1)], svRec exB, SV.eq ((.agg (rowA 109 (recF exI (.slice none 0 0) (.slice none 0 0))))), SV.eq ((.agg (rowA 109 (recF exA (.slice none 0 0) (.slice none 0 0))))), SV.eq ((.agg (rowA 109 (recF exC (.slice none 0 0) (.slice none 0 0))))), svL 109 rcE l] [([(1, none)], none), ([], none), ([(26, some 1)], none), ([(27, some 2)], none), ([], none), ([], none), ([], none), ([(25, some 0), (28, some 3), (29, some 4), (30, some 5), (31, some 6)], none)] 97 8 rfl rfl (by kernel_rfl) NewT.trans (NewT.refl _) (Nat.le_of_ble_eq_true rfl) ⟨?_, ?_, ?_, ?_, ?_, ?_, ?_, ?_, trivial⟩ ?_
        · exact fun a wx hT hF K hK => rely_wp rfl (opr_ldR (hT.row Rg1.out) rfl hF.1 (hK _ _ (NewT.refl _) rfl))
        · intro a wx hT hF K hK
          refine rely_wp rfl ?_
          exact opr_build (pv := #[(0, .int .i64 1), (1, .int .i64 1)]) rfl (by simp only [List.map_toArray, List.map_cons, List.map_nil, eval_const]) (build_stp wx) (hK _ _ (NewT.refl _) rfl)
        · exact fun a wx hT hF K hK => rely_wp rfl (opr_bsS1 rfl hF.1 (fun v w' hN hv => hK v w' hN hv))
        · exact fun a wx hT hF K hK => rely_wp rfl (opr_bldB rfl hF.1 (fun v hv => hK v _ (NewT.refl _) hv))
        · intro a wx hT hF K hK
          refine rely_wp rfl ?_
          exact opr_build (pv := #[(0, .int .i64 2), (2, .int .i64 1), (4, .int .i64 1)]) rfl (by simp only [List.map_toArray, List.map_cons, List.map_nil, eval_const]) (build_exI wx) (hK _ _ (NewT.refl _) rfl)
        · intro a wx hT hF K hK
          refine rely_wp rfl ?_
          exact opr_build (pv := #[(0, .int .i64 3), (2, .int .i64 2), (4, .int .i64 1), (6, .bool true), (8, .int .i64 1), (9, .int .i64 1)]) rfl (by simp only [List.map_toArray, List.map_cons, List.map_nil, eval_const]) (build_exA wx) (hK _ _ (NewT.refl _) rfl)
        · intro a wx hT hF K hK
          refine rely_wp rfl ?_
          exact opr_build (pv := #[(0, .int .i64 5), (2, .int .i64 3), (7, .int .i64 2)]) rfl (by simp only [List.map_toArray, List.map_cons, List.map_nil, eval_const]) (build_exC wx) (hK _ _ (NewT.refl _) rfl)
        · intro a wx hT hF K hK
          obtain ⟨f25, f28, f29, f30, f31, _⟩ := hF
          have f25 : a.tmps.getD 25 undef = .agg (rowA 109 (recF x (.slice none 0 0) (.slice none 0 0))) := f25
          replace f28 := show (svRec exB).pred (a.tmps.getD 28 undef) wx from f28
          have f29 : a.tmps.getD 29 undef = (.agg (rowA 109 (recF exI (.slice none 0 0) (.slice none 0 0)))) := f29
          have f30 : a.tmps.getD 30 undef = (.agg (rowA 109 (recF exA (.slice none 0 0) (.slice none 0 0)))) := f30
          have f31 : a.tmps.getD 31 undef = (.agg (rowA 109 (recF exC (.slice none 0 0) (.slice none 0 0)))) := f31
          refine rely_wp rfl ?_
          exact opr_bsR5 rfl (by rw [eval_tmp, f25]; exact recV_nilB HX0.out.1 HX0.out.2) f28 (by rw [eval_tmp, f29]; exact recV_nilB rfl rfl) (by rw [eval_tmp, f30]; exact recV_nilB rfl rfl) (by rw [eval_tmp, f31]; exact recV_nilB rfl rfl) (fun v w' hN hv => hK v w' hN (show RdR w' v l from (HL5.out ▸ hv)))
        · intro w4 k4
          iterate 2 (intro u h; obtain rfl := Eq.symm (h (by simp)); clear h)
          iterate 2 (intro _ _)
          iterate 3 (intro u h; obtain rfl := Eq.symm (h (by simp)); clear h)
          intro u32 h; have g32 := h (by simp); clear h; replace g32 := show (svL 109 rcE l).pred u32 w4 from g32
          refine relyEnd_nil rfl ?_
          simp only [Act.put, List.setIfInBounds_toArray, List.set_cons_zero, List.set_cons_succ]
          refine wpList_plain rfl (fun K hK => ?_)
          refine opr_move (.inr rfl) (hK _ _ ?_)
          clear hK K
          refine wpList_end rfl ?_
          simp only [Act.put, List.setIfInBounds_toArray, List.set_cons_zero, List.set_cons_succ]
          go_simp
          replace Rg1 := Lib.hid (k4.row Rg1.out)
          replace Rg2 := Lib.hid (k4.row Rg2.out)
          replace Rg4 := Lib.hid (k4.row Rg4.out)
          replace HM := Lib.hid (NewT.trans _ _ _ HM.out k4)
          clear k4
          have HLV : Hid (RdR w4 u32 l) := Lib.hid g32
          replace HS2 := Lib.hid (HS2.out.new HM.out)
          replace HS4 := Lib.hid (HS4.out.new HM.out)
          replace HB := Lib.hid (NewT.trans _ _ _ HB.out HM.out)
          replace HM := Lib.hid (NewT.refl w4)
          go_upto_region 5 with fail
          refine wp_region_steps0 NewT [SV.eq (u32), svBkRB 0 ka (.int .i64 5), svBkRB 0 ka (.int .i64 5), svBkB (0) ka, SV.eq (.int .i64 (5))] [([(6, none)], none), ([(34, some 0)], none), ([(35, some 1)], none), ([(33, some 2)], none), ([(33, some 2)], none)] 97 5 rfl rfl (by kernel_rfl) NewT.trans (NewT.refl _) (Nat.le_of_ble_eq_true rfl) ⟨?_, ?_, ?_, ?_, ?_, trivial⟩ ?_
          · exact fun a wx hT hF K hK => rely_wp rfl (opr_move (.inl rfl) (hK _ _ (NewT.refl _) hF.1))
          · exact fun a wx hT hF K hK => rely_wp rfl (opr_cv (svBkRB_le (Of_cv _ l 2 wx ((HLV.out.new (NewT.trans _ _ _ HM.out hT))) (by have := HLE.out; omega)) HOA.out.1 (congrArg (fun n : Nat => Value.int .i64 (n : Int)) HNA.out.1)) rfl Try.func10 (by kernel_rfl) (by kernel_rfl) (evs2 hF.1 rfl) hK)
          · exact fun a wx hT hF K hK => rely_wp rfl (opr_move (.inl rfl) (hK _ _ (NewT.refl _) hF.1))
          · exact fun a wx hT hF K hK => rely_wp rfl (opr_extKB0 rfl hF.1 (fun u hu => hK u _ (NewT.refl _) hu))
          · exact fun a wx hT hF K hK => rely_wp rfl (opr_extKB1 rfl hF.1 (hK _ _ (NewT.refl _) rfl))
          · intro w5 k5
            intro u h; obtain rfl := Eq.symm (h (by simp)); clear h
            iterate 2 (intro _ _)
            intro u36 h; have g36 := h (by simp); clear h; replace g36 := show (svBkB (0) ka).pred u36 w5 from g36
            intro u h; obtain rfl := Eq.symm (h (by simp)); clear h
            refine relyEnd_nil rfl ?_
            simp only [Act.put, List.setIfInBounds_toArray, List.set_cons_zero, List.set_cons_succ]
            obtain ⟨s7, rfl, hs7⟩ := (show BkVB w5 (0) u36 ka from g36)
            refine wpList_new (n := 5) (f := bkF ka.ep s7) rfl rfl rfl rfl rfl rfl (by first | (simp; done) | simp [Act.put]) run_alloc_book info_book (bkF_one _ _ hs7.rd.one) rfl ?_
            intro W5 hn5 rr5
            simp only [Act.put, List.setIfInBounds_toArray, List.set_cons_zero, List.set_cons_succ]
            refine wpList_plain rfl (fun K hK => ?_)
            refine opr_move (.inr rfl) (hK _ _ ?_)
            clear hK K
            refine wpList_end rfl ?_
            simp only [Act.put, List.setIfInBounds_toArray, List.set_cons_zero, List.set_cons_succ]
            go_simp
            obtain ⟨g7, h_g7⟩ : ∃ g_, w5.heap.size = g_ := ⟨_, rfl⟩
            rw [h_g7] at rr5
            simp only [h_g7]
            have HGg7 : Hid (g1 < g7 ∧ g2 < g7 ∧ g4 < g7 ∧ w4.heap.size ≤ g7) := Lib.hid (by rw [← h_g7]; exact ⟨(k5.row Rg1.out).lt, (k5.row Rg2.out).lt, (k5.row Rg4.out).lt, (NewT.trans _ _ _ HM.out k5).out.size⟩)
            have q5 := NewT.trans _ _ _ k5 hn5
            have HS7 := Lib.hid (hs7.new hn5)
            clear hs7
            clear k5 hn5 h_g7
            replace Rg1 := Lib.hid (q5.row Rg1.out)
            replace Rg2 := Lib.hid (q5.row Rg2.out)
            replace Rg4 := Lib.hid (q5.row Rg4.out)
            replace HM := Lib.hid (NewT.trans _ _ _ HM.out q5)
            clear q5
            have Rg7 := Lib.hid rr5
            clear rr5
            replace HS2 := Lib.hid (HS2.out.new HM.out)
            replace HS4 := Lib.hid (HS4.out.new HM.out)
            replace HLV := Lib.hid (HLV.out.new HM.out)
            replace HB := Lib.hid (NewT.trans _ _ _ HB.out HM.out)
            replace HM := Lib.hid (NewT.refl W5)
            go_upto_region 6 with fail
            refine wp_region_steps0 NewT [SV.eq (.agg (rowA 5 (bkF ka.ep s7))), svL 2 lnE (repL ka.sg), svL 2 lnE (repL ka.sg)] [([(7, none)], none), ([(38, some 0)], none), ([(39, some 1)], none)] 97 3 rfl rfl (by kernel_rfl) NewT.trans (NewT.refl _) (Nat.le_of_ble_eq_true rfl) ⟨?_, ?_, ?_, trivial⟩ ?_
            · exact fun a wx hT hF K hK => rely_wp rfl (opr_ldK (hT.row Rg7.out) rfl hF.1 (hK _ _ (NewT.refl _) rfl))
            · exact fun a wx hT hF K hK => rely_wp rfl (opr_cv (Report_cv _ ka wx ((show BkVB wx _ _ ka from ⟨s7, rfl, HS7.out.new (NewT.trans _ _ _ HM.out hT)⟩).rd) ((by have := HLE.out; omega))) rfl Try.func11 (by kernel_rfl) (by kernel_rfl) (evs1 hF.1) hK)
            · exact fun a wx hT hF K hK => rely_wp rfl (opr_move (.inr rfl) (hK _ _ (NewT.refl _) hF.1))
            · intro w6 k6
              intro u h; obtain rfl := Eq.symm (h (by simp)); clear h
              intro _ _
              intro u9 h; have g9 := h (by simp); clear h; replace g9 := show (svL 2 lnE (repL ka.sg)).pred u9 w6 from g9
              refine relyEnd_nil rfl ?_
              refine wpList_end rfl ?_
              simp only [Act.put, List.setIfInBounds_toArray, List.set_cons_zero, List.set_cons_succ]
              go_simp
              replace Rg1 := Lib.hid (k6.row Rg1.out)
              replace Rg2 := Lib.hid (k6.row Rg2.out)
              replace Rg4 := Lib.hid (k6.row Rg4.out)
              replace Rg7 := Lib.hid (k6.row Rg7.out)
              replace HM := Lib.hid (NewT.trans _ _ _ HM.out k6)
              clear k6
              have HRV : Hid (RdN w6 u9 (repL ka.sg)) := Lib.hid g9
              replace HS2 := Lib.hid (HS2.out.new HM.out)
              replace HS4 := Lib.hid (HS4.out.new HM.out)
              replace HLV := Lib.hid (HLV.out.new HM.out)
              replace HS7 := Lib.hid (HS7.out.new HM.out)
              replace HB := Lib.hid (NewT.trans _ _ _ HB.out HM.out)
              replace HM := Lib.hid (NewT.refl w6)
              go_upto_region 7 with fail
              refine wp_region_steps0 NewT [SV.eq (u32), svL 109 rcE (List.drop 1 l), svBkRB 0 kb (.int .i64 2), svBkRB 0 kb (.int .i64 2), svBkB (0) kb, SV.eq (.int .i64 (2))] [([(6, none)], none), ([(41, some 0)], none), ([(42, some 1)], none), ([(43, some 2)], none), ([(40, some 3)], none), ([(40, some 3)], none)] 97 6 rfl rfl (by kernel_rfl) NewT.trans (NewT.refl _) (Nat.le_of_ble_eq_true rfl) ⟨?_, ?_, ?_, ?_, ?_, ?_, trivial⟩ ?_
              · exact fun a wx hT hF K hK => rely_wp rfl (opr_move (.inl rfl) (hK _ _ (NewT.refl _) hF.1))
              · intro a wx hT hF K hK
                obtain ⟨f41, _⟩ := hF
                have f41 : a.tmps.getD 41 undef = u32 := f41
                refine rely_wp rfl ?_
                exact opr_fromL (k := 1) recEl (by have := HLE.out; omega) (rfl) rfl (by rw [eval_tmp, f41]; exact (HLV.out.new (NewT.trans _ _ _ HM.out hT))) rfl (fun v hv => hK v _ (NewT.refl _) hv)
              · exact fun a wx hT hF K hK => rely_wp rfl (opr_cv (svBkRB_le (Of_cv _ (l.drop 1) 2 wx (hF.1) (by have := HLE.out; rw [List.length_drop]; omega)) HOA.out.2 (congrArg (fun n : Nat => Value.int .i64 (n : Int)) HNA.out.2)) rfl Try.func10 (by kernel_rfl) (by kernel_rfl) (evs2 rfl rfl) hK)
              · exact fun a wx hT hF K hK => rely_wp rfl (opr_move (.inl rfl) (hK _ _ (NewT.refl _) hF.1))
              · exact fun a wx hT hF K hK => rely_wp rfl (opr_extKB0 rfl hF.1 (fun u hu => hK u _ (NewT.refl _) hu))
              · exact fun a wx hT hF K hK => rely_wp rfl (opr_extKB1 rfl hF.1 (hK _ _ (NewT.refl _) rfl))
              · intro w7 k7
                intro u h; obtain rfl := Eq.symm (h (by simp)); clear h
                iterate 3 (intro _ _)
                intro u44 h; have g44 := h (by simp); clear h; replace g44 := show (svBkB (0) kb).pred u44 w7 from g44
                intro u h; obtain rfl := Eq.symm (h (by simp)); clear h
                refine relyEnd_nil rfl ?_
                simp only [Act.put, List.setIfInBounds_toArray, List.set_cons_zero, List.set_cons_succ]
                obtain ⟨s10, rfl, hs10⟩ := (show BkVB w7 (0) u44 kb from g44)
                refine wpList_new (n := 5) (f := bkF kb.ep s10) rfl rfl rfl rfl rfl rfl (by first | (simp; done) | simp [Act.put]) run_alloc_book info_book (bkF_one _ _ hs10.rd.one) rfl ?_
                intro W7 hn7 rr7
                simp only [Act.put, List.setIfInBounds_toArray, List.set_cons_zero, List.set_cons_succ]
                refine wpList_plain rfl (fun K hK => ?_)
                refine opr_move (.inr rfl) (hK _ _ ?_)
                clear hK K
                refine wpList_end rfl ?_
                simp only [Act.put, List.setIfInBounds_toArray, List.set_cons_zero, List.set_cons_succ]
                go_simp
                obtain ⟨g10, h_g10⟩ : ∃ g_, w7.heap.size = g_ := ⟨_, rfl⟩
                rw [h_g10] at rr7
                simp only [h_g10]
                have HGg10 : Hid (g1 < g10 ∧ g2 < g10 ∧ g4 < g10 ∧ g7 < g10 ∧ w6.heap.size ≤ g10) := Lib.hid (by rw [← h_g10]; exact ⟨(k7.row Rg1.out).lt, (k7.row Rg2.out).lt, (k7.row Rg4.out).lt, (k7.row Rg7.out).lt, (NewT.trans _ _ _ HM.out k7).out.size⟩)
                have q7 := NewT.trans _ _ _ k7 hn7
                have HS10 := Lib.hid (hs10.new hn7)
                clear hs10
                clear k7 hn7 h_g10
                replace Rg1 := Lib.hid (q7.row Rg1.out)
                replace Rg2 := Lib.hid (q7.row Rg2.out)
                replace Rg4 := Lib.hid (q7.row Rg4.out)
                replace Rg7 := Lib.hid (q7.row Rg7.out)
                replace HM := Lib.hid (NewT.trans _ _ _ HM.out q7)
                clear q7
                have Rg10 := Lib.hid rr7
                clear rr7
                replace HS2 := Lib.hid (HS2.out.new HM.out)
                replace HS4 := Lib.hid (HS4.out.new HM.out)
                replace HLV := Lib.hid (HLV.out.new HM.out)
                replace HS7 := Lib.hid (HS7.out.new HM.out)
                replace HRV := Lib.hid (HRV.out.new HM.out)
                replace HB := Lib.hid (NewT.trans _ _ _ HB.out HM.out)
                replace HM := Lib.hid (NewT.refl W7)
                go_upto_region 8 with fail
                refine wp_region_steps0 NewT [SV.eq (.bool true), SV.eq (.bool true), SV.eq (.bool false), SV.eq (.bool true), SV.eq (.bool true), SV.eq (.bool true), SV.eq (.int .i64 (5)), SV.eq (.bool true), SV.eq (.bool true), SV.eq (.bool true), SV.eq (.int .i64 (2)), SV.eq (.bool true), SV.eq (.bool true), SV.eq (.bool true), SV.eq (u9), SV.eq (.int .i64 ((List.length (repL ka.sg) : Int))), SV.eq (.bool true), SV.eq (.bool true), SV.eq (.bool true), SV.eq (u9), svEl 2 lnE (((2 : Int), (0 : Int))), svIp ((((2 : Int), (0 : Int))).1), SV.eq (.int .i64 ((((2 : Int), (0 : Int))).1)), SV.eq (.bool true), SV.eq (.bool true), SV.eq (.bool true), SV.eq (u9), SV.eq (.bool true), SV.eq (.bool true), SV.eq (.bool true), SV.eq (.agg (rowA 5 (bkF ka.ep s7))), SV.eq (.agg (rowA 5 (bkF ka.ep s7))), SV.eq (.bool true), SV.eq (.bool true), SV.eq (.bool true), SV.eq (.agg (rowA 5 (bkF k1.ep s2))), SV.eq (.agg (rowA 5 (bkF ka.ep s7))), SV.eq (.bool false), SV.eq (.bool true), SV.eq (.bool true), SV.eq (.bool true), SV.eq (u9), SV.eq (u9), SV.eq (.bool true), SV.eq (.bool true), SV.eq (.bool true), SV.eq (u32), svL 109 rcE (onlyL l 0), SV.eq (.int .i64 ((List.length (onlyL l 0) : Int))), SV.eq (.bool true), SV.eq (.bool true)] [([(3, none)], none), ([(46, some 0)], none), ([(5, none), (47, some 1)], some (47, true)), ([(48, some 2), (47, some 1)], some (47, true)), ([(47, some 1), (49, some 3)], none), ([(50, some 4)], none), ([(8, none), (51, some 5)], some (51, true)), ([(52, some 6), (51, some 5)], some (51, true)), ([(51, some 5), (53, some 7)], none), ([(54, some 8)], none), ([(11, none), (55, some 9)], some (55, true)), ([(56, some 10), (55, some 9)], some (55, true)), ([(55, some 9), (57, some 11)], none), ([(58, some 12)], none), ([(9, none), (59, some 13)], some (59, true)), ([(60, some 14), (59, some 13)], some (59, true)), ([(61, some 15), (59, some 13)], some (59, true)), ([(59, some 13), (62, some 16)], none), ([(63, some 17)], none), ([(9, none), (64, some 18)], some (64, true)), ([(65, some 19), (64, some 18)], some (64, true)), ([(66, some 20), (64, some 18)], some (64, true)), ([(67, some 21), (64, some 18)], some (64, true)), ([(68, some 22), (64, some 18)], some (64, true)), ([(64, some 18), (69, some 23)], none), ([(70, some 24)], none), ([(9, none), (71, some 25)], some (71, true)), ([(72, some 26), (71, some 25)], some (71, true)), ([(71, some 25), (73, some 27)], none), ([(74, some 28)], none), ([(7, none), (75, some 29)], some (75, true)), ([(7, none), (75, some 29)], some (75, true)), ([(76, some 30), (77, some 31), (75, some 29)], some (75, true)), ([(75, some 29), (78, some 32)], none), ([(79, some 33)], none), ([(2, none), (80, some 34)], some (80, true)), ([(7, none), (80, some 34)], some (80, true)), ([(81, some 35), (82, some 36), (80, some 34)], some (80, true)), ([(83, some 37), (80, some 34)], some (80, true)), ([(80, some 34), (84, some 38)], none), ([(85, some 39)], none), ([(9, none), (86, some 40)], some (86, true)), ([(9, none), (86, some 40)], some (86, true)), ([(87, some 41), (88, some 42), (86, some 40)], some (86, true)), ([(86, some 40), (89, some 43)], none), ([(90, some 44)], none), ([(6, none), (91, some 45)], some (91, true)), ([(92, some 46), (91, some 45)], some (91, true)), ([(93, some 47), (91, some 45)], some (91, true)), ([(94, some 48), (91, some 45)], some (91, true)), ([(91, some 45), (95, some 49)], none)] 97 51 rfl rfl (by kernel_rfl) NewT.trans (NewT.refl _) (Nat.le_of_ble_eq_true rfl) ⟨?_, ?_, ?_, ?_, ?_, ?_, ?_, ?_, ?_, ?_, ?_, ?_, ?_, ?_, ?_, ?_, ?_, ?_, ?_, ?_, ?_, ?_, ?_, ?_, ?_, ?_, ?_, ?_, ?_, ?_, ?_, ?_, ?_, ?_, ?_, ?_, ?_, ?_, ?_, ?_, ?_, ?_, ?_, ?_, ?_, ?_, ?_, ?_, ?_, ?_, ?_, trivial⟩ ?_
                · exact fun a wx hT hF K hK => rely_wp rfl (opr_move (.inl rfl) (hK _ _ (NewT.refl _) hF.1))
                · exact fun a wx hT hF K hK => rely_wp rfl (opr_move (.inl rfl) (hK _ _ (NewT.refl _) hF.1))
                · exact fun a wx hT hF K hK => rely_wp (rely_guard hF.2.1) (opr_move (.inl rfl) (hK _ _ (NewT.refl _) hF.1))
                · exact fun a wx hT hF K hK => rely_wp (rely_guard hF.2.1) (opr_not rfl hF.1 (hK _ _ (NewT.refl _) rfl))
                · exact fun a wx hT hF K hK => rely_wp rfl (opr_pick_true rfl hF.1 (hK _ _ (NewT.refl _) hF.2.1))
                · exact fun a wx hT hF K hK => rely_wp rfl (opr_move (.inl rfl) (hK _ _ (NewT.refl _) hF.1))
                · exact fun a wx hT hF K hK => rely_wp (rely_guard hF.2.1) (opr_move (.inl rfl) (hK _ _ (NewT.refl _) hF.1))
                · exact fun a wx hT hF K hK => rely_wp (rely_guard hF.2.1) (opr_cmp (b := true) (.inl ⟨rfl, (by decide)⟩) Try.underlying3 rfl hF.1 rfl (hK _ _ (NewT.refl _) rfl))
                · exact fun a wx hT hF K hK => rely_wp rfl (opr_pick_true rfl hF.1 (hK _ _ (NewT.refl _) hF.2.1))
                · exact fun a wx hT hF K hK => rely_wp rfl (opr_move (.inl rfl) (hK _ _ (NewT.refl _) hF.1))
                · exact fun a wx hT hF K hK => rely_wp (rely_guard hF.2.1) (opr_move (.inl rfl) (hK _ _ (NewT.refl _) hF.1))
                · exact fun a wx hT hF K hK => rely_wp (rely_guard hF.2.1) (opr_cmp (b := true) (.inl ⟨rfl, (by decide)⟩) Try.underlying3 rfl hF.1 rfl (hK _ _ (NewT.refl _) rfl))
                · exact fun a wx hT hF K hK => rely_wp rfl (opr_pick_true rfl hF.1 (hK _ _ (NewT.refl _) hF.2.1))
                · exact fun a wx hT hF K hK => rely_wp rfl (opr_move (.inl rfl) (hK _ _ (NewT.refl _) hF.1))
                · exact fun a wx hT hF K hK => rely_wp (rely_guard hF.2.1) (opr_move (.inl rfl) (hK _ _ (NewT.refl _) hF.1))
                · intro a wx hT hF K hK
                  obtain ⟨f60, f59, _⟩ := hF
                  have f60 : a.tmps.getD 60 undef = u9 := f60
                  have f59 : a.tmps.getD 59 undef = .bool true := f59
                  refine rely_wp (rely_guard f59) ?_
                  exact opr_lenL rfl lineEl (by rw [eval_tmp, f60]; exact (HRV.out.new (NewT.trans _ _ _ HM.out hT))) (hK _ _ (NewT.refl _) rfl)
                · exact fun a wx hT hF K hK => rely_wp (rely_guard hF.2.1) (opr_cmp (b := true) (.inl ⟨rfl, (by rw [HRP.out]; rfl)⟩) Try.underlying3 rfl hF.1 rfl (hK _ _ (NewT.refl _) rfl))
                · exact fun a wx hT hF K hK => rely_wp rfl (opr_pick_true rfl hF.1 (hK _ _ (NewT.refl _) hF.2.1))
                · exact fun a wx hT hF K hK => rely_wp rfl (opr_move (.inl rfl) (hK _ _ (NewT.refl _) hF.1))
                · exact fun a wx hT hF K hK => rely_wp (rely_guard hF.2.1) (opr_move (.inl rfl) (hK _ _ (NewT.refl _) hF.1))
                · intro a wx hT hF K hK
                  obtain ⟨f65, f64, _⟩ := hF
                  have f65 : a.tmps.getD 65 undef = u9 := f65
                  have f64 : a.tmps.getD 64 undef = .bool true := f64
                  refine rely_wp (rely_guard f64) ?_
                  exact opr_idxL (i := 0) (p := ((2 : Int), (0 : Int))) lineEl (show (repL ka.sg)[0]? = some (2, 0) by rw [HRP.out]; rfl) (rfl) rfl (by rw [eval_tmp, f65]; exact (HRV.out.new (NewT.trans _ _ _ HM.out hT))) rfl (fun v hv => hK v _ (NewT.refl _) hv)
                · exact fun a wx hT hF K hK => rely_wp (rely_guard hF.2.1) (opr_fldNe0 rfl hF.1 (fun u hu => hK u _ (NewT.refl _) hu))
                · exact fun a wx hT hF K hK => rely_wp (rely_guard hF.2.1) (opr_ldIp rfl hF.1 (hK _ _ (NewT.refl _) rfl))
                · exact fun a wx hT hF K hK => rely_wp (rely_guard hF.2.1) (opr_cmp (b := true) (.inl ⟨rfl, (by rfl)⟩) Try.underlying3 rfl hF.1 rfl (hK _ _ (NewT.refl _) rfl))
                · exact fun a wx hT hF K hK => rely_wp rfl (opr_pick_true rfl hF.1 (hK _ _ (NewT.refl _) hF.2.1))
                · exact fun a wx hT hF K hK => rely_wp rfl (opr_move (.inl rfl) (hK _ _ (NewT.refl _) hF.1))
                · exact fun a wx hT hF K hK => rely_wp (rely_guard hF.2.1) (opr_move (.inl rfl) (hK _ _ (NewT.refl _) hF.1))
                · exact fun a wx hT hF K hK => rely_wp (rely_guard hF.2.1) (opr_cv ((show cleanL (repL ka.sg) = true by rw [HRP.out]; rfl) ▸ Clean_cv _ (repL ka.sg) wx ((HRV.out.new (NewT.trans _ _ _ HM.out hT))) (by rw [HRP.out]; simp)) rfl Try.func14 (by kernel_rfl) (by kernel_rfl) (evs1 hF.1) hK)
                · exact fun a wx hT hF K hK => rely_wp rfl (opr_pick_true rfl hF.1 (hK _ _ (NewT.refl _) hF.2.1))
                · exact fun a wx hT hF K hK => rely_wp rfl (opr_move (.inl rfl) (hK _ _ (NewT.refl _) hF.1))
                · exact fun a wx hT hF K hK => rely_wp (rely_guard hF.2.1) (opr_ldK (hT.row Rg7.out) rfl hF.1 (hK _ _ (NewT.refl _) rfl))
                · exact fun a wx hT hF K hK => rely_wp (rely_guard hF.2.1) (opr_ldK (hT.row Rg7.out) rfl hF.1 (hK _ _ (NewT.refl _) rfl))
                · exact fun a wx hT hF K hK => rely_wp (rely_guard hF.2.2.1) (opr_cv (HSM.out.1 ▸ bSame_cv _ _ ka ka wx (BkVB.rd ⟨s7, rfl, HS7.out.new (NewT.trans _ _ _ HM.out hT)⟩) (BkVB.rd ⟨s7, rfl, HS7.out.new (NewT.trans _ _ _ HM.out hT)⟩) (by have := HLE.out; omega)) rfl Try.func15 (by kernel_rfl) (by kernel_rfl) (evs2 hF.1 hF.2.1) hK)
                · exact fun a wx hT hF K hK => rely_wp rfl (opr_pick_true rfl hF.1 (hK _ _ (NewT.refl _) hF.2.1))
                · exact fun a wx hT hF K hK => rely_wp rfl (opr_move (.inl rfl) (hK _ _ (NewT.refl _) hF.1))
                · exact fun a wx hT hF K hK => rely_wp (rely_guard hF.2.1) (opr_ldK (hT.row Rg2.out) rfl hF.1 (hK _ _ (NewT.refl _) rfl))
                · exact fun a wx hT hF K hK => rely_wp (rely_guard hF.2.1) (opr_ldK (hT.row Rg7.out) rfl hF.1 (hK _ _ (NewT.refl _) rfl))
                · exact fun a wx hT hF K hK => rely_wp (rely_guard hF.2.2.1) (opr_cv (HSM.out.2 ▸ bSame_cv _ _ k1 ka wx (BkVB.rd ⟨s2, rfl, HS2.out.new (NewT.trans _ _ _ HM.out hT)⟩) (BkVB.rd ⟨s7, rfl, HS7.out.new (NewT.trans _ _ _ HM.out hT)⟩) (by have := HLE.out; omega)) rfl Try.func15 (by kernel_rfl) (by kernel_rfl) (evs2 hF.1 hF.2.1) hK)
                · exact fun a wx hT hF K hK => rely_wp (rely_guard hF.2.1) (opr_not rfl hF.1 (hK _ _ (NewT.refl _) rfl))
                · exact fun a wx hT hF K hK => rely_wp rfl (opr_pick_true rfl hF.1 (hK _ _ (NewT.refl _) hF.2.1))
                · exact fun a wx hT hF K hK => rely_wp rfl (opr_move (.inl rfl) (hK _ _ (NewT.refl _) hF.1))
                · exact fun a wx hT hF K hK => rely_wp (rely_guard hF.2.1) (opr_move (.inl rfl) (hK _ _ (NewT.refl _) hF.1))
                · exact fun a wx hT hF K hK => rely_wp (rely_guard hF.2.1) (opr_move (.inl rfl) (hK _ _ (NewT.refl _) hF.1))
                · exact fun a wx hT hF K hK => rely_wp (rely_guard hF.2.2.1) (opr_cv ((sameLs_self (d := (0, 0)) (e := eqN) (repL ka.sg) (fun p => by simp [eqN])) ▸ bLines_cv _ _ (repL ka.sg) (repL ka.sg) wx ((HRV.out.new (NewT.trans _ _ _ HM.out hT))) ((HRV.out.new (NewT.trans _ _ _ HM.out hT))) (by rw [HRP.out]; simp)) rfl Try.func17 (by kernel_rfl) (by kernel_rfl) (evs2 hF.1 hF.2.1) hK)
                · exact fun a wx hT hF K hK => rely_wp rfl (opr_pick_true rfl hF.1 (hK _ _ (NewT.refl _) hF.2.1))
                · exact fun a wx hT hF K hK => rely_wp rfl (opr_move (.inl rfl) (hK _ _ (NewT.refl _) hF.1))
                · exact fun a wx hT hF K hK => rely_wp (rely_guard hF.2.1) (opr_move (.inl rfl) (hK _ _ (NewT.refl _) hF.1))
                · exact fun a wx hT hF K hK => rely_wp (rely_guard hF.2.1) (opr_cv (Only_cv _ l 0 wx ((HLV.out.new (NewT.trans _ _ _ HM.out hT))) (by have := HLE.out; omega) (HLG.out)) rfl Try.func19 (by kernel_rfl) (by kernel_rfl) (evs2 hF.1 rfl) hK)
                · exact fun a wx hT hF K hK => rely_wp (rely_guard hF.2.1) (opr_lenL rfl recEl hF.1 (hK _ _ (NewT.refl _) rfl))
                · exact fun a wx hT hF K hK => rely_wp (rely_guard hF.2.1) (opr_cmp (b := true) (.inl ⟨rfl, (by rw [HON.out]; rfl)⟩) Try.underlying3 rfl hF.1 rfl (hK _ _ (NewT.refl _) rfl))
                · exact fun a wx hT hF K hK => rely_wp rfl (opr_pick_true rfl hF.1 (hK _ _ (NewT.refl _) hF.2.1))
                · intro w8 k8
                  iterate 20 (intro u h; obtain rfl := Eq.symm (h (by simp)); clear h)
                  iterate 2 (intro _ _)
                  iterate 25 (intro u h; obtain rfl := Eq.symm (h (by simp)); clear h)
                  intro _ _
                  iterate 3 (intro u h; obtain rfl := Eq.symm (h (by simp)); clear h)
                  refine relyEnd_nil rfl ?_
                  simp only [Act.put, List.setIfInBounds_toArray, List.set_cons_zero, List.set_cons_succ]
                  refine wpList_plain rfl (fun K hK => ?_)
                  refine opr_move (.inr rfl) (hK _ _ ?_)
                  clear hK K
                  refine wpList_end rfl ?_
                  simp only [Act.put, List.setIfInBounds_toArray, List.set_cons_zero, List.set_cons_succ]
                  go_simp
                  replace Rg1 := Lib.hid (k8.row Rg1.out)
                  replace Rg2 := Lib.hid (k8.row Rg2.out)
                  replace Rg4 := Lib.hid (k8.row Rg4.out)
                  replace Rg7 := Lib.hid (k8.row Rg7.out)
                  replace Rg10 := Lib.hid (k8.row Rg10.out)
                  replace HM := Lib.hid (NewT.trans _ _ _ HM.out k8)
                  clear k8
                  go_wp2
                  go_ret
                  exact ⟨_, rfl, NewT.trans _ _ _ HB.out HM.out, rfl⟩
end Go.Proofs.Ytilmeffmdgcblaa
/- Drawn regions that keep a book in a variable of their own; elements read in an elder world; what the laws on books share. -/
namespace Go.Proofs.Ytilmeffmdgcblaa
open Go Go.RowKit
set_option maxRecDepth 8000
set_option linter.all false
def MayAll (L : List Ug) : Prop := ∀ p ∈ L, mayL p.1 = true
/-- Memory that was there in W stays, and books that are known to be. -/
structure BelM (W w w' : World) : Prop where
  below : BelT W w w'
  keep : ∀ v K, MayAll K.sg → BkV w v K → BkV w' v K
theorem BelM.trans (W : World) (a b c : World) (h : BelM W a b) (k : BelM W b c) : BelM W a c := ⟨BelT.trans W a b c h.below k.below, fun v K hm hb => k.keep v K hm (h.keep v K hm hb)⟩
theorem BelM.new {W w w' : World} (hW : NewT W w) (hN : NewT w w') : BelM W w w' := ⟨BelT.new hW hN, fun _ _ _ hb => hb.new hN⟩
theorem BelM.drew (W w : World) : BelM W w w.drew := ⟨BelT.drew W w, fun _ _ _ hb => hb.new (NewT.drew w)⟩
theorem row_end {w : World} {g t n : Nat} {F : Nat → Value} (h : w.rowIs g t n F) {i : Nat} (hi : n ≤ i) : w.cell? ⟨g, i, none⟩ = none := by
  obtain ⟨cur, hg, hs, _⟩ := h
  simp [World.cell?, hg, hs, hi]
theorem BelM.store {W w w' : World} {g : Nat} (hg : W.heap.size ≤ g) (hr : w.rowIs g 28 5 (bkF zK.ep (.slice none 0 0))) (hT : RT g w w') : BelM W w w' := by
  refine ⟨BelT.rt hg hT, fun v K hm hb => ?_⟩
  obtain ⟨sv, hv, fs, hE, hl, hels⟩ := hb
  refine ⟨sv, hv, fs, ?_, hl, fun i p hp => ?_⟩
  · obtain ⟨A, c, h0, h1, h2, h3⟩ := hE
    refine ⟨A, c, h0, h1, h2, fun h4 => ?_⟩
    obtain ⟨b, o, hA, hc⟩ := h3 h4
    have hb : b ≠ g := fun e => by
      subst e
      have := hc 0 fs[0] (List.getElem?_eq_getElem h4) 5 (by omega)
      rw [row_end hr (by omega)] at this
      cases this
    exact ⟨b, o, hA, fun i d hd j hj => hT.keep.cell (a := ⟨b, o + i * 10 + j, none⟩) (by simpa using hb) (hc i d hd j hj)⟩
  · obtain ⟨f, e1, tv, e2, A, c, h0, h1, h2, h3⟩ := hels i p hp
    refine ⟨f, e1, tv, e2, A, c, h0, h1, h2, fun h4 => ?_⟩
    obtain ⟨b, o, hA, hc⟩ := h3 h4
    have hk := (may_step (hm p (List.mem_of_getElem? hp)) h4).2.1
    have hb : b ≠ g := fun e => by
      subst e
      have h5 := (hc 0 h4).2
      have hlt : o + 2 * 0 + 1 < 5 := by
        by_cases hx : o + 2 * 0 + 1 < 5
        · exact hx
        · rw [row_end hr (by omega)] at h5; cases h5
      rw [hr.cell hlt] at h5
      unfold bkF at h5
      split at h5
      · injection h5 with h5
        injection h5 with _ h6
        have h7 : (0 : Int) = kdL p.1 0 := h6
        omega
      · cases h5
    exact ⟨b, o, hA, fun i hi => ⟨hT.keep.cell (a := ⟨b, o + 2 * i, none⟩) (by simpa using hb) (hc i hi).1, hT.keep.cell (a := ⟨b, o + 2 * i + 1, none⟩) (by simpa using hb) (hc i hi).2⟩⟩
/-- What is known in an elder world. -/
def svAt {T : World → World → Prop} (W : World) (c : SV NewT) : SV T := ⟨fun v _ => c.pred v W, fun _ _ _ h _ => h⟩
section
variable {α : Type} {n : Nat} {E : World → (Nat → Value) → α → Prop} {P : Program} {sT eT : TypeId} {a : Act} {w W : World} {o : Oper} {K : Act → World → Prop} {Q : Exit → Act → World → Prop} {x y : Operand} [StbE E]
/-- An element's place, in an elder world. -/
theorem opr_idxLW {L : List α} {i : Nat} {m : Int} {p : α} (T : ElTy P sT eT n) (hd : L[i]? = some p) (hn : m = (i : Int)) (ho : o.op = .indexAddr sT x y) (hx : RdL n E W (a.eval x) L) (hy : a.eval y = .int .i64 m) (h : ∀ v, (svEl n E p).pred v W → K (a.put o.dst v) w) : o.wp P a w K Q := by
  subst hn
  obtain ⟨dst, op, type, pos, after, guard⟩ := o
  simp only at ho
  subst ho
  obtain ⟨fs, ⟨A, c, hv, _, _, h3⟩, e, h4⟩ := hx
  have hi : i < fs.length := by rw [e]; exact (List.getElem?_eq_some_iff.1 hd).1
  obtain ⟨f, hf, hE⟩ := h4 i p hd
  obtain ⟨b, off, rfl, hc⟩ := h3 (by omega)
  exact opr_val (s := Instr.indexAt sT (a.eval x) (a.eval y)) rfl (by rw [hv, hy]; exact run_idxE T w hi) (h _ ⟨b, off + i * n, f, rfl, fun _ j hj => hc i f hf j hj, hE⟩)
theorem opr_ldRcW {p : Rc} (hN : NewT W w) (ho : o.op = .load 46 x) (hx : (svEl 109 rcE p).pred (a.eval x) W) (h : ∀ v, RecV W v p → K (a.put o.dst v) w) : o.wp Try.prog a w K Q := by
  obtain ⟨dst, op, type, pos, after, guard⟩ := o
  simp only at ho
  subst ho
  obtain ⟨b, off, f, hv, hc, sv, dv, hf, h2, h3⟩ := hx
  exact opr_val (s := Instr.loadAt 46 (a.eval x)) rfl (by rw [hv]; exact run_ldE recEl (fun j hj => (hN.out.cell (p := ⟨b, off + j, none⟩) (World.block_lt_of_cell? _ _ (hc (by omega) j hj))).trans (hc (by omega) j hj))) (h _ ⟨sv, dv, by rw [hf], h2, h3⟩)
end
/-- No record goes twice. -/
theorem once {lim : Int} {l : List Rc} {x : Rc} {m : Nat} (hn : nOf lim zK l = m + 1) (hx : l[m]? = some x) : goesK lim (bkOf lim l) x = false := by
  have hlt : m < nOf lim zK l := by omega
  have hg := nOf_goes lim l zK m x hx hlt
  have hm : nOf lim zK (l.take m) = m := nOf_take lim l zK m (by omega)
  have hG := good_up (lim := lim) (l := l) m hm (by have := (List.getElem?_eq_some_iff.1 hx).1; omega)
  have hb : bkOf lim l = wentK lim (upK lim zK (l.take m)) x := by unfold bkOf; rw [hn, upK_succ hx]
  rw [hb]
  generalize upK lim zK (l.take m) = K at hg hG
  obtain ⟨hl, hr, hw⟩ := goes_lim hg
  have hw1 := went_goes hg
  cases h2 : goesK lim (wentK lim K x) x with
  | false => rfl
  | true =>
    exfalso
    obtain ⟨_, _, hw2⟩ := goes_lim h2
    rcases way_cases hr hw with ⟨a1, a2, a3, e⟩ | ⟨a1, a2, e⟩ | ⟨a1, k, p, a2, a3, a4, e⟩
    · rcases way_cases hr hw2 with ⟨b1, b2, b3, _⟩ | ⟨b1, _⟩ | ⟨b1, _⟩
      · rw [hw1, e] at b2; simp at b2; omega
      · omega
      · omega
    · rcases way_cases hr hw2 with ⟨b1, _⟩ | ⟨b1, b2, _⟩ | ⟨b1, _⟩
      · omega
      · rw [hw1, e] at b2
        have : (rotK K x).ep x.part.toNat = x.epoch := by show (if x.part.toNat = x.part.toNat then x.epoch else _) = _; rw [if_pos rfl]
        omega
      · omega
    · rcases way_cases hr hw2 with ⟨b1, _⟩ | ⟨b1, _⟩ | ⟨b1, k', p', b2, b3, b4, _⟩
      · omega
      · omega
      · have hk : k' = k := by omega
        subst hk
        rw [hw1, e] at b3
        have hlt2 := (List.getElem?_eq_some_iff.1 a3).1
        rw [List.getElem?_set_self hlt2] at b3
        cases b3
        have sq1 : x.seq = p.2.sq := by
          unfold goesB at a4
          simp only [Bool.not_eq_true', Bool.or_eq_false_iff, bne_eq_false_iff_eq] at a4
          exact a4.1.2
        have sq2 : x.seq = (wentG p.1 lim p.2 x).sq := by
          unfold goesB at b4
          simp only [Bool.not_eq_true', Bool.or_eq_false_iff, bne_eq_false_iff_eq] at b4
          exact b4.1.2
        obtain ⟨hm1, s, q, e2, hi, _⟩ := hG.sg p (List.mem_of_getElem? a3)
        have hlt3 : lim = (lim.toNat : Int) := by omega
        rw [hlt3, e2] at a4
        obtain ⟨s', e3, _⟩ := goes_st hm1 hi (by omega) (by omega) (right_good hr) a4
        rw [← hlt3] at e3
        rw [e2, e3] at sq2
        rw [e2] at sq1
        have h1 : x.seq = (q : Int) := sq1
        have h2 : x.seq = (q : Int) + 1 := sq2
        omega
end Go.Proofs.Ytilmeffmdgcblaa
/- The reference's sets, asked by halving and put to; what is missing of a saga, by the reference: the same, of one that went by records from its beginning. -/
namespace Go.Proofs.Ytilmeffmdgcblaa
open Go Go.RowKit
set_option maxRecDepth 8000
set_option linter.all false
def hasI (x i : Int) : Bool := hasN x.toNat i.toNat
theorem opr_half {a : Act} {w : World} {o : Oper} {K : Act → World → Prop} {Q : Exit → Act → World → Prop} {x : Operand} {t t2 : TypeId} {m : Nat} (ht : Try.prog.underlying t = some (.int .i64)) (hm : m ≤ 1000000) (ho : o.op = .binOp .quo t x (.const (.int .i64 2)) t2) (hx : a.eval x = .int .i64 (m : Int)) (h : K (a.put o.dst (.int .i64 ((m / 2 : Nat) : Int))) w) : o.wp Try.prog a w K Q := by
  obtain ⟨dst, op', type, pos, after, guard⟩ := o
  simp only at ho
  subst ho
  refine opr_val (s := do eqGuard .quo t x (.const (.int .i64 2)) (a.eval x) (.int .i64 2); binOp .quo t (a.eval x) (.int .i64 2)) rfl ?_ h
  rw [hx]
  have e : (m : Int).tdiv 2 = ((m / 2 : Nat) : Int) := by rw [Int.tdiv_eq_ediv_of_nonneg (by omega)]; omega
  simp [go_sem, e]
  first | done | (rw [IntKind.wrap_i64]; first | done | omega)
theorem opr_odd {a : Act} {w : World} {o : Oper} {K : Act → World → Prop} {Q : Exit → Act → World → Prop} {x : Operand} {t t2 : TypeId} {m : Nat} (ht : Try.prog.underlying t = some (.int .i64)) (hm : m ≤ 1000000) (ho : o.op = .binOp .rem t x (.const (.int .i64 2)) t2) (hx : a.eval x = .int .i64 (m : Int)) (h : K (a.put o.dst (.int .i64 ((m % 2 : Nat) : Int))) w) : o.wp Try.prog a w K Q := by
  obtain ⟨dst, op', type, pos, after, guard⟩ := o
  simp only at ho
  subst ho
  refine opr_val (s := do eqGuard .rem t x (.const (.int .i64 2)) (a.eval x) (.int .i64 2); binOp .rem t (a.eval x) (.int .i64 2)) rfl ?_ h
  rw [hx]
  have e : (m : Int).tmod 2 = ((m % 2 : Nat) : Int) := by rw [Int.tmod_eq_emod_of_nonneg (by omega)]; omega
  simp [go_sem, e]
  first | done | (rw [IntKind.wrap_i64]; first | done | omega)
set_option maxHeartbeats 4000000 in
theorem rHas_n (x i : Nat) (w : World) (hx : x ≤ 1000000) (hi : i ≤ 100) : Cv 45 #[.int .i64 (x : Int), .int .i64 (i : Int)] w (.eq (.bool (hasN x i))) := by
  unfold Cv
  have HXL := Lib.hid hx
  have HM := Lib.hid (NewT.refl w)
  go_enter Try.func45, Try.ntmps45
  go_wp2
  go_loopw [0, 5] (fun y j wr => ∃ k : Nat, k ≤ i ∧ y = .int .i64 ((x / 2 ^ k : Nat) : Int) ∧ j = .int .i64 (k : Int) ∧ Hid (NewT w wr)) (fun _ j _ => i - (intOf j).toNat)
  case atStart => exact ⟨0, by omega, by rw [Nat.pow_zero, Nat.div_one], rfl, HM⟩
  case round =>
    clear HM
    obtain ⟨k, hk, rfl, rfl, HM⟩ := hrel
    obtain ⟨y, HY⟩ := hid_ex (x / 2 ^ k)
    have HYL : Hid (y ≤ 1000000) := Lib.hid (by have := HXL.out; rw [← HY.out]; exact Nat.le_trans (Nat.div_le_self _ _) this)
    rw [HY.out]
    by_cases hlt : k < i
    · have it : (k : Int) < (i : Int) := by omega
      clear hx
      go_upto_region 4 with fail
      refine wp_region_steps0 NewT [SV.eq (.int .i64 ((y : Int))), SV.eq (.int .i64 (((y / 2 : Nat) : Int))), SV.eq (.int .i64 (((y / 2 : Nat) : Int)))] [([(0, none)], none), ([(11, some 0)], none), ([(12, some 1)], none)] 16 3 rfl rfl (by kernel_rfl) NewT.trans (NewT.refl _) (Nat.le_of_ble_eq_true rfl) ⟨?_, ?_, ?_, trivial⟩ ?_
      · exact fun a wx hT hF K hK => rely_wp rfl (opr_move (.inl rfl) (hK _ _ (NewT.refl _) hF.1))
      · exact fun a wx hT hF K hK => rely_wp rfl (opr_half Try.underlying3 HYL.out rfl hF.1 (hK _ _ (NewT.refl _) rfl))
      · exact fun a wx hT hF K hK => rely_wp rfl (opr_move (.inr rfl) (hK _ _ (NewT.refl _) hF.1))
      · intro w1 k1
        iterate 3 (intro u h; obtain rfl := Eq.symm (h (by simp)); clear h)
        refine relyEnd_nil rfl ?_
        refine wpList_end rfl ?_
        simp only [Act.put, List.setIfInBounds_toArray, List.set_cons_zero, List.set_cons_succ]
        go_simp
        replace HM := Lib.hid (NewT.trans _ _ _ HM.out k1)
        clear k1
        go_wp2
        go_roundw
        case rel => exact ⟨k + 1, by omega, by rw [show x / 2 ^ (k + 1) = y / 2 from by rw [Nat.pow_succ, ← Nat.div_div_eq_div_mul, HY.out]]; congr 1, by go_num, HM⟩
        case measure => simp [intOf]; omega
    · obtain rfl : k = i := by omega
      clear hx
      go_upto_region 5 with fail
      refine wp_region_steps0 NewT [SV.eq (.int .i64 ((y : Int))), SV.eq (.int .i64 (((y % 2 : Nat) : Int))), SV.eq (.bool ((((y % 2 : Nat) : Int)) == 1)), SV.eq (.bool ((((y % 2 : Nat) : Int)) == 1))] [([(0, none)], none), ([(13, some 0)], none), ([(14, some 1)], none), ([(15, some 2)], none)] 16 4 rfl rfl (by kernel_rfl) NewT.trans (NewT.refl _) (Nat.le_of_ble_eq_true rfl) ⟨?_, ?_, ?_, ?_, trivial⟩ ?_
      · exact fun a wx hT hF K hK => rely_wp rfl (opr_move (.inl rfl) (hK _ _ (NewT.refl _) hF.1))
      · exact fun a wx hT hF K hK => rely_wp rfl (opr_odd Try.underlying3 HYL.out rfl hF.1 (hK _ _ (NewT.refl _) rfl))
      · exact fun a wx hT hF K hK => rely_wp rfl (opr_cmp (b := (((y % 2 : Nat) : Int)) == 1) (.inl ⟨rfl, rfl⟩) Try.underlying3 rfl hF.1 rfl (hK _ _ (NewT.refl _) rfl))
      · exact fun a wx hT hF K hK => rely_wp rfl (opr_move (.inr rfl) (hK _ _ (NewT.refl _) hF.1))
      · intro w1 k1
        iterate 4 (intro u h; obtain rfl := Eq.symm (h (by simp)); clear h)
        refine relyEnd_nil rfl ?_
        refine wpList_end rfl ?_
        simp only [Act.put, List.setIfInBounds_toArray, List.set_cons_zero, List.set_cons_succ]
        go_simp
        replace HM := Lib.hid (NewT.trans _ _ _ HM.out k1)
        clear k1
        go_wp2
        go_ret
        exact ⟨_, rfl, HM.out, by show Value.bool ((y : Int) % 2 == 1) = Value.bool _; unfold hasN; rw [HY.out]; congr 1; rw [Bool.eq_iff_iff]; simp only [beq_iff_eq]; omega⟩
theorem rHas_cv (x i : Int) (w : World) (hx : 0 ≤ x ∧ x ≤ 1000000) (hi : 0 ≤ i ∧ i ≤ 100) : Cv 45 #[.int .i64 x, .int .i64 i] w (.eq (.bool (hasI x i))) := by
  obtain ⟨m, rfl⟩ : ∃ m : Nat, x = m := ⟨x.toNat, by omega⟩
  obtain ⟨j, rfl⟩ : ∃ j : Nat, i = j := ⟨i.toNat, by omega⟩
  exact rHas_n m j w (by omega) (by omega)
/-- A step put into a set. -/
def putI (x i : Int) : Int := bif hasI x i then x else x + ((2 ^ i.toNat : Nat) : Int)
def msB (g : Sg) (i : Nat) : Bool := ((g.ph != 2) && hasI g.dn (i : Int)) && !hasI g.un (i : Int)
def missR (g : Sg) : Nat → Int
  | 0 => 0
  | m + 1 => bif msB g m then putI (missR g m) (m : Int) else missR g m
theorem missR_le (g : Sg) : ∀ k : Nat, 0 ≤ missR g k ∧ missR g k < ((2 ^ k : Nat) : Int)
  | 0 => ⟨by simp [missR], by simp [missR]⟩
  | k + 1 => by
    have h := missR_le g k
    have e : (2 ^ (k + 1) : Nat) = 2 ^ k + 2 ^ k := by rw [Nat.pow_succ]; omega
    rw [e]
    show 0 ≤ (bif msB g k then putI (missR g k) (k : Int) else missR g k) ∧ (bif msB g k then putI (missR g k) (k : Int) else missR g k) < _
    cases msB g k with
    | false => exact ⟨h.1, by show missR g k < _; have := h.2; omega⟩
    | true =>
      show 0 ≤ putI _ _ ∧ putI _ _ < _
      unfold putI
      cases hasI (missR g k) (k : Int) with
      | true => exact ⟨h.1, by show missR g k < _; have := h.2; omega⟩
      | false => exact ⟨by show 0 ≤ missR g k + ((2 ^ ((k : Int)).toNat : Nat) : Int); have := h.1; have := Int.natCast_nonneg (2 ^ ((k : Int)).toNat); omega, by show missR g k + ((2 ^ ((k : Int)).toNat : Nat) : Int) < _; rw [Int.toNat_natCast]; have := h.2; omega⟩
theorem missR_small (g : Sg) {k : Nat} (h : k ≤ 6) : 0 ≤ missR g k ∧ missR g k ≤ 1000000 := by
  have h1 := missR_le g k
  have h2 : 2 ^ k ≤ 2 ^ 6 := Nat.pow_le_pow_right (by omega) h
  have h3 : (2 : Nat) ^ 6 = 64 := rfl
  exact ⟨h1.1, by have := h1.2; omega⟩
/-- By bits alone. -/
def mR (x y : Int) : Nat → Int
  | 0 => 0
  | m + 1 => bif hasI x (m : Int) && !hasI y (m : Int) then putI (mR x y m) (m : Int) else mR x y m
theorem bits_mR : ∀ (n a : Fin 7) (t r : Fin 8), a.val ≤ n.val → mR ((2 ^ a.val - 1 : Nat) : Int) ((2 ^ t.val - 2 ^ r.val : Nat) : Int) n.val = notI ((2 ^ a.val - 1 : Nat) : Int) ((2 ^ t.val - 2 ^ r.val : Nat) : Int) := by decide +kernel
theorem missR_two {g : Sg} (h : g.ph = 2) : ∀ k : Nat, missR g k = 0
  | 0 => rfl
  | k + 1 => by
    have e : msB g k = false := by unfold msB; rw [h]; simp
    show (bif msB g k then _ else missR g k) = 0
    rw [e]; exact missR_two h k
theorem missR_else {g : Sg} (h : g.ph ≠ 2) : ∀ k : Nat, missR g k = mR g.dn g.un k
  | 0 => rfl
  | k + 1 => by
    have e : msB g k = (hasI g.dn (k : Int) && !hasI g.un (k : Int)) := by
      unfold msB
      rw [show (g.ph != 2) = true by simpa using h]; simp
    show (bif msB g k then putI (missR g k) (k : Int) else missR g k) = (bif hasI g.dn (k : Int) && !hasI g.un (k : Int) then putI (mR g.dn g.un k) (k : Int) else mR g.dn g.un k)
    rw [e, missR_else h k]
theorem missR_st {l : List (Int × Int)} {s : St} {lim : Nat} (hm : mayL l = true) (hi : Inv (kks l) lim s) (q : Int) : missR (ofSt s q) l.length = missG (ofSt s q) := by
  have hs := inv_small hm hi
  unfold missG
  by_cases h : (ofSt s q).ph = 2
  · rw [if_pos (by rw [h]; rfl), missR_two h]
  · rw [if_neg (by simpa using h), missR_else h]
    exact bits_mR ⟨l.length, by omega⟩ ⟨s.a, by omega⟩ ⟨s.top, by omega⟩ ⟨s.r, by omega⟩ hs.1
def GoodU (p : Ug) : Prop := ∃ lim n, GoodS lim n p
theorem GoodU.miss {p : Ug} (h : GoodU p) : missR p.2 p.1.length = missG p.2 := by
  obtain ⟨lim, n, hm, s, q, e, hi, _⟩ := h
  rw [e]
  exact missR_st hm hi _
theorem GoodU.small {p : Ug} (h : GoodU p) : p.1.length ≤ 6 ∧ (0 ≤ p.2.dn ∧ p.2.dn ≤ 1000000) ∧ (0 ≤ p.2.un ∧ p.2.un ≤ 1000000) := by
  obtain ⟨lim, n, hm, s, q, e, hi, _⟩ := h
  have hs := inv_small hm hi
  rw [e]
  have h3 : (2 : Nat) ^ 6 = 64 := rfl
  have h1 : 2 ^ s.a ≤ 2 ^ 6 := Nat.pow_le_pow_right (by omega) (by omega)
  have h2 : 2 ^ s.top ≤ 2 ^ 6 := Nat.pow_le_pow_right (by omega) (by omega)
  refine ⟨(may_len hm).2, ⟨?_, ?_⟩, ?_, ?_⟩
  · exact Int.natCast_nonneg (2 ^ s.a - 1)
  · exact Int.ofNat_le.2 (show 2 ^ s.a - 1 ≤ 1000000 by omega)
  · exact Int.natCast_nonneg (2 ^ s.top - 2 ^ s.r)
  · exact Int.ofNat_le.2 (show 2 ^ s.top - 2 ^ s.r ≤ 1000000 from Nat.le_trans (Nat.sub_le _ _) (by omega))
set_option maxHeartbeats 4000000 in
theorem rPut_cv (x : Int) (i : Nat) (w : World) (hx : 0 ≤ x ∧ x ≤ 1000000) (hi : i ≤ 20) : Cv 46 #[.int .i64 x, .int .i64 (i : Int)] w (.eq (.int .i64 (putI x (i : Int)))) := by
  unfold Cv
  have HXL := Lib.hid hx
  have HIL := Lib.hid hi
  go_enter Try.func46, Try.ntmps46
  have HM := Lib.hid (NewT.refl w)
  go_upto_region 1 with fail
  refine wp_region_steps0 NewT [SV.eq (.int .i64 (x)), SV.eq (.int .i64 ((i : Int))), SV.eq (.bool (hasI x ((i : Int))))] [([(0, none)], none), ([(1, none)], none), ([(7, some 0), (8, some 1)], none)] 21 3 rfl rfl (by kernel_rfl) NewT.trans (NewT.refl _) (Nat.le_of_ble_eq_true rfl) ⟨?_, ?_, ?_, trivial⟩ ?_
  · exact fun a wx hT hF K hK => rely_wp rfl (opr_move (.inl rfl) (hK _ _ (NewT.refl _) hF.1))
  · exact fun a wx hT hF K hK => rely_wp rfl (opr_move (.inl rfl) (hK _ _ (NewT.refl _) hF.1))
  · exact fun a wx hT hF K hK => rely_wp rfl (opr_cv (rHas_cv x ((i : Int)) wx (HXL.out) (by have := HIL.out; omega)) rfl Try.func45 (by kernel_rfl) (by kernel_rfl) (evs2 hF.1 hF.2.1) hK)
  · intro w1 k1
    iterate 3 (intro u h; obtain rfl := Eq.symm (h (by simp)); clear h)
    refine relyEnd_nil rfl ?_
    refine wpList_end rfl ?_
    simp only [Act.put, List.setIfInBounds_toArray, List.set_cons_zero, List.set_cons_succ]
    go_simp
    replace HM := Lib.hid (NewT.trans _ _ _ HM.out k1)
    clear k1
    cases hq : hasI x (i : Int)
    rotate_left
    · go_wp2
      go_ret
      exact ⟨_, rfl, HM.out, by show Value.int _ _ = Value.int _ _; unfold putI; rw [hq]; rfl⟩
    have HQ : Hid (putI x (i : Int) = x + ((2 ^ i : Nat) : Int)) := Lib.hid (by unfold putI; rw [hq, Int.toNat_natCast]; rfl)
    clear hq
    go_wp2
    go_loopw [5, 6] (fun p j wr => ∃ k : Nat, k ≤ i ∧ p = .int .i64 ((2 ^ k : Nat) : Int) ∧ j = .int .i64 (k : Int) ∧ Hid (NewT w wr)) (fun _ j _ => i - (intOf j).toNat)
    case atStart => exact ⟨0, by omega, rfl, rfl, HM⟩
    case round =>
      clear HM
      obtain ⟨k, hk, rfl, rfl, HM⟩ := hrel
      have HPL : Hid (2 ^ k ≤ 1048576) := Lib.hid (by have h1 : 2 ^ k ≤ 2 ^ 20 := Nat.pow_le_pow_right (by omega) (by have := HIL.out; omega); have h2 : (2 : Nat) ^ 20 = 1048576 := rfl; omega)
      have HPS : Hid (2 ^ (k + 1) = 2 ^ k * 2) := Lib.hid (Nat.pow_succ 2 k)
      by_cases hlt : k < i
      rotate_left
      · obtain rfl : k = i := by omega
        obtain ⟨p, HP⟩ := hid_ex (2 ^ k)
        rw [HP.out] at HPL HQ HPS ⊢
        go_upto_region 8 with fail
        refine wp_region_steps0 NewT [SV.eq (.int .i64 (x)), SV.eq (.int .i64 ((p : Int))), SV.eq (.int .i64 (x + (p : Int))), SV.eq (.int .i64 (x + (p : Int)))] [([(0, none)], none), ([(5, none)], none), ([(18, some 0), (19, some 1)], none), ([(20, some 2)], none)] 21 4 rfl rfl (by kernel_rfl) NewT.trans (NewT.refl _) (Nat.le_of_ble_eq_true rfl) ⟨?_, ?_, ?_, ?_, trivial⟩ ?_
        · exact fun a wx hT hF K hK => rely_wp rfl (opr_move (.inl rfl) (hK _ _ (NewT.refl _) hF.1))
        · exact fun a wx hT hF K hK => rely_wp rfl (opr_move (.inl rfl) (hK _ _ (NewT.refl _) hF.1))
        · exact fun a wx hT hF K hK => rely_wp rfl (opr_add (r := x + (p : Int)) Try.underlying3 (by have h1 := HXL.out; have h2 := HPL.out; unfold wrap64; omega) rfl hF.1 hF.2.1 (hK _ _ (NewT.refl _) rfl))
        · exact fun a wx hT hF K hK => rely_wp rfl (opr_move (.inr rfl) (hK _ _ (NewT.refl _) hF.1))
        · intro w2 k2
          iterate 4 (intro u h; obtain rfl := Eq.symm (h (by simp)); clear h)
          refine relyEnd_nil rfl ?_
          refine wpList_end rfl ?_
          simp only [Act.put, List.setIfInBounds_toArray, List.set_cons_zero, List.set_cons_succ]
          go_simp
          replace HM := Lib.hid (NewT.trans _ _ _ HM.out k2)
          clear k2
          go_wp2
          go_ret
          exact ⟨_, rfl, HM.out, by show Value.int _ _ = Value.int _ _; rw [HQ.out]⟩
      obtain ⟨p, HP⟩ := hid_ex (2 ^ k)
      rw [HP.out] at HPL HPS ⊢
      have it : (k : Int) < (i : Int) := by omega
      have HIT := Lib.hid it
      clear hlt
      go_upto_region 7 with fail
      refine wp_region_steps0 NewT [SV.eq (.int .i64 ((p : Int))), SV.eq (.int .i64 (((p * 2 : Nat) : Int))), SV.eq (.int .i64 (((p * 2 : Nat) : Int)))] [([(5, none)], none), ([(16, some 0)], none), ([(17, some 1)], none)] 21 3 rfl rfl (by kernel_rfl) NewT.trans (NewT.refl _) (Nat.le_of_ble_eq_true rfl) ⟨?_, ?_, ?_, trivial⟩ ?_
      · exact fun a wx hT hF K hK => rely_wp rfl (opr_move (.inl rfl) (hK _ _ (NewT.refl _) hF.1))
      · exact fun a wx hT hF K hK => rely_wp rfl (opr_mul (r := ((p * 2 : Nat) : Int)) Try.underlying3 (by have h2 := HPL.out; unfold wrap64; omega) rfl hF.1 rfl (hK _ _ (NewT.refl _) rfl))
      · exact fun a wx hT hF K hK => rely_wp rfl (opr_move (.inr rfl) (hK _ _ (NewT.refl _) hF.1))
      · intro w3 k3
        iterate 3 (intro u h; obtain rfl := Eq.symm (h (by simp)); clear h)
        refine relyEnd_nil rfl ?_
        refine wpList_end rfl ?_
        simp only [Act.put, List.setIfInBounds_toArray, List.set_cons_zero, List.set_cons_succ]
        go_simp
        replace HM := Lib.hid (NewT.trans _ _ _ HM.out k3)
        clear k3
        have it2 := HIT.out
        go_wp2
        go_roundw
        case rel => exact ⟨k + 1, by omega, by rw [HPS.out]; first | done | rfl | simp, by go_num, HM⟩
        case measure => simp [intOf]; omega
set_option maxHeartbeats 4000000 in
theorem rMissing_cv (v : Value) (l : List (Int × Int)) (g : Sg) (w : World) (h : RdP w v l) (hl : l.length ≤ 6) (hb : (0 ≤ g.dn ∧ g.dn ≤ 1000000) ∧ (0 ≤ g.un ∧ g.un ≤ 1000000)) : Cv 27 #[.agg (rowA 10 (sgF v g))] w (.eq (.int .i64 (missR g l.length))) := by
  unfold Cv
  obtain ⟨A0, cap, rfl, h1, h2, h3⟩ := h
  clear h3 h2
  obtain ⟨n, hn⟩ : ∃ n, l.length = n := ⟨_, rfl⟩
  rw [hn] at h1 hl ⊢
  have HL6 := Lib.hid hl
  have HBN := Lib.hid hb
  have Hn := Lib.hid hn
  clear hn hb
  go_enter Try.func27, Try.ntmps27
  go_upto_region 1 with fail
  have r_g1 := rowIs_box w 48 10 (sgF (.slice A0 n cap) g)
  have hN : NewT w (w.alloc (.cells (rowA 10 (sgF (.slice A0 n cap) g)) 48)) := NewT.alloc _ _
  change Code.wp _ _ _ _ (w.alloc (.cells (rowA 10 (sgF (.slice A0 n cap) g)) 48))
  generalize (w.alloc (.cells (rowA 10 (sgF (.slice A0 n cap) g)) 48)) = W0 at r_g1 hN ⊢
  obtain ⟨g1, h_g1⟩ : ∃ g_, w.heap.size = g_ := ⟨_, rfl⟩
  have HG : Hid (w.heap.size ≤ g1) := Lib.hid (by omega)
  rw [h_g1] at r_g1
  simp only [h_g1]
  have Rg1 := Lib.hid r_g1
  have HM := Lib.hid hN
  clear r_g1 hN h_g1
  go_wp2
  go_loopw [3, 4] (fun y j wr => ∃ k : Nat, k ≤ n ∧ y = .int .i64 (missR g k) ∧ j = .int .i64 (k : Int) ∧ Hid (NewT w wr) ∧ Hid (wr.rowIs g1 48 10 (sgF (.slice A0 n cap) g))) (fun _ j _ => n - (intOf j).toNat)
  case atStart => exact ⟨0, by omega, rfl, rfl, HM, Rg1⟩
  case round =>
    clear HM Rg1
    obtain ⟨k, hk, rfl, rfl, HM, Rg1⟩ := hrel
    have c0 : wr.cell? ⟨g1, 0, none⟩ = some (.slice A0 n cap) := Rg1.out.cell (i := 0) (by omega)
    by_cases hlt : k < n
    rotate_left
    · obtain rfl : k = n := by omega
      go_wp2
      go_ret
      exact ⟨_, rfl, HM.out, rfl⟩
    have it : (k : Int) < (n : Int) := by omega
    have HIT := Lib.hid it
    have HK9 : Hid (0 ≤ (k : Int) ∧ (k : Int) ≤ 100) := Lib.hid (by have := HL6.out; omega)
    have HK6 : Hid (k ≤ 6) := Lib.hid (by have := HL6.out; omega)
    obtain ⟨y, HY⟩ := hid_ex (missR g k)
    have HYL : Hid (0 ≤ y ∧ y ≤ 1000000) := Lib.hid (by rw [← HY.out]; exact missR_small g HK6.out)
    rw [HY.out]
    go_upto_region 5 with fail
    clear c0
    obtain ⟨q1_5, Q1_5⟩ : ∃ bq_, ((g.ph != 2) && (hasI g.dn ((k : Int)))) = bq_ := ⟨_, rfl⟩
    obtain ⟨q2_5, Q2_5⟩ : ∃ bq_, (q1_5 && (!(hasI g.un ((k : Int))))) = bq_ := ⟨_, rfl⟩
    refine wp_region_steps0 NewT [SV.eq (.pointer (some ⟨g1, 1, none⟩)), SV.eq (.int .i64 (g.ph)), SV.eq (.bool (g.ph != 2)), SV.eq (.bool (g.ph != 2)), svIf (g.ph != 2) (SV.eq (.pointer (some ⟨g1, 6, none⟩))), svIf (g.ph != 2) (SV.eq (.int .i64 (g.dn))), svIf (g.ph != 2) (SV.eq (.int .i64 ((k : Int)))), svIf (g.ph != 2) (SV.eq (.bool (hasI g.dn ((k : Int))))), SV.eq (.bool (q1_5)), SV.eq (.bool (q1_5)), svIf q1_5 (SV.eq (.pointer (some ⟨g1, 7, none⟩))), svIf q1_5 (SV.eq (.int .i64 (g.un))), svIf q1_5 (SV.eq (.int .i64 ((k : Int)))), svIf q1_5 (SV.eq (.bool (hasI g.un ((k : Int))))), svIf q1_5 (SV.eq (.bool (!(hasI g.un ((k : Int)))))), SV.eq (.bool (q2_5))] [([(1, none)], none), ([(12, some 0)], none), ([(13, some 1)], none), ([(14, some 2)], none), ([(1, none), (15, some 3)], some (15, true)), ([(16, some 4), (15, some 3)], some (15, true)), ([(4, none), (15, some 3)], some (15, true)), ([(17, some 5), (18, some 6), (15, some 3)], some (15, true)), ([(15, some 3), (19, some 7)], none), ([(20, some 8)], none), ([(1, none), (21, some 9)], some (21, true)), ([(22, some 10), (21, some 9)], some (21, true)), ([(4, none), (21, some 9)], some (21, true)), ([(23, some 11), (24, some 12), (21, some 9)], some (21, true)), ([(25, some 13), (21, some 9)], some (21, true)), ([(21, some 9), (26, some 14)], none)] 32 16 rfl rfl (by kernel_rfl) NewT.trans (NewT.refl _) (Nat.le_of_ble_eq_true rfl) ⟨?_, ?_, ?_, ?_, ?_, ?_, ?_, ?_, ?_, ?_, ?_, ?_, ?_, ?_, ?_, ?_, trivial⟩ ?_
    · exact fun a wx hT hF K hK => rely_wp rfl (opr_fldU1 rfl hF.1 (hK _ _ (NewT.refl _) rfl))
    · exact fun a wx hT hF K hK => rely_wp rfl (opr_ldI (hT.row Rg1.out) (by decide) rfl rfl hF.1 (hK _ _ (NewT.refl _) rfl))
    · exact fun a wx hT hF K hK => rely_wp rfl (opr_cmp (b := g.ph != 2) (.inr (.inl ⟨rfl, rfl⟩)) Try.underlying3 rfl hF.1 rfl (hK _ _ (NewT.refl _) rfl))
    · exact fun a wx hT hF K hK => rely_wp rfl (opr_move (.inl rfl) (hK _ _ (NewT.refl _) hF.1))
    · exact fun a wx hT hF K hK => rely_if (rely_gt hF.2.1) (NewT.refl _) hK fun hE hK => opr_fldU6 rfl hF.1 (hK _ _ (NewT.refl _) rfl)
    · exact fun a wx hT hF K hK => rely_if (rely_gt hF.2.1) (NewT.refl _) hK fun hE hK => opr_ldI (hT.row Rg1.out) (by decide) rfl rfl (hF.1 hE) (hK _ _ (NewT.refl _) rfl)
    · exact fun a wx hT hF K hK => rely_if (rely_gt hF.2.1) (NewT.refl _) hK fun hE hK => opr_move (.inl rfl) (hK _ _ (NewT.refl _) hF.1)
    · exact fun a wx hT hF K hK => rely_if (rely_gt hF.2.2.1) (NewT.refl _) hK fun hE hK => opr_cv (rHas_cv g.dn ((k : Int)) wx (HBN.out.1) (HK9.out)) rfl Try.func45 (by kernel_rfl) (by kernel_rfl) (evs2 (hF.1 hE) (hF.2.1 hE)) hK
    · exact fun a wx hT hF K hK => rely_wp rfl (opr_pick_b rfl hF.1 (fun hb => hK _ _ (NewT.refl _) (pn_and1 Q1_5 (hF.2.1 hb) hb)) (fun hb => hK _ _ (NewT.refl _) (pn_and0 Q1_5 hb)))
    · exact fun a wx hT hF K hK => rely_wp rfl (opr_move (.inl rfl) (hK _ _ (NewT.refl _) hF.1))
    · exact fun a wx hT hF K hK => rely_if (rely_gt hF.2.1) (NewT.refl _) hK fun hE hK => opr_fldU7 rfl hF.1 (hK _ _ (NewT.refl _) rfl)
    · exact fun a wx hT hF K hK => rely_if (rely_gt hF.2.1) (NewT.refl _) hK fun hE hK => opr_ldI (hT.row Rg1.out) (by decide) rfl rfl (hF.1 hE) (hK _ _ (NewT.refl _) rfl)
    · exact fun a wx hT hF K hK => rely_if (rely_gt hF.2.1) (NewT.refl _) hK fun hE hK => opr_move (.inl rfl) (hK _ _ (NewT.refl _) hF.1)
    · exact fun a wx hT hF K hK => rely_if (rely_gt hF.2.2.1) (NewT.refl _) hK fun hE hK => opr_cv (rHas_cv g.un ((k : Int)) wx (HBN.out.2) (HK9.out)) rfl Try.func45 (by kernel_rfl) (by kernel_rfl) (evs2 (hF.1 hE) (hF.2.1 hE)) hK
    · exact fun a wx hT hF K hK => rely_if (rely_gt hF.2.1) (NewT.refl _) hK fun hE hK => opr_not rfl (hF.1 hE) (hK _ _ (NewT.refl _) rfl)
    · exact fun a wx hT hF K hK => rely_wp rfl (opr_pick_b rfl hF.1 (fun hb => hK _ _ (NewT.refl _) (pn_and1 Q2_5 (hF.2.1 hb) hb)) (fun hb => hK _ _ (NewT.refl _) (pn_and0 Q2_5 hb)))
    · intro w1 k1
      iterate 4 (intro u h; obtain rfl := Eq.symm (h (by simp)); clear h)
      iterate 4 (intro _ _)
      iterate 2 (intro u h; obtain rfl := Eq.symm (h (by simp)); clear h)
      iterate 5 (intro _ _)
      intro u h; obtain rfl := Eq.symm (h (by simp)); clear h
      subst Q2_5 Q1_5
      refine relyEnd_nil rfl ?_
      refine wpList_end rfl ?_
      simp only [Act.put, List.setIfInBounds_toArray, List.set_cons_zero, List.set_cons_succ]
      go_simp
      replace Rg1 := Lib.hid (k1.row Rg1.out)
      replace HM := Lib.hid (NewT.trans _ _ _ HM.out k1)
      clear k1
      have HQ : Hid (msB g k = ((((g.ph != 2) && (hasI g.dn ((k : Int)))) && (!(hasI g.un ((k : Int))))))) := Lib.hid rfl
      cases hq : ((((g.ph != 2) && (hasI g.dn ((k : Int)))) && (!(hasI g.un ((k : Int))))))
      · have HN : Hid (missR g (k + 1) = y) := Lib.hid (by rw [← HY.out]; show (bif msB g k then _ else missR g k) = _; rw [HQ.out, hq]; rfl)
        clear hq HQ
        have it2 := HIT.out
        go_wp2
        go_roundw
        case rel => exact ⟨k + 1, by omega, by rw [HN.out], by go_num, HM, Rg1⟩
        case measure => simp [intOf]; omega
      · have HN : Hid (missR g (k + 1) = putI y (k : Int)) := Lib.hid (by rw [← HY.out]; show (bif msB g k then putI (missR g k) (k : Int) else missR g k) = _; rw [HQ.out, hq]; rfl)
        clear hq HQ
        go_upto_region 6 with fail
        refine wp_region_steps0 NewT [SV.eq (.int .i64 (y)), SV.eq (.int .i64 ((k : Int))), SV.eq (.int .i64 (putI y ((k : Int)))), SV.eq (.int .i64 (putI y ((k : Int))))] [([(3, none)], none), ([(4, none)], none), ([(28, some 0), (29, some 1)], none), ([(30, some 2)], none)] 32 4 rfl rfl (by kernel_rfl) NewT.trans (NewT.refl _) (Nat.le_of_ble_eq_true rfl) ⟨?_, ?_, ?_, ?_, trivial⟩ ?_
        · exact fun a wx hT hF K hK => rely_wp rfl (opr_move (.inl rfl) (hK _ _ (NewT.refl _) hF.1))
        · exact fun a wx hT hF K hK => rely_wp rfl (opr_move (.inl rfl) (hK _ _ (NewT.refl _) hF.1))
        · exact fun a wx hT hF K hK => rely_wp rfl (opr_cv (rPut_cv y k wx (HYL.out) (by have := HK6.out; omega)) rfl Try.func46 (by kernel_rfl) (by kernel_rfl) (evs2 hF.1 hF.2.1) hK)
        · exact fun a wx hT hF K hK => rely_wp rfl (opr_move (.inr rfl) (hK _ _ (NewT.refl _) hF.1))
        · intro w2 k2
          iterate 4 (intro u h; obtain rfl := Eq.symm (h (by simp)); clear h)
          refine relyEnd_nil rfl ?_
          refine wpList_end rfl ?_
          simp only [Act.put, List.setIfInBounds_toArray, List.set_cons_zero, List.set_cons_succ]
          go_simp
          replace Rg1 := Lib.hid (k2.row Rg1.out)
          replace HM := Lib.hid (NewT.trans _ _ _ HM.out k2)
          clear k2
          have it2 := HIT.out
          go_wp2
          go_roundw
          case rel => exact ⟨k + 1, by omega, by rw [HN.out], by go_num, HM, Rg1⟩
          case measure => simp [intOf]; omega
theorem rMissU_cv (v : Value) (l : List (Int × Int)) (g : Sg) (w : World) (h : SgV w v l g) (hg : GoodU (l, g)) : Cv 27 #[v] w (.eq (.int .i64 (missG g))) := by
  obtain ⟨sv, rfl, hs⟩ := h
  have h1 := hg.small
  have h2 := hg.miss
  exact h2 ▸ rMissing_cv sv l g w hs h1.1 ⟨h1.2.1, h1.2.2⟩
end Go.Proofs.Ytilmeffmdgcblaa
/- The reference's report: the book's, of sagas that went by records from their beginning. -/
namespace Go.Proofs.Ytilmeffmdgcblaa
open Go Go.RowKit
set_option maxRecDepth 8000
set_option linter.all false
/-- A slice of one line. -/
def LoV (w : World) (v : Value) (p : Int × Int) : Prop := ∃ b, v = .slice (some ⟨b, 0, none⟩) 1 1 ∧ w.rowIs b 34 2 (stepF p)
def svLo (p : Int × Int) : SV NewT := ⟨fun v w => LoV w v p, fun _ _ _ ⟨b, h1, h2⟩ hT => ⟨b, h1, hT.row h2⟩⟩
theorem opr_bsLo {a : Act} {w : World} {o : Oper} {K : Act → World → Prop} {Q : Exit → Act → World → Prop} {y : Operand} {p : Int × Int} (ho : o.op = .buildSlice 31 1 #[(0, y)]) (hx : a.eval y = .agg (rowA 2 (stepF p))) (h : ∀ v w', NewT w w' → LoV w' v p → K (a.put o.dst v) w') : o.wp Try.prog a w K Q := by
  obtain ⟨dst, op, type, pos, after, guard⟩ := o
  simp only at ho
  subst ho
  exact opr_val (s := Instr.buildSlice 31 1 #[(0, a.eval y)]) (by simp [execOp]) (by rw [hx]; exact run_bsN1 _ w) (h _ _ (NewT.alloc _ _) ⟨_, rfl, rowIs_box w _ 2 _⟩)
theorem run_appN {W : World} {B : Nat} {v u : Value} {X : List (Int × Int)} {p : Int × Int} (h : OwnL 34 2 lnE W B v X) (hu : LoV W u p) (hn : X.length + 1 ≤ 1000000) (hB : B ≤ W.heap.size) (ty : TypeId) :
    ∃ v' w', (Builtin.append_ #[31, 31] ty #[v, u]).run Try.prog W = .ok v' w' ∧ OwnL 34 2 lnE w' B v' (X ++ [p]) ∧ Below B W w' := by
  have hat := h.lt
  obtain ⟨fs, h1, h2, h3⟩ := h
  obtain ⟨b, hu1, hu2⟩ := hu
  have hone : OneE 2 [stepF p] := fun f' hf' j _ => by simp at hf'; subst hf'; exact stepF_one p j
  obtain ⟨v', w', hr, ho, hg⟩ := run_appE (u := u) lineEl h1 (by rw [hu1]; exact rdE_rowOne hu2) hone (by simp; omega) hB ty
  refine ⟨v', w', hr, ⟨_, ho, by simp [h2], fun i y hy => ?_⟩, ((NewT.refl W).out.mono hB).grown hg hB (fun k hk => (hat k hk).1)⟩
  by_cases hi : i < X.length
  · rw [List.getElem?_append_left hi] at hy
    obtain ⟨g, e1, e2⟩ := h3 i y hy
    exact ⟨g, by rw [List.getElem?_append_left (by omega)]; exact e1, e2⟩
  · have hi2 : i < X.length + 1 := by have := (List.getElem?_eq_some_iff.1 hy).1; simpa using this
    obtain rfl : i = X.length := by omega
    simp at hy
    subst hy
    exact ⟨stepF p, by rw [← h2]; simp, rfl⟩
theorem rep_take {L : List Ug} {k : Nat} {p : Ug} (hp : L[k]? = some p) : (repL L).take (k + 1) = (repL L).take k ++ [lineOf p] := by
  have hl : (repL L)[k]? = some (lineOf p) := by simp [repL, hp]
  rw [List.take_add_one, hl]; rfl
set_option maxHeartbeats 4000000 in
theorem rReport_cv (bv : Value) (bk : Bk) (w : World) (hb : BkV w bv bk) (hl : bk.sg.length ≤ 900000) (hg : ∀ p ∈ bk.sg, GoodU p) : Cv 12 #[bv] w (svL 2 lnE (repL bk.sg)) := by
  unfold Cv
  obtain ⟨sv, rfl, hsv⟩ := hb
  have HSV := Lib.hid hsv
  obtain ⟨A0, cap, rfl, _, _⟩ := hsv.form
  have HLL := Lib.hid hl
  have HGG := Lib.hid hg
  clear hl hg
  go_enter Try.func12, Try.ntmps12
  go_upto_region 1 with fail
  have r_g1 := rowIs_box w 28 5 (bkF bk.ep (.slice A0 bk.sg.length cap))
  have hN : NewT w (w.alloc (.cells (rowA 5 (bkF bk.ep (.slice A0 bk.sg.length cap))) 28)) := NewT.alloc _ _
  change Code.wp _ _ _ _ (w.alloc (.cells (rowA 5 (bkF bk.ep (.slice A0 bk.sg.length cap))) 28))
  generalize (w.alloc (.cells (rowA 5 (bkF bk.ep (.slice A0 bk.sg.length cap))) 28)) = W0 at r_g1 hN ⊢
  obtain ⟨g1, h_g1⟩ : ∃ g_, w.heap.size = g_ := ⟨_, rfl⟩
  have HG : Hid (w.heap.size ≤ g1) := Lib.hid (by omega)
  rw [h_g1] at r_g1
  simp only [h_g1]
  have Rg1 := Lib.hid r_g1
  have HM := Lib.hid hN
  clear r_g1 hN h_g1
  have HW := HM
  have R0 := Rg1
  replace HSV := Lib.hid (HSV.out.new HW.out)
  replace HM := Lib.hid (NewT.refl W0)
  go_wp2
  go_loopw [3, 4] (fun o i wr => ∃ (k : Nat) (ov : Value), k ≤ bk.sg.length ∧ i = .int .i64 (k : Int) ∧ ov = o ∧ Hid (OwnL 34 2 lnE wr W0.heap.size ov ((repL bk.sg).take k)) ∧ Hid (NewT W0 wr)) (fun _ i _ => bk.sg.length - (intOf i).toNat)
  case atStart => exact ⟨0, _, by omega, rfl, rfl, Lib.hid (ownL_nil _ _), HM⟩
  case round =>
    clear HM Rg1
    obtain ⟨k, ov, hk, rfl, rfl, HO, HM⟩ := hrel
    have Rg1 := Lib.hid (HM.out.row R0.out)
    have hll := HLL.out
    by_cases hlt : k < bk.sg.length
    rotate_left
    · obtain rfl : k = bk.sg.length := by omega
      have HF : Hid (OwnL 34 2 lnE wr W0.heap.size ov (repL bk.sg)) := Lib.hid (by have := HO.out; rwa [List.take_of_length_le (by simp [repL])] at this)
      go_upto_region 3 with fail
      refine wp_region_steps0 NewT [SV.eq (.int .i64 ((bk.sg.length : Int))), SV.eq (.pointer (some ⟨g1, 4, none⟩)), SV.eq ((.slice A0 bk.sg.length cap)), SV.eq (.int .i64 ((List.length (bk.sg) : Int))), SV.eq (.bool (decide (((bk.sg.length : Int)) < ((List.length (bk.sg) : Int)))))] [([(4, none)], none), ([(1, none)], none), ([(6, some 1)], none), ([(7, some 2)], none), ([(5, some 0), (8, some 3)], none)] 29 5 rfl rfl (by kernel_rfl) NewT.trans (NewT.refl _) (Nat.le_of_ble_eq_true rfl) ⟨?_, ?_, ?_, ?_, ?_, trivial⟩ ?_
      · exact fun a wx hT hF K hK => rely_wp rfl (opr_move (.inl rfl) (hK _ _ (NewT.refl _) hF.1))
      · exact fun a wx hT hF K hK => rely_wp rfl (opr_fldK1 rfl hF.1 (hK _ _ (NewT.refl _) rfl))
      · exact fun a wx hT hF K hK => rely_wp rfl (opr_ldUs (hT.row Rg1.out) (by decide) rfl rfl hF.1 (hK _ _ (NewT.refl _) rfl))
      · intro a wx hT hF K hK
        obtain ⟨f7, _⟩ := hF
        have f7 : a.tmps.getD 7 undef = (.slice A0 bk.sg.length cap) := f7
        refine rely_wp rfl ?_
        exact opr_lenL rfl sagaEl (by rw [eval_tmp, f7]; exact (HSV.out.new (NewT.trans _ _ _ HM.out hT))) (hK _ _ (NewT.refl _) rfl)
      · exact fun a wx hT hF K hK => rely_wp rfl (opr_cmp (b := decide (((bk.sg.length : Int)) < ((List.length (bk.sg) : Int)))) (.inr (.inr (.inr (.inl ⟨rfl, rfl⟩)))) Try.underlying3 rfl hF.1 hF.2.1 (hK _ _ (NewT.refl _) rfl))
      · intro w1 k1
        iterate 5 (intro u h; obtain rfl := Eq.symm (h (by simp)); clear h)
        refine relyEnd_nil rfl ?_
        refine wpList_end rfl ?_
        simp only [Act.put, List.setIfInBounds_toArray, List.set_cons_zero, List.set_cons_succ]
        go_simp
        replace Rg1 := Lib.hid (k1.row Rg1.out)
        replace HM := Lib.hid (NewT.trans _ _ _ HM.out k1)
        replace HF := Lib.hid (HF.out.new k1)
        go_wp2
        go_ret
        exact ⟨_, rfl, NewT.trans _ _ _ HW.out HM.out, HF.out.rd⟩
    obtain ⟨p, hp⟩ : ∃ p, bk.sg[k]? = some p := ⟨_, List.getElem?_eq_getElem hlt⟩
    have HPP := Lib.hid hp
    have HGU : Hid (GoodU p) := Lib.hid (HGG.out p (List.mem_of_getElem? hp))
    have it : (k : Int) < (bk.sg.length : Int) := by omega
    have HIT := Lib.hid it
    have HKL := Lib.hid hlt
    have HTL : Hid (((repL bk.sg).take k).length ≤ 999999) := Lib.hid (by rw [List.length_take, show (repL bk.sg).length = bk.sg.length by simp [repL]]; omega)
    obtain ⟨X, HX⟩ := hid_ex ((repL bk.sg).take k)
    rw [HX.out] at HO HTL
    clear hp hlt
    go_upto_region 3 with fail
    refine wp_region_steps0 NewT [SV.eq (.int .i64 ((k : Int))), SV.eq (.pointer (some ⟨g1, 4, none⟩)), SV.eq ((.slice A0 bk.sg.length cap)), SV.eq (.int .i64 ((List.length (bk.sg) : Int))), SV.eq (.bool (decide (((k : Int)) < ((List.length (bk.sg) : Int)))))] [([(4, none)], none), ([(1, none)], none), ([(6, some 1)], none), ([(7, some 2)], none), ([(5, some 0), (8, some 3)], none)] 29 5 rfl rfl (by kernel_rfl) NewT.trans (NewT.refl _) (Nat.le_of_ble_eq_true rfl) ⟨?_, ?_, ?_, ?_, ?_, trivial⟩ ?_
    · exact fun a wx hT hF K hK => rely_wp rfl (opr_move (.inl rfl) (hK _ _ (NewT.refl _) hF.1))
    · exact fun a wx hT hF K hK => rely_wp rfl (opr_fldK1 rfl hF.1 (hK _ _ (NewT.refl _) rfl))
    · exact fun a wx hT hF K hK => rely_wp rfl (opr_ldUs (hT.row Rg1.out) (by decide) rfl rfl hF.1 (hK _ _ (NewT.refl _) rfl))
    · intro a wx hT hF K hK
      obtain ⟨f7, _⟩ := hF
      have f7 : a.tmps.getD 7 undef = (.slice A0 bk.sg.length cap) := f7
      refine rely_wp rfl ?_
      exact opr_lenL rfl sagaEl (by rw [eval_tmp, f7]; exact (HSV.out.new (NewT.trans _ _ _ HM.out hT))) (hK _ _ (NewT.refl _) rfl)
    · exact fun a wx hT hF K hK => rely_wp rfl (opr_cmp (b := decide (((k : Int)) < ((List.length (bk.sg) : Int)))) (.inr (.inr (.inr (.inl ⟨rfl, rfl⟩)))) Try.underlying3 rfl hF.1 hF.2.1 (hK _ _ (NewT.refl _) rfl))
    · intro w2 k2
      iterate 5 (intro u h; obtain rfl := Eq.symm (h (by simp)); clear h)
      refine relyEnd_nil rfl ?_
      refine wpList_end rfl ?_
      simp only [Act.put, List.setIfInBounds_toArray, List.set_cons_zero, List.set_cons_succ]
      go_simp
      replace Rg1 := Lib.hid (k2.row Rg1.out)
      replace HM := Lib.hid (NewT.trans _ _ _ HM.out k2)
      replace HO := Lib.hid (HO.out.new k2)
      go_upto_region 5 with fail
      refine wp_region_rely_tail (NewT) [SV.eq (ov), SV.eq (.pointer (some ⟨g1, 4, none⟩)), SV.eq ((.slice A0 bk.sg.length cap)), SV.eq (.int .i64 ((k : Int))), svEl 10 sgE (p), svIp (p.2.ph), SV.eq (.int .i64 (p.2.ph)), SV.eq (.pointer (some ⟨g1, 4, none⟩)), SV.eq ((.slice A0 bk.sg.length cap)), SV.eq (.int .i64 ((k : Int))), svEl 10 sgE (p), svSg p.1 p.2, SV.eq (.int .i64 (missG p.2)), SV.eq ((.agg (rowA 2 (stepF (lineOf p))))), svLo (lineOf p)] [([(3, none)], none), ([(1, none)], none), ([(13, some 1)], none), ([(4, none)], none), ([(14, some 2), (15, some 3)], none), ([(16, some 4)], none), ([(17, some 5)], none), ([(1, none)], none), ([(19, some 7)], none), ([(4, none)], none), ([(20, some 8), (21, some 9)], none), ([(22, some 10)], none), ([(23, some 11)], none), ([(18, some 6), (24, some 12)], none), ([(25, some 13)], none)] 29 15 (by kernel_rfl) rfl rfl (Nat.zero_lt_succ _) (by kernel_rfl) (by kernel_rfl) (by kernel_rfl) NewT.trans (NewT.drew _) (Nat.le_of_ble_eq_true rfl) ⟨?_, ?_, ?_, ?_, ?_, ?_, ?_, ?_, ?_, ?_, ?_, ?_, ?_, ?_, ?_, trivial⟩ ?_
      · exact fun a wx hT hF K hK => rely_wp rfl (opr_move (.inl rfl) (hK _ _ (NewT.refl _) hF.1))
      · exact fun a wx hT hF K hK => rely_wp rfl (opr_fldK1 rfl hF.1 (hK _ _ (NewT.refl _) rfl))
      · exact fun a wx hT hF K hK => rely_wp rfl (opr_ldUs (hT.row Rg1.out) (by decide) rfl rfl hF.1 (hK _ _ (NewT.refl _) rfl))
      · exact fun a wx hT hF K hK => rely_wp rfl (opr_move (.inl rfl) (hK _ _ (NewT.refl _) hF.1))
      · intro a wx hT hF K hK
        obtain ⟨f14, f15, _⟩ := hF
        have f14 : a.tmps.getD 14 undef = (.slice A0 bk.sg.length cap) := f14
        have f15 : a.tmps.getD 15 undef = .int .i64 ((k : Int)) := f15
        refine rely_wp rfl ?_
        exact opr_idxL (i := k) (p := p) sagaEl (HPP.out) (rfl) rfl (by rw [eval_tmp, f14]; exact (HSV.out.new (NewT.trans _ _ _ HM.out hT))) f15 (fun v hv => hK v _ (NewT.refl _) hv)
      · exact fun a wx hT hF K hK => rely_wp rfl (opr_fldUe1 rfl hF.1 (fun u hu => hK u _ (NewT.refl _) hu))
      · exact fun a wx hT hF K hK => rely_wp rfl (opr_ldIp rfl hF.1 (hK _ _ (NewT.refl _) rfl))
      · exact fun a wx hT hF K hK => rely_wp rfl (opr_fldK1 rfl hF.1 (hK _ _ (NewT.refl _) rfl))
      · exact fun a wx hT hF K hK => rely_wp rfl (opr_ldUs (hT.row Rg1.out) (by decide) rfl rfl hF.1 (hK _ _ (NewT.refl _) rfl))
      · exact fun a wx hT hF K hK => rely_wp rfl (opr_move (.inl rfl) (hK _ _ (NewT.refl _) hF.1))
      · intro a wx hT hF K hK
        obtain ⟨f20, f21, _⟩ := hF
        have f20 : a.tmps.getD 20 undef = (.slice A0 bk.sg.length cap) := f20
        have f21 : a.tmps.getD 21 undef = .int .i64 ((k : Int)) := f21
        refine rely_wp rfl ?_
        exact opr_idxL (i := k) (p := p) sagaEl (HPP.out) (rfl) rfl (by rw [eval_tmp, f20]; exact (HSV.out.new (NewT.trans _ _ _ HM.out hT))) f21 (fun v hv => hK v _ (NewT.refl _) hv)
      · exact fun a wx hT hF K hK => rely_wp rfl (opr_ldUg rfl hF.1 (fun u hu => hK u _ (NewT.refl _) hu))
      · exact fun a wx hT hF K hK => rely_wp rfl (opr_cv (rMissU_cv _ p.1 p.2 wx (hF.1) (HGU.out)) rfl Try.func27 (by kernel_rfl) (by kernel_rfl) (evs1 rfl) hK)
      · intro a wx hT hF K hK
        obtain ⟨f18, f24, _⟩ := hF
        have f18 : a.tmps.getD 18 undef = .int .i64 (p.2.ph) := f18
        have f24 : a.tmps.getD 24 undef = .int .i64 (missG p.2) := f24
        refine rely_wp rfl ?_
        exact opr_build (pv := #[(0, .int .i64 p.2.ph), (1, .int .i64 (missG p.2))]) rfl (by simp only [List.map_toArray, List.map_cons, List.map_nil, eval_tmp, f18, f24]) (build_line p.2.ph (missG p.2) wx) (hK _ _ (NewT.refl _) rfl)
      · exact fun a wx hT hF K hK => rely_wp rfl (opr_bsLo rfl hF.1 (fun v w' hN hv => hK v w' hN hv))
      · intro w3 k3
        iterate 4 (intro u h; obtain rfl := Eq.symm (h (by simp)); clear h)
        iterate 2 (intro _ _)
        iterate 4 (intro u h; obtain rfl := Eq.symm (h (by simp)); clear h)
        iterate 2 (intro _ _)
        iterate 2 (intro u h; obtain rfl := Eq.symm (h (by simp)); clear h)
        intro u26 h; have g26 := h (by simp); clear h; replace g26 := show (svLo (lineOf p)).pred u26 w3 from g26
        refine relyEnd_nil rfl ?_
        simp only [Act.put, List.setIfInBounds_toArray, List.set_cons_zero, List.set_cons_succ]
        obtain ⟨v2, w2, hrun, ho, hB⟩ := run_appN (HO.out.new k3) g26 (by have := HTL.out; omega) (NewT.trans _ _ _ HM.out k3).out.size 31
        refine wpList_plain rfl (fun K hK => ?_)
        refine opr_append rfl rfl rfl hrun (hK _ _ ?_)
        clear hK K hrun
        simp only [Act.put, List.setIfInBounds_toArray, List.set_cons_zero, List.set_cons_succ]
        refine wpList_plain rfl (fun K hK => ?_)
        refine opr_move (.inr rfl) (hK _ _ ?_)
        clear hK K
        refine wpList_end rfl ?_
        simp only [Act.put, List.setIfInBounds_toArray, List.set_cons_zero, List.set_cons_succ]
        go_simp
        have HN : Hid (OwnL 34 2 lnE w2 W0.heap.size v2 ((repL bk.sg).take (k + 1))) := Lib.hid (by rw [rep_take HPP.out, HX.out]; exact ho)
        have hBM : NewT W0 w2 := NewT.of ((NewT.trans _ _ _ HM.out k3).out.trans hB)
        have it2 := HIT.out
        have hkl := HKL.out
        clear HM HO Rg1
        go_wp2
        go_roundw
        case rel => exact ⟨k + 1, _, by omega, by go_num, rfl, by first | exact HN | trivial, Lib.hid hBM⟩
        case measure => simp [intOf]; omega
end Go.Proofs.Ytilmeffmdgcblaa
/- The reference's Only: a saga's records, handed on as they are. -/
namespace Go.Proofs.Ytilmeffmdgcblaa
open Go Go.RowKit
set_option maxRecDepth 8000
set_option linter.all false
theorem isOf_cmp (n : Int) (x : Rc) : ((decide ((0 : Int) < x.kind) && decide (x.kind < 6)) && x.saga == n) = isOf n x := by
  unfold isOf ofB inR
  congr 1
  rw [Bool.eq_iff_iff]
  simp only [Bool.and_eq_true, decide_eq_true_eq]
  omega
theorem recV_rcA {w w' : World} {L : List Nat} {v : Value} {x : Rc} (h : RecV w v x) (hN : NewT w w') (hL : ∀ k ∈ L, w.heap.size ≤ k) : (svRecA L x).pred v w' := by
  obtain ⟨sv, dv, h1, h2, h3⟩ := h
  exact ⟨_, h1, rcA_elder ⟨sv, dv, rfl, h2, h3⟩ hN hL⟩
set_option maxHeartbeats 4000000 in
theorem rOnly_cv (v : Value) (l : List Rc) (n : Int) (w : World) (h : RdR w v l) (hl : l.length ≤ 1000) : Cv 20 #[v, .int .i64 n] w (svL 109 rcE (onlyL l n)) := by
  unfold Cv
  have HV := Lib.hid h
  have HLL := Lib.hid hl
  clear h hl
  go_enter Try.func20, Try.ntmps20
  have HM := Lib.hid (NewT.refl w)
  go_wp2
  go_loopw [5, 6] (fun o i wr => ∃ (k : Nat) (ov : Value), k ≤ l.length ∧ i = .int .i64 (k : Int) ∧ ov = o ∧ Hid (OwnR wr w.heap.size ov ((l.take k).filter (isOf n))) ∧ Hid (NewT w wr)) (fun _ i _ => l.length - (intOf i).toNat)
  case atStart => exact ⟨0, _, by omega, rfl, rfl, Lib.hid (ownR_nil _ _), HM⟩
  case round =>
    clear HM
    obtain ⟨k, ov, hk, rfl, rfl, HO, HM⟩ := hrel
    have hll := HLL.out
    by_cases hlt : k < l.length
    rotate_left
    · obtain rfl : k = l.length := by omega
      have HF : Hid (OwnR wr w.heap.size ov (onlyL l n)) := Lib.hid (by have := HO.out; rwa [List.take_length] at this)
      go_upto_region 3 with fail
      refine wp_region_steps0 NewT [SV.eq (.int .i64 ((l.length : Int))), SV.eq (v), SV.eq (.int .i64 ((List.length (l) : Int))), SV.eq (.bool (decide (((l.length : Int)) < ((List.length (l) : Int)))))] [([(6, none)], none), ([(0, none)], none), ([(8, some 1)], none), ([(7, some 0), (9, some 2)], none)] 44 4 rfl rfl (by kernel_rfl) NewT.trans (NewT.refl _) (Nat.le_of_ble_eq_true rfl) ⟨?_, ?_, ?_, ?_, trivial⟩ ?_
      · exact fun a wx hT hF K hK => rely_wp rfl (opr_move (.inl rfl) (hK _ _ (NewT.refl _) hF.1))
      · exact fun a wx hT hF K hK => rely_wp rfl (opr_move (.inl rfl) (hK _ _ (NewT.refl _) hF.1))
      · intro a wx hT hF K hK
        obtain ⟨f8, _⟩ := hF
        have f8 : a.tmps.getD 8 undef = v := f8
        refine rely_wp rfl ?_
        exact opr_lenL rfl recEl (by rw [eval_tmp, f8]; exact (HV.out.new (NewT.trans _ _ _ HM.out hT))) (hK _ _ (NewT.refl _) rfl)
      · exact fun a wx hT hF K hK => rely_wp rfl (opr_cmp (b := decide (((l.length : Int)) < ((List.length (l) : Int)))) (.inr (.inr (.inr (.inl ⟨rfl, rfl⟩)))) Try.underlying3 rfl hF.1 hF.2.1 (hK _ _ (NewT.refl _) rfl))
      · intro w1 k1
        iterate 4 (intro u h; obtain rfl := Eq.symm (h (by simp)); clear h)
        refine relyEnd_nil rfl ?_
        refine wpList_end rfl ?_
        simp only [Act.put, List.setIfInBounds_toArray, List.set_cons_zero, List.set_cons_succ]
        go_simp
        replace HM := Lib.hid (NewT.trans _ _ _ HM.out k1)
        replace HF := Lib.hid (HF.out.new k1)
        go_wp2
        go_ret
        exact ⟨_, rfl, HM.out, HF.out.rd⟩
    obtain ⟨x, hx⟩ : ∃ p, l[k]? = some p := ⟨_, List.getElem?_eq_getElem hlt⟩
    have HPP := Lib.hid hx
    have it : (k : Int) < (l.length : Int) := by omega
    have HIT := Lib.hid it
    clear hx hlt
    obtain ⟨X, hX⟩ : ∃ X, (l.take k).filter (isOf n) = X := ⟨_, rfl⟩
    have HX0 := Lib.hid hX
    rw [hX] at HO
    have HXN : Hid (X.length ≤ 1000) := Lib.hid (by rw [← hX]; have := List.length_filter_le (isOf n) (l.take k); have := List.length_take_le k l; omega)
    clear hX
    go_upto_region 3 with fail
    refine wp_region_steps0 NewT [SV.eq (.int .i64 ((k : Int))), SV.eq (v), SV.eq (.int .i64 ((List.length (l) : Int))), SV.eq (.bool (decide (((k : Int)) < ((List.length (l) : Int)))))] [([(6, none)], none), ([(0, none)], none), ([(8, some 1)], none), ([(7, some 0), (9, some 2)], none)] 44 4 rfl rfl (by kernel_rfl) NewT.trans (NewT.refl _) (Nat.le_of_ble_eq_true rfl) ⟨?_, ?_, ?_, ?_, trivial⟩ ?_
    · exact fun a wx hT hF K hK => rely_wp rfl (opr_move (.inl rfl) (hK _ _ (NewT.refl _) hF.1))
    · exact fun a wx hT hF K hK => rely_wp rfl (opr_move (.inl rfl) (hK _ _ (NewT.refl _) hF.1))
    · intro a wx hT hF K hK
      obtain ⟨f8, _⟩ := hF
      have f8 : a.tmps.getD 8 undef = v := f8
      refine rely_wp rfl ?_
      exact opr_lenL rfl recEl (by rw [eval_tmp, f8]; exact (HV.out.new (NewT.trans _ _ _ HM.out hT))) (hK _ _ (NewT.refl _) rfl)
    · exact fun a wx hT hF K hK => rely_wp rfl (opr_cmp (b := decide (((k : Int)) < ((List.length (l) : Int)))) (.inr (.inr (.inr (.inl ⟨rfl, rfl⟩)))) Try.underlying3 rfl hF.1 hF.2.1 (hK _ _ (NewT.refl _) rfl))
    · intro w2 k2
      iterate 4 (intro u h; obtain rfl := Eq.symm (h (by simp)); clear h)
      refine relyEnd_nil rfl ?_
      refine wpList_end rfl ?_
      simp only [Act.put, List.setIfInBounds_toArray, List.set_cons_zero, List.set_cons_succ]
      go_simp
      replace HM := Lib.hid (NewT.trans _ _ _ HM.out k2)
      replace HO := Lib.hid (HO.out.new k2)
      go_upto_region 5 with fail
      obtain ⟨q1_5, Q1_5⟩ : ∃ bq_, ((decide (0 < x.kind)) && (decide (x.kind < 6))) = bq_ := ⟨_, rfl⟩
      refine wp_region_steps0 NewT [SV.eq (v), SV.eq (.int .i64 ((k : Int))), svEl 109 rcE (x), svIp (x.kind), SV.eq (.int .i64 (x.kind)), SV.eq (.bool (decide (0 < x.kind))), SV.eq (.bool (decide (0 < x.kind))), svIf (decide (0 < x.kind)) (SV.eq (v)), svIf (decide (0 < x.kind)) (SV.eq (.int .i64 ((k : Int)))), svIf (decide (0 < x.kind)) (svEl 109 rcE (x)), svIf (decide (0 < x.kind)) (svIp (x.kind)), svIf (decide (0 < x.kind)) (SV.eq (.int .i64 (x.kind))), svIf (decide (0 < x.kind)) (SV.eq (.bool (decide (x.kind < 6)))), SV.eq (.bool (q1_5)), SV.eq (.bool (q1_5)), svIf q1_5 (SV.eq (v)), svIf q1_5 (SV.eq (.int .i64 ((k : Int)))), svIf q1_5 (svEl 109 rcE (x)), svIf q1_5 (svIp (x.saga)), svIf q1_5 (SV.eq (.int .i64 (x.saga))), svIf q1_5 (SV.eq (.int .i64 (n))), svIf q1_5 (SV.eq (.bool (x.saga == n))), SV.eq (.bool (q1_5 && (x.saga == n)))] [([(0, none)], none), ([(6, none)], none), ([(13, some 0), (14, some 1)], none), ([(15, some 2)], none), ([(16, some 3)], none), ([(17, some 4)], none), ([(18, some 5)], none), ([(0, none), (19, some 6)], some (19, true)), ([(6, none), (19, some 6)], some (19, true)), ([(20, some 7), (21, some 8), (19, some 6)], some (19, true)), ([(22, some 9), (19, some 6)], some (19, true)), ([(23, some 10), (19, some 6)], some (19, true)), ([(24, some 11), (19, some 6)], some (19, true)), ([(19, some 6), (25, some 12)], none), ([(26, some 13)], none), ([(0, none), (27, some 14)], some (27, true)), ([(6, none), (27, some 14)], some (27, true)), ([(28, some 15), (29, some 16), (27, some 14)], some (27, true)), ([(30, some 17), (27, some 14)], some (27, true)), ([(31, some 18), (27, some 14)], some (27, true)), ([(1, none), (27, some 14)], some (27, true)), ([(32, some 19), (33, some 20), (27, some 14)], some (27, true)), ([(27, some 14), (34, some 21)], none)] 44 23 rfl rfl (by kernel_rfl) NewT.trans (NewT.refl _) (Nat.le_of_ble_eq_true rfl) ⟨?_, ?_, ?_, ?_, ?_, ?_, ?_, ?_, ?_, ?_, ?_, ?_, ?_, ?_, ?_, ?_, ?_, ?_, ?_, ?_, ?_, ?_, ?_, trivial⟩ ?_
      · exact fun a wx hT hF K hK => rely_wp rfl (opr_move (.inl rfl) (hK _ _ (NewT.refl _) hF.1))
      · exact fun a wx hT hF K hK => rely_wp rfl (opr_move (.inl rfl) (hK _ _ (NewT.refl _) hF.1))
      · intro a wx hT hF K hK
        obtain ⟨f13, f14, _⟩ := hF
        have f13 : a.tmps.getD 13 undef = v := f13
        have f14 : a.tmps.getD 14 undef = .int .i64 ((k : Int)) := f14
        refine rely_wp rfl ?_
        exact opr_idxL (i := k) (p := x) recEl (HPP.out) (rfl) rfl (by rw [eval_tmp, f13]; exact (HV.out.new (NewT.trans _ _ _ HM.out hT))) f14 (fun v hv => hK v _ (NewT.refl _) hv)
      · exact fun a wx hT hF K hK => rely_wp rfl (opr_fldRe0 rfl hF.1 (fun u hu => hK u _ (NewT.refl _) hu))
      · exact fun a wx hT hF K hK => rely_wp rfl (opr_ldIp rfl hF.1 (hK _ _ (NewT.refl _) rfl))
      · exact fun a wx hT hF K hK => rely_wp rfl (opr_cmp (b := decide (0 < x.kind)) (.inr (.inr (.inr (.inr (.inl ⟨rfl, rfl⟩))))) Try.underlying3 rfl hF.1 rfl (hK _ _ (NewT.refl _) rfl))
      · exact fun a wx hT hF K hK => rely_wp rfl (opr_move (.inl rfl) (hK _ _ (NewT.refl _) hF.1))
      · exact fun a wx hT hF K hK => rely_if (rely_gt hF.2.1) (NewT.refl _) hK fun hE hK => opr_move (.inl rfl) (hK _ _ (NewT.refl _) hF.1)
      · exact fun a wx hT hF K hK => rely_if (rely_gt hF.2.1) (NewT.refl _) hK fun hE hK => opr_move (.inl rfl) (hK _ _ (NewT.refl _) hF.1)
      · intro a wx hT hF K hK
        obtain ⟨f20, f21, f19, _⟩ := hF
        have f20 : (decide (0 < x.kind)) = true → a.tmps.getD 20 undef = v := f20
        have f21 : (decide (0 < x.kind)) = true → a.tmps.getD 21 undef = .int .i64 ((k : Int)) := f21
        have f19 : a.tmps.getD 19 undef = .bool (decide (0 < x.kind)) := f19
        refine rely_if (rely_gt f19) (NewT.refl _) hK (fun hE hK => ?_)
        exact opr_idxL (i := k) (p := x) recEl (HPP.out) (rfl) rfl (by rw [eval_tmp, (f20 hE)]; exact (HV.out.new (NewT.trans _ _ _ HM.out hT))) (f21 hE) (fun v hv => hK v _ (NewT.refl _) hv)
      · exact fun a wx hT hF K hK => rely_if (rely_gt hF.2.1) (NewT.refl _) hK fun hE hK => opr_fldRe0 rfl (hF.1 hE) (fun u hu => hK u _ (NewT.refl _) hu)
      · exact fun a wx hT hF K hK => rely_if (rely_gt hF.2.1) (NewT.refl _) hK fun hE hK => opr_ldIp rfl (hF.1 hE) (hK _ _ (NewT.refl _) rfl)
      · exact fun a wx hT hF K hK => rely_if (rely_gt hF.2.1) (NewT.refl _) hK fun hE hK => opr_cmp (b := decide (x.kind < 6)) (.inr (.inr (.inr (.inl ⟨rfl, rfl⟩)))) Try.underlying3 rfl (hF.1 hE) rfl (hK _ _ (NewT.refl _) rfl)
      · exact fun a wx hT hF K hK => rely_wp rfl (opr_pick_b rfl hF.1 (fun hb => hK _ _ (NewT.refl _) (pn_and1 Q1_5 (hF.2.1 hb) hb)) (fun hb => hK _ _ (NewT.refl _) (pn_and0 Q1_5 hb)))
      · exact fun a wx hT hF K hK => rely_wp rfl (opr_move (.inl rfl) (hK _ _ (NewT.refl _) hF.1))
      · exact fun a wx hT hF K hK => rely_if (rely_gt hF.2.1) (NewT.refl _) hK fun hE hK => opr_move (.inl rfl) (hK _ _ (NewT.refl _) hF.1)
      · exact fun a wx hT hF K hK => rely_if (rely_gt hF.2.1) (NewT.refl _) hK fun hE hK => opr_move (.inl rfl) (hK _ _ (NewT.refl _) hF.1)
      · intro a wx hT hF K hK
        obtain ⟨f28, f29, f27, _⟩ := hF
        have f28 : q1_5 = true → a.tmps.getD 28 undef = v := f28
        have f29 : q1_5 = true → a.tmps.getD 29 undef = .int .i64 ((k : Int)) := f29
        have f27 : a.tmps.getD 27 undef = .bool (q1_5) := f27
        refine rely_if (rely_gt f27) (NewT.refl _) hK (fun hE hK => ?_)
        exact opr_idxL (i := k) (p := x) recEl (HPP.out) (rfl) rfl (by rw [eval_tmp, (f28 hE)]; exact (HV.out.new (NewT.trans _ _ _ HM.out hT))) (f29 hE) (fun v hv => hK v _ (NewT.refl _) hv)
      · exact fun a wx hT hF K hK => rely_if (rely_gt hF.2.1) (NewT.refl _) hK fun hE hK => opr_fldRe1 rfl (hF.1 hE) (fun u hu => hK u _ (NewT.refl _) hu)
      · exact fun a wx hT hF K hK => rely_if (rely_gt hF.2.1) (NewT.refl _) hK fun hE hK => opr_ldIp rfl (hF.1 hE) (hK _ _ (NewT.refl _) rfl)
      · exact fun a wx hT hF K hK => rely_if (rely_gt hF.2.1) (NewT.refl _) hK fun hE hK => opr_move (.inl rfl) (hK _ _ (NewT.refl _) hF.1)
      · exact fun a wx hT hF K hK => rely_if (rely_gt hF.2.2.1) (NewT.refl _) hK fun hE hK => opr_cmp (b := x.saga == n) (.inl ⟨rfl, rfl⟩) Try.underlying3 rfl (hF.1 hE) (hF.2.1 hE) (hK _ _ (NewT.refl _) rfl)
      · exact fun a wx hT hF K hK => rely_wp rfl (opr_pick_b rfl hF.1 (fun hb => hK _ _ (NewT.refl _) (pk_and1 (hF.2.1 hb) hb)) (fun hb => hK _ _ (NewT.refl _) (pk_and0 hb)))
      · intro w3 k3
        iterate 2 (intro u h; obtain rfl := Eq.symm (h (by simp)); clear h)
        iterate 2 (intro _ _)
        iterate 3 (intro u h; obtain rfl := Eq.symm (h (by simp)); clear h)
        iterate 6 (intro _ _)
        iterate 2 (intro u h; obtain rfl := Eq.symm (h (by simp)); clear h)
        iterate 7 (intro _ _)
        intro u h; obtain rfl := Eq.symm (h (by simp)); clear h
        subst Q1_5
        refine relyEnd_nil rfl ?_
        refine wpList_end rfl ?_
        simp only [Act.put, List.setIfInBounds_toArray, List.set_cons_zero, List.set_cons_succ]
        go_simp
        replace HM := Lib.hid (NewT.trans _ _ _ HM.out k3)
        replace HO := Lib.hid (HO.out.new k3)
        have HEX : Hid ((((decide (0 < x.kind)) && (decide (x.kind < 6))) && (x.saga == n)) = isOf n x) := Lib.hid (isOf_cmp n x)
        cases hb : (((decide (0 < x.kind)) && (decide (x.kind < 6))) && (x.saga == n))
        · have he : isOf n x = false := HEX.out.symm.trans hb
          have HN : Hid (OwnR w3 w.heap.size ov ((l.take (k + 1)).filter (isOf n))) := Lib.hid (by rw [take_filter HPP.out, HX0.out, if_neg (by rw [he]; simp), List.append_nil]; exact HO.out)
          clear hb he HEX
          have it2 := HIT.out
          go_wp2
          go_roundw
          case rel => exact ⟨k + 1, _, by omega, by go_num, rfl, by first | exact HN | trivial, HM⟩
          case measure => simp [intOf]; omega
        · have he : isOf n x = true := HEX.out.symm.trans hb
          clear hb HEX
          go_upto_region 6 with fail
          refine wp_region_steps0 NewT [SV.eq (ov), SV.eq (v), SV.eq (.int .i64 ((k : Int))), svAt w (svEl 109 rcE x), svAt w (svRec x), svRo (Value.ownBlock ov).toList x] [([(5, none)], none), ([(0, none)], none), ([(6, none)], none), ([(37, some 1), (38, some 2)], none), ([(39, some 3)], none), ([(40, some 4)], none)] 44 6 rfl rfl (by kernel_rfl) NewT.trans (NewT.refl _) (Nat.le_of_ble_eq_true rfl) ⟨?_, ?_, ?_, ?_, ?_, ?_, trivial⟩ ?_
          · exact fun a wx hT hF K hK => rely_wp rfl (opr_move (.inl rfl) (hK _ _ (NewT.refl _) hF.1))
          · exact fun a wx hT hF K hK => rely_wp rfl (opr_move (.inl rfl) (hK _ _ (NewT.refl _) hF.1))
          · exact fun a wx hT hF K hK => rely_wp rfl (opr_move (.inl rfl) (hK _ _ (NewT.refl _) hF.1))
          · intro a wx hT hF K hK
            obtain ⟨f37, f38, _⟩ := hF
            have f37 : a.tmps.getD 37 undef = v := f37
            have f38 : a.tmps.getD 38 undef = .int .i64 ((k : Int)) := f38
            refine rely_wp rfl ?_
            exact opr_idxLW (W := w) recEl HPP.out rfl rfl (by rw [eval_tmp, f37]; exact HV.out) f38 (fun v hv => hK v _ (NewT.refl _) hv)
          · exact fun a wx hT hF K hK => rely_wp rfl (opr_ldRcW (W := w) (NewT.trans _ _ _ HM.out hT) rfl hF.1 (fun v hv => hK v _ (NewT.refl _) hv))
          · exact fun a wx hT hF K hK => rely_wp rfl (opr_bsRo rfl (recV_rcA hF.1 (NewT.trans _ _ _ HM.out hT) (fun k hk => (HO.out.at_ k hk).1)) (fun v w' hN hv => hK v w' hN hv))
          · intro w4 k4
            iterate 3 (intro u h; obtain rfl := Eq.symm (h (by simp)); clear h)
            iterate 2 (intro _ _)
            intro u41 h; have g41 := h (by simp); clear h; replace g41 := show (svRo (Value.ownBlock ov).toList x).pred u41 w4 from g41
            refine relyEnd_nil rfl ?_
            simp only [Act.put, List.setIfInBounds_toArray, List.set_cons_zero, List.set_cons_succ]
            obtain ⟨v2, w2, hrun, ho, hB⟩ := run_appR (HO.out.new k4) g41 (by have := HXN.out; omega) (NewT.trans _ _ _ HM.out k4).out.size 22
            refine wpList_plain rfl (fun K hK => ?_)
            refine opr_append rfl rfl rfl hrun (hK _ _ ?_)
            clear hK K hrun
            simp only [Act.put, List.setIfInBounds_toArray, List.set_cons_zero, List.set_cons_succ]
            refine wpList_plain rfl (fun K hK => ?_)
            refine opr_move (.inr rfl) (hK _ _ ?_)
            clear hK K
            refine wpList_end rfl ?_
            simp only [Act.put, List.setIfInBounds_toArray, List.set_cons_zero, List.set_cons_succ]
            go_simp
            have HN : Hid (OwnR w2 w.heap.size v2 ((l.take (k + 1)).filter (isOf n))) := Lib.hid (by rw [take_filter HPP.out, HX0.out, if_pos he]; exact ho)
            have hBM : NewT w w2 := NewT.of ((NewT.trans _ _ _ HM.out k4).out.trans hB)
            have it2 := HIT.out
            clear HM HO
            go_wp2
            go_roundw
            case rel => exact ⟨k + 1, _, by omega, by go_num, rfl, by first | exact HN | trivial, Lib.hid hBM⟩
            case measure => simp [intOf]; omega
end Go.Proofs.Ytilmeffmdgcblaa
/- The law BookReports, walked: every book's report, whether it is clean, which books are the same, and a saga's records, are the document's. -/
namespace Go.Proofs.Ytilmeffmdgcblaa
open Go Go.RowKit
set_option maxRecDepth 8000
set_option linter.all false
theorem clean_take {L : List (Int × Int)} {k : Nat} {q : Int × Int} (hq : L[k]? = some q) : cleanL (L.take (k + 1)) = (cleanL (L.take k) && (q.1 == 2 || q.1 == 3)) := by
  unfold cleanL
  rw [List.take_add_one, hq, List.all_append]
  simp
theorem sameR_self (l : List Rc) : sameLs zR sameB l l = true := sameLs_self l fun x => by unfold sameB; simp [eqH_same]
theorem sameN_self (l : List (Int × Int)) : sameLs (0, 0) eqN l l = true := sameLs_self l fun p => by simp [eqN]
set_option maxHeartbeats 8000000 in
theorem BookReports_walk (v v2 : Value) (l l2 : List Rc) (lim n : Int) (w : World) (h : RdR w v l) (h2 : RdR w v2 l2) : Calls Try.prog 3 #[v, v2, .int .i64 lim, .int .i64 n] w fun e w' => e = .returned (.bool true) ∧ Below w.heap.size w w' := by
  have HV := Lib.hid h
  have HV2 := Lib.hid h2
  clear h h2
  go_enter Try.func3, Try.ntmps3
  go_upto_region 1 with fail
  have HB := Lib.hid (NewT.refl w)
  have HM := Lib.hid (NewT.refl w)
  refine wp_region_steps0 NewT [SV.eq (.bool true), SV.eq (.bool false)] [([], none), ([(17, some 0)], none)] 102 2 rfl rfl (by kernel_rfl) NewT.trans (NewT.refl _) (Nat.le_of_ble_eq_true rfl) ⟨?_, ?_, trivial⟩ ?_
  · exact fun a wx hT hF K hK => rely_wp rfl (opr_cv (alive12_c wx) rfl Try.func8 (by kernel_rfl) (by kernel_rfl) evs0 hK)
  · exact fun a wx hT hF K hK => rely_wp rfl (opr_not rfl hF.1 (hK _ _ (NewT.refl _) rfl))
  · intro w1 k1
    iterate 2 (intro u h; obtain rfl := Eq.symm (h (by simp)); clear h)
    refine relyEnd_nil rfl ?_
    refine wpList_end rfl ?_
    simp only [Act.put, List.setIfInBounds_toArray, List.set_cons_zero, List.set_cons_succ]
    go_simp
    replace HM := Lib.hid (NewT.trans _ _ _ HM.out k1)
    clear k1
    go_upto_region 3 with fail
    refine wp_region_steps0 NewT [SV.eq (v), SV.eq (.bool (greatL l)), SV.eq (.bool (greatL l)), svIf ((!(greatL l))) (SV.eq (v2)), svIf ((!(greatL l))) (SV.eq (.bool (greatL l2))), SV.eq (.bool ((greatL l) || (greatL l2)))] [([(0, none)], none), ([(19, some 0)], none), ([(20, some 1)], none), ([(1, none), (21, some 2)], some (21, false)), ([(22, some 3), (21, some 2)], some (21, false)), ([(21, some 2), (23, some 4)], none)] 102 6 rfl rfl (by kernel_rfl) NewT.trans (NewT.refl _) (Nat.le_of_ble_eq_true rfl) ⟨?_, ?_, ?_, ?_, ?_, ?_, trivial⟩ ?_
    · exact fun a wx hT hF K hK => rely_wp rfl (opr_move (.inl rfl) (hK _ _ (NewT.refl _) hF.1))
    · exact fun a wx hT hF K hK => rely_wp rfl (opr_cv (Great_cv _ l wx ((HV.out.new (NewT.trans _ _ _ HM.out hT)))) rfl Try.func9 (by kernel_rfl) (by kernel_rfl) (evs1 hF.1) hK)
    · exact fun a wx hT hF K hK => rely_wp rfl (opr_move (.inl rfl) (hK _ _ (NewT.refl _) hF.1))
    · exact fun a wx hT hF K hK => rely_if (rely_gf hF.2.1) (NewT.refl _) hK fun hE hK => opr_move (.inl rfl) (hK _ _ (NewT.refl _) hF.1)
    · exact fun a wx hT hF K hK => rely_if (rely_gf hF.2.1) (NewT.refl _) hK fun hE hK => opr_cv (Great_cv _ l2 wx ((HV2.out.new (NewT.trans _ _ _ HM.out hT)))) rfl Try.func9 (by kernel_rfl) (by kernel_rfl) (evs1 (hF.1 hE)) hK
    · exact fun a wx hT hF K hK => rely_wp rfl (opr_pick_b rfl hF.1 (fun hb => hK _ _ (NewT.refl _) (pk_or1 hb)) (fun hb => hK _ _ (NewT.refl _) (pk_or0 (hF.2.1 (bnot hb)) hb)))
    · intro w2 k2
      iterate 3 (intro u h; obtain rfl := Eq.symm (h (by simp)); clear h)
      iterate 2 (intro _ _)
      intro u h; obtain rfl := Eq.symm (h (by simp)); clear h
      refine relyEnd_nil rfl ?_
      refine wpList_end rfl ?_
      simp only [Act.put, List.setIfInBounds_toArray, List.set_cons_zero, List.set_cons_succ]
      go_simp
      replace HM := Lib.hid (NewT.trans _ _ _ HM.out k2)
      clear k2
      cases hq : ((greatL l) || (greatL l2))
      rotate_left
      · clear hq
        go_wp2
        go_ret
        exact ⟨rfl, (NewT.trans _ _ _ HB.out HM.out).out⟩
      have hq1 := (Bool.or_eq_false_iff.1 hq).1
      have hq2 := (Bool.or_eq_false_iff.1 hq).2
      have HL150 := Lib.hid (great_not hq1).1
      have HXL := Lib.hid (great_not hq1).2
      have HM150 := Lib.hid (great_not hq2).1
      have HGD := Lib.hid (good_of lim l)
      have HGE := Lib.hid (good_of lim l2)
      obtain ⟨bk, hbk⟩ := hid_ex (bkOf lim l)
      obtain ⟨m1, hm1⟩ := hid_ex (nOf lim zK l)
      obtain ⟨bc, hbc⟩ := hid_ex (bkOf lim l2)
      obtain ⟨m2, hm2⟩ := hid_ex (nOf lim zK l2)
      rw [hbk.out, hm1.out] at HGD
      rw [hbc.out, hm2.out] at HGE
      have HGU : Hid (∀ p ∈ bk.sg, GoodU p) := Lib.hid (fun p hp => ⟨_, _, HGD.out.sg p hp⟩)
      have HGV : Hid (∀ p ∈ bc.sg, GoodU p) := Lib.hid (fun p hp => ⟨_, _, HGE.out.sg p hp⟩)
      have HLN : Hid (bk.sg.length ≤ 12 ∧ bc.sg.length ≤ 12) := Lib.hid ⟨HGD.out.len.1, HGE.out.len.1⟩
      have HRN : Hid ((repL bk.sg).length = bk.sg.length ∧ (repL bc.sg).length = bc.sg.length) := Lib.hid ⟨by simp [repL], by simp [repL]⟩
      clear hq hq1 hq2
      go_upto_region 5 with fail
      refine wp_region_steps0 NewT [SV.eq (v), SV.eq (.int .i64 (lim)), svBkRB 0 (bk) (.int .i64 ((m1 : Int))), svBkRB 0 (bk) (.int .i64 ((m1 : Int))), svBkB (0) bk, SV.eq (.int .i64 ((m1 : Int)))] [([(0, none)], none), ([(2, none)], none), ([(26, some 0), (27, some 1)], none), ([(28, some 2)], none), ([(25, some 3)], none), ([(25, some 3)], none)] 102 6 rfl rfl (by kernel_rfl) NewT.trans (NewT.refl _) (Nat.le_of_ble_eq_true rfl) ⟨?_, ?_, ?_, ?_, ?_, ?_, trivial⟩ ?_
      · exact fun a wx hT hF K hK => rely_wp rfl (opr_move (.inl rfl) (hK _ _ (NewT.refl _) hF.1))
      · exact fun a wx hT hF K hK => rely_wp rfl (opr_move (.inl rfl) (hK _ _ (NewT.refl _) hF.1))
      · exact fun a wx hT hF K hK => rely_wp rfl (opr_cv (svBkRB_le (Of_cv _ l lim wx ((HV.out.new (NewT.trans _ _ _ HM.out hT))) (by have := HL150.out; omega)) (hbk.out) (by rw [hm1.out])) rfl Try.func10 (by kernel_rfl) (by kernel_rfl) (evs2 hF.1 hF.2.1) hK)
      · exact fun a wx hT hF K hK => rely_wp rfl (opr_move (.inl rfl) (hK _ _ (NewT.refl _) hF.1))
      · exact fun a wx hT hF K hK => rely_wp rfl (opr_extKB0 rfl hF.1 (fun u hu => hK u _ (NewT.refl _) hu))
      · exact fun a wx hT hF K hK => rely_wp rfl (opr_extKB1 rfl hF.1 (hK _ _ (NewT.refl _) rfl))
      · intro w3 k3
        iterate 2 (intro u h; obtain rfl := Eq.symm (h (by simp)); clear h)
        iterate 2 (intro _ _)
        intro u29 h; have g29 := h (by simp); clear h; replace g29 := show (svBkB (0) bk).pred u29 w3 from g29
        intro u h; obtain rfl := Eq.symm (h (by simp)); clear h
        refine relyEnd_nil rfl ?_
        simp only [Act.put, List.setIfInBounds_toArray, List.set_cons_zero, List.set_cons_succ]
        obtain ⟨s9, rfl, hs9⟩ := (show BkVB w3 (0) u29 bk from g29)
        refine wpList_new (n := 5) (f := bkF bk.ep s9) rfl rfl rfl rfl rfl rfl (by first | (simp; done) | simp [Act.put]) run_alloc_book info_book (bkF_one _ _ hs9.rd.one) rfl ?_
        intro W3 hn3 rr3
        simp only [Act.put, List.setIfInBounds_toArray, List.set_cons_zero, List.set_cons_succ]
        refine wpList_plain rfl (fun K hK => ?_)
        refine opr_move (.inr rfl) (hK _ _ ?_)
        clear hK K
        refine wpList_end rfl ?_
        simp only [Act.put, List.setIfInBounds_toArray, List.set_cons_zero, List.set_cons_succ]
        go_simp
        obtain ⟨g9, h_g9⟩ : ∃ g_, w3.heap.size = g_ := ⟨_, rfl⟩
        rw [h_g9] at rr3
        simp only [h_g9]
        have HGg9 : Hid (w.heap.size ≤ g9) := Lib.hid (by rw [← h_g9]; exact (NewT.trans _ _ _ HM.out k3).out.size)
        have q3 := NewT.trans _ _ _ k3 hn3
        have HS9 := Lib.hid (hs9.new hn3)
        clear hs9
        clear k3 hn3 h_g9
        replace HM := Lib.hid (NewT.trans _ _ _ HM.out q3)
        clear q3
        have Rg9 := Lib.hid rr3
        clear rr3
        replace HV := Lib.hid (HV.out.new HM.out)
        replace HV2 := Lib.hid (HV2.out.new HM.out)
        replace HB := Lib.hid (NewT.trans _ _ _ HB.out HM.out)
        replace HM := Lib.hid (NewT.refl W3)
        go_upto_region 6 with fail
        refine wp_region_steps0 NewT [SV.eq (v2), SV.eq (.int .i64 (lim)), svBkRB 0 (bc) (.int .i64 ((m2 : Int))), svBkRB 0 (bc) (.int .i64 ((m2 : Int))), svBkB (0) bc, SV.eq (.int .i64 ((m2 : Int)))] [([(1, none)], none), ([(2, none)], none), ([(32, some 0), (33, some 1)], none), ([(34, some 2)], none), ([(31, some 3)], none), ([(31, some 3)], none)] 102 6 rfl rfl (by kernel_rfl) NewT.trans (NewT.refl _) (Nat.le_of_ble_eq_true rfl) ⟨?_, ?_, ?_, ?_, ?_, ?_, trivial⟩ ?_
        · exact fun a wx hT hF K hK => rely_wp rfl (opr_move (.inl rfl) (hK _ _ (NewT.refl _) hF.1))
        · exact fun a wx hT hF K hK => rely_wp rfl (opr_move (.inl rfl) (hK _ _ (NewT.refl _) hF.1))
        · exact fun a wx hT hF K hK => rely_wp rfl (opr_cv (svBkRB_le (Of_cv _ l2 lim wx ((HV2.out.new (NewT.trans _ _ _ HM.out hT))) (by have := HM150.out; omega)) (hbc.out) (by rw [hm2.out])) rfl Try.func10 (by kernel_rfl) (by kernel_rfl) (evs2 hF.1 hF.2.1) hK)
        · exact fun a wx hT hF K hK => rely_wp rfl (opr_move (.inl rfl) (hK _ _ (NewT.refl _) hF.1))
        · exact fun a wx hT hF K hK => rely_wp rfl (opr_extKB0 rfl hF.1 (fun u hu => hK u _ (NewT.refl _) hu))
        · exact fun a wx hT hF K hK => rely_wp rfl (opr_extKB1 rfl hF.1 (hK _ _ (NewT.refl _) rfl))
        · intro w4 k4
          iterate 2 (intro u h; obtain rfl := Eq.symm (h (by simp)); clear h)
          iterate 2 (intro _ _)
          intro u35 h; have g35 := h (by simp); clear h; replace g35 := show (svBkB (0) bc).pred u35 w4 from g35
          intro u h; obtain rfl := Eq.symm (h (by simp)); clear h
          refine relyEnd_nil rfl ?_
          simp only [Act.put, List.setIfInBounds_toArray, List.set_cons_zero, List.set_cons_succ]
          obtain ⟨s11, rfl, hs11⟩ := (show BkVB w4 (0) u35 bc from g35)
          refine wpList_new (n := 5) (f := bkF bc.ep s11) rfl rfl rfl rfl rfl rfl (by first | (simp; done) | simp [Act.put]) run_alloc_book info_book (bkF_one _ _ hs11.rd.one) rfl ?_
          intro W4 hn4 rr4
          simp only [Act.put, List.setIfInBounds_toArray, List.set_cons_zero, List.set_cons_succ]
          refine wpList_plain rfl (fun K hK => ?_)
          refine opr_move (.inr rfl) (hK _ _ ?_)
          clear hK K
          refine wpList_end rfl ?_
          simp only [Act.put, List.setIfInBounds_toArray, List.set_cons_zero, List.set_cons_succ]
          go_simp
          obtain ⟨g11, h_g11⟩ : ∃ g_, w4.heap.size = g_ := ⟨_, rfl⟩
          rw [h_g11] at rr4
          simp only [h_g11]
          have HGg11 : Hid (g9 < g11 ∧ W3.heap.size ≤ g11) := Lib.hid (by rw [← h_g11]; exact ⟨(k4.row Rg9.out).lt, (NewT.trans _ _ _ HM.out k4).out.size⟩)
          have q4 := NewT.trans _ _ _ k4 hn4
          have HS11 := Lib.hid (hs11.new hn4)
          clear hs11
          clear k4 hn4 h_g11
          replace Rg9 := Lib.hid (q4.row Rg9.out)
          replace HM := Lib.hid (NewT.trans _ _ _ HM.out q4)
          clear q4
          have Rg11 := Lib.hid rr4
          clear rr4
          replace HV := Lib.hid (HV.out.new HM.out)
          replace HV2 := Lib.hid (HV2.out.new HM.out)
          replace HS9 := Lib.hid (HS9.out.new HM.out)
          replace HB := Lib.hid (NewT.trans _ _ _ HB.out HM.out)
          replace HM := Lib.hid (NewT.refl W4)
          go_upto_region 7 with fail
          refine wp_region_rely (NewT) [SV.eq (.agg (rowA 5 (bkF bk.ep s9))), svL 2 lnE (repL bk.sg), SV.eq (.agg (rowA 5 (bkF bk.ep s9))), svL 2 lnE (repL bk.sg), svL 2 lnE (repL bk.sg)] [([(9, none)], none), ([(37, some 0)], none), ([(9, none)], none), ([(39, some 2)], none), ([(38, some 1)], none)] 102 rfl (by kernel_rfl) rfl (by kernel_rfl) (by kernel_rfl) rfl NewT.trans (NewT.drew _) (Nat.le_of_ble_eq_true rfl) ⟨?_, ?_, ?_, ?_, ?_, trivial⟩ ?_
          · exact fun a wx hT hF K hK => rely_wp rfl (opr_ldK (hT.row Rg9.out) rfl hF.1 (hK _ _ (NewT.refl _) rfl))
          · exact fun a wx hT hF K hK => rely_wp rfl (opr_cv (Report_cv _ bk wx ((show BkVB wx _ _ bk from ⟨s9, rfl, HS9.out.new (NewT.trans _ _ _ HM.out hT)⟩).rd) (by have := HLN.out; omega)) rfl Try.func11 (by kernel_rfl) (by kernel_rfl) (evs1 hF.1) hK)
          · exact fun a wx hT hF K hK => rely_wp rfl (opr_ldK (hT.row Rg9.out) rfl hF.1 (hK _ _ (NewT.refl _) rfl))
          · exact fun a wx hT hF K hK => rely_wp rfl (opr_cv (rReport_cv _ bk wx ((show BkVB wx _ _ bk from ⟨s9, rfl, HS9.out.new (NewT.trans _ _ _ HM.out hT)⟩).rd) (by have := HLN.out; omega) (HGU.out)) rfl Try.func12 (by kernel_rfl) (by kernel_rfl) (evs1 hF.1) hK)
          · exact fun a wx hT hF K hK => rely_wp rfl (opr_move (.inr rfl) (hK _ _ (NewT.refl _) hF.1))
          · intro w5 k5
            intro u h; obtain rfl := Eq.symm (h (by simp)); clear h
            intro _ _
            intro u h; obtain rfl := Eq.symm (h (by simp)); clear h
            intro u40 h; have g40 := h (by simp); clear h; replace g40 := show (svL 2 lnE (repL bk.sg)).pred u40 w5 from g40
            intro u13 h; have g13 := h (by simp); clear h; replace g13 := show (svL 2 lnE (repL bk.sg)).pred u13 w5 from g13
            refine relyEnd_nil rfl ?_
            simp only [Act.put, List.setIfInBounds_toArray, List.set_cons_zero, List.set_cons_succ]
            refine opr_move (.inr rfl) ?_
            go_simp
            replace Rg9 := Lib.hid (k5.row Rg9.out)
            replace Rg11 := Lib.hid (k5.row Rg11.out)
            replace HM := Lib.hid (NewT.trans _ _ _ HM.out k5)
            clear k5
            have HRV : Hid (RdN w5 u13 (repL bk.sg)) := Lib.hid g13
            have HSV : Hid (RdN w5 u40 (repL bk.sg)) := Lib.hid g40
            replace HV := Lib.hid (HV.out.new HM.out)
            replace HV2 := Lib.hid (HV2.out.new HM.out)
            replace HS9 := Lib.hid (HS9.out.new HM.out)
            replace HS11 := Lib.hid (HS11.out.new HM.out)
            replace HB := Lib.hid (NewT.trans _ _ _ HB.out HM.out)
            replace HM := Lib.hid (NewT.refl w5)
            obtain ⟨Y, HY⟩ := hid_ex (repL bk.sg)
            go_wp2
            go_loopw [15, 16] (fun c i wr => ∃ (k : Nat) (b : Bool), k ≤ (repL bk.sg).length ∧ c = .bool b ∧ i = .int .i64 (k : Int) ∧ Hid (b = cleanL ((repL bk.sg).take k)) ∧ Hid (NewT w5 wr) ∧ Hid (wr.rowIs g9 28 5 (bkF bk.ep s9)) ∧ Hid (wr.rowIs g11 28 5 (bkF bc.ep s11))) (fun _ i _ => (repL bk.sg).length - (intOf i).toNat)
            case atStart => exact ⟨0, true, by omega, rfl, rfl, Lib.hid (by simp [cleanL]), HM, Rg9, Rg11⟩
            case round =>
              clear HM Rg9 Rg11
              obtain ⟨k, b, hk, rfl, rfl, HCB, HM, Rg9, Rg11⟩ := hrel
              by_cases hlt : k < (repL bk.sg).length
              rotate_left
              · obtain rfl : k = (repL bk.sg).length := by omega
                have HCL : Hid (cleanL (repL bk.sg) = b) := Lib.hid (by have := HCB.out; rw [List.take_length] at this; exact this.symm)
                go_upto_region 10 with fail
                refine wp_region_steps0 NewT [SV.eq (.int .i64 (((repL bk.sg).length : Int))), SV.eq (u40), SV.eq (.int .i64 ((List.length (repL bk.sg) : Int))), SV.eq (.bool (decide ((((repL bk.sg).length : Int)) < ((List.length (repL bk.sg) : Int)))))] [([(16, none)], none), ([(14, none)], none), ([(42, some 1)], none), ([(41, some 0), (43, some 2)], none)] 102 4 rfl rfl (by kernel_rfl) NewT.trans (NewT.refl _) (Nat.le_of_ble_eq_true rfl) ⟨?_, ?_, ?_, ?_, trivial⟩ ?_
                · exact fun a wx hT hF K hK => rely_wp rfl (opr_move (.inl rfl) (hK _ _ (NewT.refl _) hF.1))
                · exact fun a wx hT hF K hK => rely_wp rfl (opr_move (.inl rfl) (hK _ _ (NewT.refl _) hF.1))
                · intro a wx hT hF K hK
                  obtain ⟨f42, _⟩ := hF
                  have f42 : a.tmps.getD 42 undef = u40 := f42
                  refine rely_wp rfl ?_
                  exact opr_lenL rfl lineEl (by rw [eval_tmp, f42]; exact (HSV.out.new (NewT.trans _ _ _ HM.out hT))) (hK _ _ (NewT.refl _) rfl)
                · exact fun a wx hT hF K hK => rely_wp rfl (opr_cmp (b := decide ((((repL bk.sg).length : Int)) < ((List.length (repL bk.sg) : Int)))) (.inr (.inr (.inr (.inl ⟨rfl, rfl⟩)))) Try.underlying3 rfl hF.1 hF.2.1 (hK _ _ (NewT.refl _) rfl))
                · intro w6 k6
                  iterate 4 (intro u h; obtain rfl := Eq.symm (h (by simp)); clear h)
                  refine relyEnd_nil rfl ?_
                  refine wpList_end rfl ?_
                  simp only [Act.put, List.setIfInBounds_toArray, List.set_cons_zero, List.set_cons_succ]
                  go_simp
                  replace Rg9 := Lib.hid (k6.row Rg9.out)
                  replace Rg11 := Lib.hid (k6.row Rg11.out)
                  replace HM := Lib.hid (NewT.trans _ _ _ HM.out k6)
                  clear k6
                  have HON : Hid ((onlyL l n).length ≤ 1000000 ∧ ∀ p ∈ onlyL l n, p.data.length ≤ 1000000) := Lib.hid ⟨by have h1 : (onlyL l n).length ≤ l.length := List.length_filter_le _ _; have h2 := HL150.out; omega, fun p hp => by have := (HXL.out p (List.mem_filter.1 hp).1).2; omega⟩
                  go_upto_region 13 with fail
                  refine wp_region_rely (NewT) [SV.eq (u13), SV.eq (u40), SV.eq (.bool true), SV.eq (.bool true), SV.eq (u13), SV.eq (.bool (cleanL (repL bk.sg))), SV.eq (.bool (b)), SV.eq (.bool true), SV.eq (.bool true), SV.eq (.bool true), SV.eq (.agg (rowA 5 (bkF bk.ep s9))), SV.eq (.agg (rowA 5 (bkF bc.ep s11))), SV.eq (.bool (sameK bk bc)), SV.eq (.agg (rowA 5 (bkF bk.ep s9))), SV.eq (.agg (rowA 5 (bkF bc.ep s11))), SV.eq (.bool (sameK bk bc)), SV.eq (.bool true), SV.eq (.bool true), SV.eq (.bool true), SV.eq (u13), SV.eq (.agg (rowA 5 (bkF bc.ep s11))), svL 2 lnE (repL bc.sg), SV.eq (.bool (sameLs (0, 0) eqN (repL bk.sg) (repL bc.sg))), SV.eq (u40), SV.eq (.agg (rowA 5 (bkF bc.ep s11))), svL 2 lnE (repL bc.sg), SV.eq (.bool (sameLs (0, 0) eqN (repL bk.sg) (repL bc.sg))), SV.eq (.bool true), SV.eq (.bool true), SV.eq (.bool true), SV.eq (v), SV.eq (.int .i64 (n)), svL 109 rcE (onlyL l n), SV.eq (v), SV.eq (.int .i64 (n)), svL 109 rcE (onlyL l n), SV.eq (.bool true), SV.eq (.bool true)] [([(13, none)], none), ([(14, none)], none), ([(64, some 0), (65, some 1)], none), ([(66, some 2)], none), ([(13, none), (67, some 3)], some (67, true)), ([(68, some 4), (67, some 3)], some (67, true)), ([(15, none), (67, some 3)], some (67, true)), ([(69, some 5), (70, some 6), (67, some 3)], some (67, true)), ([(67, some 3), (71, some 7)], none), ([(72, some 8)], none), ([(9, none), (73, some 9)], some (73, true)), ([(11, none), (73, some 9)], some (73, true)), ([(74, some 10), (75, some 11), (73, some 9)], some (73, true)), ([(9, none), (73, some 9)], some (73, true)), ([(11, none), (73, some 9)], some (73, true)), ([(77, some 13), (78, some 14), (73, some 9)], some (73, true)), ([(76, some 12), (79, some 15), (73, some 9)], some (73, true)), ([(73, some 9), (80, some 16)], none), ([(81, some 17)], none), ([(13, none), (82, some 18)], some (82, true)), ([(11, none), (82, some 18)], some (82, true)), ([(84, some 20), (82, some 18)], some (82, true)), ([(83, some 19), (85, some 21), (82, some 18)], some (82, true)), ([(14, none), (82, some 18)], some (82, true)), ([(11, none), (82, some 18)], some (82, true)), ([(88, some 24), (82, some 18)], some (82, true)), ([(87, some 23), (89, some 25), (82, some 18)], some (82, true)), ([(86, some 22), (90, some 26), (82, some 18)], some (82, true)), ([(82, some 18), (91, some 27)], none), ([(92, some 28)], none), ([(0, none), (93, some 29)], some (93, true)), ([(3, none), (93, some 29)], some (93, true)), ([(94, some 30), (95, some 31), (93, some 29)], some (93, true)), ([(0, none), (93, some 29)], some (93, true)), ([(3, none), (93, some 29)], some (93, true)), ([(97, some 33), (98, some 34), (93, some 29)], some (93, true)), ([(96, some 32), (99, some 35), (93, some 29)], some (93, true)), ([(93, some 29), (100, some 36)], none)] 102 rfl (by kernel_rfl) rfl (by kernel_rfl) (by kernel_rfl) rfl NewT.trans (NewT.drew _) (Nat.le_of_ble_eq_true rfl) ⟨?_, ?_, ?_, ?_, ?_, ?_, ?_, ?_, ?_, ?_, ?_, ?_, ?_, ?_, ?_, ?_, ?_, ?_, ?_, ?_, ?_, ?_, ?_, ?_, ?_, ?_, ?_, ?_, ?_, ?_, ?_, ?_, ?_, ?_, ?_, ?_, ?_, ?_, trivial⟩ ?_
                  · exact fun a wx hT hF K hK => rely_wp rfl (opr_move (.inl rfl) (hK _ _ (NewT.refl _) hF.1))
                  · exact fun a wx hT hF K hK => rely_wp rfl (opr_move (.inl rfl) (hK _ _ (NewT.refl _) hF.1))
                  · exact fun a wx hT hF K hK => rely_wp rfl (opr_cv ((sameN_self (repL bk.sg)) ▸ rLines_cv _ _ (repL bk.sg) (repL bk.sg) wx ((HRV.out.new (NewT.trans _ _ _ HM.out hT))) ((HSV.out.new (NewT.trans _ _ _ HM.out hT))) (by have h1 := HLN.out; have h2 := HRN.out; omega)) rfl Try.func13 (by kernel_rfl) (by kernel_rfl) (evs2 hF.1 hF.2.1) hK)
                  · exact fun a wx hT hF K hK => rely_wp rfl (opr_move (.inl rfl) (hK _ _ (NewT.refl _) hF.1))
                  · exact fun a wx hT hF K hK => rely_wp (rely_guard hF.2.1) (opr_move (.inl rfl) (hK _ _ (NewT.refl _) hF.1))
                  · exact fun a wx hT hF K hK => rely_wp (rely_guard hF.2.1) (opr_cv (Clean_cv _ (repL bk.sg) wx ((HRV.out.new (NewT.trans _ _ _ HM.out hT))) (by have h1 := HLN.out; have h2 := HRN.out; omega)) rfl Try.func14 (by kernel_rfl) (by kernel_rfl) (evs1 hF.1) hK)
                  · exact fun a wx hT hF K hK => rely_wp (rely_guard hF.2.1) (opr_move (.inl rfl) (hK _ _ (NewT.refl _) hF.1))
                  · exact fun a wx hT hF K hK => rely_wp (rely_guard hF.2.2.1) (opr_eqlQ (b := true) ((by rw [HCL.out]; exact beq_self_eq_true b)) rfl hF.1 hF.2.1 (hK _ _ (NewT.refl _) rfl))
                  · exact fun a wx hT hF K hK => rely_wp rfl (opr_pick_true rfl hF.1 (hK _ _ (NewT.refl _) hF.2.1))
                  · exact fun a wx hT hF K hK => rely_wp rfl (opr_move (.inl rfl) (hK _ _ (NewT.refl _) hF.1))
                  · exact fun a wx hT hF K hK => rely_wp (rely_guard hF.2.1) (opr_ldK (hT.row Rg9.out) rfl hF.1 (hK _ _ (NewT.refl _) rfl))
                  · exact fun a wx hT hF K hK => rely_wp (rely_guard hF.2.1) (opr_ldK (hT.row Rg11.out) rfl hF.1 (hK _ _ (NewT.refl _) rfl))
                  · exact fun a wx hT hF K hK => rely_wp (rely_guard hF.2.2.1) (opr_cv (bSame_cv _ _ bk bc wx ((show BkVB wx _ _ bk from ⟨s9, rfl, HS9.out.new (NewT.trans _ _ _ HM.out hT)⟩).rd) ((show BkVB wx _ _ bc from ⟨s11, rfl, HS11.out.new (NewT.trans _ _ _ HM.out hT)⟩).rd) (by have := HLN.out; omega)) rfl Try.func15 (by kernel_rfl) (by kernel_rfl) (evs2 hF.1 hF.2.1) hK)
                  · exact fun a wx hT hF K hK => rely_wp (rely_guard hF.2.1) (opr_ldK (hT.row Rg9.out) rfl hF.1 (hK _ _ (NewT.refl _) rfl))
                  · exact fun a wx hT hF K hK => rely_wp (rely_guard hF.2.1) (opr_ldK (hT.row Rg11.out) rfl hF.1 (hK _ _ (NewT.refl _) rfl))
                  · exact fun a wx hT hF K hK => rely_wp (rely_guard hF.2.2.1) (opr_cv (rSameK_cv _ _ bk bc wx ((show BkVB wx _ _ bk from ⟨s9, rfl, HS9.out.new (NewT.trans _ _ _ HM.out hT)⟩).rd) ((show BkVB wx _ _ bc from ⟨s11, rfl, HS11.out.new (NewT.trans _ _ _ HM.out hT)⟩).rd) (by have := HLN.out; omega)) rfl Try.func16 (by kernel_rfl) (by kernel_rfl) (evs2 hF.1 hF.2.1) hK)
                  · exact fun a wx hT hF K hK => rely_wp (rely_guard hF.2.2.1) (opr_eqlQ (b := true) ((beq_self_eq_true _)) rfl hF.1 hF.2.1 (hK _ _ (NewT.refl _) rfl))
                  · exact fun a wx hT hF K hK => rely_wp rfl (opr_pick_true rfl hF.1 (hK _ _ (NewT.refl _) hF.2.1))
                  · exact fun a wx hT hF K hK => rely_wp rfl (opr_move (.inl rfl) (hK _ _ (NewT.refl _) hF.1))
                  · exact fun a wx hT hF K hK => rely_wp (rely_guard hF.2.1) (opr_move (.inl rfl) (hK _ _ (NewT.refl _) hF.1))
                  · exact fun a wx hT hF K hK => rely_wp (rely_guard hF.2.1) (opr_ldK (hT.row Rg11.out) rfl hF.1 (hK _ _ (NewT.refl _) rfl))
                  · exact fun a wx hT hF K hK => rely_wp (rely_guard hF.2.1) (opr_cv (Report_cv _ bc wx ((show BkVB wx _ _ bc from ⟨s11, rfl, HS11.out.new (NewT.trans _ _ _ HM.out hT)⟩).rd) (by have := HLN.out; omega)) rfl Try.func11 (by kernel_rfl) (by kernel_rfl) (evs1 hF.1) hK)
                  · exact fun a wx hT hF K hK => rely_wp (rely_guard hF.2.2.1) (opr_cv (bLines_cv _ _ (repL bk.sg) (repL bc.sg) wx ((HRV.out.new (NewT.trans _ _ _ HM.out hT))) (hF.2.1) (by have h1 := HLN.out; have h2 := HRN.out; omega)) rfl Try.func17 (by kernel_rfl) (by kernel_rfl) (evs2 hF.1 rfl) hK)
                  · exact fun a wx hT hF K hK => rely_wp (rely_guard hF.2.1) (opr_move (.inl rfl) (hK _ _ (NewT.refl _) hF.1))
                  · exact fun a wx hT hF K hK => rely_wp (rely_guard hF.2.1) (opr_ldK (hT.row Rg11.out) rfl hF.1 (hK _ _ (NewT.refl _) rfl))
                  · exact fun a wx hT hF K hK => rely_wp (rely_guard hF.2.1) (opr_cv (rReport_cv _ bc wx ((show BkVB wx _ _ bc from ⟨s11, rfl, HS11.out.new (NewT.trans _ _ _ HM.out hT)⟩).rd) (by have := HLN.out; omega) (HGV.out)) rfl Try.func12 (by kernel_rfl) (by kernel_rfl) (evs1 hF.1) hK)
                  · exact fun a wx hT hF K hK => rely_wp (rely_guard hF.2.2.1) (opr_cv (rLines_cv _ _ (repL bk.sg) (repL bc.sg) wx ((HSV.out.new (NewT.trans _ _ _ HM.out hT))) (hF.2.1) (by have h1 := HLN.out; have h2 := HRN.out; omega)) rfl Try.func13 (by kernel_rfl) (by kernel_rfl) (evs2 hF.1 rfl) hK)
                  · exact fun a wx hT hF K hK => rely_wp (rely_guard hF.2.2.1) (opr_eqlQ (b := true) ((beq_self_eq_true _)) rfl hF.1 hF.2.1 (hK _ _ (NewT.refl _) rfl))
                  · exact fun a wx hT hF K hK => rely_wp rfl (opr_pick_true rfl hF.1 (hK _ _ (NewT.refl _) hF.2.1))
                  · exact fun a wx hT hF K hK => rely_wp rfl (opr_move (.inl rfl) (hK _ _ (NewT.refl _) hF.1))
                  · exact fun a wx hT hF K hK => rely_wp (rely_guard hF.2.1) (opr_move (.inl rfl) (hK _ _ (NewT.refl _) hF.1))
                  · exact fun a wx hT hF K hK => rely_wp (rely_guard hF.2.1) (opr_move (.inl rfl) (hK _ _ (NewT.refl _) hF.1))
                  · exact fun a wx hT hF K hK => rely_wp (rely_guard hF.2.2.1) (opr_cv (Only_cv _ l n wx ((HV.out.new (NewT.trans _ _ _ HM.out hT))) (by have := HL150.out; omega) (HXL.out)) rfl Try.func19 (by kernel_rfl) (by kernel_rfl) (evs2 hF.1 hF.2.1) hK)
                  · exact fun a wx hT hF K hK => rely_wp (rely_guard hF.2.1) (opr_move (.inl rfl) (hK _ _ (NewT.refl _) hF.1))
                  · exact fun a wx hT hF K hK => rely_wp (rely_guard hF.2.1) (opr_move (.inl rfl) (hK _ _ (NewT.refl _) hF.1))
                  · exact fun a wx hT hF K hK => rely_wp (rely_guard hF.2.2.1) (opr_cv (rOnly_cv _ l n wx ((HV.out.new (NewT.trans _ _ _ HM.out hT))) (by have := HL150.out; omega)) rfl Try.func20 (by kernel_rfl) (by kernel_rfl) (evs2 hF.1 hF.2.1) hK)
                  · exact fun a wx hT hF K hK => rely_wp (rely_guard hF.2.2.1) (opr_cv ((sameR_self (onlyL l n)) ▸ Recs_cv _ _ (onlyL l n) (onlyL l n) wx (hF.1) (hF.2.1) HON.out.1 ⟨HON.out.2, HON.out.2⟩) rfl Try.func18 (by kernel_rfl) (by kernel_rfl) (evs2 rfl rfl) hK)
                  · exact fun a wx hT hF K hK => rely_wp rfl (opr_pick_true rfl hF.1 (hK _ _ (NewT.refl _) hF.2.1))
                  · intro w7 k7
                    iterate 21 (intro u h; obtain rfl := Eq.symm (h (by simp)); clear h)
                    intro _ _
                    iterate 3 (intro u h; obtain rfl := Eq.symm (h (by simp)); clear h)
                    intro _ _
                    iterate 6 (intro u h; obtain rfl := Eq.symm (h (by simp)); clear h)
                    intro _ _
                    iterate 2 (intro u h; obtain rfl := Eq.symm (h (by simp)); clear h)
                    intro _ _
                    iterate 2 (intro u h; obtain rfl := Eq.symm (h (by simp)); clear h)
                    refine relyEnd_nil rfl ?_
                    simp only [Act.put, List.setIfInBounds_toArray, List.set_cons_zero, List.set_cons_succ]
                    refine opr_move (.inr rfl) ?_
                    go_simp
                    replace Rg9 := Lib.hid (k7.row Rg9.out)
                    replace Rg11 := Lib.hid (k7.row Rg11.out)
                    replace HM := Lib.hid (NewT.trans _ _ _ HM.out k7)
                    clear k7
                    go_wp2
                    go_ret
                    exact ⟨rfl, (NewT.trans _ _ _ HB.out HM.out).out⟩
              obtain ⟨q, hq⟩ : ∃ q, (repL bk.sg)[k]? = some q := ⟨_, List.getElem?_eq_getElem hlt⟩
              have HQQ := Lib.hid hq
              have it : (k : Int) < ((repL bk.sg).length : Int) := by omega
              have HIT := Lib.hid it
              clear hq hlt
              go_upto_region 10 with fail
              refine wp_region_steps0 NewT [SV.eq (.int .i64 ((k : Int))), SV.eq (u40), SV.eq (.int .i64 ((List.length (repL bk.sg) : Int))), SV.eq (.bool (decide (((k : Int)) < ((List.length (repL bk.sg) : Int)))))] [([(16, none)], none), ([(14, none)], none), ([(42, some 1)], none), ([(41, some 0), (43, some 2)], none)] 102 4 rfl rfl (by kernel_rfl) NewT.trans (NewT.refl _) (Nat.le_of_ble_eq_true rfl) ⟨?_, ?_, ?_, ?_, trivial⟩ ?_
              · exact fun a wx hT hF K hK => rely_wp rfl (opr_move (.inl rfl) (hK _ _ (NewT.refl _) hF.1))
              · exact fun a wx hT hF K hK => rely_wp rfl (opr_move (.inl rfl) (hK _ _ (NewT.refl _) hF.1))
              · intro a wx hT hF K hK
                obtain ⟨f42, _⟩ := hF
                have f42 : a.tmps.getD 42 undef = u40 := f42
                refine rely_wp rfl ?_
                exact opr_lenL rfl lineEl (by rw [eval_tmp, f42]; exact (HSV.out.new (NewT.trans _ _ _ HM.out hT))) (hK _ _ (NewT.refl _) rfl)
              · exact fun a wx hT hF K hK => rely_wp rfl (opr_cmp (b := decide (((k : Int)) < ((List.length (repL bk.sg) : Int)))) (.inr (.inr (.inr (.inl ⟨rfl, rfl⟩)))) Try.underlying3 rfl hF.1 hF.2.1 (hK _ _ (NewT.refl _) rfl))
              · intro w8 k8
                iterate 4 (intro u h; obtain rfl := Eq.symm (h (by simp)); clear h)
                refine relyEnd_nil rfl ?_
                refine wpList_end rfl ?_
                simp only [Act.put, List.setIfInBounds_toArray, List.set_cons_zero, List.set_cons_succ]
                go_simp
                replace Rg9 := Lib.hid (k8.row Rg9.out)
                replace Rg11 := Lib.hid (k8.row Rg11.out)
                replace HM := Lib.hid (NewT.trans _ _ _ HM.out k8)
                clear k8
                go_upto_region 12 with fail
                obtain ⟨q1_12, Q1_12⟩ : ∃ bq_, (b && ((q.1 == 2) || (q.1 == 3))) = bq_ := ⟨_, rfl⟩
                refine wp_region_steps0 NewT [SV.eq (.bool (b)), SV.eq (.bool (b)), svIf b (SV.eq (u40)), svIf b (SV.eq (.int .i64 ((k : Int)))), svIf b (svEl 2 lnE (q)), svIf b (svIp (q.1)), svIf b (SV.eq (.int .i64 (q.1))), svIf b (SV.eq (.bool (q.1 == 2))), SV.eq (gV b (q.1 == 2)), svIf (b && ((!(q.1 == 2)))) (SV.eq (u40)), svIf (b && ((!(q.1 == 2)))) (SV.eq (.int .i64 ((k : Int)))), svIf (b && ((!(q.1 == 2)))) (svEl 2 lnE (q)), svIf (b && ((!(q.1 == 2)))) (svIp (q.1)), svIf (b && ((!(q.1 == 2)))) (SV.eq (.int .i64 (q.1))), svIf (b && ((!(q.1 == 2)))) (SV.eq (.bool (q.1 == 3))), svIf b (SV.eq (.bool ((q.1 == 2) || (q.1 == 3)))), SV.eq (.bool (q1_12)), SV.eq (.bool (q1_12))] [([(15, none)], none), ([(47, some 0)], none), ([(14, none), (48, some 1)], some (48, true)), ([(16, none), (48, some 1)], some (48, true)), ([(49, some 2), (50, some 3), (48, some 1)], some (48, true)), ([(51, some 4), (48, some 1)], some (48, true)), ([(52, some 5), (48, some 1)], some (48, true)), ([(53, some 6), (48, some 1)], some (48, true)), ([(54, some 7), (48, some 1)], some (48, true)), ([(14, none), (55, some 8)], some (55, false)), ([(16, none), (55, some 8)], some (55, false)), ([(56, some 9), (57, some 10), (55, some 8)], some (55, false)), ([(58, some 11), (55, some 8)], some (55, false)), ([(59, some 12), (55, some 8)], some (55, false)), ([(60, some 13), (55, some 8)], some (55, false)), ([(55, some 8), (61, some 14), (48, some 1)], some (48, true)), ([(48, some 1), (62, some 15)], none), ([(63, some 16)], none)] 102 18 rfl rfl (by kernel_rfl) NewT.trans (NewT.refl _) (Nat.le_of_ble_eq_true rfl) ⟨?_, ?_, ?_, ?_, ?_, ?_, ?_, ?_, ?_, ?_, ?_, ?_, ?_, ?_, ?_, ?_, ?_, ?_, trivial⟩ ?_
                · exact fun a wx hT hF K hK => rely_wp rfl (opr_move (.inl rfl) (hK _ _ (NewT.refl _) hF.1))
                · exact fun a wx hT hF K hK => rely_wp rfl (opr_move (.inl rfl) (hK _ _ (NewT.refl _) hF.1))
                · exact fun a wx hT hF K hK => rely_if (rely_gt hF.2.1) (NewT.refl _) hK fun hE hK => opr_move (.inl rfl) (hK _ _ (NewT.refl _) hF.1)
                · exact fun a wx hT hF K hK => rely_if (rely_gt hF.2.1) (NewT.refl _) hK fun hE hK => opr_move (.inl rfl) (hK _ _ (NewT.refl _) hF.1)
                · intro a wx hT hF K hK
                  obtain ⟨f49, f50, f48, _⟩ := hF
                  have f49 : b = true → a.tmps.getD 49 undef = u40 := f49
                  have f50 : b = true → a.tmps.getD 50 undef = .int .i64 ((k : Int)) := f50
                  have f48 : a.tmps.getD 48 undef = .bool (b) := f48
                  refine rely_if (rely_gt f48) (NewT.refl _) hK (fun hE hK => ?_)
                  exact opr_idxL (i := k) (p := q) lineEl (HQQ.out) (rfl) rfl (by rw [eval_tmp, (f49 hE)]; exact (HSV.out.new (NewT.trans _ _ _ HM.out hT))) (f50 hE) (fun v hv => hK v _ (NewT.refl _) hv)
                · exact fun a wx hT hF K hK => rely_if (rely_gt hF.2.1) (NewT.refl _) hK fun hE hK => opr_fldNe0 rfl (hF.1 hE) (fun u hu => hK u _ (NewT.refl _) hu)
                · exact fun a wx hT hF K hK => rely_if (rely_gt hF.2.1) (NewT.refl _) hK fun hE hK => opr_ldIp rfl (hF.1 hE) (hK _ _ (NewT.refl _) rfl)
                · exact fun a wx hT hF K hK => rely_if (rely_gt hF.2.1) (NewT.refl _) hK fun hE hK => opr_cmp (b := q.1 == 2) (.inl ⟨rfl, rfl⟩) Try.underlying3 rfl (hF.1 hE) rfl (hK _ _ (NewT.refl _) rfl)
                · exact fun a wx hT hF K hK => rely_ifg (rely_gt hF.2.1) (NewT.refl _) hK fun hE hK => opr_move (.inl rfl) (hK _ _ (NewT.refl _) (hF.1 hE))
                · exact fun a wx hT hF K hK => rely_if (rely_ggf hF.2.1) (NewT.refl _) hK fun hE hK => opr_move (.inl rfl) (hK _ _ (NewT.refl _) hF.1)
                · exact fun a wx hT hF K hK => rely_if (rely_ggf hF.2.1) (NewT.refl _) hK fun hE hK => opr_move (.inl rfl) (hK _ _ (NewT.refl _) hF.1)
                · intro a wx hT hF K hK
                  obtain ⟨f56, f57, f55, _⟩ := hF
                  have f56 : (b && ((!(q.1 == 2)))) = true → a.tmps.getD 56 undef = u40 := f56
                  have f57 : (b && ((!(q.1 == 2)))) = true → a.tmps.getD 57 undef = .int .i64 ((k : Int)) := f57
                  have f55 : a.tmps.getD 55 undef = gV b (q.1 == 2) := f55
                  refine rely_if (rely_ggf f55) (NewT.refl _) hK (fun hE hK => ?_)
                  exact opr_idxL (i := k) (p := q) lineEl (HQQ.out) (rfl) rfl (by rw [eval_tmp, (f56 hE)]; exact (HSV.out.new (NewT.trans _ _ _ HM.out hT))) (f57 hE) (fun v hv => hK v _ (NewT.refl _) hv)
                · exact fun a wx hT hF K hK => rely_if (rely_ggf hF.2.1) (NewT.refl _) hK fun hE hK => opr_fldNe0 rfl (hF.1 hE) (fun u hu => hK u _ (NewT.refl _) hu)
                · exact fun a wx hT hF K hK => rely_if (rely_ggf hF.2.1) (NewT.refl _) hK fun hE hK => opr_ldIp rfl (hF.1 hE) (hK _ _ (NewT.refl _) rfl)
                · exact fun a wx hT hF K hK => rely_if (rely_ggf hF.2.1) (NewT.refl _) hK fun hE hK => opr_cmp (b := q.1 == 3) (.inl ⟨rfl, rfl⟩) Try.underlying3 rfl (hF.1 hE) rfl (hK _ _ (NewT.refl _) rfl)
                · exact fun a wx hT hF K hK => rely_if (rely_gt hF.2.2.1) (NewT.refl _) hK fun hE hK => opr_pick_b rfl (hF.1.trans (gV_on hE)) (fun hb => hK _ _ (NewT.refl _) (pk_or1 hb)) (fun hb => hK _ _ (NewT.refl _) (pk_or0 (hF.2.1 (band hE (bnot hb))) hb))
                · exact fun a wx hT hF K hK => rely_wp rfl (opr_pick_b rfl hF.1 (fun hb => hK _ _ (NewT.refl _) (pn_and1 Q1_12 (hF.2.1 hb) hb)) (fun hb => hK _ _ (NewT.refl _) (pn_and0 Q1_12 hb)))
                · exact fun a wx hT hF K hK => rely_wp rfl (opr_move (.inr rfl) (hK _ _ (NewT.refl _) hF.1))
                · intro w9 k9
                  iterate 2 (intro u h; obtain rfl := Eq.symm (h (by simp)); clear h)
                  iterate 14 (intro _ _)
                  iterate 2 (intro u h; obtain rfl := Eq.symm (h (by simp)); clear h)
                  subst Q1_12
                  refine relyEnd_nil rfl ?_
                  refine wpList_end rfl ?_
                  simp only [Act.put, List.setIfInBounds_toArray, List.set_cons_zero, List.set_cons_succ]
                  go_simp
                  replace Rg9 := Lib.hid (k9.row Rg9.out)
                  replace Rg11 := Lib.hid (k9.row Rg11.out)
                  replace HM := Lib.hid (NewT.trans _ _ _ HM.out k9)
                  clear k9
                  obtain ⟨b2, hb2⟩ : ∃ b2, ((b && ((q.1 == 2) || (q.1 == 3)))) = b2 := ⟨_, rfl⟩
                  rw [hb2]
                  have HCN : Hid (b2 = cleanL ((repL bk.sg).take (k + 1))) := Lib.hid (by rw [← hb2, clean_take HQQ.out, ← HCB.out])
                  clear hb2
                  have it2 := HIT.out
                  have hrn := HRN.out
                  have hln := HLN.out
                  go_wp2
                  go_roundw
                  case rel =>
                    refine ⟨k + 1, b2, by omega, rfl, by go_num, HCN, ?_⟩
                    first | exact ⟨HM, Rg9, Rg11⟩ | trivial
                  case measure => simp [intOf]; omega
end Go.Proofs.Ytilmeffmdgcblaa
/- An argument that is a slice of steps, opened. -/
namespace Go.Proofs.Ytilmeffmdgcblaa
open Go Go.ChangeShapes Go.WideShapes Go.ChangeAt Go.WideMaps Go.WideElems Go.RowKit
set_option maxRecDepth 8000
set_option linter.all false
end Go.Proofs.Ytilmeffmdgcblaa
/- An argument that is a slice of records, opened. -/
namespace Go.Proofs.Ytilmeffmdgcblaa
open Go Go.ChangeShapes Go.WideShapes Go.ChangeAt Go.WideMaps Go.WideElems Go.RowKit
set_option maxRecDepth 8000
set_option linter.all false
/-- A slice of records that came in reads as a list. -/
theorem open_recsA {H : Type} {enc : TypeId × Value → H} {w : World} {base : Nat} {spare : Nat → Bool} {held : Bool} {r : Reach} {b0 : Nat} {v : Value} {d : DataW H} {p : List MemPlace}
    (hv : Value.okWide Try.prog w r b0 22 v) (h : DataW.Trod enc Try.prog w base spare held 22 v d p) : ∃ l : List Rc, RdR w v l := by
  obtain ⟨a0, len, cap, rfl⟩ := okWide_slice Try.underlying22 hv
  obtain ⟨fuel, hf⟩ := h
  have hce : Try.prog.cellsOf 46 = 109 := by kernel_rfl
  rcases Go.Deep.open_slice Try.underlying22 hf with ⟨hcs, _⟩ | ⟨a, len', cap', m, n, D, Pl, hcs, _, hl, hm, hmm, _, hx⟩
  · simp [Value.cells] at hcs
    obtain ⟨rfl, rfl, rfl⟩ := hcs
    exact ⟨[], rdL_nil w⟩
  · simp [Value.cells] at hcs
    obtain ⟨rfl, rfl, rfl⟩ := hcs
    have hlm : len ≤ m := by rw [hmm]; split <;> omega
    have each : ∀ i, i < len → ∃ q : (Nat → Value) × Rc, rcE w q.1 q.2 ∧ ∀ j, j < 109 → w.cell? (a.add (i * 109 + j)) = some (q.1 j) := fun i hi => by
      obtain ⟨cs', h1, h2⟩ := hx i (by omega)
      rw [hce] at h1
      obtain ⟨_, hlen, hcell⟩ := World.cells?_some h1
      obtain ⟨xs, k, _, _, _, hxl, hel⟩ := DataW.trod_struct Try.underlying46 h2
      obtain ⟨x, ⟨sv, dv, hag, hp, hd⟩, _⟩ := open_recC (cs := cs'.toArray) (n := k) recTy (by simpa using hlen) (fun fs hs j f hj => by
        rw [Try.underlying46] at hs
        cases hs
        have hlt : j < xs.length := by rw [hxl]; exact (Array.getElem?_eq_some_iff.1 hj).1
        exact ⟨xs[j], by rw [← List.getElem?_eq_getElem hlt]; simpa using hel j f hj⟩)
      refine ⟨(recF x sv dv, x), ⟨sv, dv, rfl, hp, hd⟩, fun j hj => ?_⟩
      have := hcell j (by omega)
      rw [Go.Deep.add_add] at this
      rw [this]
      have hag' : cs'.toArray = rowA 109 (recF x sv dv) := by injection hag
      have h3 := congrArg (fun z => z[j]?) hag'
      simp only [rowA_at _ _ _ hj] at h3
      simpa using h3
    haveI : Inhabited ((Nat → Value) × Rc) := ⟨(fun _ => undef, zR)⟩
    obtain ⟨q, hq⟩ := Go.Deep.choose_lt each
    have hlen : ((List.range len).map fun i => (q i).1).length = len := by simp
    refine ⟨(List.range len).map fun i => (q i).2, (List.range len).map fun i => (q i).1, ⟨some a, cap, by rw [hlen], by rw [hlen]; exact hl, hm, fun h0 => ?_⟩, by simp, fun i x hx' => ?_⟩
    · rw [hlen] at h0
      obtain ⟨b, off, spot⟩ := a
      have hspot : spot = none := by simpa [Addr.add] using World.cell?_spot ((hq 0 h0).2 0 (by omega))
      subst hspot
      refine ⟨b, off, rfl, fun i f hf' j hj => ?_⟩
      have hi : i < len := by have := (List.getElem?_eq_some_iff.1 hf').1; simpa using this
      simp [hi] at hf'
      subst hf'
      have := (hq i hi).2 j hj
      rw [Go.WideShapes.add_plain] at this
      rw [Nat.add_assoc]; exact this
    · have hi : i < len := by have := (List.getElem?_eq_some_iff.1 hx').1; simpa using this
      simp [hi] at hx'
      subst hx'
      exact ⟨(q i).1, by simp [hi], (hq i hi).1⟩
end Go.Proofs.Ytilmeffmdgcblaa
