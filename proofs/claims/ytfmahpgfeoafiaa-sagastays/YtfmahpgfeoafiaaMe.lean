/- The laws' question whether package saga answers as the document's example. -/
import Derived.Test.YtfmahpgfeoafiaaMd
set_option linter.all false
namespace Go.Proofs.Ytfmahpgfeoafiaa
open Go Go.RowKit
set_option maxRecDepth 8000
set_option linter.all false
attribute [local go_sem] run_zero_rec
def lA : List (Int × Int) := [(0, 1)]
def gA : Sg := ofSt st0 1
def xA : Rc := { dueX lA 3 gA with seq := 1 }
def gT : Sg := wentG lA 3 gA xA
def zA : Rc := { zR with kind := 3, seq := 2, tr := 1 }
def gU : Sg := wentG lA 3 gT zA
theorem lA_may : mayL lA = true := by decide
theorem run_bsS1 (d : Int × Int) (w : World) : (Instr.buildSlice 22 1 #[(0, .agg (rowA 2 (stepF d)))]).run Try.prog w = .ok (.slice (some ⟨w.heap.size, 0, none⟩) 1 1) (w.alloc (.cells (rowA 2 (stepF d)) 34)) := by kernel_rfl
theorem build_step1 (w : World) : (Instr.build 34 #[(1, .int .i64 1)]).run Try.prog w = .ok (.agg (rowA 2 (stepF (0, 1)))) w := by kernel_rfl
theorem rdP_one (w : World) (d : Int × Int) : RdP (w.alloc (.cells (rowA 2 (stepF d)) 34)) (.slice (some ⟨w.heap.size, 0, none⟩) 1 1) [d] := by
  have hr := rowIs_box w 34 2 (stepF d)
  refine ⟨some ⟨w.heap.size, 0, none⟩, 1, rfl, Nat.le_refl _, by unfold maxLen; omega, fun _ => ⟨w.heap.size, 0, rfl, fun i hi => ?_⟩⟩
  obtain rfl : i = 0 := by simp at hi; exact hi
  exact ⟨hr.cell (i := 0) (by omega), hr.cell (i := 1) (by omega)⟩
theorem opr_bsS1 {a : Act} {w : World} {o : Oper} {K : Act → World → Prop} {Q : Exit → Act → World → Prop} {x : Operand} {d : Int × Int} (ho : o.op = .buildSlice 22 1 #[(0, x)]) (hx : a.eval x = .agg (rowA 2 (stepF d))) (h : ∀ v w', NewT w w' → RdP w' v [d] → K (a.put o.dst v) w') : o.wp Try.prog a w K Q := by
  obtain ⟨dst, op, type, pos, after, guard⟩ := o
  simp only at ho
  subst ho
  exact opr_val (s := Instr.buildSlice 22 1 #[(0, a.eval x)]) (by simp [execOp]) (by rw [hx]; exact run_bsS1 d w) (h _ _ (NewT.alloc _ _) (rdP_one w d))
theorem okA (g : Sg) (h : (0 ≤ g.at_ ∧ g.at_ ≤ 6) ∧ (0 ≤ g.tr ∧ g.tr ≤ 9) ∧ (0 ≤ g.sq ∧ g.sq ≤ 1000000)) : OkG lA g := ⟨by decide, h.1, h.2.1, h.2.2⟩
theorem aliveB : (((((((((((((((inG 3 gA && goesB lA 3 gA xA) && goesB lA 3 gT zA) && inG 3 gU) && xA.kind == 2) && xA.tr == 1) && gT.wt) && gU.ph == 1) && (dueX lA 3 gU).kind == 5) && (dueX lA 3 gU).nd == 3) && !overB gU.ph) && missG gU == 0) && mayL lA) && !mayL []) && sameG lA lA gA gA) && !sameG lA lA gA gT) = true := by decide +kernel
set_option maxHeartbeats 4000000 in
theorem alive11_c (w : World) : Cv 8 #[] w (.eq (.bool true)) := by
  unfold Cv
  go_enter Try.func8, Try.ntmps8
  go_upto_region 1 with fail
  have HM := Lib.hid (NewT.refl w)
  refine wp_region_steps0 NewT [SV.eq ((.agg (rowA 2 (stepF (0, 1))))), svPairs lA, svSgN w.heap.size (newL lA) (newG lA)] [([], none), ([(10, some 0)], none), ([(11, some 1)], none)] 105 3 rfl rfl (by kernel_rfl) NewT.trans (NewT.refl _) (Nat.le_of_ble_eq_true rfl) ⟨?_, ?_, ?_, trivial⟩ ?_
  · intro a wx hT hF K hK
    refine rely_wp rfl ?_
    exact opr_build (pv := #[(1, .int .i64 1)]) rfl (by simp only [List.map_toArray, List.map_cons, List.map_nil, eval_const]) (build_step1 wx) (hK _ _ (NewT.refl _) rfl)
  · exact fun a wx hT hF K hK => rely_wp rfl (opr_bsS1 rfl hF.1 hK)
  · exact fun a wx hT hF K hK => rely_wp rfl (opr_cv (gNew_cvB _ lA w.heap.size wx hT.out.size hF.1) rfl Try.func12 (by kernel_rfl) (by kernel_rfl) (evs1 rfl) hK)
  · intro w1 k1
    intro u h; obtain rfl := Eq.symm (h (by simp)); clear h
    intro _ _
    intro u12 h; have g12 := h (by simp); clear h; replace g12 := show (svSgN w.heap.size (newL lA) (newG lA)).pred u12 w1 from g12
    refine relyEnd_nil rfl ?_
    simp only [Act.put, List.setIfInBounds_toArray, List.set_cons_zero, List.set_cons_succ]
    obtain ⟨sv, rfl, hsv⟩ := (show SgVN w1 w.heap.size u12 (newL lA) (newG lA) from g12)
    have hnl : newL lA = lA := by unfold newL; rw [if_pos lA_may]
    have hng : newG lA = gA := by unfold newG gA; rw [if_pos lA_may]
    rw [hnl] at hsv
    refine wpList_new (n := 10) (f := sgF sv (newG lA)) rfl rfl rfl rfl rfl rfl (by first | (simp; done) | simp [Act.put]) run_alloc_saga info_saga (sgF_one _ _ (oneP hsv.1)) rfl ?_
    intro W1 hn1 r1
    refine wpList_end rfl ?_
    simp only [Act.put, List.setIfInBounds_toArray, List.set_cons_zero, List.set_cons_succ]
    go_simp
    have HS := Lib.hid hsv
    have HB : Hid (NewT w w1) := Lib.hid k1
    obtain ⟨g1, h_g1⟩ : ∃ g_, w1.heap.size = g_ := ⟨_, rfl⟩
    rw [h_g1] at r1
    simp only [h_g1]
    obtain ⟨ga, hga⟩ := hid_ex gA
    have HGg1 : Hid (w1.heap.size ≤ g1) := Lib.hid (by omega)
    replace HM := Lib.hid hn1
    have Rg1 : Hid (W1.rowIs g1 27 10 (sgF sv ga)) := Lib.hid (by rw [← hga.out, ← hng]; exact r1)
    obtain ⟨x, hx⟩ := hid_ex xA
    obtain ⟨gt, hgt⟩ := hid_ex gT
    obtain ⟨z, hz⟩ := hid_ex zA
    obtain ⟨gu, hgu⟩ := hid_ex gU
    have HALL : Hid ((((((((((((((((inG 3 ga && goesB lA 3 ga x) && goesB lA 3 gt z) && inG 3 gu) && x.kind == 2) && x.tr == 1) && gt.wt) && gu.ph == 1) && (dueX lA 3 gu).kind == 5) && (dueX lA 3 gu).nd == 3) && !overB gu.ph) && missG gu == 0) && mayL lA) && !mayL []) && sameG lA lA ga ga) && !sameG lA lA ga gt) = true) := Lib.hid (by rw [← hga.out, ← hx.out, ← hgt.out, ← hz.out, ← hgu.out]; exact aliveB)
    have HOA : Hid (OkG lA ga) := Lib.hid (by rw [← hga.out]; exact okA _ (by decide +kernel))
    have HOT : Hid (OkG lA gt) := Lib.hid (by rw [← hgt.out]; exact okA _ (by decide +kernel))
    have HOU : Hid (OkG lA gu) := Lib.hid (by rw [← hgu.out]; exact okA _ (by decide +kernel))
    have HX0 : Hid (x.steps = [] ∧ x.data = []) := Lib.hid (by rw [← hx.out]; exact ⟨due_nil lA 3 gA, due_nil2 lA 3 gA⟩)
    have HZ0 : Hid (z.steps = [] ∧ z.data = []) := Lib.hid (by rw [← hz.out]; exact ⟨rfl, rfl⟩)
    have HL6 : Hid (lA.length ≤ 6) := Lib.hid (by decide)
    obtain ⟨l, hl⟩ := hid_ex lA
    rw [hl.out] at HS HALL HOA HOT HOU HL6
    clear hsv hnl hng k1 hn1 h_g1 r1
    go_upto_region 2 with fail
    refine wp_region_steps0 NewT [SV.eq (.agg (rowA 10 (sgF sv ga))), SV.eq ((.tuple #[.agg (rowA 109 (recF (dueX l 3 ga) (.slice none 0 0) (.slice none 0 0))), .bool (inG 3 ga)])), SV.eq ((.tuple #[.agg (rowA 109 (recF (dueX l 3 ga) (.slice none 0 0) (.slice none 0 0))), .bool (inG 3 ga)])), SV.eq ((.agg (rowA 109 (recF (dueX l 3 ga) (.slice none 0 0) (.slice none 0 0))))), SV.eq (.bool (inG 3 ga))] [([(1, none)], none), ([(14, some 0)], none), ([(15, some 1)], none), ([(13, some 2)], none), ([(13, some 2)], none)] 105 5 rfl rfl (by kernel_rfl) NewT.trans (NewT.refl _) (Nat.le_of_ble_eq_true rfl) ⟨?_, ?_, ?_, ?_, ?_, trivial⟩ ?_
    · exact fun a wx hT hF K hK => rely_wp rfl (opr_ldU (hT.row Rg1.out) rfl hF.1 (hK _ _ (NewT.refl _) rfl))
    · exact fun a wx hT hF K hK => rely_wp rfl (opr_cv (Due_cv sv l ga 3 wx ((NewT.trans _ _ _ HM.out hT).pairs HS.out.1) HOA.out) rfl Try.func18 (by kernel_rfl) (by kernel_rfl) (evs2 hF.1 rfl) hK)
    · exact fun a wx hT hF K hK => rely_wp rfl (opr_move (.inl rfl) (hK _ _ (NewT.refl _) hF.1))
    · exact fun a wx hT hF K hK => rely_wp rfl (opr_ext rfl hF.1 rfl (hK _ _ (NewT.refl _) rfl))
    · exact fun a wx hT hF K hK => rely_wp rfl (opr_ext rfl hF.1 rfl (hK _ _ (NewT.refl _) rfl))
    · intro w2 k2
      iterate 5 (intro u h; obtain rfl := Eq.symm (h (by simp)); clear h)
      refine relyEnd_nil rfl ?_
      simp only [Act.put, List.setIfInBounds_toArray, List.set_cons_zero, List.set_cons_succ]
      refine wpList_new (n := 109) (f := recF (dueX l 3 ga) (.slice none 0 0) (.slice none 0 0)) rfl rfl rfl rfl rfl rfl (by first | (simp; done) | simp [Act.put]) run_alloc_rec info_rec (recF_one _ _ _ rfl rfl) rfl ?_
      intro W2 hn2 rr2
      simp only [Act.put, List.setIfInBounds_toArray, List.set_cons_zero, List.set_cons_succ]
      refine wpList_plain rfl (fun K hK => ?_)
      refine opr_move (.inr rfl) (hK _ _ ?_)
      clear hK K
      refine wpList_end rfl ?_
      simp only [Act.put, List.setIfInBounds_toArray, List.set_cons_zero, List.set_cons_succ]
      go_simp
      obtain ⟨g2, h_g2⟩ : ∃ g_, w2.heap.size = g_ := ⟨_, rfl⟩
      rw [h_g2] at rr2
      simp only [h_g2]
      have HGg2 : Hid (g1 < g2 ∧ w1.heap.size ≤ g2) := Lib.hid (by rw [← h_g2]; exact ⟨(k2.row Rg1.out).lt, (NewT.trans _ _ _ HM.out k2).out.size⟩)
      have q2 := NewT.trans _ _ _ k2 hn2
      clear k2 hn2 h_g2
      replace Rg1 := Lib.hid (q2.row Rg1.out)
      replace HM := Lib.hid (NewT.trans _ _ _ HM.out q2)
      clear q2
      have Rg2 := Lib.hid rr2
      clear rr2
      go_upto_region 3 with fail
      refine wp_region_steps0 NewT [SV.eq (.pointer (some ⟨g2, 2, none⟩))] [([(2, none)], none)] 105 1 rfl rfl (by kernel_rfl) NewT.trans (NewT.refl _) (Nat.le_of_ble_eq_true rfl) ⟨?_, trivial⟩ ?_
      · exact fun a wx hT hF K hK => rely_wp rfl (opr_fldR (by decide) rfl hF.1 (hK _ _ (NewT.refl _) rfl))
      · intro w3 k3
        intro u h; obtain rfl := Eq.symm (h (by simp)); clear h
        refine relyEnd_nil rfl ?_
        simp only [Act.put, List.setIfInBounds_toArray, List.set_cons_zero, List.set_cons_succ]
        refine wpList_plain rfl (fun K hK => ?_)
        refine opr_put1 (g := g2) (o0 := 2) (v := .int .i64 1) (F := recF { dueX l 3 ga with seq := 1 } (.slice none 0 0) (.slice none 0 0)) rfl rfl rfl (k3.row Rg2.out) (by decide) info_i1 rfl (fun i _ => rs_seq (dueX l 3 ga) (.slice none 0 0) (.slice none 0 0) i _) ?_
        intro W3 hR3 rr3
        refine hK _ _ ?_
        clear hK K
        refine wpList_end rfl ?_
        simp only [Act.put, List.setIfInBounds_toArray, List.set_cons_zero, List.set_cons_succ]
        go_simp
        replace Rg2 := Lib.hid rr3
        replace Rg1 := Lib.hid (hR3.row (by have h_0 := HGg1.out; have h_1 := HGg2.out; omega) (k3.row Rg1.out))
        replace HM := Lib.hid (NewT.rt (NewT.trans _ _ _ HM.out k3) hR3 (by have h_0 := HGg1.out; have h_1 := HGg2.out; omega))
        clear k3 hR3 rr3
        replace Rg2 : Hid (W3.rowIs g2 41 109 (recF x (.slice none 0 0) (.slice none 0 0))) := Lib.hid (by
          have e : x = { dueX l 3 ga with seq := 1 } := by rw [← hx.out, ← hl.out, ← hga.out]; rfl
          rw [e]; exact Rg2.out)
        go_upto_region 4 with fail
        refine wp_region_steps0 NewT [SV.eq (.agg (rowA 10 (sgF sv ga))), SV.eq (.agg (rowA 109 (recF x (.slice none 0 0) (.slice none 0 0)))), SV.eq ((.tuple #[.agg (rowA 10 (sgF sv (wentG l 3 ga x))), .bool (goesB l 3 ga x)])), SV.eq ((.tuple #[.agg (rowA 10 (sgF sv (wentG l 3 ga x))), .bool (goesB l 3 ga x)])), SV.eq ((.agg (rowA 10 (sgF sv (wentG l 3 ga x))))), SV.eq (.bool (goesB l 3 ga x))] [([(1, none)], none), ([(2, none)], none), ([(20, some 0), (21, some 1)], none), ([(22, some 2)], none), ([(19, some 3)], none), ([(19, some 3)], none)] 105 6 rfl rfl (by kernel_rfl) NewT.trans (NewT.refl _) (Nat.le_of_ble_eq_true rfl) ⟨?_, ?_, ?_, ?_, ?_, ?_, trivial⟩ ?_
        · exact fun a wx hT hF K hK => rely_wp rfl (opr_ldU (hT.row Rg1.out) rfl hF.1 (hK _ _ (NewT.refl _) rfl))
        · exact fun a wx hT hF K hK => rely_wp rfl (opr_ldR (hT.row Rg2.out) rfl hF.1 (hK _ _ (NewT.refl _) rfl))
        · exact fun a wx hT hF K hK => rely_wp rfl (opr_cv (Go_cv sv l ga x _ 3 wx ((NewT.trans _ _ _ HM.out hT).pairs HS.out.1) (recV_nilS wx x HX0.out.1 HX0.out.2) HOA.out) rfl Try.func17 (by kernel_rfl) (by kernel_rfl) (evs3 hF.1 hF.2.1 rfl) hK)
        · exact fun a wx hT hF K hK => rely_wp rfl (opr_move (.inl rfl) (hK _ _ (NewT.refl _) hF.1))
        · exact fun a wx hT hF K hK => rely_wp rfl (opr_ext rfl hF.1 rfl (hK _ _ (NewT.refl _) rfl))
        · exact fun a wx hT hF K hK => rely_wp rfl (opr_ext rfl hF.1 rfl (hK _ _ (NewT.refl _) rfl))
        · intro w4 k4
          iterate 6 (intro u h; obtain rfl := Eq.symm (h (by simp)); clear h)
          refine relyEnd_nil rfl ?_
          simp only [Act.put, List.setIfInBounds_toArray, List.set_cons_zero, List.set_cons_succ]
          refine wpList_new (n := 10) (f := sgF sv ((wentG l 3 ga x))) rfl rfl rfl rfl rfl rfl (by first | (simp; done) | simp [Act.put]) run_alloc_saga info_saga (sgF_one _ _ (oneP HS.out.1)) rfl ?_
          intro W4 hn4 rr4
          simp only [Act.put, List.setIfInBounds_toArray, List.set_cons_zero, List.set_cons_succ]
          refine wpList_plain rfl (fun K hK => ?_)
          refine opr_move (.inr rfl) (hK _ _ ?_)
          clear hK K
          refine wpList_end rfl ?_
          simp only [Act.put, List.setIfInBounds_toArray, List.set_cons_zero, List.set_cons_succ]
          go_simp
          obtain ⟨g4, h_g4⟩ : ∃ g_, w4.heap.size = g_ := ⟨_, rfl⟩
          rw [h_g4] at rr4
          simp only [h_g4]
          have HGg4 : Hid (g1 < g4 ∧ g2 < g4 ∧ w1.heap.size ≤ g4) := Lib.hid (by rw [← h_g4]; exact ⟨(k4.row Rg1.out).lt, (k4.row Rg2.out).lt, (NewT.trans _ _ _ HM.out k4).out.size⟩)
          have q4 := NewT.trans _ _ _ k4 hn4
          clear k4 hn4 h_g4
          replace Rg1 := Lib.hid (q4.row Rg1.out)
          replace Rg2 := Lib.hid (q4.row Rg2.out)
          replace HM := Lib.hid (NewT.trans _ _ _ HM.out q4)
          clear q4
          have Rg4 := Lib.hid rr4
          clear rr4
          replace Rg4 : Hid (W4.rowIs g4 27 10 (sgF sv gt)) := Lib.hid (by
            have e : gt = wentG l 3 ga x := by rw [← hgt.out, ← hl.out, ← hga.out, ← hx.out]; rfl
            rw [e]; exact Rg4.out)
          go_upto_region 5 with fail
          refine wp_region_steps0 NewT [SV.eq (.agg (rowA 10 (sgF sv gt))), SV.eq ((.agg (rowA 109 (recF z (.slice none 0 0) (.slice none 0 0))))), SV.eq ((.tuple #[.agg (rowA 10 (sgF sv (wentG l 3 gt z))), .bool (goesB l 3 gt z)])), SV.eq ((.tuple #[.agg (rowA 10 (sgF sv (wentG l 3 gt z))), .bool (goesB l 3 gt z)])), SV.eq ((.agg (rowA 10 (sgF sv (wentG l 3 gt z))))), SV.eq (.bool (goesB l 3 gt z))] [([(4, none)], none), ([], none), ([(26, some 0), (27, some 1)], none), ([(28, some 2)], none), ([(25, some 3)], none), ([(25, some 3)], none)] 105 6 rfl rfl (by kernel_rfl) NewT.trans (NewT.refl _) (Nat.le_of_ble_eq_true rfl) ⟨?_, ?_, ?_, ?_, ?_, ?_, trivial⟩ ?_
          · exact fun a wx hT hF K hK => rely_wp rfl (opr_ldU (hT.row Rg4.out) rfl hF.1 (hK _ _ (NewT.refl _) rfl))
          · intro a wx hT hF K hK
            refine rely_wp rfl ?_
            exact opr_build (pv := #[(0, .int .i64 3), (2, .int .i64 2), (4, .int .i64 1)]) rfl (by simp only [List.map_toArray, List.map_cons, List.map_nil, eval_tmp, eval_const]) (build_receipt2 2 1 wx) (hK _ _ (NewT.refl _) (by rw [← hz.out]; rfl))
          · exact fun a wx hT hF K hK => rely_wp rfl (opr_cv (Go_cv sv l gt z _ 3 wx ((NewT.trans _ _ _ HM.out hT).pairs HS.out.1) (recV_nilS wx z HZ0.out.1 HZ0.out.2) HOT.out) rfl Try.func17 (by kernel_rfl) (by kernel_rfl) (evs3 hF.1 hF.2.1 rfl) hK)
          · exact fun a wx hT hF K hK => rely_wp rfl (opr_move (.inl rfl) (hK _ _ (NewT.refl _) hF.1))
          · exact fun a wx hT hF K hK => rely_wp rfl (opr_ext rfl hF.1 rfl (hK _ _ (NewT.refl _) rfl))
          · exact fun a wx hT hF K hK => rely_wp rfl (opr_ext rfl hF.1 rfl (hK _ _ (NewT.refl _) rfl))
          · intro w5 k5
            iterate 6 (intro u h; obtain rfl := Eq.symm (h (by simp)); clear h)
            refine relyEnd_nil rfl ?_
            simp only [Act.put, List.setIfInBounds_toArray, List.set_cons_zero, List.set_cons_succ]
            refine wpList_new (n := 10) (f := sgF sv ((wentG l 3 gt z))) rfl rfl rfl rfl rfl rfl (by first | (simp; done) | simp [Act.put]) run_alloc_saga info_saga (sgF_one _ _ (oneP HS.out.1)) rfl ?_
            intro W5 hn5 rr5
            simp only [Act.put, List.setIfInBounds_toArray, List.set_cons_zero, List.set_cons_succ]
            refine wpList_plain rfl (fun K hK => ?_)
            refine opr_move (.inr rfl) (hK _ _ ?_)
            clear hK K
            refine wpList_end rfl ?_
            simp only [Act.put, List.setIfInBounds_toArray, List.set_cons_zero, List.set_cons_succ]
            go_simp
            obtain ⟨g6, h_g6⟩ : ∃ g_, w5.heap.size = g_ := ⟨_, rfl⟩
            rw [h_g6] at rr5
            simp only [h_g6]
            have HGg6 : Hid (g1 < g6 ∧ g2 < g6 ∧ g4 < g6 ∧ w1.heap.size ≤ g6) := Lib.hid (by rw [← h_g6]; exact ⟨(k5.row Rg1.out).lt, (k5.row Rg2.out).lt, (k5.row Rg4.out).lt, (NewT.trans _ _ _ HM.out k5).out.size⟩)
            have q5 := NewT.trans _ _ _ k5 hn5
            clear k5 hn5 h_g6
            replace Rg1 := Lib.hid (q5.row Rg1.out)
            replace Rg2 := Lib.hid (q5.row Rg2.out)
            replace Rg4 := Lib.hid (q5.row Rg4.out)
            replace HM := Lib.hid (NewT.trans _ _ _ HM.out q5)
            clear q5
            have Rg6 := Lib.hid rr5
            clear rr5
            replace Rg6 : Hid (W5.rowIs g6 27 10 (sgF sv gu)) := Lib.hid (by
              have e : gu = wentG l 3 gt z := by rw [← hgu.out, ← hl.out, ← hgt.out, ← hz.out]; rfl
              rw [e]; exact Rg6.out)
            go_upto_region 6 with fail
            refine wp_region_steps0 NewT [SV.eq (.agg (rowA 10 (sgF sv gu))), SV.eq ((.tuple #[.agg (rowA 109 (recF (dueX l 3 gu) (.slice none 0 0) (.slice none 0 0))), .bool (inG 3 gu)])), SV.eq ((.tuple #[.agg (rowA 109 (recF (dueX l 3 gu) (.slice none 0 0) (.slice none 0 0))), .bool (inG 3 gu)])), SV.eq ((.agg (rowA 109 (recF (dueX l 3 gu) (.slice none 0 0) (.slice none 0 0))))), SV.eq (.bool (inG 3 gu))] [([(6, none)], none), ([(32, some 0)], none), ([(33, some 1)], none), ([(31, some 2)], none), ([(31, some 2)], none)] 105 5 rfl rfl (by kernel_rfl) NewT.trans (NewT.refl _) (Nat.le_of_ble_eq_true rfl) ⟨?_, ?_, ?_, ?_, ?_, trivial⟩ ?_
            · exact fun a wx hT hF K hK => rely_wp rfl (opr_ldU (hT.row Rg6.out) rfl hF.1 (hK _ _ (NewT.refl _) rfl))
            · exact fun a wx hT hF K hK => rely_wp rfl (opr_cv (Due_cv sv l gu 3 wx ((NewT.trans _ _ _ HM.out hT).pairs HS.out.1) HOU.out) rfl Try.func18 (by kernel_rfl) (by kernel_rfl) (evs2 hF.1 rfl) hK)
            · exact fun a wx hT hF K hK => rely_wp rfl (opr_move (.inl rfl) (hK _ _ (NewT.refl _) hF.1))
            · exact fun a wx hT hF K hK => rely_wp rfl (opr_ext rfl hF.1 rfl (hK _ _ (NewT.refl _) rfl))
            · exact fun a wx hT hF K hK => rely_wp rfl (opr_ext rfl hF.1 rfl (hK _ _ (NewT.refl _) rfl))
            · intro w6 k6
              iterate 5 (intro u h; obtain rfl := Eq.symm (h (by simp)); clear h)
              refine relyEnd_nil rfl ?_
              simp only [Act.put, List.setIfInBounds_toArray, List.set_cons_zero, List.set_cons_succ]
              refine wpList_new (n := 109) (f := recF (dueX l 3 gu) (.slice none 0 0) (.slice none 0 0)) rfl rfl rfl rfl rfl rfl (by first | (simp; done) | simp [Act.put]) run_alloc_rec info_rec (recF_one _ _ _ rfl rfl) rfl ?_
              intro W6 hn6 rr6
              simp only [Act.put, List.setIfInBounds_toArray, List.set_cons_zero, List.set_cons_succ]
              refine wpList_plain rfl (fun K hK => ?_)
              refine opr_move (.inr rfl) (hK _ _ ?_)
              clear hK K
              refine wpList_end rfl ?_
              simp only [Act.put, List.setIfInBounds_toArray, List.set_cons_zero, List.set_cons_succ]
              go_simp
              obtain ⟨g8, h_g8⟩ : ∃ g_, w6.heap.size = g_ := ⟨_, rfl⟩
              rw [h_g8] at rr6
              simp only [h_g8]
              have HGg8 : Hid (g1 < g8 ∧ g2 < g8 ∧ g4 < g8 ∧ g6 < g8 ∧ w1.heap.size ≤ g8) := Lib.hid (by rw [← h_g8]; exact ⟨(k6.row Rg1.out).lt, (k6.row Rg2.out).lt, (k6.row Rg4.out).lt, (k6.row Rg6.out).lt, (NewT.trans _ _ _ HM.out k6).out.size⟩)
              have q6 := NewT.trans _ _ _ k6 hn6
              clear k6 hn6 h_g8
              replace Rg1 := Lib.hid (q6.row Rg1.out)
              replace Rg2 := Lib.hid (q6.row Rg2.out)
              replace Rg4 := Lib.hid (q6.row Rg4.out)
              replace Rg6 := Lib.hid (q6.row Rg6.out)
              replace HM := Lib.hid (NewT.trans _ _ _ HM.out q6)
              clear q6
              have Rg8 := Lib.hid rr6
              clear rr6
              go_upto_region 7 with fail
              obtain ⟨q1_7, Q1_7⟩ : ∃ bq_, (((inG 3 ga) && (goesB l 3 ga x)) && (goesB l 3 gt z)) = bq_ := ⟨_, rfl⟩
              obtain ⟨q2_7, Q2_7⟩ : ∃ bq_, ((q1_7 && (inG 3 gu)) && (x.kind == 2)) = bq_ := ⟨_, rfl⟩
              obtain ⟨q3_7, Q3_7⟩ : ∃ bq_, (((q2_7 && (x.tr == 1)) && gt.wt) && (gu.ph == 1)) = bq_ := ⟨_, rfl⟩
              obtain ⟨q4_7, Q4_7⟩ : ∃ bq_, (q3_7 && (((dueX l 3 gu).kind) == 5)) = bq_ := ⟨_, rfl⟩
              obtain ⟨q5_7, Q5_7⟩ : ∃ bq_, (q4_7 && (((dueX l 3 gu).nd) == 3)) = bq_ := ⟨_, rfl⟩
              obtain ⟨q6_7, Q6_7⟩ : ∃ bq_, ((q5_7 && (!(overB gu.ph))) && ((missG gu) == 0)) = bq_ := ⟨_, rfl⟩
              obtain ⟨q7_7, Q7_7⟩ : ∃ bq_, ((q6_7 && (mayL l)) && (!(mayL []))) = bq_ := ⟨_, rfl⟩
              obtain ⟨q8_7, Q8_7⟩ : ∃ bq_, ((q7_7 && (sameG l l ga ga)) && (!(sameG l l ga gt))) = bq_ := ⟨_, rfl⟩
              refine wp_region_steps0 NewT [SV.eq (.bool (inG 3 ga)), SV.eq (.bool (inG 3 ga)), svIf (inG 3 ga) (SV.eq (.bool (goesB l 3 ga x))), SV.eq (.bool ((inG 3 ga) && (goesB l 3 ga x))), SV.eq (.bool ((inG 3 ga) && (goesB l 3 ga x))), svIf ((inG 3 ga) && (goesB l 3 ga x)) (SV.eq (.bool (goesB l 3 gt z))), SV.eq (.bool (q1_7)), SV.eq (.bool (q1_7)), svIf q1_7 (SV.eq (.bool (inG 3 gu))), SV.eq (.bool (q1_7 && (inG 3 gu))), SV.eq (.bool (q1_7 && (inG 3 gu))), svIf (q1_7 && (inG 3 gu)) (SV.eq (.pointer (some ⟨g2, 0, none⟩))), svIf (q1_7 && (inG 3 gu)) (SV.eq (.int .i64 (x.kind))), svIf (q1_7 && (inG 3 gu)) (SV.eq (.bool (x.kind == 2))), SV.eq (.bool (q2_7)), SV.eq (.bool (q2_7)), svIf q2_7 (SV.eq (.pointer (some ⟨g2, 4, none⟩))), svIf q2_7 (SV.eq (.int .i64 (x.tr))), svIf q2_7 (SV.eq (.bool (x.tr == 1))), SV.eq (.bool (q2_7 && (x.tr == 1))), SV.eq (.bool (q2_7 && (x.tr == 1))), svIf (q2_7 && (x.tr == 1)) (SV.eq (.pointer (some ⟨g4, 4, none⟩))), svIf (q2_7 && (x.tr == 1)) (SV.eq (.bool (gt.wt))), SV.eq (.bool ((q2_7 && (x.tr == 1)) && gt.wt)), SV.eq (.bool ((q2_7 && (x.tr == 1)) && gt.wt)), svIf ((q2_7 && (x.tr == 1)) && gt.wt) (SV.eq (.pointer (some ⟨g6, 1, none⟩))), svIf ((q2_7 && (x.tr == 1)) && gt.wt) (SV.eq (.int .i64 (gu.ph))), svIf ((q2_7 && (x.tr == 1)) && gt.wt) (SV.eq (.bool (gu.ph == 1))), SV.eq (.bool (q3_7)), SV.eq (.bool (q3_7)), svIf q3_7 (SV.eq (.pointer (some ⟨g8, 0, none⟩))), svIf q3_7 (SV.eq (.int .i64 ((dueX l 3 gu).kind))), svIf q3_7 (SV.eq (.bool (((dueX l 3 gu).kind) == 5))), SV.eq (.bool (q4_7)), SV.eq (.bool (q4_7)), svIf q4_7 (SV.eq (.pointer (some ⟨g8, 7, none⟩))), svIf q4_7 (SV.eq (.int .i64 ((dueX l 3 gu).nd))), svIf q4_7 (SV.eq (.bool (((dueX l 3 gu).nd) == 3))), SV.eq (.bool (q5_7)), SV.eq (.bool (q5_7)), svIf q5_7 (SV.eq (.agg (rowA 10 (sgF sv gu)))), svIf q5_7 (SV.eq (.bool (overB gu.ph))), svIf q5_7 (SV.eq (.bool (!(overB gu.ph)))), SV.eq (.bool (q5_7 && (!(overB gu.ph)))), SV.eq (.bool (q5_7 && (!(overB gu.ph)))), svIf (q5_7 && (!(overB gu.ph))) (SV.eq (.agg (rowA 10 (sgF sv gu)))), svIf (q5_7 && (!(overB gu.ph))) (SV.eq (.int .i64 (missG gu))), svIf (q5_7 && (!(overB gu.ph))) (SV.eq (.bool ((missG gu) == 0))), SV.eq (.bool (q6_7)), SV.eq (.bool (q6_7)), svIf q6_7 (SV.eq (.pointer (some ⟨g1, 0, none⟩))), svIf q6_7 (SV.eq (sv)), svIf q6_7 (SV.eq (.bool (mayL l))), SV.eq (.bool (q6_7 && (mayL l))), SV.eq (.bool (q6_7 && (mayL l))), svIf (q6_7 && (mayL l)) (SV.eq (.bool (mayL []))), svIf (q6_7 && (mayL l)) (SV.eq (.bool (!(mayL [])))), SV.eq (.bool (q7_7)), SV.eq (.bool (q7_7)), svIf q7_7 (SV.eq (.agg (rowA 10 (sgF sv ga)))), svIf q7_7 (SV.eq (.agg (rowA 10 (sgF sv ga)))), svIf q7_7 (SV.eq (.bool (sameG l l ga ga))), SV.eq (.bool (q7_7 && (sameG l l ga ga))), SV.eq (.bool (q7_7 && (sameG l l ga ga))), svIf (q7_7 && (sameG l l ga ga)) (SV.eq (.agg (rowA 10 (sgF sv ga)))), svIf (q7_7 && (sameG l l ga ga)) (SV.eq (.agg (rowA 10 (sgF sv gt)))), svIf (q7_7 && (sameG l l ga ga)) (SV.eq (.bool (sameG l l ga gt))), svIf (q7_7 && (sameG l l ga ga)) (SV.eq (.bool (!(sameG l l ga gt)))), SV.eq (.bool (q8_7)), SV.eq (.bool (q8_7))] [([(3, none)], none), ([(36, some 0)], none), ([(5, none), (37, some 1)], some (37, true)), ([(37, some 1), (38, some 2)], none), ([(39, some 3)], none), ([(7, none), (40, some 4)], some (40, true)), ([(40, some 4), (41, some 5)], none), ([(42, some 6)], none), ([(9, none), (43, some 7)], some (43, true)), ([(43, some 7), (44, some 8)], none), ([(45, some 9)], none), ([(2, none), (46, some 10)], some (46, true)), ([(47, some 11), (46, some 10)], some (46, true)), ([(48, some 12), (46, some 10)], some (46, true)), ([(46, some 10), (49, some 13)], none), ([(50, some 14)], none), ([(2, none), (51, some 15)], some (51, true)), ([(52, some 16), (51, some 15)], some (51, true)), ([(53, some 17), (51, some 15)], some (51, true)), ([(51, some 15), (54, some 18)], none), ([(55, some 19)], none), ([(4, none), (56, some 20)], some (56, true)), ([(57, some 21), (56, some 20)], some (56, true)), ([(56, some 20), (58, some 22)], none), ([(59, some 23)], none), ([(6, none), (60, some 24)], some (60, true)), ([(61, some 25), (60, some 24)], some (60, true)), ([(62, some 26), (60, some 24)], some (60, true)), ([(60, some 24), (63, some 27)], none), ([(64, some 28)], none), ([(8, none), (65, some 29)], some (65, true)), ([(66, some 30), (65, some 29)], some (65, true)), ([(67, some 31), (65, some 29)], some (65, true)), ([(65, some 29), (68, some 32)], none), ([(69, some 33)], none), ([(8, none), (70, some 34)], some (70, true)), ([(71, some 35), (70, some 34)], some (70, true)), ([(72, some 36), (70, some 34)], some (70, true)), ([(70, some 34), (73, some 37)], none), ([(74, some 38)], none), ([(6, none), (75, some 39)], some (75, true)), ([(76, some 40), (75, some 39)], some (75, true)), ([(77, some 41), (75, some 39)], some (75, true)), ([(75, some 39), (78, some 42)], none), ([(79, some 43)], none), ([(6, none), (80, some 44)], some (80, true)), ([(81, some 45), (80, some 44)], some (80, true)), ([(82, some 46), (80, some 44)], some (80, true)), ([(80, some 44), (83, some 47)], none), ([(84, some 48)], none), ([(1, none), (85, some 49)], some (85, true)), ([(86, some 50), (85, some 49)], some (85, true)), ([(87, some 51), (85, some 49)], some (85, true)), ([(85, some 49), (88, some 52)], none), ([(89, some 53)], none), ([(90, some 54)], some (90, true)), ([(91, some 55), (90, some 54)], some (90, true)), ([(90, some 54), (92, some 56)], none), ([(93, some 57)], none), ([(1, none), (94, some 58)], some (94, true)), ([(1, none), (94, some 58)], some (94, true)), ([(95, some 59), (96, some 60), (94, some 58)], some (94, true)), ([(94, some 58), (97, some 61)], none), ([(98, some 62)], none), ([(1, none), (99, some 63)], some (99, true)), ([(4, none), (99, some 63)], some (99, true)), ([(100, some 64), (101, some 65), (99, some 63)], some (99, true)), ([(102, some 66), (99, some 63)], some (99, true)), ([(99, some 63), (103, some 67)], none), ([(104, some 68)], none)] 105 70 rfl rfl (by kernel_rfl) NewT.trans (NewT.refl _) (Nat.le_of_ble_eq_true rfl) ⟨?_, ?_, ?_, ?_, ?_, ?_, ?_, ?_, ?_, ?_, ?_, ?_, ?_, ?_, ?_, ?_, ?_, ?_, ?_, ?_, ?_, ?_, ?_, ?_, ?_, ?_, ?_, ?_, ?_, ?_, ?_, ?_, ?_, ?_, ?_, ?_, ?_, ?_, ?_, ?_, ?_, ?_, ?_, ?_, ?_, ?_, ?_, ?_, ?_, ?_, ?_, ?_, ?_, ?_, ?_, ?_, ?_, ?_, ?_, ?_, ?_, ?_, ?_, ?_, ?_, ?_, ?_, ?_, ?_, ?_, trivial⟩ ?_
              · exact fun a wx hT hF K hK => rely_wp rfl (opr_move (.inl rfl) (hK _ _ (NewT.refl _) hF.1))
              · exact fun a wx hT hF K hK => rely_wp rfl (opr_move (.inl rfl) (hK _ _ (NewT.refl _) hF.1))
              · exact fun a wx hT hF K hK => rely_if (rely_gt hF.2.1) (NewT.refl _) hK fun hE hK => opr_move (.inl rfl) (hK _ _ (NewT.refl _) hF.1)
              · exact fun a wx hT hF K hK => rely_wp rfl (opr_pick_b rfl hF.1 (fun hb => hK _ _ (NewT.refl _) (pk_and1 (hF.2.1 hb) hb)) (fun hb => hK _ _ (NewT.refl _) (pk_and0 hb)))
              · exact fun a wx hT hF K hK => rely_wp rfl (opr_move (.inl rfl) (hK _ _ (NewT.refl _) hF.1))
              · exact fun a wx hT hF K hK => rely_if (rely_gt hF.2.1) (NewT.refl _) hK fun hE hK => opr_move (.inl rfl) (hK _ _ (NewT.refl _) hF.1)
              · exact fun a wx hT hF K hK => rely_wp rfl (opr_pick_b rfl hF.1 (fun hb => hK _ _ (NewT.refl _) (pn_and1 Q1_7 (hF.2.1 hb) hb)) (fun hb => hK _ _ (NewT.refl _) (pn_and0 Q1_7 hb)))
              · exact fun a wx hT hF K hK => rely_wp rfl (opr_move (.inl rfl) (hK _ _ (NewT.refl _) hF.1))
              · exact fun a wx hT hF K hK => rely_if (rely_gt hF.2.1) (NewT.refl _) hK fun hE hK => opr_move (.inl rfl) (hK _ _ (NewT.refl _) hF.1)
              · exact fun a wx hT hF K hK => rely_wp rfl (opr_pick_b rfl hF.1 (fun hb => hK _ _ (NewT.refl _) (pk_and1 (hF.2.1 hb) hb)) (fun hb => hK _ _ (NewT.refl _) (pk_and0 hb)))
              · exact fun a wx hT hF K hK => rely_wp rfl (opr_move (.inl rfl) (hK _ _ (NewT.refl _) hF.1))
              · exact fun a wx hT hF K hK => rely_if (rely_gt hF.2.1) (NewT.refl _) hK fun hE hK => opr_fldR (by decide) rfl hF.1 (hK _ _ (NewT.refl _) rfl)
              · exact fun a wx hT hF K hK => rely_if (rely_gt hF.2.1) (NewT.refl _) hK fun hE hK => opr_ldI (hT.row Rg2.out) (by decide) rfl rfl (hF.1 hE) (hK _ _ (NewT.refl _) rfl)
              · exact fun a wx hT hF K hK => rely_if (rely_gt hF.2.1) (NewT.refl _) hK fun hE hK => opr_cmp (b := x.kind == 2) (.inl ⟨rfl, rfl⟩) Try.underlying3 rfl (hF.1 hE) rfl (hK _ _ (NewT.refl _) rfl)
              · exact fun a wx hT hF K hK => rely_wp rfl (opr_pick_b rfl hF.1 (fun hb => hK _ _ (NewT.refl _) (pn_and1 Q2_7 (hF.2.1 hb) hb)) (fun hb => hK _ _ (NewT.refl _) (pn_and0 Q2_7 hb)))
              · exact fun a wx hT hF K hK => rely_wp rfl (opr_move (.inl rfl) (hK _ _ (NewT.refl _) hF.1))
              · exact fun a wx hT hF K hK => rely_if (rely_gt hF.2.1) (NewT.refl _) hK fun hE hK => opr_fldR (by decide) rfl hF.1 (hK _ _ (NewT.refl _) rfl)
              · exact fun a wx hT hF K hK => rely_if (rely_gt hF.2.1) (NewT.refl _) hK fun hE hK => opr_ldI (hT.row Rg2.out) (by decide) rfl rfl (hF.1 hE) (hK _ _ (NewT.refl _) rfl)
              · exact fun a wx hT hF K hK => rely_if (rely_gt hF.2.1) (NewT.refl _) hK fun hE hK => opr_cmp (b := x.tr == 1) (.inl ⟨rfl, rfl⟩) Try.underlying3 rfl (hF.1 hE) rfl (hK _ _ (NewT.refl _) rfl)
              · exact fun a wx hT hF K hK => rely_wp rfl (opr_pick_b rfl hF.1 (fun hb => hK _ _ (NewT.refl _) (pk_and1 (hF.2.1 hb) hb)) (fun hb => hK _ _ (NewT.refl _) (pk_and0 hb)))
              · exact fun a wx hT hF K hK => rely_wp rfl (opr_move (.inl rfl) (hK _ _ (NewT.refl _) hF.1))
              · exact fun a wx hT hF K hK => rely_if (rely_gt hF.2.1) (NewT.refl _) hK fun hE hK => opr_fldU4 rfl hF.1 (hK _ _ (NewT.refl _) rfl)
              · exact fun a wx hT hF K hK => rely_if (rely_gt hF.2.1) (NewT.refl _) hK fun hE hK => opr_ldQ (hT.row Rg4.out) (by decide) rfl rfl (hF.1 hE) (hK _ _ (NewT.refl _) rfl)
              · exact fun a wx hT hF K hK => rely_wp rfl (opr_pick_b rfl hF.1 (fun hb => hK _ _ (NewT.refl _) (pk_and1 (hF.2.1 hb) hb)) (fun hb => hK _ _ (NewT.refl _) (pk_and0 hb)))
              · exact fun a wx hT hF K hK => rely_wp rfl (opr_move (.inl rfl) (hK _ _ (NewT.refl _) hF.1))
              · exact fun a wx hT hF K hK => rely_if (rely_gt hF.2.1) (NewT.refl _) hK fun hE hK => opr_fldU1 rfl hF.1 (hK _ _ (NewT.refl _) rfl)
              · exact fun a wx hT hF K hK => rely_if (rely_gt hF.2.1) (NewT.refl _) hK fun hE hK => opr_ldI (hT.row Rg6.out) (by decide) rfl rfl (hF.1 hE) (hK _ _ (NewT.refl _) rfl)
              · exact fun a wx hT hF K hK => rely_if (rely_gt hF.2.1) (NewT.refl _) hK fun hE hK => opr_cmp (b := gu.ph == 1) (.inl ⟨rfl, rfl⟩) Try.underlying3 rfl (hF.1 hE) rfl (hK _ _ (NewT.refl _) rfl)
              · exact fun a wx hT hF K hK => rely_wp rfl (opr_pick_b rfl hF.1 (fun hb => hK _ _ (NewT.refl _) (pn_and1 Q3_7 (hF.2.1 hb) hb)) (fun hb => hK _ _ (NewT.refl _) (pn_and0 Q3_7 hb)))
              · exact fun a wx hT hF K hK => rely_wp rfl (opr_move (.inl rfl) (hK _ _ (NewT.refl _) hF.1))
              · exact fun a wx hT hF K hK => rely_if (rely_gt hF.2.1) (NewT.refl _) hK fun hE hK => opr_fldR (by decide) rfl hF.1 (hK _ _ (NewT.refl _) rfl)
              · exact fun a wx hT hF K hK => rely_if (rely_gt hF.2.1) (NewT.refl _) hK fun hE hK => opr_ldI (hT.row Rg8.out) (by decide) rfl rfl (hF.1 hE) (hK _ _ (NewT.refl _) rfl)
              · exact fun a wx hT hF K hK => rely_if (rely_gt hF.2.1) (NewT.refl _) hK fun hE hK => opr_cmp (b := ((dueX l 3 gu).kind) == 5) (.inl ⟨rfl, rfl⟩) Try.underlying3 rfl (hF.1 hE) rfl (hK _ _ (NewT.refl _) rfl)
              · exact fun a wx hT hF K hK => rely_wp rfl (opr_pick_b rfl hF.1 (fun hb => hK _ _ (NewT.refl _) (pn_and1 Q4_7 (hF.2.1 hb) hb)) (fun hb => hK _ _ (NewT.refl _) (pn_and0 Q4_7 hb)))
              · exact fun a wx hT hF K hK => rely_wp rfl (opr_move (.inl rfl) (hK _ _ (NewT.refl _) hF.1))
              · exact fun a wx hT hF K hK => rely_if (rely_gt hF.2.1) (NewT.refl _) hK fun hE hK => opr_fldR (by decide) rfl hF.1 (hK _ _ (NewT.refl _) rfl)
              · exact fun a wx hT hF K hK => rely_if (rely_gt hF.2.1) (NewT.refl _) hK fun hE hK => opr_ldI (hT.row Rg8.out) (by decide) rfl rfl (hF.1 hE) (hK _ _ (NewT.refl _) rfl)
              · exact fun a wx hT hF K hK => rely_if (rely_gt hF.2.1) (NewT.refl _) hK fun hE hK => opr_cmp (b := ((dueX l 3 gu).nd) == 3) (.inl ⟨rfl, rfl⟩) Try.underlying3 rfl (hF.1 hE) rfl (hK _ _ (NewT.refl _) rfl)
              · exact fun a wx hT hF K hK => rely_wp rfl (opr_pick_b rfl hF.1 (fun hb => hK _ _ (NewT.refl _) (pn_and1 Q5_7 (hF.2.1 hb) hb)) (fun hb => hK _ _ (NewT.refl _) (pn_and0 Q5_7 hb)))
              · exact fun a wx hT hF K hK => rely_wp rfl (opr_move (.inl rfl) (hK _ _ (NewT.refl _) hF.1))
              · exact fun a wx hT hF K hK => rely_if (rely_gt hF.2.1) (NewT.refl _) hK fun hE hK => opr_ldU (hT.row Rg6.out) rfl hF.1 (hK _ _ (NewT.refl _) rfl)
              · exact fun a wx hT hF K hK => rely_if (rely_gt hF.2.1) (NewT.refl _) hK fun hE hK => opr_cv (Over_cv sv gu wx) rfl Try.func19 (by kernel_rfl) (by kernel_rfl) (evs1 (hF.1 hE)) hK
              · exact fun a wx hT hF K hK => rely_if (rely_gt hF.2.1) (NewT.refl _) hK fun hE hK => opr_not rfl (hF.1 hE) (hK _ _ (NewT.refl _) rfl)
              · exact fun a wx hT hF K hK => rely_wp rfl (opr_pick_b rfl hF.1 (fun hb => hK _ _ (NewT.refl _) (pk_and1 (hF.2.1 hb) hb)) (fun hb => hK _ _ (NewT.refl _) (pk_and0 hb)))
              · exact fun a wx hT hF K hK => rely_wp rfl (opr_move (.inl rfl) (hK _ _ (NewT.refl _) hF.1))
              · exact fun a wx hT hF K hK => rely_if (rely_gt hF.2.1) (NewT.refl _) hK fun hE hK => opr_ldU (hT.row Rg6.out) rfl hF.1 (hK _ _ (NewT.refl _) rfl)
              · exact fun a wx hT hF K hK => rely_if (rely_gt hF.2.1) (NewT.refl _) hK fun hE hK => opr_cv (Missing_cv sv gu wx) rfl Try.func16 (by kernel_rfl) (by kernel_rfl) (evs1 (hF.1 hE)) hK
              · exact fun a wx hT hF K hK => rely_if (rely_gt hF.2.1) (NewT.refl _) hK fun hE hK => opr_cmp (b := (missG gu) == 0) (.inl ⟨rfl, rfl⟩) Try.underlying3 rfl (hF.1 hE) rfl (hK _ _ (NewT.refl _) rfl)
              · exact fun a wx hT hF K hK => rely_wp rfl (opr_pick_b rfl hF.1 (fun hb => hK _ _ (NewT.refl _) (pn_and1 Q6_7 (hF.2.1 hb) hb)) (fun hb => hK _ _ (NewT.refl _) (pn_and0 Q6_7 hb)))
              · exact fun a wx hT hF K hK => rely_wp rfl (opr_move (.inl rfl) (hK _ _ (NewT.refl _) hF.1))
              · exact fun a wx hT hF K hK => rely_if (rely_gt hF.2.1) (NewT.refl _) hK fun hE hK => opr_fldU0 rfl hF.1 (hK _ _ (NewT.refl _) rfl)
              · exact fun a wx hT hF K hK => rely_if (rely_gt hF.2.1) (NewT.refl _) hK fun hE hK => opr_ldS (hT.row Rg1.out) (by decide) rfl rfl (hF.1 hE) (hK _ _ (NewT.refl _) rfl)
              · exact fun a wx hT hF K hK => rely_if (rely_gt hF.2.1) (NewT.refl _) hK fun hE hK => opr_cv (gMay_cv _ l wx ((NewT.trans _ _ _ HM.out hT).pairs HS.out.1)) rfl Try.func9 (by kernel_rfl) (by kernel_rfl) (evs1 (hF.1 hE)) hK
              · exact fun a wx hT hF K hK => rely_wp rfl (opr_pick_b rfl hF.1 (fun hb => hK _ _ (NewT.refl _) (pk_and1 (hF.2.1 hb) hb)) (fun hb => hK _ _ (NewT.refl _) (pk_and0 hb)))
              · exact fun a wx hT hF K hK => rely_wp rfl (opr_move (.inl rfl) (hK _ _ (NewT.refl _) hF.1))
              · exact fun a wx hT hF K hK => rely_if (rely_gt hF.1) (NewT.refl _) hK fun hE hK => opr_cv (gMay_cv _ [] wx (rdP_nil wx)) rfl Try.func9 (by kernel_rfl) (by kernel_rfl) (evs1 rfl) hK
              · exact fun a wx hT hF K hK => rely_if (rely_gt hF.2.1) (NewT.refl _) hK fun hE hK => opr_not rfl (hF.1 hE) (hK _ _ (NewT.refl _) rfl)
              · exact fun a wx hT hF K hK => rely_wp rfl (opr_pick_b rfl hF.1 (fun hb => hK _ _ (NewT.refl _) (pn_and1 Q7_7 (hF.2.1 hb) hb)) (fun hb => hK _ _ (NewT.refl _) (pn_and0 Q7_7 hb)))
              · exact fun a wx hT hF K hK => rely_wp rfl (opr_move (.inl rfl) (hK _ _ (NewT.refl _) hF.1))
              · exact fun a wx hT hF K hK => rely_if (rely_gt hF.2.1) (NewT.refl _) hK fun hE hK => opr_ldU (hT.row Rg1.out) rfl hF.1 (hK _ _ (NewT.refl _) rfl)
              · exact fun a wx hT hF K hK => rely_if (rely_gt hF.2.1) (NewT.refl _) hK fun hE hK => opr_ldU (hT.row Rg1.out) rfl hF.1 (hK _ _ (NewT.refl _) rfl)
              · exact fun a wx hT hF K hK => rely_if (rely_gt hF.2.2.1) (NewT.refl _) hK fun hE hK => opr_cv (sSame_cv sv sv l l ga ga wx ((NewT.trans _ _ _ HM.out hT).pairs HS.out.1) ((NewT.trans _ _ _ HM.out hT).pairs HS.out.1)) rfl Try.func11 (by kernel_rfl) (by kernel_rfl) (evs2 (hF.1 hE) (hF.2.1 hE)) hK
              · exact fun a wx hT hF K hK => rely_wp rfl (opr_pick_b rfl hF.1 (fun hb => hK _ _ (NewT.refl _) (pk_and1 (hF.2.1 hb) hb)) (fun hb => hK _ _ (NewT.refl _) (pk_and0 hb)))
              · exact fun a wx hT hF K hK => rely_wp rfl (opr_move (.inl rfl) (hK _ _ (NewT.refl _) hF.1))
              · exact fun a wx hT hF K hK => rely_if (rely_gt hF.2.1) (NewT.refl _) hK fun hE hK => opr_ldU (hT.row Rg1.out) rfl hF.1 (hK _ _ (NewT.refl _) rfl)
              · exact fun a wx hT hF K hK => rely_if (rely_gt hF.2.1) (NewT.refl _) hK fun hE hK => opr_ldU (hT.row Rg4.out) rfl hF.1 (hK _ _ (NewT.refl _) rfl)
              · exact fun a wx hT hF K hK => rely_if (rely_gt hF.2.2.1) (NewT.refl _) hK fun hE hK => opr_cv (sSame_cv sv sv l l ga gt wx ((NewT.trans _ _ _ HM.out hT).pairs HS.out.1) ((NewT.trans _ _ _ HM.out hT).pairs HS.out.1)) rfl Try.func11 (by kernel_rfl) (by kernel_rfl) (evs2 (hF.1 hE) (hF.2.1 hE)) hK
              · exact fun a wx hT hF K hK => rely_if (rely_gt hF.2.1) (NewT.refl _) hK fun hE hK => opr_not rfl (hF.1 hE) (hK _ _ (NewT.refl _) rfl)
              · exact fun a wx hT hF K hK => rely_wp rfl (opr_pick_b rfl hF.1 (fun hb => hK _ _ (NewT.refl _) (pn_and1 Q8_7 (hF.2.1 hb) hb)) (fun hb => hK _ _ (NewT.refl _) (pn_and0 Q8_7 hb)))
              · exact fun a wx hT hF K hK => rely_wp rfl (opr_move (.inr rfl) (hK _ _ (NewT.refl _) hF.1))
              · intro w7 k7
                iterate 2 (intro u h; obtain rfl := Eq.symm (h (by simp)); clear h)
                intro _ _
                iterate 2 (intro u h; obtain rfl := Eq.symm (h (by simp)); clear h)
                intro _ _
                iterate 2 (intro u h; obtain rfl := Eq.symm (h (by simp)); clear h)
                intro _ _
                iterate 2 (intro u h; obtain rfl := Eq.symm (h (by simp)); clear h)
                iterate 3 (intro _ _)
                iterate 2 (intro u h; obtain rfl := Eq.symm (h (by simp)); clear h)
                iterate 3 (intro _ _)
                iterate 2 (intro u h; obtain rfl := Eq.symm (h (by simp)); clear h)
                iterate 2 (intro _ _)
                iterate 2 (intro u h; obtain rfl := Eq.symm (h (by simp)); clear h)
                iterate 3 (intro _ _)
                iterate 2 (intro u h; obtain rfl := Eq.symm (h (by simp)); clear h)
                iterate 3 (intro _ _)
                iterate 2 (intro u h; obtain rfl := Eq.symm (h (by simp)); clear h)
                iterate 3 (intro _ _)
                iterate 2 (intro u h; obtain rfl := Eq.symm (h (by simp)); clear h)
                iterate 3 (intro _ _)
                iterate 2 (intro u h; obtain rfl := Eq.symm (h (by simp)); clear h)
                iterate 3 (intro _ _)
                iterate 2 (intro u h; obtain rfl := Eq.symm (h (by simp)); clear h)
                iterate 3 (intro _ _)
                iterate 2 (intro u h; obtain rfl := Eq.symm (h (by simp)); clear h)
                iterate 2 (intro _ _)
                iterate 2 (intro u h; obtain rfl := Eq.symm (h (by simp)); clear h)
                iterate 3 (intro _ _)
                iterate 2 (intro u h; obtain rfl := Eq.symm (h (by simp)); clear h)
                iterate 4 (intro _ _)
                iterate 2 (intro u h; obtain rfl := Eq.symm (h (by simp)); clear h)
                subst Q8_7 Q7_7 Q6_7 Q5_7 Q4_7 Q3_7 Q2_7 Q1_7
                refine relyEnd_nil rfl ?_
                refine wpList_end rfl ?_
                simp only [Act.put, List.setIfInBounds_toArray, List.set_cons_zero, List.set_cons_succ]
                go_simp
                replace Rg1 := Lib.hid (k7.row Rg1.out)
                replace Rg2 := Lib.hid (k7.row Rg2.out)
                replace Rg4 := Lib.hid (k7.row Rg4.out)
                replace Rg6 := Lib.hid (k7.row Rg6.out)
                replace Rg8 := Lib.hid (k7.row Rg8.out)
                replace HM := Lib.hid (NewT.trans _ _ _ HM.out k7)
                clear k7
                go_wp2
                go_ret
                exact ⟨_, rfl, NewT.trans _ _ _ HB.out HM.out, by show Value.bool _ = Value.bool _; exact congrArg Value.bool HALL.out⟩
end Go.Proofs.Ytfmahpgfeoafiaa
