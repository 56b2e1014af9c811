/- Package rec: Sealed and Open. -/
import Derived.Test.YthgblcpekhiphaaDoorMd
import Derived.Test.YthgblcpekhiphaaDoorMc
import Derived.Test.YthgblcpekhiphaaDoorMb
set_option linter.all false
namespace Go.Proofs.YthgblcpekhiphaaDoor
open Go Go.RowKit
set_option maxRecDepth 8000
set_option maxHeartbeats 1000000 in
theorem sealedBegin_cv (v : Value) (x : Rc) (w : World) (h : RecV w v x) (hT : Tables w) (hlx : x.data.length ≤ 900000) (hst : x.steps.length ≤ 30) : Cv 55 #[v] w (svRd (hdL x ++ hL (comC x))) := by
  obtain ⟨sv, dv, rfl, hs, hd⟩ := h
  unfold Cv
  have HX : Hid (RecV w (.agg (rowA 109 (recF x sv dv))) x) := Lib.hid ⟨sv, dv, rfl, hs, hd⟩
  have HS := Lib.hid hs
  have HD := Lib.hid hd
  clear hs hd
  have HT := Lib.hid hT
  clear hT
  go_enter Tryd.func55, Tryd.ntmps55
  go_upto_region 1 with fail
  have r1 := rowIs_box w 27 109 (recF x sv dv)
  have hN := NewT.alloc w (.cells (rowA 109 (recF x sv dv)) 27)
  change Code.wp _ _ _ _ (w.alloc (.cells (rowA 109 (recF x sv dv)) 27))
  generalize w.alloc (.cells (rowA 109 (recF x sv dv)) 27) = W0 at r1 hN ⊢
  have R1 := Lib.hid r1
  have HN := Lib.hid hN
  replace HX := Lib.hid (hN.recV HX.out)
  replace HS := Lib.hid (hN.pairs HS.out)
  replace HD := Lib.hid (hN.rd HD.out)
  clear r1 hN
  replace HT := Lib.hid (HN.out.tables HT.out)
  refine wp_region_rely NewT [SV.eq (.agg (rowA 109 (recF x sv dv))), svRd (hdL x), SV.eq (.agg (rowA 109 (recF x sv dv))), SV.eq (.agg (rowA 32 (bF (comC x)))), svRd (hL (comC x)), svParts [hdL x, hL (comC x)], svRd (hdL x ++ hL (comC x))] [([(1, none)], none), ([(3, some 0)], none), ([(1, none)], none), ([(5, some 2)], none), ([(6, some 3)], none), ([(4, some 1), (7, some 4)], none), ([(8, some 5)], none)] 10 rfl (by kernel_rfl) rfl (by kernel_rfl) (by kernel_rfl) rfl NewT.trans (NewT.drew _) (Nat.le_of_ble_eq_true rfl) ⟨?_, ?_, ?_, ?_, ?_, ?_, ?_, trivial⟩ ?_
  · intro a wx hT hF K hK
    obtain ⟨f1, _⟩ := hF
    have f1 : a.tmps.getD 1 undef = .pointer (some ⟨w.heap.size, 0, none⟩) := f1
    refine rely_wp rfl ?_
    exact opr_ldR (hT.row R1.out) rfl f1 (hK _ _ (NewT.refl _) rfl)
  · intro a wx hT hF K hK
    obtain ⟨f3, _⟩ := hF
    have f3 : a.tmps.getD 3 undef = .agg (rowA 109 (recF x sv dv)) := f3
    refine rely_wp rfl ?_
    exact opr_cv (putHead_cv _ x wx (hT.recV HX.out) hst) rfl Tryd.func75 (by kernel_rfl) (by kernel_rfl) (by simp only [List.map_toArray, List.map_cons, List.map_nil, eval_tmp, f3]) hK
  · intro a wx hT hF K hK
    obtain ⟨f1, _⟩ := hF
    have f1 : a.tmps.getD 1 undef = .pointer (some ⟨w.heap.size, 0, none⟩) := f1
    refine rely_wp rfl ?_
    exact opr_ldR (hT.row R1.out) rfl f1 (hK _ _ (NewT.refl _) rfl)
  · intro a wx hT hF K hK
    obtain ⟨f5, _⟩ := hF
    have f5 : a.tmps.getD 5 undef = .agg (rowA 109 (recF x sv dv)) := f5
    refine rely_wp rfl ?_
    exact opr_cv (commitment_cv _ x wx (hT.recV HX.out) (hT.tables HT.out) hlx) rfl Tryd.func31 (by kernel_rfl) (by kernel_rfl) (by simp only [List.map_toArray, List.map_cons, List.map_nil, eval_tmp, f5]) hK
  · intro a wx hT hF K hK
    obtain ⟨f6, _⟩ := hF
    have f6 : a.tmps.getD 6 undef = .agg (rowA 32 (bF (comC x))) := f6
    refine rely_wp rfl ?_
    exact opr_cv (WHash_rd (comC x) wx) rfl Tryd.func76 (by kernel_rfl) (by kernel_rfl) (by simp only [List.map_toArray, List.map_cons, List.map_nil, eval_tmp, f6]) hK
  · intro a wx hT hF K hK
    obtain ⟨f4, f7, _⟩ := hF
    replace f4 := show (svRd (hdL x)).pred (a.tmps.getD 4 undef) wx from f4
    replace f7 := show (svRd (hL (comC x))).pred (a.tmps.getD 7 undef) wx from f7
    refine rely_wp rfl ?_
    exact opr_bs2 rfl f4 f7 hK
  · intro a wx hT hF K hK
    obtain ⟨f8, _⟩ := hF
    replace f8 := show (svParts [hdL x, hL (comC x)]).pred (a.tmps.getD 8 undef) wx from f8
    refine rely_wp rfl ?_
    exact opr_cv (All_rd _ _ (hdL x ++ hL (comC x)) wx f8 (by simp) (by have := hdL_len x hst; simp [hL_length]; omega)) rfl Tryd.func25 (by kernel_rfl) (by kernel_rfl) (by simp only [List.map_toArray, List.map_cons, List.map_nil, eval_tmp]) hK
  · intro wx hT
    intro u h; obtain rfl := Eq.symm (h (by simp)); clear h
    intro _ _
    intro u h; obtain rfl := Eq.symm (h (by simp)); clear h
    intro u h; obtain rfl := Eq.symm (h (by simp)); clear h
    intro _ _
    intro _ _
    intro u9 h; have g9 := h (by simp); clear h; replace g9 := show (svRd (hdL x ++ hL (comC x))).pred u9 wx from g9
    refine relyEnd_nil rfl ?_
    simp only [Act.put, List.setIfInBounds_toArray, List.set_cons_zero, List.set_cons_succ]
    refine opr_move (.inr rfl) ?_
    go_simp
    go_wp2
    go_ret
    exact ⟨_, rfl, NewT.trans _ _ _ HN.out hT, g9⟩
set_option maxHeartbeats 1000000 in
theorem openBegin_cv (v : Value) (x : Rc) (w : World) (h : RecV w v x) (hlx : x.data.length ≤ 900000) (hst : x.steps.length ≤ 30) : Cv 56 #[v] w (svRd (hdL x ++ payL x)) := by
  obtain ⟨sv, dv, rfl, hs, hd⟩ := h
  unfold Cv
  have HX : Hid (RecV w (.agg (rowA 109 (recF x sv dv))) x) := Lib.hid ⟨sv, dv, rfl, hs, hd⟩
  have HS := Lib.hid hs
  have HD := Lib.hid hd
  clear hs hd
  have hni := numI_nat x.data.length (by omega)
  have hnl := numI_length x.data.length
  have hhd := hdL_len x hst
  have Hp : ∀ q, x.gone = q → payL x = fB q :: (if q then hL x.com else hL x.salt ++ (numL x.data.length ++ x.data)) := fun q h => by unfold payL; rw [h, hni]
  have HP := Lib.hid Hp
  have Hni := Lib.hid hni
  clear Hp hni
  go_enter Tryd.func56, Tryd.ntmps56
  go_upto_region 1 with fail
  have r1 := rowIs_box w 27 109 (recF x sv dv)
  have hN := NewT.alloc w (.cells (rowA 109 (recF x sv dv)) 27)
  change Code.wp _ _ _ _ (w.alloc (.cells (rowA 109 (recF x sv dv)) 27))
  generalize w.alloc (.cells (rowA 109 (recF x sv dv)) 27) = W0 at r1 hN ⊢
  have R1 := Lib.hid r1
  have HN := Lib.hid hN
  replace HX := Lib.hid (hN.recV HX.out)
  replace HS := Lib.hid (hN.pairs HS.out)
  replace HD := Lib.hid (hN.rd HD.out)
  clear r1 hN
  have c14 : W0.cell? ⟨w.heap.size, 76, none⟩ = some (.bool x.gone) := R1.out.cell (i := 76) (by omega)
  cases hg : x.gone
  · rw [hg] at c14
    have HP2 := Lib.hid (HP.out false hg)
    go_upto_region 3 with fail
    clear c14
    refine wp_region_rely NewT [SV.eq (.agg (rowA 109 (recF x sv dv))), svRd (hdL x), svRd ([fB false]), SV.eq (.pointer (some ⟨w.heap.size, 44, none⟩)), SV.eq (.agg (rowA 32 (bF (x.salt)))), svRd (hL x.salt), SV.eq (.pointer (some ⟨w.heap.size, 43, none⟩)), SV.eq (dv), svRd (numL (List.length x.data) ++ x.data), svParts [hdL x, [fB false], hL x.salt, numL (List.length x.data) ++ x.data], svRd (hdL x ++ payL x)] [([(1, none)], none), ([(13, some 0)], none), ([], none), ([(1, none)], none), ([(16, some 3)], none), ([(17, some 4)], none), ([(1, none)], none), ([(19, some 6)], none), ([(20, some 7)], none), ([(14, some 1), (15, some 2), (18, some 5), (21, some 8)], none), ([(22, some 9)], none)] 24 rfl (by kernel_rfl) rfl (by kernel_rfl) (by kernel_rfl) rfl NewT.trans (NewT.drew _) (Nat.le_of_ble_eq_true rfl) ⟨?_, ?_, ?_, ?_, ?_, ?_, ?_, ?_, ?_, ?_, ?_, trivial⟩ ?_
    · intro a wx hT hF K hK
      obtain ⟨f1, _⟩ := hF
      have f1 : a.tmps.getD 1 undef = .pointer (some ⟨w.heap.size, 0, none⟩) := f1
      refine rely_wp rfl ?_
      exact opr_ldR (hT.row R1.out) rfl f1 (hK _ _ (NewT.refl _) rfl)
    · intro a wx hT hF K hK
      obtain ⟨f13, _⟩ := hF
      have f13 : a.tmps.getD 13 undef = .agg (rowA 109 (recF x sv dv)) := f13
      refine rely_wp rfl ?_
      exact opr_cv (putHead_cv _ x wx (hT.recV HX.out) hst) rfl Tryd.func75 (by kernel_rfl) (by kernel_rfl) (by simp only [List.map_toArray, List.map_cons, List.map_nil, eval_tmp, f13]) hK
    · intro a wx hT hF K hK
      refine rely_wp rfl ?_
      exact opr_cv (Flag_rd false _ wx rfl) rfl Tryd.func77 (by kernel_rfl) (by kernel_rfl) (by simp only [List.map_toArray, List.map_cons, List.map_nil, eval_const]) hK
    · intro a wx hT hF K hK
      obtain ⟨f1, _⟩ := hF
      have f1 : a.tmps.getD 1 undef = .pointer (some ⟨w.heap.size, 0, none⟩) := f1
      refine rely_wp rfl ?_
      exact opr_fldR (by decide) rfl f1 (hK _ _ (NewT.refl _) rfl)
    · intro a wx hT hF K hK
      obtain ⟨f16, _⟩ := hF
      have f16 : a.tmps.getD 16 undef = .pointer (some ⟨w.heap.size, 44, none⟩) := f16
      refine rely_wp rfl ?_
      exact opr_ldH (hT.row R1.out) (by decide) (recF_salt x _ _) rfl f16 (hK _ _ (NewT.refl _) rfl)
    · intro a wx hT hF K hK
      obtain ⟨f17, _⟩ := hF
      have f17 : a.tmps.getD 17 undef = .agg (rowA 32 (bF (x.salt))) := f17
      refine rely_wp rfl ?_
      exact opr_cv (WHash_rd x.salt wx) rfl Tryd.func76 (by kernel_rfl) (by kernel_rfl) (by simp only [List.map_toArray, List.map_cons, List.map_nil, eval_tmp, f17]) hK
    · intro a wx hT hF K hK
      obtain ⟨f1, _⟩ := hF
      have f1 : a.tmps.getD 1 undef = .pointer (some ⟨w.heap.size, 0, none⟩) := f1
      refine rely_wp rfl ?_
      exact opr_fldR (by decide) rfl f1 (hK _ _ (NewT.refl _) rfl)
    · intro a wx hT hF K hK
      obtain ⟨f19, _⟩ := hF
      have f19 : a.tmps.getD 19 undef = .pointer (some ⟨w.heap.size, 43, none⟩) := f19
      refine rely_wp rfl ?_
      exact opr_ldB (hT.row R1.out) (by decide) rfl rfl f19 (hK _ _ (NewT.refl _) rfl)
    · intro a wx hT hF K hK
      obtain ⟨f20, _⟩ := hF
      have f20 : a.tmps.getD 20 undef = dv := f20
      refine rely_wp rfl ?_
      exact opr_cv (WBytes_rd _ x.data _ wx (hT.rd HD.out) hlx rfl) rfl Tryd.func78 (by kernel_rfl) (by kernel_rfl) (by simp only [List.map_toArray, List.map_cons, List.map_nil, eval_tmp, f20]) hK
    · intro a wx hT hF K hK
      obtain ⟨f14, f15, f18, f21, _⟩ := hF
      replace f14 := show (svRd (hdL x)).pred (a.tmps.getD 14 undef) wx from f14
      replace f15 := show (svRd ([fB false])).pred (a.tmps.getD 15 undef) wx from f15
      replace f18 := show (svRd (hL x.salt)).pred (a.tmps.getD 18 undef) wx from f18
      replace f21 := show (svRd (numL (List.length x.data) ++ x.data)).pred (a.tmps.getD 21 undef) wx from f21
      refine rely_wp rfl ?_
      exact opr_bs4 rfl f14 f15 f18 f21 hK
    · intro a wx hT hF K hK
      obtain ⟨f22, _⟩ := hF
      replace f22 := show (svParts [hdL x, [fB false], hL x.salt, numL (List.length x.data) ++ x.data]).pred (a.tmps.getD 22 undef) wx from f22
      refine rely_wp rfl ?_
      exact opr_cv (All_rd _ _ (hdL x ++ payL x) wx f22 (by rw [HP2.out]; simp) (by rw [HP2.out]; rw [← Hni.out]; simp [hL_length]; omega)) rfl Tryd.func25 (by kernel_rfl) (by kernel_rfl) (by simp only [List.map_toArray, List.map_cons, List.map_nil, eval_tmp]) hK
    · intro wx hT
      intro u h; obtain rfl := Eq.symm (h (by simp)); clear h
      intro _ _
      intro _ _
      intro u h; obtain rfl := Eq.symm (h (by simp)); clear h
      intro u h; obtain rfl := Eq.symm (h (by simp)); clear h
      intro _ _
      intro u h; obtain rfl := Eq.symm (h (by simp)); clear h
      intro u h; obtain rfl := Eq.symm (h (by simp)); clear h
      intro _ _
      intro _ _
      intro u23 h; have g23 := h (by simp); clear h; replace g23 := show (svRd (hdL x ++ payL x)).pred u23 wx from g23
      refine relyEnd_nil rfl ?_
      simp only [Act.put, List.setIfInBounds_toArray, List.set_cons_zero, List.set_cons_succ]
      refine opr_move (.inr rfl) ?_
      go_simp
      go_wp2
      go_ret
      exact ⟨_, rfl, NewT.trans _ _ _ HN.out hT, g23⟩
  · rw [hg] at c14
    have HP2 := Lib.hid (HP.out true hg)
    go_upto_region 2 with fail
    clear c14
    refine wp_region_rely NewT [SV.eq (.agg (rowA 109 (recF x sv dv))), svRd (hdL x), svRd ([fB true]), SV.eq (.pointer (some ⟨w.heap.size, 77, none⟩)), SV.eq (.agg (rowA 32 (bF (x.com)))), svRd (hL x.com), svParts [hdL x, [fB true], hL x.com], svRd (hdL x ++ payL x)] [([(1, none)], none), ([(5, some 0)], none), ([], none), ([(1, none)], none), ([(8, some 3)], none), ([(9, some 4)], none), ([(6, some 1), (7, some 2), (10, some 5)], none), ([(11, some 6)], none)] 24 rfl (by kernel_rfl) rfl (by kernel_rfl) (by kernel_rfl) rfl NewT.trans (NewT.drew _) (Nat.le_of_ble_eq_true rfl) ⟨?_, ?_, ?_, ?_, ?_, ?_, ?_, ?_, trivial⟩ ?_
    · intro a wx hT hF K hK
      obtain ⟨f1, _⟩ := hF
      have f1 : a.tmps.getD 1 undef = .pointer (some ⟨w.heap.size, 0, none⟩) := f1
      refine rely_wp rfl ?_
      exact opr_ldR (hT.row R1.out) rfl f1 (hK _ _ (NewT.refl _) rfl)
    · intro a wx hT hF K hK
      obtain ⟨f5, _⟩ := hF
      have f5 : a.tmps.getD 5 undef = .agg (rowA 109 (recF x sv dv)) := f5
      refine rely_wp rfl ?_
      exact opr_cv (putHead_cv _ x wx (hT.recV HX.out) hst) rfl Tryd.func75 (by kernel_rfl) (by kernel_rfl) (by simp only [List.map_toArray, List.map_cons, List.map_nil, eval_tmp, f5]) hK
    · intro a wx hT hF K hK
      refine rely_wp rfl ?_
      exact opr_cv (Flag_rd true _ wx rfl) rfl Tryd.func77 (by kernel_rfl) (by kernel_rfl) (by simp only [List.map_toArray, List.map_cons, List.map_nil, eval_const]) hK
    · intro a wx hT hF K hK
      obtain ⟨f1, _⟩ := hF
      have f1 : a.tmps.getD 1 undef = .pointer (some ⟨w.heap.size, 0, none⟩) := f1
      refine rely_wp rfl ?_
      exact opr_fldR (by decide) rfl f1 (hK _ _ (NewT.refl _) rfl)
    · intro a wx hT hF K hK
      obtain ⟨f8, _⟩ := hF
      have f8 : a.tmps.getD 8 undef = .pointer (some ⟨w.heap.size, 77, none⟩) := f8
      refine rely_wp rfl ?_
      exact opr_ldH (hT.row R1.out) (by decide) (recF_com x _ _) rfl f8 (hK _ _ (NewT.refl _) rfl)
    · intro a wx hT hF K hK
      obtain ⟨f9, _⟩ := hF
      have f9 : a.tmps.getD 9 undef = .agg (rowA 32 (bF (x.com))) := f9
      refine rely_wp rfl ?_
      exact opr_cv (WHash_rd x.com wx) rfl Tryd.func76 (by kernel_rfl) (by kernel_rfl) (by simp only [List.map_toArray, List.map_cons, List.map_nil, eval_tmp, f9]) hK
    · intro a wx hT hF K hK
      obtain ⟨f6, f7, f10, _⟩ := hF
      replace f6 := show (svRd (hdL x)).pred (a.tmps.getD 6 undef) wx from f6
      replace f7 := show (svRd ([fB true])).pred (a.tmps.getD 7 undef) wx from f7
      replace f10 := show (svRd (hL x.com)).pred (a.tmps.getD 10 undef) wx from f10
      refine rely_wp rfl ?_
      exact opr_bs3 rfl f6 f7 f10 hK
    · intro a wx hT hF K hK
      obtain ⟨f11, _⟩ := hF
      replace f11 := show (svParts [hdL x, [fB true], hL x.com]).pred (a.tmps.getD 11 undef) wx from f11
      refine rely_wp rfl ?_
      exact opr_cv (All_rd _ _ (hdL x ++ payL x) wx f11 (by rw [HP2.out]; simp) (by rw [HP2.out]; simp [hL_length]; omega)) rfl Tryd.func25 (by kernel_rfl) (by kernel_rfl) (by simp only [List.map_toArray, List.map_cons, List.map_nil, eval_tmp]) hK
    · intro wx hT
      intro u h; obtain rfl := Eq.symm (h (by simp)); clear h
      intro _ _
      intro _ _
      intro u h; obtain rfl := Eq.symm (h (by simp)); clear h
      intro u h; obtain rfl := Eq.symm (h (by simp)); clear h
      intro _ _
      intro _ _
      intro u12 h; have g12 := h (by simp); clear h; replace g12 := show (svRd (hdL x ++ payL x)).pred u12 wx from g12
      refine relyEnd_nil rfl ?_
      simp only [Act.put, List.setIfInBounds_toArray, List.set_cons_zero, List.set_cons_succ]
      refine opr_move (.inr rfl) ?_
      go_simp
      go_wp2
      go_ret
      exact ⟨_, rfl, NewT.trans _ _ _ HN.out hT, g12⟩
theorem bform_1 (w : World) : (Instr.build 56 #[(0, fnV 55), (1, fnV 56), (2, fnV 57)]).run Tryd.prog w = .ok (.agg (rowA 3 fun j => formF (3 + j))) w := by kernel_rfl
theorem bform_2 (w : World) : (Instr.build 56 #[(0, fnV 58), (1, fnV 58), (2, fnV 59)]).run Tryd.prog w = .ok (.agg (rowA 3 fun j => formF (6 + j))) w := by kernel_rfl
theorem bform_3 (w : World) : (Instr.build 56 #[(0, fnV 60), (1, fnV 60), (2, fnV 61)]).run Tryd.prog w = .ok (.agg (rowA 3 fun j => formF (9 + j))) w := by kernel_rfl
theorem bform_4 (w : World) : (Instr.build 56 #[(0, fnV 58), (1, fnV 58), (2, fnV 59)]).run Tryd.prog w = .ok (.agg (rowA 3 fun j => formF (12 + j))) w := by kernel_rfl
theorem bform_5 (w : World) : (Instr.build 56 #[(0, fnV 62), (1, fnV 62), (2, fnV 63)]).run Tryd.prog w = .ok (.agg (rowA 3 fun j => formF (15 + j))) w := by kernel_rfl
theorem bform_6 (w : World) : (Instr.build 56 #[(0, fnV 64), (1, fnV 64), (2, fnV 65)]).run Tryd.prog w = .ok (.agg (rowA 3 fun j => formF (18 + j))) w := by kernel_rfl
theorem bforms (w : World) : (Instr.build 57 #[(1, .agg (rowA 3 fun j => formF (3 + j))), (2, .agg (rowA 3 fun j => formF (6 + j))), (3, .agg (rowA 3 fun j => formF (9 + j))), (4, .agg (rowA 3 fun j => formF (12 + j))), (5, .agg (rowA 3 fun j => formF (15 + j))), (6, .agg (rowA 3 fun j => formF (18 + j)))]).run Tryd.prog w = .ok (.agg (rowA 21 formF)) w := by kernel_rfl
theorem run_alloc_forms (w : World) : (Instr.alloc 57 true (.tuple #[])).run Tryd.prog w = .ok (.pointer (some ⟨w.heap.size, 0, none⟩)) (w.alloc (.cells (rowA 21 fun _ => .nilFunc) 57)) := by kernel_rfl
theorem put_all21 (F G : Nat → Value) : ∀ i, i < 21 → F i = if 0 ≤ i ∧ i < 0 + 21 then F (i - 0) else G i := fun i hi => by
  rw [if_pos (by omega), Nat.sub_zero]
set_option maxHeartbeats 1000000 in
theorem forms_cv (w : World) : Cv 39 #[] w (.eq (.agg (rowA 21 formF))) := by
  unfold Cv
  have hal := run_alloc_forms
  go_enter Tryd.func39, Tryd.ntmps39
  go_upto_region 1 with fail
  have r1 := rowIs_box w 57 21 (fun _ => .nilFunc)
  have hN := NewT.alloc w (.cells (rowA 21 fun _ => .nilFunc) 57)
  change Code.wp _ _ _ _ (w.alloc (.cells (rowA 21 fun _ => .nilFunc) 57))
  generalize w.alloc (.cells (rowA 21 fun _ => .nilFunc) 57) = W0 at r1 hN ⊢
  clear hal
  refine wp_region_steps0 NewT [SV.eq (.agg (rowA 3 (fun j => formF (3 + j)))), SV.eq (.agg (rowA 3 (fun j => formF (6 + j)))), SV.eq (.agg (rowA 3 (fun j => formF (9 + j)))), SV.eq (.agg (rowA 3 (fun j => formF (12 + j)))), SV.eq (.agg (rowA 3 (fun j => formF (15 + j)))), SV.eq (.agg (rowA 3 (fun j => formF (18 + j)))), SV.eq (.agg (rowA 21 (formF)))] [([], none), ([], none), ([], none), ([], none), ([], none), ([], none), ([(1, some 0), (2, some 1), (3, some 2), (4, some 3), (5, some 4), (6, some 5)], none)] 8 7 rfl rfl (by kernel_rfl) NewT.trans (NewT.refl _) (Nat.le_of_ble_eq_true rfl) ⟨?_, ?_, ?_, ?_, ?_, ?_, ?_, trivial⟩ ?_
  · intro a wx hT hF K hK
    refine rely_wp rfl ?_
    exact opr_build (pv := #[(0, fnV 55), (1, fnV 56), (2, fnV 57)]) rfl (by simp only [List.map_toArray, List.map_cons, List.map_nil, eval_func]; rfl) (bform_1 wx) (hK _ _ (NewT.refl _) rfl)
  · intro a wx hT hF K hK
    refine rely_wp rfl ?_
    exact opr_build (pv := #[(0, fnV 58), (1, fnV 58), (2, fnV 59)]) rfl (by simp only [List.map_toArray, List.map_cons, List.map_nil, eval_func]; rfl) (bform_2 wx) (hK _ _ (NewT.refl _) rfl)
  · intro a wx hT hF K hK
    refine rely_wp rfl ?_
    exact opr_build (pv := #[(0, fnV 60), (1, fnV 60), (2, fnV 61)]) rfl (by simp only [List.map_toArray, List.map_cons, List.map_nil, eval_func]; rfl) (bform_3 wx) (hK _ _ (NewT.refl _) rfl)
  · intro a wx hT hF K hK
    refine rely_wp rfl ?_
    exact opr_build (pv := #[(0, fnV 58), (1, fnV 58), (2, fnV 59)]) rfl (by simp only [List.map_toArray, List.map_cons, List.map_nil, eval_func]; rfl) (bform_4 wx) (hK _ _ (NewT.refl _) rfl)
  · intro a wx hT hF K hK
    refine rely_wp rfl ?_
    exact opr_build (pv := #[(0, fnV 62), (1, fnV 62), (2, fnV 63)]) rfl (by simp only [List.map_toArray, List.map_cons, List.map_nil, eval_func]; rfl) (bform_5 wx) (hK _ _ (NewT.refl _) rfl)
  · intro a wx hT hF K hK
    refine rely_wp rfl ?_
    exact opr_build (pv := #[(0, fnV 64), (1, fnV 64), (2, fnV 65)]) rfl (by simp only [List.map_toArray, List.map_cons, List.map_nil, eval_func]; rfl) (bform_6 wx) (hK _ _ (NewT.refl _) rfl)
  · intro a wx hT hF K hK
    obtain ⟨f1, f2, f3, f4, f5, f6, _⟩ := hF
    have f1 : a.tmps.getD 1 undef = .agg (rowA 3 (fun j => formF (3 + j))) := f1
    have f2 : a.tmps.getD 2 undef = .agg (rowA 3 (fun j => formF (6 + j))) := f2
    have f3 : a.tmps.getD 3 undef = .agg (rowA 3 (fun j => formF (9 + j))) := f3
    have f4 : a.tmps.getD 4 undef = .agg (rowA 3 (fun j => formF (12 + j))) := f4
    have f5 : a.tmps.getD 5 undef = .agg (rowA 3 (fun j => formF (15 + j))) := f5
    have f6 : a.tmps.getD 6 undef = .agg (rowA 3 (fun j => formF (18 + j))) := f6
    refine rely_wp rfl ?_
    exact opr_build rfl (by simp only [List.map_toArray, List.map_cons, List.map_nil, eval_tmp, f1, f2, f3, f4, f5, f6]) (bforms wx) (hK _ _ (NewT.refl _) rfl)
  · intro wx hT
    intro u h; obtain rfl := Eq.symm (h (by simp)); clear h
    intro u h; obtain rfl := Eq.symm (h (by simp)); clear h
    intro u h; obtain rfl := Eq.symm (h (by simp)); clear h
    intro u h; obtain rfl := Eq.symm (h (by simp)); clear h
    intro u h; obtain rfl := Eq.symm (h (by simp)); clear h
    intro u h; obtain rfl := Eq.symm (h (by simp)); clear h
    intro u h; obtain rfl := Eq.symm (h (by simp)); clear h
    refine relyEnd_nil rfl ?_
    simp only [Act.put, List.setIfInBounds_toArray, List.set_cons_zero, List.set_cons_succ]
    refine wpList_plain rfl (fun K hK => ?_)
    refine opr_putm rfl rfl rfl (hT.row r1) (by decide) info_forms formF_one (put_all21 _ _) ?_
    intro wq hTq rq
    refine hK _ _ ?_
    refine wpList_end rfl ?_
    go_simp
    go_wp2
    exact bodyPost_ret (results_agg rfl _ rfl rq Tryd.underlying57 rfl info_forms) rfl ⟨_, rfl, (NewT.trans _ _ _ hN hT).rt hTq (Nat.le_refl _), rfl⟩
set_option maxHeartbeats 4000000 in
theorem Sealed_cv (v : Value) (x : Rc) (w : World) (h : RecV w v x) (hT : Tables w) : Cv 20 #[v] w (svRd (sealedB x)) := by
  obtain ⟨sv, dv, rfl, hs, hd⟩ := h
  unfold Cv
  have HX : Hid (RecV w (.agg (rowA 109 (recF x sv dv))) x) := Lib.hid ⟨sv, dv, rfl, hs, hd⟩
  have HS := Lib.hid hs
  have HD := Lib.hid hd
  clear hs hd
  have HT := Lib.hid hT
  clear hT
  go_enter Tryd.func20, Tryd.ntmps20
  go_upto_region 1 with fail
  have r1 := rowIs_box w 27 109 (recF x sv dv)
  have hN := NewT.alloc w (.cells (rowA 109 (recF x sv dv)) 27)
  change Code.wp _ _ _ _ (w.alloc (.cells (rowA 109 (recF x sv dv)) 27))
  generalize w.alloc (.cells (rowA 109 (recF x sv dv)) 27) = W0 at r1 hN ⊢
  have R1 := Lib.hid r1
  have HN := Lib.hid hN
  replace HX := Lib.hid (hN.recV HX.out)
  replace HS := Lib.hid (hN.pairs HS.out)
  replace HD := Lib.hid (hN.rd HD.out)
  clear r1 hN
  replace HT := Lib.hid (HN.out.tables HT.out)
  refine wp_region_steps0 NewT [SV.eq (.agg (rowA 109 (recF x sv dv))), SV.eq (.bool (rightB x)), SV.eq (.bool (!(rightB x)))] [([(1, none)], none), ([(3, some 0)], none), ([(4, some 1)], none)] 18 3 rfl rfl (by kernel_rfl) NewT.trans (NewT.refl _) (Nat.le_of_ble_eq_true rfl) ⟨?_, ?_, ?_, trivial⟩ ?_
  · intro a wx hT hF K hK
    obtain ⟨f1, _⟩ := hF
    have f1 : a.tmps.getD 1 undef = .pointer (some ⟨w.heap.size, 0, none⟩) := f1
    refine rely_wp rfl ?_
    exact opr_ldR (hT.row R1.out) rfl f1 (hK _ _ (NewT.refl _) rfl)
  · intro a wx hT hF K hK
    obtain ⟨f3, _⟩ := hF
    have f3 : a.tmps.getD 3 undef = .agg (rowA 109 (recF x sv dv)) := f3
    refine rely_wp rfl ?_
    exact opr_cv (Right_cv _ x wx (hT.recV HX.out)) rfl Tryd.func11 (by kernel_rfl) (by kernel_rfl) (by simp only [List.map_toArray, List.map_cons, List.map_nil, eval_tmp, f3]) hK
  · intro a wx hT hF K hK
    obtain ⟨f4, _⟩ := hF
    have f4 : a.tmps.getD 4 undef = .bool (rightB x) := f4
    refine rely_wp rfl ?_
    exact opr_not rfl f4 (hK _ _ (NewT.refl _) rfl)
  · intro w1 h1
    intro u h; obtain rfl := Eq.symm (h (by simp)); clear h
    intro u h; obtain rfl := Eq.symm (h (by simp)); clear h
    intro u h; obtain rfl := Eq.symm (h (by simp)); clear h
    refine relyEnd_nil rfl ?_
    refine wpList_end rfl ?_
    simp only [Act.put, List.setIfInBounds_toArray, List.set_cons_zero, List.set_cons_succ]
    go_simp
    have HN1 := Lib.hid (NewT.trans _ _ _ HN.out h1)
    replace R1 := Lib.hid (h1.row R1.out)
    replace HX := Lib.hid (h1.recV HX.out)
    replace HS := Lib.hid (h1.pairs HS.out)
    replace HD := Lib.hid (h1.rd HD.out)
    replace HT := Lib.hid (h1.tables HT.out)
    clear h1 HN
    cases hr : rightB x
    · have HL : Hid (sealedB x = []) := Lib.hid (by unfold sealedB; rw [hr, if_neg (by simp)])
      go_wp2
      go_ret
      exact ⟨_, rfl, HN1.out, by rw [HL.out]; exact rdV_nil _ _⟩
    have hd60 := right_data x hr
    have hs6 := right_steps x hr
    have hk6 := right_kind x hr
    have hnk := numI_length x.kind
    by_cases hk : x.kind = 1
    · have HE := Lib.hid (sealed_1 x hr hk)
      have hlen : (hdL x ++ hL (comC x)).length ≤ 900000 := by have := hdL_len x (by omega); simp [hL_length]; omega
      go_upto_region 3 with fail
      refine wp_region_rely NewT [SV.eq (.pointer (some ⟨w.heap.size, 0, none⟩)), SV.eq (.int .i64 (x.kind)), svRd (numI x.kind), SV.eq (.agg (rowA 21 (formF))), SV.eq (.pointer (some ⟨w.heap.size, 0, none⟩)), SV.eq (.int .i64 (x.kind)), SV.eq (.agg (rowA 3 (fun j => formF (3 + j)))), SV.eq (fnV 55), SV.eq (.agg (rowA 109 (recF x sv dv))), svRd (hdL x ++ hL (comC x)), svParts [numI x.kind, hdL x ++ hL (comC x)], svRd (sealedB x)] [([(1, none)], none), ([(6, some 0)], none), ([(7, some 1)], none), ([], none), ([(1, none)], none), ([(10, some 4)], none), ([(9, some 3), (11, some 5)], none), ([(12, some 6)], none), ([(1, none)], none), ([(13, some 7), (14, some 8)], none), ([(8, some 2), (15, some 9)], none), ([(16, some 10)], none)] 18 rfl (by kernel_rfl) rfl (by kernel_rfl) (by kernel_rfl) rfl NewT.trans (NewT.drew _) (Nat.le_of_ble_eq_true rfl) ⟨?_, ?_, ?_, ?_, ?_, ?_, ?_, ?_, ?_, ?_, ?_, ?_, trivial⟩ ?_
      · intro a wx hT hF K hK
        obtain ⟨f1, _⟩ := hF
        have f1 : a.tmps.getD 1 undef = .pointer (some ⟨w.heap.size, 0, none⟩) := f1
        refine rely_wp rfl ?_
        exact opr_fldR (by decide) rfl f1 (hK _ _ (NewT.refl _) rfl)
      · intro a wx hT hF K hK
        obtain ⟨f6, _⟩ := hF
        have f6 : a.tmps.getD 6 undef = .pointer (some ⟨w.heap.size, 0, none⟩) := f6
        refine rely_wp rfl ?_
        exact opr_ldI (hT.row R1.out) (by decide) rfl rfl f6 (hK _ _ (NewT.refl _) rfl)
      · intro a wx hT hF K hK
        obtain ⟨f7, _⟩ := hF
        have f7 : a.tmps.getD 7 undef = .int .i64 (x.kind) := f7
        refine rely_wp rfl ?_
        exact opr_cv (Num_rd x.kind _ wx rfl) rfl Tryd.func38 (by kernel_rfl) (by kernel_rfl) (by simp only [List.map_toArray, List.map_cons, List.map_nil, eval_tmp, f7]) hK
      · intro a wx hT hF K hK
        refine rely_wp rfl ?_
        exact opr_cv (forms_cv wx) rfl Tryd.func39 (by kernel_rfl) (by kernel_rfl) (by simp only [List.map_toArray, List.map_nil]) hK
      · intro a wx hT hF K hK
        obtain ⟨f1, _⟩ := hF
        have f1 : a.tmps.getD 1 undef = .pointer (some ⟨w.heap.size, 0, none⟩) := f1
        refine rely_wp rfl ?_
        exact opr_fldR (by decide) rfl f1 (hK _ _ (NewT.refl _) rfl)
      · intro a wx hT hF K hK
        obtain ⟨f10, _⟩ := hF
        have f10 : a.tmps.getD 10 undef = .pointer (some ⟨w.heap.size, 0, none⟩) := f10
        refine rely_wp rfl ?_
        exact opr_ldI (hT.row R1.out) (by decide) rfl rfl f10 (hK _ _ (NewT.refl _) rfl)
      · intro a wx hT hF K hK
        obtain ⟨f9, f11, _⟩ := hF
        have f9 : a.tmps.getD 9 undef = .agg (rowA 21 (formF)) := f9
        have f11 : a.tmps.getD 11 undef = .int .i64 (x.kind) := f11
        refine rely_wp rfl ?_
        exact opr_idx rfl f9 (f11.trans (by rw [hk])) (idx_1 wx) (hK _ _ (NewT.refl _) rfl)
      · intro a wx hT hF K hK
        obtain ⟨f12, _⟩ := hF
        have f12 : a.tmps.getD 12 undef = .agg (rowA 3 (fun j => formF (3 + j))) := f12
        refine rely_wp rfl ?_
        exact opr_fieldv rfl f12 (fldv_0 _ _ rfl wx) (hK _ _ (NewT.refl _) rfl)
      · intro a wx hT hF K hK
        obtain ⟨f1, _⟩ := hF
        have f1 : a.tmps.getD 1 undef = .pointer (some ⟨w.heap.size, 0, none⟩) := f1
        refine rely_wp rfl ?_
        exact opr_ldR (hT.row R1.out) rfl f1 (hK _ _ (NewT.refl _) rfl)
      · intro a wx hT hF K hK
        obtain ⟨f13, f14, _⟩ := hF
        have f13 : a.tmps.getD 13 undef = fnV 55 := f13
        have f14 : a.tmps.getD 14 undef = .agg (rowA 109 (recF x sv dv)) := f14
        refine rely_wp rfl ?_
        refine opr_callv rfl f13 Tryd.func55 (by kernel_rfl) (by kernel_rfl) (by simp only [List.map_toArray, List.map_cons, List.map_nil, eval_tmp, f14]; rfl) (Calls.mono (sealedBegin_cv _ x wx (hT.recV HX.out) (hT.tables HT.out) (by omega) (by omega)) ?_)
        rintro e w' ⟨v, he, hN, hv⟩
        exact ⟨v, he, hK v w' hN hv⟩
      · intro a wx hT hF K hK
        obtain ⟨f8, f15, _⟩ := hF
        replace f8 := show (svRd (numI x.kind)).pred (a.tmps.getD 8 undef) wx from f8
        replace f15 := show (svRd (hdL x ++ hL (comC x))).pred (a.tmps.getD 15 undef) wx from f15
        refine rely_wp rfl ?_
        exact opr_bs2 rfl f8 f15 hK
      · intro a wx hT hF K hK
        obtain ⟨f16, _⟩ := hF
        replace f16 := show (svParts [numI x.kind, hdL x ++ hL (comC x)]).pred (a.tmps.getD 16 undef) wx from f16
        refine rely_wp rfl ?_
        exact opr_cv (All_rd _ _ (sealedB x) wx f16 (by rw [← HE.out]; simp) (by rw [← HE.out, List.length_append]; have := hlen; omega)) rfl Tryd.func25 (by kernel_rfl) (by kernel_rfl) (by simp only [List.map_toArray, List.map_cons, List.map_nil, eval_tmp]) hK
      · intro wx hT
        intro u h; obtain rfl := Eq.symm (h (by simp)); clear h
        intro u h; obtain rfl := Eq.symm (h (by simp)); clear h
        intro _ _
        intro u h; obtain rfl := Eq.symm (h (by simp)); clear h
        intro u h; obtain rfl := Eq.symm (h (by simp)); clear h
        intro u h; obtain rfl := Eq.symm (h (by simp)); clear h
        intro u h; obtain rfl := Eq.symm (h (by simp)); clear h
        intro u h; obtain rfl := Eq.symm (h (by simp)); clear h
        intro u h; obtain rfl := Eq.symm (h (by simp)); clear h
        intro _ _
        intro _ _
        intro u17 h; have g17 := h (by simp); clear h; replace g17 := show (svRd (sealedB x)).pred u17 wx from g17
        refine relyEnd_nil rfl ?_
        simp only [Act.put, List.setIfInBounds_toArray, List.set_cons_zero, List.set_cons_succ]
        refine opr_move (.inr rfl) ?_
        go_simp
        go_wp2
        go_ret
        exact ⟨_, rfl, NewT.trans _ _ _ HN1.out hT, g17⟩
    have k1 := hk
    clear hk
    by_cases hk : x.kind = 2
    · have HE := Lib.hid (sealed_o x _ hr (fun c => tail_2 x c (.inl hk)))
      have hlen : (callL x).length ≤ 900000 := by have := callL_len x; omega
      go_upto_region 3 with fail
      refine wp_region_rely NewT [SV.eq (.pointer (some ⟨w.heap.size, 0, none⟩)), SV.eq (.int .i64 (x.kind)), svRd (numI x.kind), SV.eq (.agg (rowA 21 (formF))), SV.eq (.pointer (some ⟨w.heap.size, 0, none⟩)), SV.eq (.int .i64 (x.kind)), SV.eq (.agg (rowA 3 (fun j => formF (6 + j)))), SV.eq (fnV 58), SV.eq (.agg (rowA 109 (recF x sv dv))), svRd (callL x), svParts [numI x.kind, callL x], svRd (sealedB x)] [([(1, none)], none), ([(6, some 0)], none), ([(7, some 1)], none), ([], none), ([(1, none)], none), ([(10, some 4)], none), ([(9, some 3), (11, some 5)], none), ([(12, some 6)], none), ([(1, none)], none), ([(13, some 7), (14, some 8)], none), ([(8, some 2), (15, some 9)], none), ([(16, some 10)], none)] 18 rfl (by kernel_rfl) rfl (by kernel_rfl) (by kernel_rfl) rfl NewT.trans (NewT.drew _) (Nat.le_of_ble_eq_true rfl) ⟨?_, ?_, ?_, ?_, ?_, ?_, ?_, ?_, ?_, ?_, ?_, ?_, trivial⟩ ?_
      · intro a wx hT hF K hK
        obtain ⟨f1, _⟩ := hF
        have f1 : a.tmps.getD 1 undef = .pointer (some ⟨w.heap.size, 0, none⟩) := f1
        refine rely_wp rfl ?_
        exact opr_fldR (by decide) rfl f1 (hK _ _ (NewT.refl _) rfl)
      · intro a wx hT hF K hK
        obtain ⟨f6, _⟩ := hF
        have f6 : a.tmps.getD 6 undef = .pointer (some ⟨w.heap.size, 0, none⟩) := f6
        refine rely_wp rfl ?_
        exact opr_ldI (hT.row R1.out) (by decide) rfl rfl f6 (hK _ _ (NewT.refl _) rfl)
      · intro a wx hT hF K hK
        obtain ⟨f7, _⟩ := hF
        have f7 : a.tmps.getD 7 undef = .int .i64 (x.kind) := f7
        refine rely_wp rfl ?_
        exact opr_cv (Num_rd x.kind _ wx rfl) rfl Tryd.func38 (by kernel_rfl) (by kernel_rfl) (by simp only [List.map_toArray, List.map_cons, List.map_nil, eval_tmp, f7]) hK
      · intro a wx hT hF K hK
        refine rely_wp rfl ?_
        exact opr_cv (forms_cv wx) rfl Tryd.func39 (by kernel_rfl) (by kernel_rfl) (by simp only [List.map_toArray, List.map_nil]) hK
      · intro a wx hT hF K hK
        obtain ⟨f1, _⟩ := hF
        have f1 : a.tmps.getD 1 undef = .pointer (some ⟨w.heap.size, 0, none⟩) := f1
        refine rely_wp rfl ?_
        exact opr_fldR (by decide) rfl f1 (hK _ _ (NewT.refl _) rfl)
      · intro a wx hT hF K hK
        obtain ⟨f10, _⟩ := hF
        have f10 : a.tmps.getD 10 undef = .pointer (some ⟨w.heap.size, 0, none⟩) := f10
        refine rely_wp rfl ?_
        exact opr_ldI (hT.row R1.out) (by decide) rfl rfl f10 (hK _ _ (NewT.refl _) rfl)
      · intro a wx hT hF K hK
        obtain ⟨f9, f11, _⟩ := hF
        have f9 : a.tmps.getD 9 undef = .agg (rowA 21 (formF)) := f9
        have f11 : a.tmps.getD 11 undef = .int .i64 (x.kind) := f11
        refine rely_wp rfl ?_
        exact opr_idx rfl f9 (f11.trans (by rw [hk])) (idx_2 wx) (hK _ _ (NewT.refl _) rfl)
      · intro a wx hT hF K hK
        obtain ⟨f12, _⟩ := hF
        have f12 : a.tmps.getD 12 undef = .agg (rowA 3 (fun j => formF (6 + j))) := f12
        refine rely_wp rfl ?_
        exact opr_fieldv rfl f12 (fldv_0 _ _ rfl wx) (hK _ _ (NewT.refl _) rfl)
      · intro a wx hT hF K hK
        obtain ⟨f1, _⟩ := hF
        have f1 : a.tmps.getD 1 undef = .pointer (some ⟨w.heap.size, 0, none⟩) := f1
        refine rely_wp rfl ?_
        exact opr_ldR (hT.row R1.out) rfl f1 (hK _ _ (NewT.refl _) rfl)
      · intro a wx hT hF K hK
        obtain ⟨f13, f14, _⟩ := hF
        have f13 : a.tmps.getD 13 undef = fnV 58 := f13
        have f14 : a.tmps.getD 14 undef = .agg (rowA 109 (recF x sv dv)) := f14
        refine rely_wp rfl ?_
        refine opr_callv rfl f13 Tryd.func58 (by kernel_rfl) (by kernel_rfl) (by simp only [List.map_toArray, List.map_cons, List.map_nil, eval_tmp, f14]; rfl) (Calls.mono (putTry_cv _ x wx (hT.recV HX.out)) ?_)
        rintro e w' ⟨v, he, hN, hv⟩
        exact ⟨v, he, hK v w' hN hv⟩
      · intro a wx hT hF K hK
        obtain ⟨f8, f15, _⟩ := hF
        replace f8 := show (svRd (numI x.kind)).pred (a.tmps.getD 8 undef) wx from f8
        replace f15 := show (svRd (callL x)).pred (a.tmps.getD 15 undef) wx from f15
        refine rely_wp rfl ?_
        exact opr_bs2 rfl f8 f15 hK
      · intro a wx hT hF K hK
        obtain ⟨f16, _⟩ := hF
        replace f16 := show (svParts [numI x.kind, callL x]).pred (a.tmps.getD 16 undef) wx from f16
        refine rely_wp rfl ?_
        exact opr_cv (All_rd _ _ (sealedB x) wx f16 (by rw [← HE.out]; simp) (by rw [← HE.out, List.length_append]; have := hlen; omega)) rfl Tryd.func25 (by kernel_rfl) (by kernel_rfl) (by simp only [List.map_toArray, List.map_cons, List.map_nil, eval_tmp]) hK
      · intro wx hT
        intro u h; obtain rfl := Eq.symm (h (by simp)); clear h
        intro u h; obtain rfl := Eq.symm (h (by simp)); clear h
        intro _ _
        intro u h; obtain rfl := Eq.symm (h (by simp)); clear h
        intro u h; obtain rfl := Eq.symm (h (by simp)); clear h
        intro u h; obtain rfl := Eq.symm (h (by simp)); clear h
        intro u h; obtain rfl := Eq.symm (h (by simp)); clear h
        intro u h; obtain rfl := Eq.symm (h (by simp)); clear h
        intro u h; obtain rfl := Eq.symm (h (by simp)); clear h
        intro _ _
        intro _ _
        intro u17 h; have g17 := h (by simp); clear h; replace g17 := show (svRd (sealedB x)).pred u17 wx from g17
        refine relyEnd_nil rfl ?_
        simp only [Act.put, List.setIfInBounds_toArray, List.set_cons_zero, List.set_cons_succ]
        refine opr_move (.inr rfl) ?_
        go_simp
        go_wp2
        go_ret
        exact ⟨_, rfl, NewT.trans _ _ _ HN1.out hT, g17⟩
    have k2 := hk
    clear hk
    by_cases hk : x.kind = 3
    · have HE := Lib.hid (sealed_o x _ hr (fun c => tail_3 x c hk))
      have hlen : (rcL x).length ≤ 900000 := by have := rcL_len x; omega
      go_upto_region 3 with fail
      refine wp_region_rely NewT [SV.eq (.pointer (some ⟨w.heap.size, 0, none⟩)), SV.eq (.int .i64 (x.kind)), svRd (numI x.kind), SV.eq (.agg (rowA 21 (formF))), SV.eq (.pointer (some ⟨w.heap.size, 0, none⟩)), SV.eq (.int .i64 (x.kind)), SV.eq (.agg (rowA 3 (fun j => formF (9 + j)))), SV.eq (fnV 60), SV.eq (.agg (rowA 109 (recF x sv dv))), svRd (rcL x), svParts [numI x.kind, rcL x], svRd (sealedB x)] [([(1, none)], none), ([(6, some 0)], none), ([(7, some 1)], none), ([], none), ([(1, none)], none), ([(10, some 4)], none), ([(9, some 3), (11, some 5)], none), ([(12, some 6)], none), ([(1, none)], none), ([(13, some 7), (14, some 8)], none), ([(8, some 2), (15, some 9)], none), ([(16, some 10)], none)] 18 rfl (by kernel_rfl) rfl (by kernel_rfl) (by kernel_rfl) rfl NewT.trans (NewT.drew _) (Nat.le_of_ble_eq_true rfl) ⟨?_, ?_, ?_, ?_, ?_, ?_, ?_, ?_, ?_, ?_, ?_, ?_, trivial⟩ ?_
      · intro a wx hT hF K hK
        obtain ⟨f1, _⟩ := hF
        have f1 : a.tmps.getD 1 undef = .pointer (some ⟨w.heap.size, 0, none⟩) := f1
        refine rely_wp rfl ?_
        exact opr_fldR (by decide) rfl f1 (hK _ _ (NewT.refl _) rfl)
      · intro a wx hT hF K hK
        obtain ⟨f6, _⟩ := hF
        have f6 : a.tmps.getD 6 undef = .pointer (some ⟨w.heap.size, 0, none⟩) := f6
        refine rely_wp rfl ?_
        exact opr_ldI (hT.row R1.out) (by decide) rfl rfl f6 (hK _ _ (NewT.refl _) rfl)
      · intro a wx hT hF K hK
        obtain ⟨f7, _⟩ := hF
        have f7 : a.tmps.getD 7 undef = .int .i64 (x.kind) := f7
        refine rely_wp rfl ?_
        exact opr_cv (Num_rd x.kind _ wx rfl) rfl Tryd.func38 (by kernel_rfl) (by kernel_rfl) (by simp only [List.map_toArray, List.map_cons, List.map_nil, eval_tmp, f7]) hK
      · intro a wx hT hF K hK
        refine rely_wp rfl ?_
        exact opr_cv (forms_cv wx) rfl Tryd.func39 (by kernel_rfl) (by kernel_rfl) (by simp only [List.map_toArray, List.map_nil]) hK
      · intro a wx hT hF K hK
        obtain ⟨f1, _⟩ := hF
        have f1 : a.tmps.getD 1 undef = .pointer (some ⟨w.heap.size, 0, none⟩) := f1
        refine rely_wp rfl ?_
        exact opr_fldR (by decide) rfl f1 (hK _ _ (NewT.refl _) rfl)
      · intro a wx hT hF K hK
        obtain ⟨f10, _⟩ := hF
        have f10 : a.tmps.getD 10 undef = .pointer (some ⟨w.heap.size, 0, none⟩) := f10
        refine rely_wp rfl ?_
        exact opr_ldI (hT.row R1.out) (by decide) rfl rfl f10 (hK _ _ (NewT.refl _) rfl)
      · intro a wx hT hF K hK
        obtain ⟨f9, f11, _⟩ := hF
        have f9 : a.tmps.getD 9 undef = .agg (rowA 21 (formF)) := f9
        have f11 : a.tmps.getD 11 undef = .int .i64 (x.kind) := f11
        refine rely_wp rfl ?_
        exact opr_idx rfl f9 (f11.trans (by rw [hk])) (idx_3 wx) (hK _ _ (NewT.refl _) rfl)
      · intro a wx hT hF K hK
        obtain ⟨f12, _⟩ := hF
        have f12 : a.tmps.getD 12 undef = .agg (rowA 3 (fun j => formF (9 + j))) := f12
        refine rely_wp rfl ?_
        exact opr_fieldv rfl f12 (fldv_0 _ _ rfl wx) (hK _ _ (NewT.refl _) rfl)
      · intro a wx hT hF K hK
        obtain ⟨f1, _⟩ := hF
        have f1 : a.tmps.getD 1 undef = .pointer (some ⟨w.heap.size, 0, none⟩) := f1
        refine rely_wp rfl ?_
        exact opr_ldR (hT.row R1.out) rfl f1 (hK _ _ (NewT.refl _) rfl)
      · intro a wx hT hF K hK
        obtain ⟨f13, f14, _⟩ := hF
        have f13 : a.tmps.getD 13 undef = fnV 60 := f13
        have f14 : a.tmps.getD 14 undef = .agg (rowA 109 (recF x sv dv)) := f14
        refine rely_wp rfl ?_
        refine opr_callv rfl f13 Tryd.func60 (by kernel_rfl) (by kernel_rfl) (by simp only [List.map_toArray, List.map_cons, List.map_nil, eval_tmp, f14]; rfl) (Calls.mono (putReceipt_cv _ x wx (hT.recV HX.out)) ?_)
        rintro e w' ⟨v, he, hN, hv⟩
        exact ⟨v, he, hK v w' hN hv⟩
      · intro a wx hT hF K hK
        obtain ⟨f8, f15, _⟩ := hF
        replace f8 := show (svRd (numI x.kind)).pred (a.tmps.getD 8 undef) wx from f8
        replace f15 := show (svRd (rcL x)).pred (a.tmps.getD 15 undef) wx from f15
        refine rely_wp rfl ?_
        exact opr_bs2 rfl f8 f15 hK
      · intro a wx hT hF K hK
        obtain ⟨f16, _⟩ := hF
        replace f16 := show (svParts [numI x.kind, rcL x]).pred (a.tmps.getD 16 undef) wx from f16
        refine rely_wp rfl ?_
        exact opr_cv (All_rd _ _ (sealedB x) wx f16 (by rw [← HE.out]; simp) (by rw [← HE.out, List.length_append]; have := hlen; omega)) rfl Tryd.func25 (by kernel_rfl) (by kernel_rfl) (by simp only [List.map_toArray, List.map_cons, List.map_nil, eval_tmp]) hK
      · intro wx hT
        intro u h; obtain rfl := Eq.symm (h (by simp)); clear h
        intro u h; obtain rfl := Eq.symm (h (by simp)); clear h
        intro _ _
        intro u h; obtain rfl := Eq.symm (h (by simp)); clear h
        intro u h; obtain rfl := Eq.symm (h (by simp)); clear h
        intro u h; obtain rfl := Eq.symm (h (by simp)); clear h
        intro u h; obtain rfl := Eq.symm (h (by simp)); clear h
        intro u h; obtain rfl := Eq.symm (h (by simp)); clear h
        intro u h; obtain rfl := Eq.symm (h (by simp)); clear h
        intro _ _
        intro _ _
        intro u17 h; have g17 := h (by simp); clear h; replace g17 := show (svRd (sealedB x)).pred u17 wx from g17
        refine relyEnd_nil rfl ?_
        simp only [Act.put, List.setIfInBounds_toArray, List.set_cons_zero, List.set_cons_succ]
        refine opr_move (.inr rfl) ?_
        go_simp
        go_wp2
        go_ret
        exact ⟨_, rfl, NewT.trans _ _ _ HN1.out hT, g17⟩
    have k3 := hk
    clear hk
    by_cases hk : x.kind = 4
    · have HE := Lib.hid (sealed_o x _ hr (fun c => tail_2 x c (.inr hk)))
      have hlen : (callL x).length ≤ 900000 := by have := callL_len x; omega
      go_upto_region 3 with fail
      refine wp_region_rely NewT [SV.eq (.pointer (some ⟨w.heap.size, 0, none⟩)), SV.eq (.int .i64 (x.kind)), svRd (numI x.kind), SV.eq (.agg (rowA 21 (formF))), SV.eq (.pointer (some ⟨w.heap.size, 0, none⟩)), SV.eq (.int .i64 (x.kind)), SV.eq (.agg (rowA 3 (fun j => formF (12 + j)))), SV.eq (fnV 58), SV.eq (.agg (rowA 109 (recF x sv dv))), svRd (callL x), svParts [numI x.kind, callL x], svRd (sealedB x)] [([(1, none)], none), ([(6, some 0)], none), ([(7, some 1)], none), ([], none), ([(1, none)], none), ([(10, some 4)], none), ([(9, some 3), (11, some 5)], none), ([(12, some 6)], none), ([(1, none)], none), ([(13, some 7), (14, some 8)], none), ([(8, some 2), (15, some 9)], none), ([(16, some 10)], none)] 18 rfl (by kernel_rfl) rfl (by kernel_rfl) (by kernel_rfl) rfl NewT.trans (NewT.drew _) (Nat.le_of_ble_eq_true rfl) ⟨?_, ?_, ?_, ?_, ?_, ?_, ?_, ?_, ?_, ?_, ?_, ?_, trivial⟩ ?_
      · intro a wx hT hF K hK
        obtain ⟨f1, _⟩ := hF
        have f1 : a.tmps.getD 1 undef = .pointer (some ⟨w.heap.size, 0, none⟩) := f1
        refine rely_wp rfl ?_
        exact opr_fldR (by decide) rfl f1 (hK _ _ (NewT.refl _) rfl)
      · intro a wx hT hF K hK
        obtain ⟨f6, _⟩ := hF
        have f6 : a.tmps.getD 6 undef = .pointer (some ⟨w.heap.size, 0, none⟩) := f6
        refine rely_wp rfl ?_
        exact opr_ldI (hT.row R1.out) (by decide) rfl rfl f6 (hK _ _ (NewT.refl _) rfl)
      · intro a wx hT hF K hK
        obtain ⟨f7, _⟩ := hF
        have f7 : a.tmps.getD 7 undef = .int .i64 (x.kind) := f7
        refine rely_wp rfl ?_
        exact opr_cv (Num_rd x.kind _ wx rfl) rfl Tryd.func38 (by kernel_rfl) (by kernel_rfl) (by simp only [List.map_toArray, List.map_cons, List.map_nil, eval_tmp, f7]) hK
      · intro a wx hT hF K hK
        refine rely_wp rfl ?_
        exact opr_cv (forms_cv wx) rfl Tryd.func39 (by kernel_rfl) (by kernel_rfl) (by simp only [List.map_toArray, List.map_nil]) hK
      · intro a wx hT hF K hK
        obtain ⟨f1, _⟩ := hF
        have f1 : a.tmps.getD 1 undef = .pointer (some ⟨w.heap.size, 0, none⟩) := f1
        refine rely_wp rfl ?_
        exact opr_fldR (by decide) rfl f1 (hK _ _ (NewT.refl _) rfl)
      · intro a wx hT hF K hK
        obtain ⟨f10, _⟩ := hF
        have f10 : a.tmps.getD 10 undef = .pointer (some ⟨w.heap.size, 0, none⟩) := f10
        refine rely_wp rfl ?_
        exact opr_ldI (hT.row R1.out) (by decide) rfl rfl f10 (hK _ _ (NewT.refl _) rfl)
      · intro a wx hT hF K hK
        obtain ⟨f9, f11, _⟩ := hF
        have f9 : a.tmps.getD 9 undef = .agg (rowA 21 (formF)) := f9
        have f11 : a.tmps.getD 11 undef = .int .i64 (x.kind) := f11
        refine rely_wp rfl ?_
        exact opr_idx rfl f9 (f11.trans (by rw [hk])) (idx_4 wx) (hK _ _ (NewT.refl _) rfl)
      · intro a wx hT hF K hK
        obtain ⟨f12, _⟩ := hF
        have f12 : a.tmps.getD 12 undef = .agg (rowA 3 (fun j => formF (12 + j))) := f12
        refine rely_wp rfl ?_
        exact opr_fieldv rfl f12 (fldv_0 _ _ rfl wx) (hK _ _ (NewT.refl _) rfl)
      · intro a wx hT hF K hK
        obtain ⟨f1, _⟩ := hF
        have f1 : a.tmps.getD 1 undef = .pointer (some ⟨w.heap.size, 0, none⟩) := f1
        refine rely_wp rfl ?_
        exact opr_ldR (hT.row R1.out) rfl f1 (hK _ _ (NewT.refl _) rfl)
      · intro a wx hT hF K hK
        obtain ⟨f13, f14, _⟩ := hF
        have f13 : a.tmps.getD 13 undef = fnV 58 := f13
        have f14 : a.tmps.getD 14 undef = .agg (rowA 109 (recF x sv dv)) := f14
        refine rely_wp rfl ?_
        refine opr_callv rfl f13 Tryd.func58 (by kernel_rfl) (by kernel_rfl) (by simp only [List.map_toArray, List.map_cons, List.map_nil, eval_tmp, f14]; rfl) (Calls.mono (putTry_cv _ x wx (hT.recV HX.out)) ?_)
        rintro e w' ⟨v, he, hN, hv⟩
        exact ⟨v, he, hK v w' hN hv⟩
      · intro a wx hT hF K hK
        obtain ⟨f8, f15, _⟩ := hF
        replace f8 := show (svRd (numI x.kind)).pred (a.tmps.getD 8 undef) wx from f8
        replace f15 := show (svRd (callL x)).pred (a.tmps.getD 15 undef) wx from f15
        refine rely_wp rfl ?_
        exact opr_bs2 rfl f8 f15 hK
      · intro a wx hT hF K hK
        obtain ⟨f16, _⟩ := hF
        replace f16 := show (svParts [numI x.kind, callL x]).pred (a.tmps.getD 16 undef) wx from f16
        refine rely_wp rfl ?_
        exact opr_cv (All_rd _ _ (sealedB x) wx f16 (by rw [← HE.out]; simp) (by rw [← HE.out, List.length_append]; have := hlen; omega)) rfl Tryd.func25 (by kernel_rfl) (by kernel_rfl) (by simp only [List.map_toArray, List.map_cons, List.map_nil, eval_tmp]) hK
      · intro wx hT
        intro u h; obtain rfl := Eq.symm (h (by simp)); clear h
        intro u h; obtain rfl := Eq.symm (h (by simp)); clear h
        intro _ _
        intro u h; obtain rfl := Eq.symm (h (by simp)); clear h
        intro u h; obtain rfl := Eq.symm (h (by simp)); clear h
        intro u h; obtain rfl := Eq.symm (h (by simp)); clear h
        intro u h; obtain rfl := Eq.symm (h (by simp)); clear h
        intro u h; obtain rfl := Eq.symm (h (by simp)); clear h
        intro u h; obtain rfl := Eq.symm (h (by simp)); clear h
        intro _ _
        intro _ _
        intro u17 h; have g17 := h (by simp); clear h; replace g17 := show (svRd (sealedB x)).pred u17 wx from g17
        refine relyEnd_nil rfl ?_
        simp only [Act.put, List.setIfInBounds_toArray, List.set_cons_zero, List.set_cons_succ]
        refine opr_move (.inr rfl) ?_
        go_simp
        go_wp2
        go_ret
        exact ⟨_, rfl, NewT.trans _ _ _ HN1.out hT, g17⟩
    have k4 := hk
    clear hk
    by_cases hk : x.kind = 5
    · have HE := Lib.hid (sealed_o x _ hr (fun c => tail_5 x c hk))
      have hlen : (clL x).length ≤ 900000 := by have := clL_len x; omega
      go_upto_region 3 with fail
      refine wp_region_rely NewT [SV.eq (.pointer (some ⟨w.heap.size, 0, none⟩)), SV.eq (.int .i64 (x.kind)), svRd (numI x.kind), SV.eq (.agg (rowA 21 (formF))), SV.eq (.pointer (some ⟨w.heap.size, 0, none⟩)), SV.eq (.int .i64 (x.kind)), SV.eq (.agg (rowA 3 (fun j => formF (15 + j)))), SV.eq (fnV 62), SV.eq (.agg (rowA 109 (recF x sv dv))), svRd (clL x), svParts [numI x.kind, clL x], svRd (sealedB x)] [([(1, none)], none), ([(6, some 0)], none), ([(7, some 1)], none), ([], none), ([(1, none)], none), ([(10, some 4)], none), ([(9, some 3), (11, some 5)], none), ([(12, some 6)], none), ([(1, none)], none), ([(13, some 7), (14, some 8)], none), ([(8, some 2), (15, some 9)], none), ([(16, some 10)], none)] 18 rfl (by kernel_rfl) rfl (by kernel_rfl) (by kernel_rfl) rfl NewT.trans (NewT.drew _) (Nat.le_of_ble_eq_true rfl) ⟨?_, ?_, ?_, ?_, ?_, ?_, ?_, ?_, ?_, ?_, ?_, ?_, trivial⟩ ?_
      · intro a wx hT hF K hK
        obtain ⟨f1, _⟩ := hF
        have f1 : a.tmps.getD 1 undef = .pointer (some ⟨w.heap.size, 0, none⟩) := f1
        refine rely_wp rfl ?_
        exact opr_fldR (by decide) rfl f1 (hK _ _ (NewT.refl _) rfl)
      · intro a wx hT hF K hK
        obtain ⟨f6, _⟩ := hF
        have f6 : a.tmps.getD 6 undef = .pointer (some ⟨w.heap.size, 0, none⟩) := f6
        refine rely_wp rfl ?_
        exact opr_ldI (hT.row R1.out) (by decide) rfl rfl f6 (hK _ _ (NewT.refl _) rfl)
      · intro a wx hT hF K hK
        obtain ⟨f7, _⟩ := hF
        have f7 : a.tmps.getD 7 undef = .int .i64 (x.kind) := f7
        refine rely_wp rfl ?_
        exact opr_cv (Num_rd x.kind _ wx rfl) rfl Tryd.func38 (by kernel_rfl) (by kernel_rfl) (by simp only [List.map_toArray, List.map_cons, List.map_nil, eval_tmp, f7]) hK
      · intro a wx hT hF K hK
        refine rely_wp rfl ?_
        exact opr_cv (forms_cv wx) rfl Tryd.func39 (by kernel_rfl) (by kernel_rfl) (by simp only [List.map_toArray, List.map_nil]) hK
      · intro a wx hT hF K hK
        obtain ⟨f1, _⟩ := hF
        have f1 : a.tmps.getD 1 undef = .pointer (some ⟨w.heap.size, 0, none⟩) := f1
        refine rely_wp rfl ?_
        exact opr_fldR (by decide) rfl f1 (hK _ _ (NewT.refl _) rfl)
      · intro a wx hT hF K hK
        obtain ⟨f10, _⟩ := hF
        have f10 : a.tmps.getD 10 undef = .pointer (some ⟨w.heap.size, 0, none⟩) := f10
        refine rely_wp rfl ?_
        exact opr_ldI (hT.row R1.out) (by decide) rfl rfl f10 (hK _ _ (NewT.refl _) rfl)
      · intro a wx hT hF K hK
        obtain ⟨f9, f11, _⟩ := hF
        have f9 : a.tmps.getD 9 undef = .agg (rowA 21 (formF)) := f9
        have f11 : a.tmps.getD 11 undef = .int .i64 (x.kind) := f11
        refine rely_wp rfl ?_
        exact opr_idx rfl f9 (f11.trans (by rw [hk])) (idx_5 wx) (hK _ _ (NewT.refl _) rfl)
      · intro a wx hT hF K hK
        obtain ⟨f12, _⟩ := hF
        have f12 : a.tmps.getD 12 undef = .agg (rowA 3 (fun j => formF (15 + j))) := f12
        refine rely_wp rfl ?_
        exact opr_fieldv rfl f12 (fldv_0 _ _ rfl wx) (hK _ _ (NewT.refl _) rfl)
      · intro a wx hT hF K hK
        obtain ⟨f1, _⟩ := hF
        have f1 : a.tmps.getD 1 undef = .pointer (some ⟨w.heap.size, 0, none⟩) := f1
        refine rely_wp rfl ?_
        exact opr_ldR (hT.row R1.out) rfl f1 (hK _ _ (NewT.refl _) rfl)
      · intro a wx hT hF K hK
        obtain ⟨f13, f14, _⟩ := hF
        have f13 : a.tmps.getD 13 undef = fnV 62 := f13
        have f14 : a.tmps.getD 14 undef = .agg (rowA 109 (recF x sv dv)) := f14
        refine rely_wp rfl ?_
        refine opr_callv rfl f13 Tryd.func62 (by kernel_rfl) (by kernel_rfl) (by simp only [List.map_toArray, List.map_cons, List.map_nil, eval_tmp, f14]; rfl) (Calls.mono (putClosed_cv _ x wx (hT.recV HX.out)) ?_)
        rintro e w' ⟨v, he, hN, hv⟩
        exact ⟨v, he, hK v w' hN hv⟩
      · intro a wx hT hF K hK
        obtain ⟨f8, f15, _⟩ := hF
        replace f8 := show (svRd (numI x.kind)).pred (a.tmps.getD 8 undef) wx from f8
        replace f15 := show (svRd (clL x)).pred (a.tmps.getD 15 undef) wx from f15
        refine rely_wp rfl ?_
        exact opr_bs2 rfl f8 f15 hK
      · intro a wx hT hF K hK
        obtain ⟨f16, _⟩ := hF
        replace f16 := show (svParts [numI x.kind, clL x]).pred (a.tmps.getD 16 undef) wx from f16
        refine rely_wp rfl ?_
        exact opr_cv (All_rd _ _ (sealedB x) wx f16 (by rw [← HE.out]; simp) (by rw [← HE.out, List.length_append]; have := hlen; omega)) rfl Tryd.func25 (by kernel_rfl) (by kernel_rfl) (by simp only [List.map_toArray, List.map_cons, List.map_nil, eval_tmp]) hK
      · intro wx hT
        intro u h; obtain rfl := Eq.symm (h (by simp)); clear h
        intro u h; obtain rfl := Eq.symm (h (by simp)); clear h
        intro _ _
        intro u h; obtain rfl := Eq.symm (h (by simp)); clear h
        intro u h; obtain rfl := Eq.symm (h (by simp)); clear h
        intro u h; obtain rfl := Eq.symm (h (by simp)); clear h
        intro u h; obtain rfl := Eq.symm (h (by simp)); clear h
        intro u h; obtain rfl := Eq.symm (h (by simp)); clear h
        intro u h; obtain rfl := Eq.symm (h (by simp)); clear h
        intro _ _
        intro _ _
        intro u17 h; have g17 := h (by simp); clear h; replace g17 := show (svRd (sealedB x)).pred u17 wx from g17
        refine relyEnd_nil rfl ?_
        simp only [Act.put, List.setIfInBounds_toArray, List.set_cons_zero, List.set_cons_succ]
        refine opr_move (.inr rfl) ?_
        go_simp
        go_wp2
        go_ret
        exact ⟨_, rfl, NewT.trans _ _ _ HN1.out hT, g17⟩
    have k5 := hk
    clear hk
    have hk : x.kind = 6 := by omega
    clear k1 k2 k3 k4 k5
    have HE := Lib.hid (sealed_o x _ hr (fun c => tail_6 x c hk))
    have hlen : (roL x).length ≤ 900000 := by have := roL_len x; omega
    go_upto_region 3 with fail
    refine wp_region_rely NewT [SV.eq (.pointer (some ⟨w.heap.size, 0, none⟩)), SV.eq (.int .i64 (x.kind)), svRd (numI x.kind), SV.eq (.agg (rowA 21 (formF))), SV.eq (.pointer (some ⟨w.heap.size, 0, none⟩)), SV.eq (.int .i64 (x.kind)), SV.eq (.agg (rowA 3 (fun j => formF (18 + j)))), SV.eq (fnV 64), SV.eq (.agg (rowA 109 (recF x sv dv))), svRd (roL x), svParts [numI x.kind, roL x], svRd (sealedB x)] [([(1, none)], none), ([(6, some 0)], none), ([(7, some 1)], none), ([], none), ([(1, none)], none), ([(10, some 4)], none), ([(9, some 3), (11, some 5)], none), ([(12, some 6)], none), ([(1, none)], none), ([(13, some 7), (14, some 8)], none), ([(8, some 2), (15, some 9)], none), ([(16, some 10)], none)] 18 rfl (by kernel_rfl) rfl (by kernel_rfl) (by kernel_rfl) rfl NewT.trans (NewT.drew _) (Nat.le_of_ble_eq_true rfl) ⟨?_, ?_, ?_, ?_, ?_, ?_, ?_, ?_, ?_, ?_, ?_, ?_, trivial⟩ ?_
    · intro a wx hT hF K hK
      obtain ⟨f1, _⟩ := hF
      have f1 : a.tmps.getD 1 undef = .pointer (some ⟨w.heap.size, 0, none⟩) := f1
      refine rely_wp rfl ?_
      exact opr_fldR (by decide) rfl f1 (hK _ _ (NewT.refl _) rfl)
    · intro a wx hT hF K hK
      obtain ⟨f6, _⟩ := hF
      have f6 : a.tmps.getD 6 undef = .pointer (some ⟨w.heap.size, 0, none⟩) := f6
      refine rely_wp rfl ?_
      exact opr_ldI (hT.row R1.out) (by decide) rfl rfl f6 (hK _ _ (NewT.refl _) rfl)
    · intro a wx hT hF K hK
      obtain ⟨f7, _⟩ := hF
      have f7 : a.tmps.getD 7 undef = .int .i64 (x.kind) := f7
      refine rely_wp rfl ?_
      exact opr_cv (Num_rd x.kind _ wx rfl) rfl Tryd.func38 (by kernel_rfl) (by kernel_rfl) (by simp only [List.map_toArray, List.map_cons, List.map_nil, eval_tmp, f7]) hK
    · intro a wx hT hF K hK
      refine rely_wp rfl ?_
      exact opr_cv (forms_cv wx) rfl Tryd.func39 (by kernel_rfl) (by kernel_rfl) (by simp only [List.map_toArray, List.map_nil]) hK
    · intro a wx hT hF K hK
      obtain ⟨f1, _⟩ := hF
      have f1 : a.tmps.getD 1 undef = .pointer (some ⟨w.heap.size, 0, none⟩) := f1
      refine rely_wp rfl ?_
      exact opr_fldR (by decide) rfl f1 (hK _ _ (NewT.refl _) rfl)
    · intro a wx hT hF K hK
      obtain ⟨f10, _⟩ := hF
      have f10 : a.tmps.getD 10 undef = .pointer (some ⟨w.heap.size, 0, none⟩) := f10
      refine rely_wp rfl ?_
      exact opr_ldI (hT.row R1.out) (by decide) rfl rfl f10 (hK _ _ (NewT.refl _) rfl)
    · intro a wx hT hF K hK
      obtain ⟨f9, f11, _⟩ := hF
      have f9 : a.tmps.getD 9 undef = .agg (rowA 21 (formF)) := f9
      have f11 : a.tmps.getD 11 undef = .int .i64 (x.kind) := f11
      refine rely_wp rfl ?_
      exact opr_idx rfl f9 (f11.trans (by rw [hk])) (idx_6 wx) (hK _ _ (NewT.refl _) rfl)
    · intro a wx hT hF K hK
      obtain ⟨f12, _⟩ := hF
      have f12 : a.tmps.getD 12 undef = .agg (rowA 3 (fun j => formF (18 + j))) := f12
      refine rely_wp rfl ?_
      exact opr_fieldv rfl f12 (fldv_0 _ _ rfl wx) (hK _ _ (NewT.refl _) rfl)
    · intro a wx hT hF K hK
      obtain ⟨f1, _⟩ := hF
      have f1 : a.tmps.getD 1 undef = .pointer (some ⟨w.heap.size, 0, none⟩) := f1
      refine rely_wp rfl ?_
      exact opr_ldR (hT.row R1.out) rfl f1 (hK _ _ (NewT.refl _) rfl)
    · intro a wx hT hF K hK
      obtain ⟨f13, f14, _⟩ := hF
      have f13 : a.tmps.getD 13 undef = fnV 64 := f13
      have f14 : a.tmps.getD 14 undef = .agg (rowA 109 (recF x sv dv)) := f14
      refine rely_wp rfl ?_
      refine opr_callv rfl f13 Tryd.func64 (by kernel_rfl) (by kernel_rfl) (by simp only [List.map_toArray, List.map_cons, List.map_nil, eval_tmp, f14]; rfl) (Calls.mono (putRotate_cv _ x wx (hT.recV HX.out)) ?_)
      rintro e w' ⟨v, he, hN, hv⟩
      exact ⟨v, he, hK v w' hN hv⟩
    · intro a wx hT hF K hK
      obtain ⟨f8, f15, _⟩ := hF
      replace f8 := show (svRd (numI x.kind)).pred (a.tmps.getD 8 undef) wx from f8
      replace f15 := show (svRd (roL x)).pred (a.tmps.getD 15 undef) wx from f15
      refine rely_wp rfl ?_
      exact opr_bs2 rfl f8 f15 hK
    · intro a wx hT hF K hK
      obtain ⟨f16, _⟩ := hF
      replace f16 := show (svParts [numI x.kind, roL x]).pred (a.tmps.getD 16 undef) wx from f16
      refine rely_wp rfl ?_
      exact opr_cv (All_rd _ _ (sealedB x) wx f16 (by rw [← HE.out]; simp) (by rw [← HE.out, List.length_append]; have := hlen; omega)) rfl Tryd.func25 (by kernel_rfl) (by kernel_rfl) (by simp only [List.map_toArray, List.map_cons, List.map_nil, eval_tmp]) hK
    · intro wx hT
      intro u h; obtain rfl := Eq.symm (h (by simp)); clear h
      intro u h; obtain rfl := Eq.symm (h (by simp)); clear h
      intro _ _
      intro u h; obtain rfl := Eq.symm (h (by simp)); clear h
      intro u h; obtain rfl := Eq.symm (h (by simp)); clear h
      intro u h; obtain rfl := Eq.symm (h (by simp)); clear h
      intro u h; obtain rfl := Eq.symm (h (by simp)); clear h
      intro u h; obtain rfl := Eq.symm (h (by simp)); clear h
      intro u h; obtain rfl := Eq.symm (h (by simp)); clear h
      intro _ _
      intro _ _
      intro u17 h; have g17 := h (by simp); clear h; replace g17 := show (svRd (sealedB x)).pred u17 wx from g17
      refine relyEnd_nil rfl ?_
      simp only [Act.put, List.setIfInBounds_toArray, List.set_cons_zero, List.set_cons_succ]
      refine opr_move (.inr rfl) ?_
      go_simp
      go_wp2
      go_ret
      exact ⟨_, rfl, NewT.trans _ _ _ HN1.out hT, g17⟩
set_option maxHeartbeats 4000000 in
theorem Open_cv (v : Value) (x : Rc) (w : World) (h : RecV w v x) : Cv 22 #[v] w (svRd (openB x)) := by
  obtain ⟨sv, dv, rfl, hs, hd⟩ := h
  unfold Cv
  have HX : Hid (RecV w (.agg (rowA 109 (recF x sv dv))) x) := Lib.hid ⟨sv, dv, rfl, hs, hd⟩
  have HS := Lib.hid hs
  have HD := Lib.hid hd
  clear hs hd
  go_enter Tryd.func22, Tryd.ntmps22
  go_upto_region 1 with fail
  have r1 := rowIs_box w 27 109 (recF x sv dv)
  have hN := NewT.alloc w (.cells (rowA 109 (recF x sv dv)) 27)
  change Code.wp _ _ _ _ (w.alloc (.cells (rowA 109 (recF x sv dv)) 27))
  generalize w.alloc (.cells (rowA 109 (recF x sv dv)) 27) = W0 at r1 hN ⊢
  have R1 := Lib.hid r1
  have HN := Lib.hid hN
  replace HX := Lib.hid (hN.recV HX.out)
  replace HS := Lib.hid (hN.pairs HS.out)
  replace HD := Lib.hid (hN.rd HD.out)
  clear r1 hN
  refine wp_region_steps0 NewT [SV.eq (.agg (rowA 109 (recF x sv dv))), SV.eq (.bool (rightB x)), SV.eq (.bool (!(rightB x)))] [([(1, none)], none), ([(3, some 0)], none), ([(4, some 1)], none)] 18 3 rfl rfl (by kernel_rfl) NewT.trans (NewT.refl _) (Nat.le_of_ble_eq_true rfl) ⟨?_, ?_, ?_, trivial⟩ ?_
  · intro a wx hT hF K hK
    obtain ⟨f1, _⟩ := hF
    have f1 : a.tmps.getD 1 undef = .pointer (some ⟨w.heap.size, 0, none⟩) := f1
    refine rely_wp rfl ?_
    exact opr_ldR (hT.row R1.out) rfl f1 (hK _ _ (NewT.refl _) rfl)
  · intro a wx hT hF K hK
    obtain ⟨f3, _⟩ := hF
    have f3 : a.tmps.getD 3 undef = .agg (rowA 109 (recF x sv dv)) := f3
    refine rely_wp rfl ?_
    exact opr_cv (Right_cv _ x wx (hT.recV HX.out)) rfl Tryd.func11 (by kernel_rfl) (by kernel_rfl) (by simp only [List.map_toArray, List.map_cons, List.map_nil, eval_tmp, f3]) hK
  · intro a wx hT hF K hK
    obtain ⟨f4, _⟩ := hF
    have f4 : a.tmps.getD 4 undef = .bool (rightB x) := f4
    refine rely_wp rfl ?_
    exact opr_not rfl f4 (hK _ _ (NewT.refl _) rfl)
  · intro w1 h1
    intro u h; obtain rfl := Eq.symm (h (by simp)); clear h
    intro u h; obtain rfl := Eq.symm (h (by simp)); clear h
    intro u h; obtain rfl := Eq.symm (h (by simp)); clear h
    refine relyEnd_nil rfl ?_
    refine wpList_end rfl ?_
    simp only [Act.put, List.setIfInBounds_toArray, List.set_cons_zero, List.set_cons_succ]
    go_simp
    have HN1 := Lib.hid (NewT.trans _ _ _ HN.out h1)
    replace R1 := Lib.hid (h1.row R1.out)
    replace HX := Lib.hid (h1.recV HX.out)
    replace HS := Lib.hid (h1.pairs HS.out)
    replace HD := Lib.hid (h1.rd HD.out)

    clear h1 HN
    cases hr : rightB x
    · have HL : Hid (openB x = []) := Lib.hid (by unfold openB; rw [hr, if_neg (by simp)])
      go_wp2
      go_ret
      exact ⟨_, rfl, HN1.out, by rw [HL.out]; exact rdV_nil _ _⟩
    have hd60 := right_data x hr
    have hs6 := right_steps x hr
    have hk6 := right_kind x hr
    have hnk := numI_length x.kind
    by_cases hk : x.kind = 1
    · have HE := Lib.hid (open_1 x hr hk)
      have hlen : (hdL x ++ payL x).length ≤ 900000 := by have := hdL_len x (by omega); have := numI_length x.data.length; unfold payL; split <;> simp [hL_length] <;> omega
      go_upto_region 3 with fail
      refine wp_region_rely NewT [SV.eq (.pointer (some ⟨w.heap.size, 0, none⟩)), SV.eq (.int .i64 (x.kind)), svRd (numI x.kind), SV.eq (.agg (rowA 21 (formF))), SV.eq (.pointer (some ⟨w.heap.size, 0, none⟩)), SV.eq (.int .i64 (x.kind)), SV.eq (.agg (rowA 3 (fun j => formF (3 + j)))), SV.eq (fnV 56), SV.eq (.agg (rowA 109 (recF x sv dv))), svRd (hdL x ++ payL x), svParts [numI x.kind, hdL x ++ payL x], svRd (openB x)] [([(1, none)], none), ([(6, some 0)], none), ([(7, some 1)], none), ([], none), ([(1, none)], none), ([(10, some 4)], none), ([(9, some 3), (11, some 5)], none), ([(12, some 6)], none), ([(1, none)], none), ([(13, some 7), (14, some 8)], none), ([(8, some 2), (15, some 9)], none), ([(16, some 10)], none)] 18 rfl (by kernel_rfl) rfl (by kernel_rfl) (by kernel_rfl) rfl NewT.trans (NewT.drew _) (Nat.le_of_ble_eq_true rfl) ⟨?_, ?_, ?_, ?_, ?_, ?_, ?_, ?_, ?_, ?_, ?_, ?_, trivial⟩ ?_
      · intro a wx hT hF K hK
        obtain ⟨f1, _⟩ := hF
        have f1 : a.tmps.getD 1 undef = .pointer (some ⟨w.heap.size, 0, none⟩) := f1
        refine rely_wp rfl ?_
        exact opr_fldR (by decide) rfl f1 (hK _ _ (NewT.refl _) rfl)
      · intro a wx hT hF K hK
        obtain ⟨f6, _⟩ := hF
        have f6 : a.tmps.getD 6 undef = .pointer (some ⟨w.heap.size, 0, none⟩) := f6
        refine rely_wp rfl ?_
        exact opr_ldI (hT.row R1.out) (by decide) rfl rfl f6 (hK _ _ (NewT.refl _) rfl)
      · intro a wx hT hF K hK
        obtain ⟨f7, _⟩ := hF
        have f7 : a.tmps.getD 7 undef = .int .i64 (x.kind) := f7
        refine rely_wp rfl ?_
        exact opr_cv (Num_rd x.kind _ wx rfl) rfl Tryd.func38 (by kernel_rfl) (by kernel_rfl) (by simp only [List.map_toArray, List.map_cons, List.map_nil, eval_tmp, f7]) hK
      · intro a wx hT hF K hK
        refine rely_wp rfl ?_
        exact opr_cv (forms_cv wx) rfl Tryd.func39 (by kernel_rfl) (by kernel_rfl) (by simp only [List.map_toArray, List.map_nil]) hK
      · intro a wx hT hF K hK
        obtain ⟨f1, _⟩ := hF
        have f1 : a.tmps.getD 1 undef = .pointer (some ⟨w.heap.size, 0, none⟩) := f1
        refine rely_wp rfl ?_
        exact opr_fldR (by decide) rfl f1 (hK _ _ (NewT.refl _) rfl)
      · intro a wx hT hF K hK
        obtain ⟨f10, _⟩ := hF
        have f10 : a.tmps.getD 10 undef = .pointer (some ⟨w.heap.size, 0, none⟩) := f10
        refine rely_wp rfl ?_
        exact opr_ldI (hT.row R1.out) (by decide) rfl rfl f10 (hK _ _ (NewT.refl _) rfl)
      · intro a wx hT hF K hK
        obtain ⟨f9, f11, _⟩ := hF
        have f9 : a.tmps.getD 9 undef = .agg (rowA 21 (formF)) := f9
        have f11 : a.tmps.getD 11 undef = .int .i64 (x.kind) := f11
        refine rely_wp rfl ?_
        exact opr_idx rfl f9 (f11.trans (by rw [hk])) (idx_1 wx) (hK _ _ (NewT.refl _) rfl)
      · intro a wx hT hF K hK
        obtain ⟨f12, _⟩ := hF
        have f12 : a.tmps.getD 12 undef = .agg (rowA 3 (fun j => formF (3 + j))) := f12
        refine rely_wp rfl ?_
        exact opr_fieldv rfl f12 (fldv_1 _ _ rfl wx) (hK _ _ (NewT.refl _) rfl)
      · intro a wx hT hF K hK
        obtain ⟨f1, _⟩ := hF
        have f1 : a.tmps.getD 1 undef = .pointer (some ⟨w.heap.size, 0, none⟩) := f1
        refine rely_wp rfl ?_
        exact opr_ldR (hT.row R1.out) rfl f1 (hK _ _ (NewT.refl _) rfl)
      · intro a wx hT hF K hK
        obtain ⟨f13, f14, _⟩ := hF
        have f13 : a.tmps.getD 13 undef = fnV 56 := f13
        have f14 : a.tmps.getD 14 undef = .agg (rowA 109 (recF x sv dv)) := f14
        refine rely_wp rfl ?_
        refine opr_callv rfl f13 Tryd.func56 (by kernel_rfl) (by kernel_rfl) (by simp only [List.map_toArray, List.map_cons, List.map_nil, eval_tmp, f14]; rfl) (Calls.mono (openBegin_cv _ x wx (hT.recV HX.out) (by omega) (by omega)) ?_)
        rintro e w' ⟨v, he, hN, hv⟩
        exact ⟨v, he, hK v w' hN hv⟩
      · intro a wx hT hF K hK
        obtain ⟨f8, f15, _⟩ := hF
        replace f8 := show (svRd (numI x.kind)).pred (a.tmps.getD 8 undef) wx from f8
        replace f15 := show (svRd (hdL x ++ payL x)).pred (a.tmps.getD 15 undef) wx from f15
        refine rely_wp rfl ?_
        exact opr_bs2 rfl f8 f15 hK
      · intro a wx hT hF K hK
        obtain ⟨f16, _⟩ := hF
        replace f16 := show (svParts [numI x.kind, hdL x ++ payL x]).pred (a.tmps.getD 16 undef) wx from f16
        refine rely_wp rfl ?_
        exact opr_cv (All_rd _ _ (openB x) wx f16 (by rw [← HE.out]; simp) (by rw [← HE.out, List.length_append]; have := hlen; omega)) rfl Tryd.func25 (by kernel_rfl) (by kernel_rfl) (by simp only [List.map_toArray, List.map_cons, List.map_nil, eval_tmp]) hK
      · intro wx hT
        intro u h; obtain rfl := Eq.symm (h (by simp)); clear h
        intro u h; obtain rfl := Eq.symm (h (by simp)); clear h
        intro _ _
        intro u h; obtain rfl := Eq.symm (h (by simp)); clear h
        intro u h; obtain rfl := Eq.symm (h (by simp)); clear h
        intro u h; obtain rfl := Eq.symm (h (by simp)); clear h
        intro u h; obtain rfl := Eq.symm (h (by simp)); clear h
        intro u h; obtain rfl := Eq.symm (h (by simp)); clear h
        intro u h; obtain rfl := Eq.symm (h (by simp)); clear h
        intro _ _
        intro _ _
        intro u17 h; have g17 := h (by simp); clear h; replace g17 := show (svRd (openB x)).pred u17 wx from g17
        refine relyEnd_nil rfl ?_
        simp only [Act.put, List.setIfInBounds_toArray, List.set_cons_zero, List.set_cons_succ]
        refine opr_move (.inr rfl) ?_
        go_simp
        go_wp2
        go_ret
        exact ⟨_, rfl, NewT.trans _ _ _ HN1.out hT, g17⟩
    have k1 := hk
    clear hk
    by_cases hk : x.kind = 2
    · have HE := Lib.hid (open_o x _ hr (fun c => tail_2 x c (.inl hk)))
      have hlen : (callL x).length ≤ 900000 := by have := callL_len x; omega
      go_upto_region 3 with fail
      refine wp_region_rely NewT [SV.eq (.pointer (some ⟨w.heap.size, 0, none⟩)), SV.eq (.int .i64 (x.kind)), svRd (numI x.kind), SV.eq (.agg (rowA 21 (formF))), SV.eq (.pointer (some ⟨w.heap.size, 0, none⟩)), SV.eq (.int .i64 (x.kind)), SV.eq (.agg (rowA 3 (fun j => formF (6 + j)))), SV.eq (fnV 58), SV.eq (.agg (rowA 109 (recF x sv dv))), svRd (callL x), svParts [numI x.kind, callL x], svRd (openB x)] [([(1, none)], none), ([(6, some 0)], none), ([(7, some 1)], none), ([], none), ([(1, none)], none), ([(10, some 4)], none), ([(9, some 3), (11, some 5)], none), ([(12, some 6)], none), ([(1, none)], none), ([(13, some 7), (14, some 8)], none), ([(8, some 2), (15, some 9)], none), ([(16, some 10)], none)] 18 rfl (by kernel_rfl) rfl (by kernel_rfl) (by kernel_rfl) rfl NewT.trans (NewT.drew _) (Nat.le_of_ble_eq_true rfl) ⟨?_, ?_, ?_, ?_, ?_, ?_, ?_, ?_, ?_, ?_, ?_, ?_, trivial⟩ ?_
      · intro a wx hT hF K hK
        obtain ⟨f1, _⟩ := hF
        have f1 : a.tmps.getD 1 undef = .pointer (some ⟨w.heap.size, 0, none⟩) := f1
        refine rely_wp rfl ?_
        exact opr_fldR (by decide) rfl f1 (hK _ _ (NewT.refl _) rfl)
      · intro a wx hT hF K hK
        obtain ⟨f6, _⟩ := hF
        have f6 : a.tmps.getD 6 undef = .pointer (some ⟨w.heap.size, 0, none⟩) := f6
        refine rely_wp rfl ?_
        exact opr_ldI (hT.row R1.out) (by decide) rfl rfl f6 (hK _ _ (NewT.refl _) rfl)
      · intro a wx hT hF K hK
        obtain ⟨f7, _⟩ := hF
        have f7 : a.tmps.getD 7 undef = .int .i64 (x.kind) := f7
        refine rely_wp rfl ?_
        exact opr_cv (Num_rd x.kind _ wx rfl) rfl Tryd.func38 (by kernel_rfl) (by kernel_rfl) (by simp only [List.map_toArray, List.map_cons, List.map_nil, eval_tmp, f7]) hK
      · intro a wx hT hF K hK
        refine rely_wp rfl ?_
        exact opr_cv (forms_cv wx) rfl Tryd.func39 (by kernel_rfl) (by kernel_rfl) (by simp only [List.map_toArray, List.map_nil]) hK
      · intro a wx hT hF K hK
        obtain ⟨f1, _⟩ := hF
        have f1 : a.tmps.getD 1 undef = .pointer (some ⟨w.heap.size, 0, none⟩) := f1
        refine rely_wp rfl ?_
        exact opr_fldR (by decide) rfl f1 (hK _ _ (NewT.refl _) rfl)
      · intro a wx hT hF K hK
        obtain ⟨f10, _⟩ := hF
        have f10 : a.tmps.getD 10 undef = .pointer (some ⟨w.heap.size, 0, none⟩) := f10
        refine rely_wp rfl ?_
        exact opr_ldI (hT.row R1.out) (by decide) rfl rfl f10 (hK _ _ (NewT.refl _) rfl)
      · intro a wx hT hF K hK
        obtain ⟨f9, f11, _⟩ := hF
        have f9 : a.tmps.getD 9 undef = .agg (rowA 21 (formF)) := f9
        have f11 : a.tmps.getD 11 undef = .int .i64 (x.kind) := f11
        refine rely_wp rfl ?_
        exact opr_idx rfl f9 (f11.trans (by rw [hk])) (idx_2 wx) (hK _ _ (NewT.refl _) rfl)
      · intro a wx hT hF K hK
        obtain ⟨f12, _⟩ := hF
        have f12 : a.tmps.getD 12 undef = .agg (rowA 3 (fun j => formF (6 + j))) := f12
        refine rely_wp rfl ?_
        exact opr_fieldv rfl f12 (fldv_1 _ _ rfl wx) (hK _ _ (NewT.refl _) rfl)
      · intro a wx hT hF K hK
        obtain ⟨f1, _⟩ := hF
        have f1 : a.tmps.getD 1 undef = .pointer (some ⟨w.heap.size, 0, none⟩) := f1
        refine rely_wp rfl ?_
        exact opr_ldR (hT.row R1.out) rfl f1 (hK _ _ (NewT.refl _) rfl)
      · intro a wx hT hF K hK
        obtain ⟨f13, f14, _⟩ := hF
        have f13 : a.tmps.getD 13 undef = fnV 58 := f13
        have f14 : a.tmps.getD 14 undef = .agg (rowA 109 (recF x sv dv)) := f14
        refine rely_wp rfl ?_
        refine opr_callv rfl f13 Tryd.func58 (by kernel_rfl) (by kernel_rfl) (by simp only [List.map_toArray, List.map_cons, List.map_nil, eval_tmp, f14]; rfl) (Calls.mono (putTry_cv _ x wx (hT.recV HX.out)) ?_)
        rintro e w' ⟨v, he, hN, hv⟩
        exact ⟨v, he, hK v w' hN hv⟩
      · intro a wx hT hF K hK
        obtain ⟨f8, f15, _⟩ := hF
        replace f8 := show (svRd (numI x.kind)).pred (a.tmps.getD 8 undef) wx from f8
        replace f15 := show (svRd (callL x)).pred (a.tmps.getD 15 undef) wx from f15
        refine rely_wp rfl ?_
        exact opr_bs2 rfl f8 f15 hK
      · intro a wx hT hF K hK
        obtain ⟨f16, _⟩ := hF
        replace f16 := show (svParts [numI x.kind, callL x]).pred (a.tmps.getD 16 undef) wx from f16
        refine rely_wp rfl ?_
        exact opr_cv (All_rd _ _ (openB x) wx f16 (by rw [← HE.out]; simp) (by rw [← HE.out, List.length_append]; have := hlen; omega)) rfl Tryd.func25 (by kernel_rfl) (by kernel_rfl) (by simp only [List.map_toArray, List.map_cons, List.map_nil, eval_tmp]) hK
      · intro wx hT
        intro u h; obtain rfl := Eq.symm (h (by simp)); clear h
        intro u h; obtain rfl := Eq.symm (h (by simp)); clear h
        intro _ _
        intro u h; obtain rfl := Eq.symm (h (by simp)); clear h
        intro u h; obtain rfl := Eq.symm (h (by simp)); clear h
        intro u h; obtain rfl := Eq.symm (h (by simp)); clear h
        intro u h; obtain rfl := Eq.symm (h (by simp)); clear h
        intro u h; obtain rfl := Eq.symm (h (by simp)); clear h
        intro u h; obtain rfl := Eq.symm (h (by simp)); clear h
        intro _ _
        intro _ _
        intro u17 h; have g17 := h (by simp); clear h; replace g17 := show (svRd (openB x)).pred u17 wx from g17
        refine relyEnd_nil rfl ?_
        simp only [Act.put, List.setIfInBounds_toArray, List.set_cons_zero, List.set_cons_succ]
        refine opr_move (.inr rfl) ?_
        go_simp
        go_wp2
        go_ret
        exact ⟨_, rfl, NewT.trans _ _ _ HN1.out hT, g17⟩
    have k2 := hk
    clear hk
    by_cases hk : x.kind = 3
    · have HE := Lib.hid (open_o x _ hr (fun c => tail_3 x c hk))
      have hlen : (rcL x).length ≤ 900000 := by have := rcL_len x; omega
      go_upto_region 3 with fail
      refine wp_region_rely NewT [SV.eq (.pointer (some ⟨w.heap.size, 0, none⟩)), SV.eq (.int .i64 (x.kind)), svRd (numI x.kind), SV.eq (.agg (rowA 21 (formF))), SV.eq (.pointer (some ⟨w.heap.size, 0, none⟩)), SV.eq (.int .i64 (x.kind)), SV.eq (.agg (rowA 3 (fun j => formF (9 + j)))), SV.eq (fnV 60), SV.eq (.agg (rowA 109 (recF x sv dv))), svRd (rcL x), svParts [numI x.kind, rcL x], svRd (openB x)] [([(1, none)], none), ([(6, some 0)], none), ([(7, some 1)], none), ([], none), ([(1, none)], none), ([(10, some 4)], none), ([(9, some 3), (11, some 5)], none), ([(12, some 6)], none), ([(1, none)], none), ([(13, some 7), (14, some 8)], none), ([(8, some 2), (15, some 9)], none), ([(16, some 10)], none)] 18 rfl (by kernel_rfl) rfl (by kernel_rfl) (by kernel_rfl) rfl NewT.trans (NewT.drew _) (Nat.le_of_ble_eq_true rfl) ⟨?_, ?_, ?_, ?_, ?_, ?_, ?_, ?_, ?_, ?_, ?_, ?_, trivial⟩ ?_
      · intro a wx hT hF K hK
        obtain ⟨f1, _⟩ := hF
        have f1 : a.tmps.getD 1 undef = .pointer (some ⟨w.heap.size, 0, none⟩) := f1
        refine rely_wp rfl ?_
        exact opr_fldR (by decide) rfl f1 (hK _ _ (NewT.refl _) rfl)
      · intro a wx hT hF K hK
        obtain ⟨f6, _⟩ := hF
        have f6 : a.tmps.getD 6 undef = .pointer (some ⟨w.heap.size, 0, none⟩) := f6
        refine rely_wp rfl ?_
        exact opr_ldI (hT.row R1.out) (by decide) rfl rfl f6 (hK _ _ (NewT.refl _) rfl)
      · intro a wx hT hF K hK
        obtain ⟨f7, _⟩ := hF
        have f7 : a.tmps.getD 7 undef = .int .i64 (x.kind) := f7
        refine rely_wp rfl ?_
        exact opr_cv (Num_rd x.kind _ wx rfl) rfl Tryd.func38 (by kernel_rfl) (by kernel_rfl) (by simp only [List.map_toArray, List.map_cons, List.map_nil, eval_tmp, f7]) hK
      · intro a wx hT hF K hK
        refine rely_wp rfl ?_
        exact opr_cv (forms_cv wx) rfl Tryd.func39 (by kernel_rfl) (by kernel_rfl) (by simp only [List.map_toArray, List.map_nil]) hK
      · intro a wx hT hF K hK
        obtain ⟨f1, _⟩ := hF
        have f1 : a.tmps.getD 1 undef = .pointer (some ⟨w.heap.size, 0, none⟩) := f1
        refine rely_wp rfl ?_
        exact opr_fldR (by decide) rfl f1 (hK _ _ (NewT.refl _) rfl)
      · intro a wx hT hF K hK
        obtain ⟨f10, _⟩ := hF
        have f10 : a.tmps.getD 10 undef = .pointer (some ⟨w.heap.size, 0, none⟩) := f10
        refine rely_wp rfl ?_
        exact opr_ldI (hT.row R1.out) (by decide) rfl rfl f10 (hK _ _ (NewT.refl _) rfl)
      · intro a wx hT hF K hK
        obtain ⟨f9, f11, _⟩ := hF
        have f9 : a.tmps.getD 9 undef = .agg (rowA 21 (formF)) := f9
        have f11 : a.tmps.getD 11 undef = .int .i64 (x.kind) := f11
        refine rely_wp rfl ?_
        exact opr_idx rfl f9 (f11.trans (by rw [hk])) (idx_3 wx) (hK _ _ (NewT.refl _) rfl)
      · intro a wx hT hF K hK
        obtain ⟨f12, _⟩ := hF
        have f12 : a.tmps.getD 12 undef = .agg (rowA 3 (fun j => formF (9 + j))) := f12
        refine rely_wp rfl ?_
        exact opr_fieldv rfl f12 (fldv_1 _ _ rfl wx) (hK _ _ (NewT.refl _) rfl)
      · intro a wx hT hF K hK
        obtain ⟨f1, _⟩ := hF
        have f1 : a.tmps.getD 1 undef = .pointer (some ⟨w.heap.size, 0, none⟩) := f1
        refine rely_wp rfl ?_
        exact opr_ldR (hT.row R1.out) rfl f1 (hK _ _ (NewT.refl _) rfl)
      · intro a wx hT hF K hK
        obtain ⟨f13, f14, _⟩ := hF
        have f13 : a.tmps.getD 13 undef = fnV 60 := f13
        have f14 : a.tmps.getD 14 undef = .agg (rowA 109 (recF x sv dv)) := f14
        refine rely_wp rfl ?_
        refine opr_callv rfl f13 Tryd.func60 (by kernel_rfl) (by kernel_rfl) (by simp only [List.map_toArray, List.map_cons, List.map_nil, eval_tmp, f14]; rfl) (Calls.mono (putReceipt_cv _ x wx (hT.recV HX.out)) ?_)
        rintro e w' ⟨v, he, hN, hv⟩
        exact ⟨v, he, hK v w' hN hv⟩
      · intro a wx hT hF K hK
        obtain ⟨f8, f15, _⟩ := hF
        replace f8 := show (svRd (numI x.kind)).pred (a.tmps.getD 8 undef) wx from f8
        replace f15 := show (svRd (rcL x)).pred (a.tmps.getD 15 undef) wx from f15
        refine rely_wp rfl ?_
        exact opr_bs2 rfl f8 f15 hK
      · intro a wx hT hF K hK
        obtain ⟨f16, _⟩ := hF
        replace f16 := show (svParts [numI x.kind, rcL x]).pred (a.tmps.getD 16 undef) wx from f16
        refine rely_wp rfl ?_
        exact opr_cv (All_rd _ _ (openB x) wx f16 (by rw [← HE.out]; simp) (by rw [← HE.out, List.length_append]; have := hlen; omega)) rfl Tryd.func25 (by kernel_rfl) (by kernel_rfl) (by simp only [List.map_toArray, List.map_cons, List.map_nil, eval_tmp]) hK
      · intro wx hT
        intro u h; obtain rfl := Eq.symm (h (by simp)); clear h
        intro u h; obtain rfl := Eq.symm (h (by simp)); clear h
        intro _ _
        intro u h; obtain rfl := Eq.symm (h (by simp)); clear h
        intro u h; obtain rfl := Eq.symm (h (by simp)); clear h
        intro u h; obtain rfl := Eq.symm (h (by simp)); clear h
        intro u h; obtain rfl := Eq.symm (h (by simp)); clear h
        intro u h; obtain rfl := Eq.symm (h (by simp)); clear h
        intro u h; obtain rfl := Eq.symm (h (by simp)); clear h
        intro _ _
        intro _ _
        intro u17 h; have g17 := h (by simp); clear h; replace g17 := show (svRd (openB x)).pred u17 wx from g17
        refine relyEnd_nil rfl ?_
        simp only [Act.put, List.setIfInBounds_toArray, List.set_cons_zero, List.set_cons_succ]
        refine opr_move (.inr rfl) ?_
        go_simp
        go_wp2
        go_ret
        exact ⟨_, rfl, NewT.trans _ _ _ HN1.out hT, g17⟩
    have k3 := hk
    clear hk
    by_cases hk : x.kind = 4
    · have HE := Lib.hid (open_o x _ hr (fun c => tail_2 x c (.inr hk)))
      have hlen : (callL x).length ≤ 900000 := by have := callL_len x; omega
      go_upto_region 3 with fail
      refine wp_region_rely NewT [SV.eq (.pointer (some ⟨w.heap.size, 0, none⟩)), SV.eq (.int .i64 (x.kind)), svRd (numI x.kind), SV.eq (.agg (rowA 21 (formF))), SV.eq (.pointer (some ⟨w.heap.size, 0, none⟩)), SV.eq (.int .i64 (x.kind)), SV.eq (.agg (rowA 3 (fun j => formF (12 + j)))), SV.eq (fnV 58), SV.eq (.agg (rowA 109 (recF x sv dv))), svRd (callL x), svParts [numI x.kind, callL x], svRd (openB x)] [([(1, none)], none), ([(6, some 0)], none), ([(7, some 1)], none), ([], none), ([(1, none)], none), ([(10, some 4)], none), ([(9, some 3), (11, some 5)], none), ([(12, some 6)], none), ([(1, none)], none), ([(13, some 7), (14, some 8)], none), ([(8, some 2), (15, some 9)], none), ([(16, some 10)], none)] 18 rfl (by kernel_rfl) rfl (by kernel_rfl) (by kernel_rfl) rfl NewT.trans (NewT.drew _) (Nat.le_of_ble_eq_true rfl) ⟨?_, ?_, ?_, ?_, ?_, ?_, ?_, ?_, ?_, ?_, ?_, ?_, trivial⟩ ?_
      · intro a wx hT hF K hK
        obtain ⟨f1, _⟩ := hF
        have f1 : a.tmps.getD 1 undef = .pointer (some ⟨w.heap.size, 0, none⟩) := f1
        refine rely_wp rfl ?_
        exact opr_fldR (by decide) rfl f1 (hK _ _ (NewT.refl _) rfl)
      · intro a wx hT hF K hK
        obtain ⟨f6, _⟩ := hF
        have f6 : a.tmps.getD 6 undef = .pointer (some ⟨w.heap.size, 0, none⟩) := f6
        refine rely_wp rfl ?_
        exact opr_ldI (hT.row R1.out) (by decide) rfl rfl f6 (hK _ _ (NewT.refl _) rfl)
      · intro a wx hT hF K hK
        obtain ⟨f7, _⟩ := hF
        have f7 : a.tmps.getD 7 undef = .int .i64 (x.kind) := f7
        refine rely_wp rfl ?_
        exact opr_cv (Num_rd x.kind _ wx rfl) rfl Tryd.func38 (by kernel_rfl) (by kernel_rfl) (by simp only [List.map_toArray, List.map_cons, List.map_nil, eval_tmp, f7]) hK
      · intro a wx hT hF K hK
        refine rely_wp rfl ?_
        exact opr_cv (forms_cv wx) rfl Tryd.func39 (by kernel_rfl) (by kernel_rfl) (by simp only [List.map_toArray, List.map_nil]) hK
      · intro a wx hT hF K hK
        obtain ⟨f1, _⟩ := hF
        have f1 : a.tmps.getD 1 undef = .pointer (some ⟨w.heap.size, 0, none⟩) := f1
        refine rely_wp rfl ?_
        exact opr_fldR (by decide) rfl f1 (hK _ _ (NewT.refl _) rfl)
      · intro a wx hT hF K hK
        obtain ⟨f10, _⟩ := hF
        have f10 : a.tmps.getD 10 undef = .pointer (some ⟨w.heap.size, 0, none⟩) := f10
        refine rely_wp rfl ?_
        exact opr_ldI (hT.row R1.out) (by decide) rfl rfl f10 (hK _ _ (NewT.refl _) rfl)
      · intro a wx hT hF K hK
        obtain ⟨f9, f11, _⟩ := hF
        have f9 : a.tmps.getD 9 undef = .agg (rowA 21 (formF)) := f9
        have f11 : a.tmps.getD 11 undef = .int .i64 (x.kind) := f11
        refine rely_wp rfl ?_
        exact opr_idx rfl f9 (f11.trans (by rw [hk])) (idx_4 wx) (hK _ _ (NewT.refl _) rfl)
      · intro a wx hT hF K hK
        obtain ⟨f12, _⟩ := hF
        have f12 : a.tmps.getD 12 undef = .agg (rowA 3 (fun j => formF (12 + j))) := f12
        refine rely_wp rfl ?_
        exact opr_fieldv rfl f12 (fldv_1 _ _ rfl wx) (hK _ _ (NewT.refl _) rfl)
      · intro a wx hT hF K hK
        obtain ⟨f1, _⟩ := hF
        have f1 : a.tmps.getD 1 undef = .pointer (some ⟨w.heap.size, 0, none⟩) := f1
        refine rely_wp rfl ?_
        exact opr_ldR (hT.row R1.out) rfl f1 (hK _ _ (NewT.refl _) rfl)
      · intro a wx hT hF K hK
        obtain ⟨f13, f14, _⟩ := hF
        have f13 : a.tmps.getD 13 undef = fnV 58 := f13
        have f14 : a.tmps.getD 14 undef = .agg (rowA 109 (recF x sv dv)) := f14
        refine rely_wp rfl ?_
        refine opr_callv rfl f13 Tryd.func58 (by kernel_rfl) (by kernel_rfl) (by simp only [List.map_toArray, List.map_cons, List.map_nil, eval_tmp, f14]; rfl) (Calls.mono (putTry_cv _ x wx (hT.recV HX.out)) ?_)
        rintro e w' ⟨v, he, hN, hv⟩
        exact ⟨v, he, hK v w' hN hv⟩
      · intro a wx hT hF K hK
        obtain ⟨f8, f15, _⟩ := hF
        replace f8 := show (svRd (numI x.kind)).pred (a.tmps.getD 8 undef) wx from f8
        replace f15 := show (svRd (callL x)).pred (a.tmps.getD 15 undef) wx from f15
        refine rely_wp rfl ?_
        exact opr_bs2 rfl f8 f15 hK
      · intro a wx hT hF K hK
        obtain ⟨f16, _⟩ := hF
        replace f16 := show (svParts [numI x.kind, callL x]).pred (a.tmps.getD 16 undef) wx from f16
        refine rely_wp rfl ?_
        exact opr_cv (All_rd _ _ (openB x) wx f16 (by rw [← HE.out]; simp) (by rw [← HE.out, List.length_append]; have := hlen; omega)) rfl Tryd.func25 (by kernel_rfl) (by kernel_rfl) (by simp only [List.map_toArray, List.map_cons, List.map_nil, eval_tmp]) hK
      · intro wx hT
        intro u h; obtain rfl := Eq.symm (h (by simp)); clear h
        intro u h; obtain rfl := Eq.symm (h (by simp)); clear h
        intro _ _
        intro u h; obtain rfl := Eq.symm (h (by simp)); clear h
        intro u h; obtain rfl := Eq.symm (h (by simp)); clear h
        intro u h; obtain rfl := Eq.symm (h (by simp)); clear h
        intro u h; obtain rfl := Eq.symm (h (by simp)); clear h
        intro u h; obtain rfl := Eq.symm (h (by simp)); clear h
        intro u h; obtain rfl := Eq.symm (h (by simp)); clear h
        intro _ _
        intro _ _
        intro u17 h; have g17 := h (by simp); clear h; replace g17 := show (svRd (openB x)).pred u17 wx from g17
        refine relyEnd_nil rfl ?_
        simp only [Act.put, List.setIfInBounds_toArray, List.set_cons_zero, List.set_cons_succ]
        refine opr_move (.inr rfl) ?_
        go_simp
        go_wp2
        go_ret
        exact ⟨_, rfl, NewT.trans _ _ _ HN1.out hT, g17⟩
    have k4 := hk
    clear hk
    by_cases hk : x.kind = 5
    · have HE := Lib.hid (open_o x _ hr (fun c => tail_5 x c hk))
      have hlen : (clL x).length ≤ 900000 := by have := clL_len x; omega
      go_upto_region 3 with fail
      refine wp_region_rely NewT [SV.eq (.pointer (some ⟨w.heap.size, 0, none⟩)), SV.eq (.int .i64 (x.kind)), svRd (numI x.kind), SV.eq (.agg (rowA 21 (formF))), SV.eq (.pointer (some ⟨w.heap.size, 0, none⟩)), SV.eq (.int .i64 (x.kind)), SV.eq (.agg (rowA 3 (fun j => formF (15 + j)))), SV.eq (fnV 62), SV.eq (.agg (rowA 109 (recF x sv dv))), svRd (clL x), svParts [numI x.kind, clL x], svRd (openB x)] [([(1, none)], none), ([(6, some 0)], none), ([(7, some 1)], none), ([], none), ([(1, none)], none), ([(10, some 4)], none), ([(9, some 3), (11, some 5)], none), ([(12, some 6)], none), ([(1, none)], none), ([(13, some 7), (14, some 8)], none), ([(8, some 2), (15, some 9)], none), ([(16, some 10)], none)] 18 rfl (by kernel_rfl) rfl (by kernel_rfl) (by kernel_rfl) rfl NewT.trans (NewT.drew _) (Nat.le_of_ble_eq_true rfl) ⟨?_, ?_, ?_, ?_, ?_, ?_, ?_, ?_, ?_, ?_, ?_, ?_, trivial⟩ ?_
      · intro a wx hT hF K hK
        obtain ⟨f1, _⟩ := hF
        have f1 : a.tmps.getD 1 undef = .pointer (some ⟨w.heap.size, 0, none⟩) := f1
        refine rely_wp rfl ?_
        exact opr_fldR (by decide) rfl f1 (hK _ _ (NewT.refl _) rfl)
      · intro a wx hT hF K hK
        obtain ⟨f6, _⟩ := hF
        have f6 : a.tmps.getD 6 undef = .pointer (some ⟨w.heap.size, 0, none⟩) := f6
        refine rely_wp rfl ?_
        exact opr_ldI (hT.row R1.out) (by decide) rfl rfl f6 (hK _ _ (NewT.refl _) rfl)
      · intro a wx hT hF K hK
        obtain ⟨f7, _⟩ := hF
        have f7 : a.tmps.getD 7 undef = .int .i64 (x.kind) := f7
        refine rely_wp rfl ?_
        exact opr_cv (Num_rd x.kind _ wx rfl) rfl Tryd.func38 (by kernel_rfl) (by kernel_rfl) (by simp only [List.map_toArray, List.map_cons, List.map_nil, eval_tmp, f7]) hK
      · intro a wx hT hF K hK
        refine rely_wp rfl ?_
        exact opr_cv (forms_cv wx) rfl Tryd.func39 (by kernel_rfl) (by kernel_rfl) (by simp only [List.map_toArray, List.map_nil]) hK
      · intro a wx hT hF K hK
        obtain ⟨f1, _⟩ := hF
        have f1 : a.tmps.getD 1 undef = .pointer (some ⟨w.heap.size, 0, none⟩) := f1
        refine rely_wp rfl ?_
        exact opr_fldR (by decide) rfl f1 (hK _ _ (NewT.refl _) rfl)
      · intro a wx hT hF K hK
        obtain ⟨f10, _⟩ := hF
        have f10 : a.tmps.getD 10 undef = .pointer (some ⟨w.heap.size, 0, none⟩) := f10
        refine rely_wp rfl ?_
        exact opr_ldI (hT.row R1.out) (by decide) rfl rfl f10 (hK _ _ (NewT.refl _) rfl)
      · intro a wx hT hF K hK
        obtain ⟨f9, f11, _⟩ := hF
        have f9 : a.tmps.getD 9 undef = .agg (rowA 21 (formF)) := f9
        have f11 : a.tmps.getD 11 undef = .int .i64 (x.kind) := f11
        refine rely_wp rfl ?_
        exact opr_idx rfl f9 (f11.trans (by rw [hk])) (idx_5 wx) (hK _ _ (NewT.refl _) rfl)
      · intro a wx hT hF K hK
        obtain ⟨f12, _⟩ := hF
        have f12 : a.tmps.getD 12 undef = .agg (rowA 3 (fun j => formF (15 + j))) := f12
        refine rely_wp rfl ?_
        exact opr_fieldv rfl f12 (fldv_1 _ _ rfl wx) (hK _ _ (NewT.refl _) rfl)
      · intro a wx hT hF K hK
        obtain ⟨f1, _⟩ := hF
        have f1 : a.tmps.getD 1 undef = .pointer (some ⟨w.heap.size, 0, none⟩) := f1
        refine rely_wp rfl ?_
        exact opr_ldR (hT.row R1.out) rfl f1 (hK _ _ (NewT.refl _) rfl)
      · intro a wx hT hF K hK
        obtain ⟨f13, f14, _⟩ := hF
        have f13 : a.tmps.getD 13 undef = fnV 62 := f13
        have f14 : a.tmps.getD 14 undef = .agg (rowA 109 (recF x sv dv)) := f14
        refine rely_wp rfl ?_
        refine opr_callv rfl f13 Tryd.func62 (by kernel_rfl) (by kernel_rfl) (by simp only [List.map_toArray, List.map_cons, List.map_nil, eval_tmp, f14]; rfl) (Calls.mono (putClosed_cv _ x wx (hT.recV HX.out)) ?_)
        rintro e w' ⟨v, he, hN, hv⟩
        exact ⟨v, he, hK v w' hN hv⟩
      · intro a wx hT hF K hK
        obtain ⟨f8, f15, _⟩ := hF
        replace f8 := show (svRd (numI x.kind)).pred (a.tmps.getD 8 undef) wx from f8
        replace f15 := show (svRd (clL x)).pred (a.tmps.getD 15 undef) wx from f15
        refine rely_wp rfl ?_
        exact opr_bs2 rfl f8 f15 hK
      · intro a wx hT hF K hK
        obtain ⟨f16, _⟩ := hF
        replace f16 := show (svParts [numI x.kind, clL x]).pred (a.tmps.getD 16 undef) wx from f16
        refine rely_wp rfl ?_
        exact opr_cv (All_rd _ _ (openB x) wx f16 (by rw [← HE.out]; simp) (by rw [← HE.out, List.length_append]; have := hlen; omega)) rfl Tryd.func25 (by kernel_rfl) (by kernel_rfl) (by simp only [List.map_toArray, List.map_cons, List.map_nil, eval_tmp]) hK
      · intro wx hT
        intro u h; obtain rfl := Eq.symm (h (by simp)); clear h
        intro u h; obtain rfl := Eq.symm (h (by simp)); clear h
        intro _ _
        intro u h; obtain rfl := Eq.symm (h (by simp)); clear h
        intro u h; obtain rfl := Eq.symm (h (by simp)); clear h
        intro u h; obtain rfl := Eq.symm (h (by simp)); clear h
        intro u h; obtain rfl := Eq.symm (h (by simp)); clear h
        intro u h; obtain rfl := Eq.symm (h (by simp)); clear h
        intro u h; obtain rfl := Eq.symm (h (by simp)); clear h
        intro _ _
        intro _ _
        intro u17 h; have g17 := h (by simp); clear h; replace g17 := show (svRd (openB x)).pred u17 wx from g17
        refine relyEnd_nil rfl ?_
        simp only [Act.put, List.setIfInBounds_toArray, List.set_cons_zero, List.set_cons_succ]
        refine opr_move (.inr rfl) ?_
        go_simp
        go_wp2
        go_ret
        exact ⟨_, rfl, NewT.trans _ _ _ HN1.out hT, g17⟩
    have k5 := hk
    clear hk
    have hk : x.kind = 6 := by omega
    clear k1 k2 k3 k4 k5
    have HE := Lib.hid (open_o x _ hr (fun c => tail_6 x c hk))
    have hlen : (roL x).length ≤ 900000 := by have := roL_len x; omega
    go_upto_region 3 with fail
    refine wp_region_rely NewT [SV.eq (.pointer (some ⟨w.heap.size, 0, none⟩)), SV.eq (.int .i64 (x.kind)), svRd (numI x.kind), SV.eq (.agg (rowA 21 (formF))), SV.eq (.pointer (some ⟨w.heap.size, 0, none⟩)), SV.eq (.int .i64 (x.kind)), SV.eq (.agg (rowA 3 (fun j => formF (18 + j)))), SV.eq (fnV 64), SV.eq (.agg (rowA 109 (recF x sv dv))), svRd (roL x), svParts [numI x.kind, roL x], svRd (openB x)] [([(1, none)], none), ([(6, some 0)], none), ([(7, some 1)], none), ([], none), ([(1, none)], none), ([(10, some 4)], none), ([(9, some 3), (11, some 5)], none), ([(12, some 6)], none), ([(1, none)], none), ([(13, some 7), (14, some 8)], none), ([(8, some 2), (15, some 9)], none), ([(16, some 10)], none)] 18 rfl (by kernel_rfl) rfl (by kernel_rfl) (by kernel_rfl) rfl NewT.trans (NewT.drew _) (Nat.le_of_ble_eq_true rfl) ⟨?_, ?_, ?_, ?_, ?_, ?_, ?_, ?_, ?_, ?_, ?_, ?_, trivial⟩ ?_
    · intro a wx hT hF K hK
      obtain ⟨f1, _⟩ := hF
      have f1 : a.tmps.getD 1 undef = .pointer (some ⟨w.heap.size, 0, none⟩) := f1
      refine rely_wp rfl ?_
      exact opr_fldR (by decide) rfl f1 (hK _ _ (NewT.refl _) rfl)
    · intro a wx hT hF K hK
      obtain ⟨f6, _⟩ := hF
      have f6 : a.tmps.getD 6 undef = .pointer (some ⟨w.heap.size, 0, none⟩) := f6
      refine rely_wp rfl ?_
      exact opr_ldI (hT.row R1.out) (by decide) rfl rfl f6 (hK _ _ (NewT.refl _) rfl)
    · intro a wx hT hF K hK
      obtain ⟨f7, _⟩ := hF
      have f7 : a.tmps.getD 7 undef = .int .i64 (x.kind) := f7
      refine rely_wp rfl ?_
      exact opr_cv (Num_rd x.kind _ wx rfl) rfl Tryd.func38 (by kernel_rfl) (by kernel_rfl) (by simp only [List.map_toArray, List.map_cons, List.map_nil, eval_tmp, f7]) hK
    · intro a wx hT hF K hK
      refine rely_wp rfl ?_
      exact opr_cv (forms_cv wx) rfl Tryd.func39 (by kernel_rfl) (by kernel_rfl) (by simp only [List.map_toArray, List.map_nil]) hK
    · intro a wx hT hF K hK
      obtain ⟨f1, _⟩ := hF
      have f1 : a.tmps.getD 1 undef = .pointer (some ⟨w.heap.size, 0, none⟩) := f1
      refine rely_wp rfl ?_
      exact opr_fldR (by decide) rfl f1 (hK _ _ (NewT.refl _) rfl)
    · intro a wx hT hF K hK
      obtain ⟨f10, _⟩ := hF
      have f10 : a.tmps.getD 10 undef = .pointer (some ⟨w.heap.size, 0, none⟩) := f10
      refine rely_wp rfl ?_
      exact opr_ldI (hT.row R1.out) (by decide) rfl rfl f10 (hK _ _ (NewT.refl _) rfl)
    · intro a wx hT hF K hK
      obtain ⟨f9, f11, _⟩ := hF
      have f9 : a.tmps.getD 9 undef = .agg (rowA 21 (formF)) := f9
      have f11 : a.tmps.getD 11 undef = .int .i64 (x.kind) := f11
      refine rely_wp rfl ?_
      exact opr_idx rfl f9 (f11.trans (by rw [hk])) (idx_6 wx) (hK _ _ (NewT.refl _) rfl)
    · intro a wx hT hF K hK
      obtain ⟨f12, _⟩ := hF
      have f12 : a.tmps.getD 12 undef = .agg (rowA 3 (fun j => formF (18 + j))) := f12
      refine rely_wp rfl ?_
      exact opr_fieldv rfl f12 (fldv_1 _ _ rfl wx) (hK _ _ (NewT.refl _) rfl)
    · intro a wx hT hF K hK
      obtain ⟨f1, _⟩ := hF
      have f1 : a.tmps.getD 1 undef = .pointer (some ⟨w.heap.size, 0, none⟩) := f1
      refine rely_wp rfl ?_
      exact opr_ldR (hT.row R1.out) rfl f1 (hK _ _ (NewT.refl _) rfl)
    · intro a wx hT hF K hK
      obtain ⟨f13, f14, _⟩ := hF
      have f13 : a.tmps.getD 13 undef = fnV 64 := f13
      have f14 : a.tmps.getD 14 undef = .agg (rowA 109 (recF x sv dv)) := f14
      refine rely_wp rfl ?_
      refine opr_callv rfl f13 Tryd.func64 (by kernel_rfl) (by kernel_rfl) (by simp only [List.map_toArray, List.map_cons, List.map_nil, eval_tmp, f14]; rfl) (Calls.mono (putRotate_cv _ x wx (hT.recV HX.out)) ?_)
      rintro e w' ⟨v, he, hN, hv⟩
      exact ⟨v, he, hK v w' hN hv⟩
    · intro a wx hT hF K hK
      obtain ⟨f8, f15, _⟩ := hF
      replace f8 := show (svRd (numI x.kind)).pred (a.tmps.getD 8 undef) wx from f8
      replace f15 := show (svRd (roL x)).pred (a.tmps.getD 15 undef) wx from f15
      refine rely_wp rfl ?_
      exact opr_bs2 rfl f8 f15 hK
    · intro a wx hT hF K hK
      obtain ⟨f16, _⟩ := hF
      replace f16 := show (svParts [numI x.kind, roL x]).pred (a.tmps.getD 16 undef) wx from f16
      refine rely_wp rfl ?_
      exact opr_cv (All_rd _ _ (openB x) wx f16 (by rw [← HE.out]; simp) (by rw [← HE.out, List.length_append]; have := hlen; omega)) rfl Tryd.func25 (by kernel_rfl) (by kernel_rfl) (by simp only [List.map_toArray, List.map_cons, List.map_nil, eval_tmp]) hK
    · intro wx hT
      intro u h; obtain rfl := Eq.symm (h (by simp)); clear h
      intro u h; obtain rfl := Eq.symm (h (by simp)); clear h
      intro _ _
      intro u h; obtain rfl := Eq.symm (h (by simp)); clear h
      intro u h; obtain rfl := Eq.symm (h (by simp)); clear h
      intro u h; obtain rfl := Eq.symm (h (by simp)); clear h
      intro u h; obtain rfl := Eq.symm (h (by simp)); clear h
      intro u h; obtain rfl := Eq.symm (h (by simp)); clear h
      intro u h; obtain rfl := Eq.symm (h (by simp)); clear h
      intro _ _
      intro _ _
      intro u17 h; have g17 := h (by simp); clear h; replace g17 := show (svRd (openB x)).pred u17 wx from g17
      refine relyEnd_nil rfl ?_
      simp only [Act.put, List.setIfInBounds_toArray, List.set_cons_zero, List.set_cons_succ]
      refine opr_move (.inr rfl) ?_
      go_simp
      go_wp2
      go_ret
      exact ⟨_, rfl, NewT.trans _ _ _ HN1.out hT, g17⟩
end Go.Proofs.YthgblcpekhiphaaDoor
/- Package rec: what calls', closings' and rotations' records are read from. -/
namespace Go.Proofs.YthgblcpekhiphaaDoor
open Go Go.RowKit
set_option maxRecDepth 8000
def tryR (x : Rc) : Rc := { zR with saga := x.saga, seq := x.seq, step := x.step, tr := x.tr, back := x.back }
theorem build_try (a b c d : Int) (e : Bool) (w : World) : (Instr.build 27 #[(1, .int .i64 a), (2, .int .i64 b), (3, .int .i64 c), (4, .int .i64 d), (5, .bool e)]).run Tryd.prog w = .ok (.agg (rowA 109 (recF { zR with saga := a, seq := b, step := c, tr := d, back := e } (.slice none 0 0) (.slice none 0 0)))) w := by kernel_rfl
theorem build_closed (a b c : Int) (w : World) : (Instr.build 27 #[(1, .int .i64 a), (2, .int .i64 b), (7, .int .i64 c)]).run Tryd.prog w = .ok (.agg (rowA 109 (recF { zR with saga := a, seq := b, nd := c } (.slice none 0 0) (.slice none 0 0)))) w := by kernel_rfl
theorem build_rot (a b : Int) (w : World) : (Instr.build 27 #[(8, .int .i64 a), (9, .int .i64 b)]).run Tryd.prog w = .ok (.agg (rowA 109 (recF { zR with part := a, epoch := b } (.slice none 0 0) (.slice none 0 0)))) w := by kernel_rfl
set_option maxHeartbeats 1000000 in
theorem readTry_cv (R : Nat) (x : Rc) (rest : List UInt8) (w : World) (h : Rdr w R (callL x ++ rest) 0) (h0 : 0 ≤ x.saga ∧ x.saga ≤ 2147483647) (h1 : 0 ≤ x.seq ∧ x.seq ≤ 2147483647) (h2 : 0 ≤ x.step ∧ x.step ≤ 2147483647) (h3 : 0 ≤ x.tr ∧ x.tr ≤ 2147483647) (hl : rest.length ≤ 800000) :
    Calls Tryd.prog 59 #[.pointer (some ⟨R, 0, none⟩)] w fun e w' => e = .returned (.agg (rowA 109 (recF (tryR x) (.slice none 0 0) (.slice none 0 0)))) ∧ RT R w w' ∧ Rdr w' R rest 0 := by
  have hRl := h.lt
  rw [show callL x ++ rest = numI x.saga ++ (numI x.seq ++ (numI x.step ++ (numI x.tr ++ (fB x.back :: (rest))))) by unfold callL; simp] at h
  have Hr := Lib.hid h
  have n0 := numI_length x.saga
  have n1 := numI_length x.seq
  have n2 := numI_length x.step
  have n3 := numI_length x.tr
  clear h
  go_enter Tryd.func59, Tryd.ntmps59
  go_upto_region 1 with fail
  have r2 := rowIs_box w 27 109 (recF zR (.slice none 0 0) (.slice none 0 0))
  have hN := NewT.alloc w (.cells (rowA 109 (recF zR (.slice none 0 0) (.slice none 0 0))) 27)
  change Code.wp _ _ _ _ (w.alloc (.cells (rowA 109 (recF zR (.slice none 0 0) (.slice none 0 0))) 27))
  generalize w.alloc (.cells (rowA 109 (recF zR (.slice none 0 0) (.slice none 0 0))) 27) = W0 at r2 hN ⊢
  have R2 := Lib.hid r2
  have HN := Lib.hid hN
  replace Hr := Lib.hid (Rdr.new Hr.out hN)
  have hne : w.heap.size ≠ R := by omega
  clear r2 hN
  refine wp_region_steps (RT R) (fun k w => Rdr w R (([numI x.saga ++ (numI x.seq ++ (numI x.step ++ (numI x.tr ++ (fB x.back :: (rest))))), numI x.saga ++ (numI x.seq ++ (numI x.step ++ (numI x.tr ++ (fB x.back :: (rest))))), numI x.seq ++ (numI x.step ++ (numI x.tr ++ (fB x.back :: (rest)))), numI x.seq ++ (numI x.step ++ (numI x.tr ++ (fB x.back :: (rest)))), numI x.step ++ (numI x.tr ++ (fB x.back :: (rest))), numI x.step ++ (numI x.tr ++ (fB x.back :: (rest))), numI x.tr ++ (fB x.back :: (rest)), numI x.tr ++ (fB x.back :: (rest)), fB x.back :: (rest), fB x.back :: (rest), rest, rest] : List (List UInt8)).getD k []) 0) [SV.eq (.pointer (some ⟨R, 0, none⟩)), SV.eq (.int .i64 (x.saga)), SV.eq (.pointer (some ⟨R, 0, none⟩)), SV.eq (.int .i64 (x.seq)), SV.eq (.pointer (some ⟨R, 0, none⟩)), SV.eq (.int .i64 (x.step)), SV.eq (.pointer (some ⟨R, 0, none⟩)), SV.eq (.int .i64 (x.tr)), SV.eq (.pointer (some ⟨R, 0, none⟩)), SV.eq (.bool (x.back)), SV.eq (.agg (rowA 109 (recF (tryR x) (.slice none 0 0) (.slice none 0 0))))] [([(0, none)], none), ([(3, some 0)], none), ([(0, none)], none), ([(5, some 2)], none), ([(0, none)], none), ([(7, some 4)], none), ([(0, none)], none), ([(9, some 6)], none), ([(0, none)], none), ([(11, some 8)], none), ([(4, some 1), (6, some 3), (8, some 5), (10, some 7), (12, some 9)], none)] 14 11 rfl rfl (by kernel_rfl) RT.trans (RT.refl _ _) Hr.out (Nat.le_of_ble_eq_true rfl) ⟨?_, ?_, ?_, ?_, ?_, ?_, ?_, ?_, ?_, ?_, ?_, trivial⟩ ?_
  · intro a wx hT hF hJ K hK
    replace hK := fun v w' (hN : NewT wx w') c => hK v w' (RT.new (Rdr.lt hJ) hN) (Rdr.new hJ hN) c
    obtain ⟨f0, _⟩ := hF
    have f0 : a.tmps.getD 0 undef = .pointer (some ⟨R, 0, none⟩) := f0
    refine rely_wp rfl ?_
    exact opr_move (.inl rfl) (hK _ _ (NewT.refl _) f0)
  · intro a wx hT hF hJ K hK
    obtain ⟨f3, _⟩ := hF
    have f3 : a.tmps.getD 3 undef = .pointer (some ⟨R, 0, none⟩) := f3
    refine rely_wp rfl ?_
    refine opr_call rfl Tryd.func44 (by kernel_rfl) (by kernel_rfl) (by simp only [List.map_toArray, List.map_cons, List.map_nil, eval_tmp, f3]) ((RNum_put R x.saga _ wx (show Rdr wx R (numI x.saga ++ (numI x.seq ++ (numI x.step ++ (numI x.tr ++ (fB x.back :: (rest)))))) 0 from hJ) (by omega) (by first | omega | (simp; omega) | (simp [hL_length]; omega))).mono ?_)
    rintro e w' ⟨rfl, hT', hr⟩
    exact ⟨_, rfl, hK _ _ hT' hr rfl⟩
  · intro a wx hT hF hJ K hK
    replace hK := fun v w' (hN : NewT wx w') c => hK v w' (RT.new (Rdr.lt hJ) hN) (Rdr.new hJ hN) c
    obtain ⟨f0, _⟩ := hF
    have f0 : a.tmps.getD 0 undef = .pointer (some ⟨R, 0, none⟩) := f0
    refine rely_wp rfl ?_
    exact opr_move (.inl rfl) (hK _ _ (NewT.refl _) f0)
  · intro a wx hT hF hJ K hK
    obtain ⟨f5, _⟩ := hF
    have f5 : a.tmps.getD 5 undef = .pointer (some ⟨R, 0, none⟩) := f5
    refine rely_wp rfl ?_
    refine opr_call rfl Tryd.func44 (by kernel_rfl) (by kernel_rfl) (by simp only [List.map_toArray, List.map_cons, List.map_nil, eval_tmp, f5]) ((RNum_put R x.seq _ wx (show Rdr wx R (numI x.seq ++ (numI x.step ++ (numI x.tr ++ (fB x.back :: (rest))))) 0 from hJ) (by omega) (by first | omega | (simp; omega) | (simp [hL_length]; omega))).mono ?_)
    rintro e w' ⟨rfl, hT', hr⟩
    exact ⟨_, rfl, hK _ _ hT' hr rfl⟩
  · intro a wx hT hF hJ K hK
    replace hK := fun v w' (hN : NewT wx w') c => hK v w' (RT.new (Rdr.lt hJ) hN) (Rdr.new hJ hN) c
    obtain ⟨f0, _⟩ := hF
    have f0 : a.tmps.getD 0 undef = .pointer (some ⟨R, 0, none⟩) := f0
    refine rely_wp rfl ?_
    exact opr_move (.inl rfl) (hK _ _ (NewT.refl _) f0)
  · intro a wx hT hF hJ K hK
    obtain ⟨f7, _⟩ := hF
    have f7 : a.tmps.getD 7 undef = .pointer (some ⟨R, 0, none⟩) := f7
    refine rely_wp rfl ?_
    refine opr_call rfl Tryd.func44 (by kernel_rfl) (by kernel_rfl) (by simp only [List.map_toArray, List.map_cons, List.map_nil, eval_tmp, f7]) ((RNum_put R x.step _ wx (show Rdr wx R (numI x.step ++ (numI x.tr ++ (fB x.back :: (rest)))) 0 from hJ) (by omega) (by first | omega | (simp; omega) | (simp [hL_length]; omega))).mono ?_)
    rintro e w' ⟨rfl, hT', hr⟩
    exact ⟨_, rfl, hK _ _ hT' hr rfl⟩
  · intro a wx hT hF hJ K hK
    replace hK := fun v w' (hN : NewT wx w') c => hK v w' (RT.new (Rdr.lt hJ) hN) (Rdr.new hJ hN) c
    obtain ⟨f0, _⟩ := hF
    have f0 : a.tmps.getD 0 undef = .pointer (some ⟨R, 0, none⟩) := f0
    refine rely_wp rfl ?_
    exact opr_move (.inl rfl) (hK _ _ (NewT.refl _) f0)
  · intro a wx hT hF hJ K hK
    obtain ⟨f9, _⟩ := hF
    have f9 : a.tmps.getD 9 undef = .pointer (some ⟨R, 0, none⟩) := f9
    refine rely_wp rfl ?_
    refine opr_call rfl Tryd.func44 (by kernel_rfl) (by kernel_rfl) (by simp only [List.map_toArray, List.map_cons, List.map_nil, eval_tmp, f9]) ((RNum_put R x.tr _ wx (show Rdr wx R (numI x.tr ++ (fB x.back :: (rest))) 0 from hJ) (by omega) (by first | omega | (simp; omega) | (simp [hL_length]; omega))).mono ?_)
    rintro e w' ⟨rfl, hT', hr⟩
    exact ⟨_, rfl, hK _ _ hT' hr rfl⟩
  · intro a wx hT hF hJ K hK
    replace hK := fun v w' (hN : NewT wx w') c => hK v w' (RT.new (Rdr.lt hJ) hN) (Rdr.new hJ hN) c
    obtain ⟨f0, _⟩ := hF
    have f0 : a.tmps.getD 0 undef = .pointer (some ⟨R, 0, none⟩) := f0
    refine rely_wp rfl ?_
    exact opr_move (.inl rfl) (hK _ _ (NewT.refl _) f0)
  · intro a wx hT hF hJ K hK
    obtain ⟨f11, _⟩ := hF
    have f11 : a.tmps.getD 11 undef = .pointer (some ⟨R, 0, none⟩) := f11
    refine rely_wp rfl ?_
    refine opr_call rfl Tryd.func80 (by kernel_rfl) (by kernel_rfl) (by simp only [List.map_toArray, List.map_cons, List.map_nil, eval_tmp, f11]) ((RFlag_put R x.back _ wx (show Rdr wx R (fB x.back :: (rest)) 0 from hJ) (by first | omega | (simp; omega) | (simp [hL_length]; omega))).mono ?_)
    rintro e w' ⟨rfl, hT', hr⟩
    exact ⟨_, rfl, hK _ _ hT' hr rfl⟩
  · intro a wx hT hF hJ K hK
    replace hK := fun v w' (hN : NewT wx w') c => hK v w' (RT.new (Rdr.lt hJ) hN) (Rdr.new hJ hN) c
    obtain ⟨f4, f6, f8, f10, f12, _⟩ := hF
    have f4 : a.tmps.getD 4 undef = .int .i64 (x.saga) := f4
    have f6 : a.tmps.getD 6 undef = .int .i64 (x.seq) := f6
    have f8 : a.tmps.getD 8 undef = .int .i64 (x.step) := f8
    have f10 : a.tmps.getD 10 undef = .int .i64 (x.tr) := f10
    have f12 : a.tmps.getD 12 undef = .bool (x.back) := f12
    refine rely_wp rfl ?_
    exact opr_build rfl (by simp only [List.map_toArray, List.map_cons, List.map_nil, eval_tmp, f4, f6, f8, f10, f12]) (build_try x.saga x.seq x.step x.tr x.back wx) (hK _ _ (NewT.refl _) rfl)
  · intro e1 h1 hJ
    intro u h; obtain rfl := Eq.symm (h (by simp)); clear h
    intro u h; obtain rfl := Eq.symm (h (by simp)); clear h
    intro u h; obtain rfl := Eq.symm (h (by simp)); clear h
    intro u h; obtain rfl := Eq.symm (h (by simp)); clear h
    intro u h; obtain rfl := Eq.symm (h (by simp)); clear h
    intro u h; obtain rfl := Eq.symm (h (by simp)); clear h
    intro u h; obtain rfl := Eq.symm (h (by simp)); clear h
    intro u h; obtain rfl := Eq.symm (h (by simp)); clear h
    intro u h; obtain rfl := Eq.symm (h (by simp)); clear h
    intro u h; obtain rfl := Eq.symm (h (by simp)); clear h
    intro u h; obtain rfl := Eq.symm (h (by simp)); clear h
    refine relyEnd_nil rfl ?_
    simp only [Act.put, List.setIfInBounds_toArray, List.set_cons_zero, List.set_cons_succ]
    refine wpList_plain rfl (fun K hK => ?_)
    refine opr_putm rfl rfl rfl (h1.row hne R2.out) (by decide) info_rec (recF_one _ _ _ rfl rfl) (put_all _ _) ?_
    intro wq hTq rq
    refine hK _ _ ?_
    refine wpList_end rfl ?_
    go_simp
    go_wp2
    have hRT : RT R w wq := RT.late2 (RT.trans _ _ _ (RT.new hRl HN.out) h1) (Nat.le_refl _) hRl hTq
    exact bodyPost_ret (results_agg rfl _ rfl rq Tryd.underlying27 rfl info_rec) rfl ⟨rfl, hRT, Rdr.rt (show Rdr e1 R rest 0 from hJ) hTq hRl⟩
set_option maxHeartbeats 1000000 in
theorem readClosed_cv (R : Nat) (x : Rc) (rest : List UInt8) (w : World) (h : Rdr w R (clL x ++ rest) 0) (h0 : 0 ≤ x.saga ∧ x.saga ≤ 2147483647) (h1 : 0 ≤ x.seq ∧ x.seq ≤ 2147483647) (h2 : 0 ≤ x.nd ∧ x.nd ≤ 2147483647) (hl : rest.length ≤ 800000) :
    Calls Tryd.prog 63 #[.pointer (some ⟨R, 0, none⟩)] w fun e w' => e = .returned (.agg (rowA 109 (recF ({ zR with saga := x.saga, seq := x.seq, nd := x.nd }) (.slice none 0 0) (.slice none 0 0)))) ∧ RT R w w' ∧ Rdr w' R rest 0 := by
  have hRl := h.lt
  rw [show clL x ++ rest = numI x.saga ++ (numI x.seq ++ (numI x.nd ++ (rest))) by unfold clL; simp] at h
  have Hr := Lib.hid h
  have n0 := numI_length x.saga
  have n1 := numI_length x.seq
  have n2 := numI_length x.nd
  clear h
  go_enter Tryd.func63, Tryd.ntmps63
  go_upto_region 1 with fail
  have r2 := rowIs_box w 27 109 (recF zR (.slice none 0 0) (.slice none 0 0))
  have hN := NewT.alloc w (.cells (rowA 109 (recF zR (.slice none 0 0) (.slice none 0 0))) 27)
  change Code.wp _ _ _ _ (w.alloc (.cells (rowA 109 (recF zR (.slice none 0 0) (.slice none 0 0))) 27))
  generalize w.alloc (.cells (rowA 109 (recF zR (.slice none 0 0) (.slice none 0 0))) 27) = W0 at r2 hN ⊢
  have R2 := Lib.hid r2
  have HN := Lib.hid hN
  replace Hr := Lib.hid (Rdr.new Hr.out hN)
  have hne : w.heap.size ≠ R := by omega
  clear r2 hN
  refine wp_region_steps (RT R) (fun k w => Rdr w R (([numI x.saga ++ (numI x.seq ++ (numI x.nd ++ (rest))), numI x.saga ++ (numI x.seq ++ (numI x.nd ++ (rest))), numI x.seq ++ (numI x.nd ++ (rest)), numI x.seq ++ (numI x.nd ++ (rest)), numI x.nd ++ (rest), numI x.nd ++ (rest), rest, rest] : List (List UInt8)).getD k []) 0) [SV.eq (.pointer (some ⟨R, 0, none⟩)), SV.eq (.int .i64 (x.saga)), SV.eq (.pointer (some ⟨R, 0, none⟩)), SV.eq (.int .i64 (x.seq)), SV.eq (.pointer (some ⟨R, 0, none⟩)), SV.eq (.int .i64 (x.nd)), SV.eq (.agg (rowA 109 (recF ({ zR with saga := x.saga, seq := x.seq, nd := x.nd }) (.slice none 0 0) (.slice none 0 0))))] [([(0, none)], none), ([(3, some 0)], none), ([(0, none)], none), ([(5, some 2)], none), ([(0, none)], none), ([(7, some 4)], none), ([(4, some 1), (6, some 3), (8, some 5)], none)] 10 7 rfl rfl (by kernel_rfl) RT.trans (RT.refl _ _) Hr.out (Nat.le_of_ble_eq_true rfl) ⟨?_, ?_, ?_, ?_, ?_, ?_, ?_, trivial⟩ ?_
  · intro a wx hT hF hJ K hK
    replace hK := fun v w' (hN : NewT wx w') c => hK v w' (RT.new (Rdr.lt hJ) hN) (Rdr.new hJ hN) c
    obtain ⟨f0, _⟩ := hF
    have f0 : a.tmps.getD 0 undef = .pointer (some ⟨R, 0, none⟩) := f0
    refine rely_wp rfl ?_
    exact opr_move (.inl rfl) (hK _ _ (NewT.refl _) f0)
  · intro a wx hT hF hJ K hK
    obtain ⟨f3, _⟩ := hF
    have f3 : a.tmps.getD 3 undef = .pointer (some ⟨R, 0, none⟩) := f3
    refine rely_wp rfl ?_
    refine opr_call rfl Tryd.func44 (by kernel_rfl) (by kernel_rfl) (by simp only [List.map_toArray, List.map_cons, List.map_nil, eval_tmp, f3]) ((RNum_put R x.saga _ wx (show Rdr wx R (numI x.saga ++ (numI x.seq ++ (numI x.nd ++ (rest)))) 0 from hJ) (by omega) (by first | omega | (simp; omega) | (simp [hL_length]; omega))).mono ?_)
    rintro e w' ⟨rfl, hT', hr⟩
    exact ⟨_, rfl, hK _ _ hT' hr rfl⟩
  · intro a wx hT hF hJ K hK
    replace hK := fun v w' (hN : NewT wx w') c => hK v w' (RT.new (Rdr.lt hJ) hN) (Rdr.new hJ hN) c
    obtain ⟨f0, _⟩ := hF
    have f0 : a.tmps.getD 0 undef = .pointer (some ⟨R, 0, none⟩) := f0
    refine rely_wp rfl ?_
    exact opr_move (.inl rfl) (hK _ _ (NewT.refl _) f0)
  · intro a wx hT hF hJ K hK
    obtain ⟨f5, _⟩ := hF
    have f5 : a.tmps.getD 5 undef = .pointer (some ⟨R, 0, none⟩) := f5
    refine rely_wp rfl ?_
    refine opr_call rfl Tryd.func44 (by kernel_rfl) (by kernel_rfl) (by simp only [List.map_toArray, List.map_cons, List.map_nil, eval_tmp, f5]) ((RNum_put R x.seq _ wx (show Rdr wx R (numI x.seq ++ (numI x.nd ++ (rest))) 0 from hJ) (by omega) (by first | omega | (simp; omega) | (simp [hL_length]; omega))).mono ?_)
    rintro e w' ⟨rfl, hT', hr⟩
    exact ⟨_, rfl, hK _ _ hT' hr rfl⟩
  · intro a wx hT hF hJ K hK
    replace hK := fun v w' (hN : NewT wx w') c => hK v w' (RT.new (Rdr.lt hJ) hN) (Rdr.new hJ hN) c
    obtain ⟨f0, _⟩ := hF
    have f0 : a.tmps.getD 0 undef = .pointer (some ⟨R, 0, none⟩) := f0
    refine rely_wp rfl ?_
    exact opr_move (.inl rfl) (hK _ _ (NewT.refl _) f0)
  · intro a wx hT hF hJ K hK
    obtain ⟨f7, _⟩ := hF
    have f7 : a.tmps.getD 7 undef = .pointer (some ⟨R, 0, none⟩) := f7
    refine rely_wp rfl ?_
    refine opr_call rfl Tryd.func44 (by kernel_rfl) (by kernel_rfl) (by simp only [List.map_toArray, List.map_cons, List.map_nil, eval_tmp, f7]) ((RNum_put R x.nd _ wx (show Rdr wx R (numI x.nd ++ (rest)) 0 from hJ) (by omega) (by first | omega | (simp; omega) | (simp [hL_length]; omega))).mono ?_)
    rintro e w' ⟨rfl, hT', hr⟩
    exact ⟨_, rfl, hK _ _ hT' hr rfl⟩
  · intro a wx hT hF hJ K hK
    replace hK := fun v w' (hN : NewT wx w') c => hK v w' (RT.new (Rdr.lt hJ) hN) (Rdr.new hJ hN) c
    obtain ⟨f4, f6, f8, _⟩ := hF
    have f4 : a.tmps.getD 4 undef = .int .i64 (x.saga) := f4
    have f6 : a.tmps.getD 6 undef = .int .i64 (x.seq) := f6
    have f8 : a.tmps.getD 8 undef = .int .i64 (x.nd) := f8
    refine rely_wp rfl ?_
    exact opr_build rfl (by simp only [List.map_toArray, List.map_cons, List.map_nil, eval_tmp, f4, f6, f8]) (build_closed x.saga x.seq x.nd wx) (hK _ _ (NewT.refl _) rfl)
  · intro e1 h1 hJ
    intro u h; obtain rfl := Eq.symm (h (by simp)); clear h
    intro u h; obtain rfl := Eq.symm (h (by simp)); clear h
    intro u h; obtain rfl := Eq.symm (h (by simp)); clear h
    intro u h; obtain rfl := Eq.symm (h (by simp)); clear h
    intro u h; obtain rfl := Eq.symm (h (by simp)); clear h
    intro u h; obtain rfl := Eq.symm (h (by simp)); clear h
    intro u h; obtain rfl := Eq.symm (h (by simp)); clear h
    refine relyEnd_nil rfl ?_
    simp only [Act.put, List.setIfInBounds_toArray, List.set_cons_zero, List.set_cons_succ]
    refine wpList_plain rfl (fun K hK => ?_)
    refine opr_putm rfl rfl rfl (h1.row hne R2.out) (by decide) info_rec (recF_one _ _ _ rfl rfl) (put_all _ _) ?_
    intro wq hTq rq
    refine hK _ _ ?_
    refine wpList_end rfl ?_
    go_simp
    go_wp2
    have hRT : RT R w wq := RT.late2 (RT.trans _ _ _ (RT.new hRl HN.out) h1) (Nat.le_refl _) hRl hTq
    exact bodyPost_ret (results_agg rfl _ rfl rq Tryd.underlying27 rfl info_rec) rfl ⟨rfl, hRT, Rdr.rt (show Rdr e1 R rest 0 from hJ) hTq hRl⟩
set_option maxHeartbeats 1000000 in
theorem readRotate_cv (R : Nat) (x : Rc) (rest : List UInt8) (w : World) (h : Rdr w R (roL x ++ rest) 0) (h0 : 0 ≤ x.part ∧ x.part ≤ 2147483647) (h1 : 0 ≤ x.epoch ∧ x.epoch ≤ 2147483647) (hl : rest.length ≤ 800000) :
    Calls Tryd.prog 65 #[.pointer (some ⟨R, 0, none⟩)] w fun e w' => e = .returned (.agg (rowA 109 (recF ({ zR with part := x.part, epoch := x.epoch }) (.slice none 0 0) (.slice none 0 0)))) ∧ RT R w w' ∧ Rdr w' R rest 0 := by
  have hRl := h.lt
  rw [show roL x ++ rest = numI x.part ++ (numI x.epoch ++ (rest)) by unfold roL; simp] at h
  have Hr := Lib.hid h
  have n0 := numI_length x.part
  have n1 := numI_length x.epoch
  clear h
  go_enter Tryd.func65, Tryd.ntmps65
  go_upto_region 1 with fail
  have r2 := rowIs_box w 27 109 (recF zR (.slice none 0 0) (.slice none 0 0))
  have hN := NewT.alloc w (.cells (rowA 109 (recF zR (.slice none 0 0) (.slice none 0 0))) 27)
  change Code.wp _ _ _ _ (w.alloc (.cells (rowA 109 (recF zR (.slice none 0 0) (.slice none 0 0))) 27))
  generalize w.alloc (.cells (rowA 109 (recF zR (.slice none 0 0) (.slice none 0 0))) 27) = W0 at r2 hN ⊢
  have R2 := Lib.hid r2
  have HN := Lib.hid hN
  replace Hr := Lib.hid (Rdr.new Hr.out hN)
  have hne : w.heap.size ≠ R := by omega
  clear r2 hN
  refine wp_region_steps (RT R) (fun k w => Rdr w R (([numI x.part ++ (numI x.epoch ++ (rest)), numI x.part ++ (numI x.epoch ++ (rest)), numI x.epoch ++ (rest), numI x.epoch ++ (rest), rest, rest] : List (List UInt8)).getD k []) 0) [SV.eq (.pointer (some ⟨R, 0, none⟩)), SV.eq (.int .i64 (x.part)), SV.eq (.pointer (some ⟨R, 0, none⟩)), SV.eq (.int .i64 (x.epoch)), SV.eq (.agg (rowA 109 (recF ({ zR with part := x.part, epoch := x.epoch }) (.slice none 0 0) (.slice none 0 0))))] [([(0, none)], none), ([(3, some 0)], none), ([(0, none)], none), ([(5, some 2)], none), ([(4, some 1), (6, some 3)], none)] 8 5 rfl rfl (by kernel_rfl) RT.trans (RT.refl _ _) Hr.out (Nat.le_of_ble_eq_true rfl) ⟨?_, ?_, ?_, ?_, ?_, trivial⟩ ?_
  · intro a wx hT hF hJ K hK
    replace hK := fun v w' (hN : NewT wx w') c => hK v w' (RT.new (Rdr.lt hJ) hN) (Rdr.new hJ hN) c
    obtain ⟨f0, _⟩ := hF
    have f0 : a.tmps.getD 0 undef = .pointer (some ⟨R, 0, none⟩) := f0
    refine rely_wp rfl ?_
    exact opr_move (.inl rfl) (hK _ _ (NewT.refl _) f0)
  · intro a wx hT hF hJ K hK
    obtain ⟨f3, _⟩ := hF
    have f3 : a.tmps.getD 3 undef = .pointer (some ⟨R, 0, none⟩) := f3
    refine rely_wp rfl ?_
    refine opr_call rfl Tryd.func44 (by kernel_rfl) (by kernel_rfl) (by simp only [List.map_toArray, List.map_cons, List.map_nil, eval_tmp, f3]) ((RNum_put R x.part _ wx (show Rdr wx R (numI x.part ++ (numI x.epoch ++ (rest))) 0 from hJ) (by omega) (by first | omega | (simp; omega) | (simp [hL_length]; omega))).mono ?_)
    rintro e w' ⟨rfl, hT', hr⟩
    exact ⟨_, rfl, hK _ _ hT' hr rfl⟩
  · intro a wx hT hF hJ K hK
    replace hK := fun v w' (hN : NewT wx w') c => hK v w' (RT.new (Rdr.lt hJ) hN) (Rdr.new hJ hN) c
    obtain ⟨f0, _⟩ := hF
    have f0 : a.tmps.getD 0 undef = .pointer (some ⟨R, 0, none⟩) := f0
    refine rely_wp rfl ?_
    exact opr_move (.inl rfl) (hK _ _ (NewT.refl _) f0)
  · intro a wx hT hF hJ K hK
    obtain ⟨f5, _⟩ := hF
    have f5 : a.tmps.getD 5 undef = .pointer (some ⟨R, 0, none⟩) := f5
    refine rely_wp rfl ?_
    refine opr_call rfl Tryd.func44 (by kernel_rfl) (by kernel_rfl) (by simp only [List.map_toArray, List.map_cons, List.map_nil, eval_tmp, f5]) ((RNum_put R x.epoch _ wx (show Rdr wx R (numI x.epoch ++ (rest)) 0 from hJ) (by omega) (by first | omega | (simp; omega) | (simp [hL_length]; omega))).mono ?_)
    rintro e w' ⟨rfl, hT', hr⟩
    exact ⟨_, rfl, hK _ _ hT' hr rfl⟩
  · intro a wx hT hF hJ K hK
    replace hK := fun v w' (hN : NewT wx w') c => hK v w' (RT.new (Rdr.lt hJ) hN) (Rdr.new hJ hN) c
    obtain ⟨f4, f6, _⟩ := hF
    have f4 : a.tmps.getD 4 undef = .int .i64 (x.part) := f4
    have f6 : a.tmps.getD 6 undef = .int .i64 (x.epoch) := f6
    refine rely_wp rfl ?_
    exact opr_build rfl (by simp only [List.map_toArray, List.map_cons, List.map_nil, eval_tmp, f4, f6]) (build_rot x.part x.epoch wx) (hK _ _ (NewT.refl _) rfl)
  · intro e1 h1 hJ
    intro u h; obtain rfl := Eq.symm (h (by simp)); clear h
    intro u h; obtain rfl := Eq.symm (h (by simp)); clear h
    intro u h; obtain rfl := Eq.symm (h (by simp)); clear h
    intro u h; obtain rfl := Eq.symm (h (by simp)); clear h
    intro u h; obtain rfl := Eq.symm (h (by simp)); clear h
    refine relyEnd_nil rfl ?_
    simp only [Act.put, List.setIfInBounds_toArray, List.set_cons_zero, List.set_cons_succ]
    refine wpList_plain rfl (fun K hK => ?_)
    refine opr_putm rfl rfl rfl (h1.row hne R2.out) (by decide) info_rec (recF_one _ _ _ rfl rfl) (put_all _ _) ?_
    intro wq hTq rq
    refine hK _ _ ?_
    refine wpList_end rfl ?_
    go_simp
    go_wp2
    have hRT : RT R w wq := RT.late2 (RT.trans _ _ _ (RT.new hRl HN.out) h1) (Nat.le_refl _) hRl hTq
    exact bodyPost_ret (results_agg rfl _ rfl rq Tryd.underlying27 rfl info_rec) rfl ⟨rfl, hRT, Rdr.rt (show Rdr e1 R rest 0 from hJ) hTq hRl⟩
end Go.Proofs.YthgblcpekhiphaaDoor
/- Package rec: what receipts and steps are read from. -/
namespace Go.Proofs.YthgblcpekhiphaaDoor
open Go Go.RowKit
set_option maxRecDepth 8000
set_option maxHeartbeats 2000000 in
theorem readReceipt_cv (R : Nat) (x : Rc) (rest : List UInt8) (w : World) (h : Rdr w R (rcL x ++ rest) 0) (h0 : 0 ≤ x.saga ∧ x.saga ≤ 2147483647) (h1 : 0 ≤ x.seq ∧ x.seq ≤ 2147483647) (h2 : 0 ≤ x.step ∧ x.step ≤ 2147483647) (h3 : 0 ≤ x.tr ∧ x.tr ≤ 2147483647) (h4 : 0 ≤ x.part ∧ x.part ≤ 2147483647) (h5 : 0 ≤ x.epoch ∧ x.epoch ≤ 2147483647) (hl : rest.length ≤ 700000) :
    Calls Tryd.prog 61 #[.pointer (some ⟨R, 0, none⟩)] w fun e w' => e = .returned (.agg (rowA 109 (recF ({ tryR x with good := x.good, part := x.part, epoch := x.epoch, tag := x.tag }) (.slice none 0 0) (.slice none 0 0)))) ∧ RT R w w' ∧ Rdr w' R rest 0 := by
  have hRl := h.lt
  rw [show rcL x ++ rest = callL x ++ (fB x.good :: (numI x.part ++ (numI x.epoch ++ (hL x.tag ++ rest)))) by unfold rcL; simp only [List.append_assoc, List.cons_append]] at h
  have Hr := Lib.hid h
  have n4 := numI_length x.part
  have n5 := numI_length x.epoch
  clear h
  go_enter Tryd.func61, Tryd.ntmps61
  go_upto_region 1 with fail
  have r2 := rowIs_box w 27 109 (recF zR (.slice none 0 0) (.slice none 0 0))
  have hN := NewT.alloc w (.cells (rowA 109 (recF zR (.slice none 0 0) (.slice none 0 0))) 27)
  have hsz : w.heap.size < (w.alloc (.cells (rowA 109 (recF zR (.slice none 0 0) (.slice none 0 0))) 27)).heap.size := by simp
  change Code.wp _ _ _ _ (w.alloc (.cells (rowA 109 (recF zR (.slice none 0 0) (.slice none 0 0))) 27))
  generalize w.alloc (.cells (rowA 109 (recF zR (.slice none 0 0) (.slice none 0 0))) 27) = W0 at r2 hN hsz ⊢
  replace Hr := Lib.hid (Rdr.new Hr.out hN)
  have hne : w.heap.size ≠ R := by omega
  refine wp_region_steps (RT R) (fun k w => Rdr w R (([callL x ++ (fB x.good :: (numI x.part ++ (numI x.epoch ++ (hL x.tag ++ rest)))), callL x ++ (fB x.good :: (numI x.part ++ (numI x.epoch ++ (hL x.tag ++ rest)))), fB x.good :: (numI x.part ++ (numI x.epoch ++ (hL x.tag ++ rest)))] : List (List UInt8)).getD k []) 0) [SV.eq (.pointer (some ⟨R, 0, none⟩)), SV.eq (.agg (rowA 109 (recF (tryR x) (.slice none 0 0) (.slice none 0 0))))] [([(0, none)], none), ([(4, some 0)], none)] 19 2 rfl rfl (by kernel_rfl) RT.trans (RT.refl _ _) Hr.out (Nat.le_of_ble_eq_true rfl) ⟨?_, ?_, trivial⟩ ?_
  · intro a wx hT hF hJ K hK
    replace hK := fun v w' (hN : NewT wx w') c => hK v w' (RT.new (Rdr.lt hJ) hN) (Rdr.new hJ hN) c
    obtain ⟨f0, _⟩ := hF
    have f0 : a.tmps.getD 0 undef = .pointer (some ⟨R, 0, none⟩) := f0
    refine rely_wp rfl ?_
    exact opr_move (.inl rfl) (hK _ _ (NewT.refl _) f0)
  · intro a wx hT hF hJ K hK
    obtain ⟨f4, _⟩ := hF
    have f4 : a.tmps.getD 4 undef = .pointer (some ⟨R, 0, none⟩) := f4
    refine rely_wp rfl ?_
    refine opr_call rfl Tryd.func59 (by kernel_rfl) (by kernel_rfl) (by simp only [List.map_toArray, List.map_cons, List.map_nil, eval_tmp, f4]) ((readTry_cv R x _ wx (show Rdr wx R (callL x ++ (fB x.good :: (numI x.part ++ (numI x.epoch ++ (hL x.tag ++ rest))))) 0 from hJ) h0 h1 h2 h3 (by first | omega | (simp; omega) | (simp [hL_length]; omega))).mono ?_)
    rintro e w' ⟨rfl, hT', hr⟩
    exact ⟨_, rfl, hK _ _ hT' hr rfl⟩
  · intro e1 k1 hJ
    intro u h; obtain rfl := Eq.symm (h (by simp)); clear h
    intro u h; obtain rfl := Eq.symm (h (by simp)); clear h
    refine relyEnd_nil rfl ?_
    simp only [Act.put, List.setIfInBounds_toArray, List.set_cons_zero, List.set_cons_succ]
    refine wpList_new (n := 109) rfl rfl rfl rfl rfl rfl (by simp) run_alloc_rec info_rec (recF_one _ _ _ rfl rfl) rfl ?_
    intro w1 hn1 r3
    refine wpList_end rfl ?_
    simp only [Act.put, List.setIfInBounds_toArray, List.set_cons_zero, List.set_cons_succ]
    go_simp
    have X2 := Lib.hid (hn1.row (k1.row hne r2))
    have X3 := Lib.hid r3
    have HJ1 := Lib.hid (Rdr.new (show Rdr e1 R (fB x.good :: (numI x.part ++ (numI x.epoch ++ (hL x.tag ++ rest)))) 0 from hJ) hn1)
    have HRT0 := Lib.hid (RT.trans _ _ _ (RT.trans _ _ _ (RT.new hRl hN) k1) (RT.new (Rdr.lt (show Rdr e1 R (fB x.good :: (numI x.part ++ (numI x.epoch ++ (hL x.tag ++ rest)))) 0 from hJ)) hn1))
    have hG : w.heap.size < e1.heap.size := Nat.lt_of_lt_of_le hsz k1.size
    clear hJ r3 r2 hN hsz k1 hn1 Hr
    generalize e1.heap.size = G at X3 hG ⊢
    have hGR : G ≠ R := by omega
    have hne2 : w.heap.size ≠ G := by omega
    go_upto_region 2 with fail
    refine wp_region_steps (RT R) (fun k w => Rdr w R (([fB x.good :: (numI x.part ++ (numI x.epoch ++ (hL x.tag ++ rest))), fB x.good :: (numI x.part ++ (numI x.epoch ++ (hL x.tag ++ rest))), numI x.part ++ (numI x.epoch ++ (hL x.tag ++ rest))] : List (List UInt8)).getD k []) 0) [SV.eq (.pointer (some ⟨R, 0, none⟩)), SV.eq (.bool (x.good))] [([(0, none)], none), ([(6, some 0)], none)] 19 2 rfl rfl (by kernel_rfl) RT.trans (RT.refl _ _) HJ1.out (Nat.le_of_ble_eq_true rfl) ⟨?_, ?_, trivial⟩ ?_
    · intro a wx hT hF hJ K hK
      replace hK := fun v w' (hN : NewT wx w') c => hK v w' (RT.new (Rdr.lt hJ) hN) (Rdr.new hJ hN) c
      obtain ⟨f0, _⟩ := hF
      have f0 : a.tmps.getD 0 undef = .pointer (some ⟨R, 0, none⟩) := f0
      refine rely_wp rfl ?_
      exact opr_move (.inl rfl) (hK _ _ (NewT.refl _) f0)
    · intro a wx hT hF hJ K hK
      obtain ⟨f6, _⟩ := hF
      have f6 : a.tmps.getD 6 undef = .pointer (some ⟨R, 0, none⟩) := f6
      refine rely_wp rfl ?_
      refine opr_call rfl Tryd.func80 (by kernel_rfl) (by kernel_rfl) (by simp only [List.map_toArray, List.map_cons, List.map_nil, eval_tmp, f6]) ((RFlag_put R x.good _ wx (show Rdr wx R (fB x.good :: (numI x.part ++ (numI x.epoch ++ (hL x.tag ++ rest)))) 0 from hJ) (by first | omega | (simp; omega) | (simp [hL_length]; omega))).mono ?_)
      rintro e w' ⟨rfl, hT', hr⟩
      exact ⟨_, rfl, hK _ _ hT' hr rfl⟩
    · intro e2 k2 hJ
      intro u h; obtain rfl := Eq.symm (h (by simp)); clear h
      intro u h; obtain rfl := Eq.symm (h (by simp)); clear h
      refine relyEnd_nil rfl ?_
      simp only [Act.put, List.setIfInBounds_toArray, List.set_cons_zero, List.set_cons_succ]
      refine wpList_plain rfl (fun K hK => ?_)
      refine opr_fldR (by decide) rfl rfl (hK _ _ ?_)
      clear hK K
      refine wpList_plain rfl (fun K hK => ?_)
      refine opr_put1 rfl rfl rfl (k2.row hGR X3.out) (by decide) info_b1 rfl (fun i _ => rs_good (tryR x) (.slice none 0 0) (.slice none 0 0) i _) ?_
      intro e3 k3 r4
      refine hK _ _ ?_
      clear hK K
      refine wpList_end rfl ?_
      go_simp
      have HJ2 := Lib.hid (Rdr.rt (show Rdr e2 R (numI x.part ++ (numI x.epoch ++ (hL x.tag ++ rest))) 0 from hJ) k3 (by omega))
      clear hJ
      go_upto_region 3 with fail
      refine wp_region_steps (RT R) (fun k w => Rdr w R (([numI x.part ++ (numI x.epoch ++ (hL x.tag ++ rest)), numI x.part ++ (numI x.epoch ++ (hL x.tag ++ rest)), numI x.epoch ++ (hL x.tag ++ rest), numI x.epoch ++ (hL x.tag ++ rest), hL x.tag ++ rest, hL x.tag ++ rest, rest] : List (List UInt8)).getD k []) 0) [SV.eq (.pointer (some ⟨R, 0, none⟩)), SV.eq (.int .i64 (x.part)), SV.eq (.pointer (some ⟨R, 0, none⟩)), SV.eq (.int .i64 (x.epoch)), SV.eq (.pointer (some ⟨R, 0, none⟩)), SV.eq (.agg (rowA 32 (bF (x.tag))))] [([(0, none)], none), ([(9, some 0)], none), ([(0, none)], none), ([(11, some 2)], none), ([(0, none)], none), ([(13, some 4)], none)] 19 6 rfl rfl (by kernel_rfl) RT.trans (RT.refl _ _) HJ2.out (Nat.le_of_ble_eq_true rfl) ⟨?_, ?_, ?_, ?_, ?_, ?_, trivial⟩ ?_
      · intro a wx hT hF hJ K hK
        replace hK := fun v w' (hN : NewT wx w') c => hK v w' (RT.new (Rdr.lt hJ) hN) (Rdr.new hJ hN) c
        obtain ⟨f0, _⟩ := hF
        have f0 : a.tmps.getD 0 undef = .pointer (some ⟨R, 0, none⟩) := f0
        refine rely_wp rfl ?_
        exact opr_move (.inl rfl) (hK _ _ (NewT.refl _) f0)
      · intro a wx hT hF hJ K hK
        obtain ⟨f9, _⟩ := hF
        have f9 : a.tmps.getD 9 undef = .pointer (some ⟨R, 0, none⟩) := f9
        refine rely_wp rfl ?_
        refine opr_call rfl Tryd.func44 (by kernel_rfl) (by kernel_rfl) (by simp only [List.map_toArray, List.map_cons, List.map_nil, eval_tmp, f9]) ((RNum_put R x.part _ wx (show Rdr wx R (numI x.part ++ (numI x.epoch ++ (hL x.tag ++ rest))) 0 from hJ) (by omega) (by first | omega | (simp; omega) | (simp [hL_length]; omega))).mono ?_)
        rintro e w' ⟨rfl, hT', hr⟩
        exact ⟨_, rfl, hK _ _ hT' hr rfl⟩
      · intro a wx hT hF hJ K hK
        replace hK := fun v w' (hN : NewT wx w') c => hK v w' (RT.new (Rdr.lt hJ) hN) (Rdr.new hJ hN) c
        obtain ⟨f0, _⟩ := hF
        have f0 : a.tmps.getD 0 undef = .pointer (some ⟨R, 0, none⟩) := f0
        refine rely_wp rfl ?_
        exact opr_move (.inl rfl) (hK _ _ (NewT.refl _) f0)
      · intro a wx hT hF hJ K hK
        obtain ⟨f11, _⟩ := hF
        have f11 : a.tmps.getD 11 undef = .pointer (some ⟨R, 0, none⟩) := f11
        refine rely_wp rfl ?_
        refine opr_call rfl Tryd.func44 (by kernel_rfl) (by kernel_rfl) (by simp only [List.map_toArray, List.map_cons, List.map_nil, eval_tmp, f11]) ((RNum_put R x.epoch _ wx (show Rdr wx R (numI x.epoch ++ (hL x.tag ++ rest)) 0 from hJ) (by omega) (by first | omega | (simp; omega) | (simp [hL_length]; omega))).mono ?_)
        rintro e w' ⟨rfl, hT', hr⟩
        exact ⟨_, rfl, hK _ _ hT' hr rfl⟩
      · intro a wx hT hF hJ K hK
        replace hK := fun v w' (hN : NewT wx w') c => hK v w' (RT.new (Rdr.lt hJ) hN) (Rdr.new hJ hN) c
        obtain ⟨f0, _⟩ := hF
        have f0 : a.tmps.getD 0 undef = .pointer (some ⟨R, 0, none⟩) := f0
        refine rely_wp rfl ?_
        exact opr_move (.inl rfl) (hK _ _ (NewT.refl _) f0)
      · intro a wx hT hF hJ K hK
        obtain ⟨f13, _⟩ := hF
        have f13 : a.tmps.getD 13 undef = .pointer (some ⟨R, 0, none⟩) := f13
        refine rely_wp rfl ?_
        refine opr_call rfl Tryd.func81 (by kernel_rfl) (by kernel_rfl) (by simp only [List.map_toArray, List.map_cons, List.map_nil, eval_tmp, f13]) ((RHash_put R x.tag _ wx (show Rdr wx R (hL x.tag ++ rest) 0 from hJ)).mono ?_)
        rintro e w' ⟨rfl, hT', hr⟩
        exact ⟨_, rfl, hK _ _ hT' hr rfl⟩
      · intro e4 k4 hJ
        intro u h; obtain rfl := Eq.symm (h (by simp)); clear h
        intro u h; obtain rfl := Eq.symm (h (by simp)); clear h
        intro u h; obtain rfl := Eq.symm (h (by simp)); clear h
        intro u h; obtain rfl := Eq.symm (h (by simp)); clear h
        intro u h; obtain rfl := Eq.symm (h (by simp)); clear h
        intro u h; obtain rfl := Eq.symm (h (by simp)); clear h
        refine relyEnd_nil rfl ?_
        simp only [Act.put, List.setIfInBounds_toArray, List.set_cons_zero, List.set_cons_succ]
        refine wpList_plain rfl (fun K hK => ?_)
        refine opr_fldR (by decide) rfl rfl (hK _ _ ?_)
        clear hK K
        refine wpList_plain rfl (fun K hK => ?_)
        refine opr_put1 rfl rfl rfl (k4.row hGR r4) (by decide) info_i1 rfl (fun i _ => rs_part ({ tryR x with good := x.good }) (.slice none 0 0) (.slice none 0 0) i _) ?_
        intro e5 k5 r5
        refine hK _ _ ?_
        clear hK K
        refine wpList_plain rfl (fun K hK => ?_)
        refine opr_fldR (by decide) rfl rfl (hK _ _ ?_)
        clear hK K
        refine wpList_plain rfl (fun K hK => ?_)
        refine opr_put1 rfl rfl rfl r5 (by decide) info_i1 rfl (fun i _ => rs_epoch ({ tryR x with good := x.good, part := x.part }) (.slice none 0 0) (.slice none 0 0) i _) ?_
        intro e6 k6 r6
        refine hK _ _ ?_
        clear hK K
        refine wpList_plain rfl (fun K hK => ?_)
        refine opr_fldR (by decide) rfl rfl (hK _ _ ?_)
        clear hK K
        refine wpList_plain rfl (fun K hK => ?_)
        refine opr_putm rfl rfl rfl r6 (by decide) info31 (fun _ => rfl) (fun i hi => rs_tag ({ tryR x with good := x.good, part := x.part, epoch := x.epoch }) (.slice none 0 0) (.slice none 0 0) i _ hi) ?_
        intro e7 k7 r7
        refine hK _ _ ?_
        clear hK K
        refine wpList_end rfl ?_
        go_simp
        have HJ3 := Lib.hid (Rdr.rt (Rdr.rt (Rdr.rt (show Rdr e4 R rest 0 from hJ) k5 (by omega)) k6 (by omega)) k7 (by omega))
        have HRT : Hid (RT R w e7) := Lib.hid (RT.late2 (RT.late2 (RT.late2 (RT.trans _ _ _ (RT.late2 (RT.trans _ _ _ HRT0.out k2) (Nat.le_of_lt hG) hRl k3) k4) (Nat.le_of_lt hG) hRl k5) (Nat.le_of_lt hG) hRl k6) (Nat.le_of_lt hG) hRl k7)
        have HX2 : Hid (e7.rowIs w.heap.size 27 109 (recF zR (.slice none 0 0) (.slice none 0 0))) := Lib.hid (k7.row hne2 (k6.row hne2 (k5.row hne2 (k4.row hne (k3.row hne2 (k2.row hne X2.out))))))
        clear hJ
        go_upto_region 4 with fail
        refine wp_region_steps0 NewT [SV.eq (.agg (rowA 109 (recF ({ tryR x with good := x.good, part := x.part, epoch := x.epoch, tag := x.tag }) (.slice none 0 0) (.slice none 0 0))))] [([(3, none)], none)] 19 1 rfl rfl (by kernel_rfl) NewT.trans (NewT.refl _) (Nat.le_of_ble_eq_true rfl) ⟨?_, trivial⟩ ?_
        · intro a wx hT hF K hK
          obtain ⟨f3, _⟩ := hF
          have f3 : a.tmps.getD 3 undef = .pointer (some ⟨G, 0, none⟩) := f3
          refine rely_wp rfl ?_
          exact opr_ldR (hT.row r7) rfl f3 (hK _ _ (NewT.refl _) rfl)
        · intro wf kf
          intro u h; obtain rfl := Eq.symm (h (by simp)); clear h
          refine relyEnd_nil rfl ?_
          simp only [Act.put, List.setIfInBounds_toArray, List.set_cons_zero, List.set_cons_succ]
          refine wpList_plain rfl (fun K hK => ?_)
          refine opr_putm rfl rfl rfl (kf.row HX2.out) (by decide) info_rec (recF_one _ _ _ rfl rfl) (put_all _ _) ?_
          intro wq hTq rq
          refine hK _ _ ?_
          refine wpList_end rfl ?_
          go_simp
          go_wp2
          exact bodyPost_ret (results_agg rfl _ rfl rq Tryd.underlying27 rfl info_rec) rfl ⟨rfl, RT.late2 (RT.trans _ _ _ (HRT.out) (RT.new (Nat.lt_of_lt_of_le hRl HRT.out.size) kf)) (Nat.le_refl _) hRl hTq, Rdr.rt (HJ3.out.new kf) hTq hRl⟩
theorem build_step (s : Int × Int) (w : World) : (Instr.build 46 #[(0, .int .i64 s.1), (1, .int .i64 s.2)]).run Tryd.prog w = .ok (.agg (rowA 2 (stepF s))) w := by kernel_rfl
theorem run_bsS (s : Int × Int) (w : World) : (Instr.buildSlice 24 1 #[(0, .agg (rowA 2 (stepF s)))]).run Tryd.prog w = .ok (.slice (some ⟨w.heap.size, 0, none⟩) 1 1) (w.alloc (.cells #[.int .i64 s.1, .int .i64 s.2] 46)) := by kernel_rfl
theorem opr_bsS {a : Act} {w : World} {o : Oper} {K : Act → World → Prop} {Q : Exit → Act → World → Prop} {x : Operand} {s : Int × Int} (ho : o.op = .buildSlice 24 1 #[(0, x)]) (hx : a.eval x = .agg (rowA 2 (stepF s))) (h : K (a.put o.dst (.slice (some ⟨w.heap.size, 0, none⟩) 1 1)) (w.alloc (.cells #[.int .i64 s.1, .int .i64 s.2] 46))) : o.wp Tryd.prog a w K Q := by
  obtain ⟨dst, op, type, pos, after, guard⟩ := o
  simp only at ho
  subst ho
  exact opr_val (s := Instr.buildSlice 24 1 #[(0, a.eval x)]) (by simp [execOp]) (by rw [hx]; exact run_bsS s w) h
theorem rdP_one (s : Int × Int) (w : World) : RdP (w.alloc (.cells #[.int .i64 s.1, .int .i64 s.2] 46)) (.slice (some ⟨w.heap.size, 0, none⟩) 1 1) [s] := by
  refine ⟨some ⟨w.heap.size, 0, none⟩, 1, rfl, Nat.le_refl _, by unfold maxLen; omega, fun _ => ⟨w.heap.size, 0, rfl, fun i hi => ?_⟩⟩
  obtain rfl : i = 0 := by simpa using hi
  exact ⟨by rw [cell_new_fr _ _ _ _ _ _ rfl]; rfl, by rw [cell_new_fr _ _ _ _ _ _ rfl]; rfl⟩
theorem rt_grown {R : Nat} {W w w' : World} {L : List Nat} (h : RT R W w) (hK : KeepBut L w w') (hL : ∀ k ∈ L, W.heap.size ≤ k) (hR : R < W.heap.size) (hB : Below W.heap.size w w') : RT R W w' :=
  ⟨h.below.trans (hB.mono (Nat.le_of_lt hR)), Nat.le_trans h.keep.1 hK.1, fun k o hk ho hc => hK.2 k o (fun hm => by have := hL k hm; have := (Array.getElem?_eq_some_iff.1 ho).1; omega) (h.keep.2 k o hk ho hc) hc⟩
theorem drop_step (l : List (Int × Int)) (k : Nat) (hk : k < l.length) (rest : List UInt8) : stepsL (l.drop k) ++ rest = numI (l.getD k (0, 0)).1 ++ (numI (l.getD k (0, 0)).2 ++ (stepsL (l.drop (k + 1)) ++ rest)) := by
  have e : l.drop k = l.getD k (0, 0) :: l.drop (k + 1) := by rw [List.drop_eq_getElem_cons hk]; simp [List.getD, hk]
  rw [e]
  simp only [stepsL, List.flatMap_cons, List.append_assoc]
set_option maxHeartbeats 2000000 in
theorem readSteps_cv (R : Nat) (l : List (Int × Int)) (rest : List UInt8) (w : World) (h : Rdr w R (numI l.length ++ (stepsL l ++ rest)) 0) (hn : l.length ≤ 6) (hs : l.all stepOk = true) (hl : rest.length ≤ 700000) :
    Calls Tryd.prog 79 #[.pointer (some ⟨R, 0, none⟩)] w fun e w' => ∃ v, e = .returned v ∧ RdPB w' w.heap.size v l ∧ RT R w w' ∧ Rdr w' R rest 0 := by
  have hRl := h.lt
  have Hr := Lib.hid h
  have hsl := stepsL_len l
  have Hs := Lib.hid hs
  clear h hs
  generalize hnn : l.length = n at *
  have Hn := Lib.hid hnn
  clear hnn
  have i0 : ¬ (6 : Int) < (n : Int) := by omega
  go_enter Tryd.func79, Tryd.ntmps79
  go_wp2_with (go_at_call 44; refine (RNum_put R n _ w Hr.out (by omega) (by simp; omega)).mono ?_; rintro _ w1 ⟨rfl, hT1, hr1⟩; have Hr1 := Lib.hid hr1; clear hr1)
  go_loopw [4, 12] (fun v i wr => ∃ k : Nat, k ≤ n ∧ i = .int .i64 k ∧ wr.ownsRow w.heap.size 46 2 v (l.take k).length (pc (l.take k)) ∧ RT R w wr ∧ Rdr wr R (stepsL (l.drop k) ++ rest) 0) (fun _ i _ => n - (intOf i).toNat)
  case atStart => exact ⟨0, by omega, rfl, World.ownsRow_nil _ _ _ _, hT1, by simpa using Hr1.out⟩
  case round =>
    obtain ⟨k, hk, rfl, hown, qT, hz⟩ := hrel
    clear hT1 Hr1
    by_cases hlt : k < n
    · have hkl : k < l.length := by rw [Hn.out]; exact hlt
      rw [drop_step l k hkl rest] at hz
      have hok : stepOk (l.getD k (0, 0)) = true := List.all_eq_true.1 Hs.out _ (by simp [List.getD, hkl])
      simp only [stepOk, Bool.and_eq_true, inR_iff] at hok
      have Htk : Hid (l.take (k + 1) = l.take k ++ [l.getD k (0, 0)]) := Lib.hid (by rw [List.take_add_one, List.getElem?_eq_getElem hkl]; simp [List.getD, hkl])
      have htl : (l.take k).length ≤ 6 := by simp; omega
      generalize l.getD k (0, 0) = s at hz hok Htk
      have hzl : (stepsL (l.drop (k + 1)) ++ rest).length ≤ 800000 := by have := stepsL_len (l.drop (k + 1)); simp at this ⊢; have := Hn.out; omega
      generalize hzz : stepsL (l.drop (k + 1)) ++ rest = z at hz hzl
      have HZ := Lib.hid hzz
      clear hzz
      have Hz := Lib.hid hz
      clear hz
      have n1 := numI_length s.1
      have n2 := numI_length s.2
      have it : (k : Int) < (n : Int) := by omega
      have hs1 : 0 ≤ s.1 ∧ s.1 ≤ 2147483647 := by omega
      have hs2 : 0 ≤ s.2 ∧ s.2 ≤ 2147483647 := by omega
      clear hok
      go_upto_region 8 with fail
      refine wp_region_steps (RT R) (fun k w => Rdr w R (([numI s.1 ++ (numI s.2 ++ z), numI s.1 ++ (numI s.2 ++ z), numI s.1 ++ (numI s.2 ++ z), numI s.2 ++ z, numI s.2 ++ z, z, z] : List (List UInt8)).getD k []) 0) [SV.eq (u4), SV.eq (.pointer (some ⟨R, 0, none⟩)), SV.eq (.int .i64 (s.1)), SV.eq (.pointer (some ⟨R, 0, none⟩)), SV.eq (.int .i64 (s.2)), SV.eq (.agg (rowA 2 (stepF s)))] [([(4, none)], none), ([(0, none)], none), ([(15, some 1)], none), ([(0, none)], none), ([(17, some 3)], none), ([(16, some 2), (18, some 4)], none)] 24 6 rfl rfl (by kernel_rfl) RT.trans (RT.refl _ _) Hz.out (Nat.le_of_ble_eq_true rfl) ⟨?_, ?_, ?_, ?_, ?_, ?_, trivial⟩ ?_
      · intro a wx hT hF hJ K hK
        replace hK := fun v w' (hN : NewT wx w') c => hK v w' (RT.new (Rdr.lt hJ) hN) (Rdr.new hJ hN) c
        obtain ⟨f4, _⟩ := hF
        have f4 : a.tmps.getD 4 undef = u4 := f4
        refine rely_wp rfl ?_
        exact opr_move (.inl rfl) (hK _ _ (NewT.refl _) f4)
      · intro a wx hT hF hJ K hK
        replace hK := fun v w' (hN : NewT wx w') c => hK v w' (RT.new (Rdr.lt hJ) hN) (Rdr.new hJ hN) c
        obtain ⟨f0, _⟩ := hF
        have f0 : a.tmps.getD 0 undef = .pointer (some ⟨R, 0, none⟩) := f0
        refine rely_wp rfl ?_
        exact opr_move (.inl rfl) (hK _ _ (NewT.refl _) f0)
      · intro a wx hT hF hJ K hK
        obtain ⟨f15, _⟩ := hF
        have f15 : a.tmps.getD 15 undef = .pointer (some ⟨R, 0, none⟩) := f15
        refine rely_wp rfl ?_
        refine opr_call rfl Tryd.func44 (by kernel_rfl) (by kernel_rfl) (by simp only [List.map_toArray, List.map_cons, List.map_nil, eval_tmp, f15]) ((RNum_put R s.1 _ wx (show Rdr wx R (numI s.1 ++ (numI s.2 ++ z)) 0 from hJ) (by omega) (by first | omega | (simp; omega) | (simp [hL_length]; omega))).mono ?_)
        rintro e w' ⟨rfl, hT', hr⟩
        exact ⟨_, rfl, hK _ _ hT' hr rfl⟩
      · intro a wx hT hF hJ K hK
        replace hK := fun v w' (hN : NewT wx w') c => hK v w' (RT.new (Rdr.lt hJ) hN) (Rdr.new hJ hN) c
        obtain ⟨f0, _⟩ := hF
        have f0 : a.tmps.getD 0 undef = .pointer (some ⟨R, 0, none⟩) := f0
        refine rely_wp rfl ?_
        exact opr_move (.inl rfl) (hK _ _ (NewT.refl _) f0)
      · intro a wx hT hF hJ K hK
        obtain ⟨f17, _⟩ := hF
        have f17 : a.tmps.getD 17 undef = .pointer (some ⟨R, 0, none⟩) := f17
        refine rely_wp rfl ?_
        refine opr_call rfl Tryd.func44 (by kernel_rfl) (by kernel_rfl) (by simp only [List.map_toArray, List.map_cons, List.map_nil, eval_tmp, f17]) ((RNum_put R s.2 _ wx (show Rdr wx R (numI s.2 ++ z) 0 from hJ) (by omega) (by first | omega | (simp; omega) | (simp [hL_length]; omega))).mono ?_)
        rintro e w' ⟨rfl, hT', hr⟩
        exact ⟨_, rfl, hK _ _ hT' hr rfl⟩
      · intro a wx hT hF hJ K hK
        replace hK := fun v w' (hN : NewT wx w') c => hK v w' (RT.new (Rdr.lt hJ) hN) (Rdr.new hJ hN) c
        obtain ⟨f16, f18, _⟩ := hF
        have f16 : a.tmps.getD 16 undef = .int .i64 (s.1) := f16
        have f18 : a.tmps.getD 18 undef = .int .i64 (s.2) := f18
        refine rely_wp rfl ?_
        exact opr_build rfl (by simp only [List.map_toArray, List.map_cons, List.map_nil, eval_tmp, f16, f18]) (build_step s wx) (hK _ _ (NewT.refl _) rfl)
      · intro e8 k8 hJ
        intro u h; obtain rfl := Eq.symm (h (by simp)); clear h
        intro u h; obtain rfl := Eq.symm (h (by simp)); clear h
        intro u h; obtain rfl := Eq.symm (h (by simp)); clear h
        intro u h; obtain rfl := Eq.symm (h (by simp)); clear h
        intro u h; obtain rfl := Eq.symm (h (by simp)); clear h
        intro u h; obtain rfl := Eq.symm (h (by simp)); clear h
        refine relyEnd_nil rfl ?_
        simp only [Act.put, List.setIfInBounds_toArray, List.set_cons_zero, List.set_cons_succ]
        replace hJ : Rdr e8 R z 0 := hJ
        have hNa := NewT.alloc e8 (.cells #[.int .i64 s.1, .int .i64 s.2] 46)
        obtain ⟨v', w', hr, ho', hg⟩ := run_append_steps (ownsRow_new (ownsRow_rt hown k8 hRl) hNa) (rdP_one s e8) (fun n c h => by cases h) (by simp; omega) (Nat.le_trans (Nat.le_trans (RT.size qT) k8.size) hNa.out.size) 24
        have hK2 : KeepBut u4.ownBlock.toList (e8.alloc (.cells #[.int .i64 s.1, .int .i64 s.2] 46)) w' := keepBut_grown hg (fun k h => by simp [h])
        have hGb : ∀ k ∈ u4.ownBlock.toList, w.heap.size ≤ k := fun k hk => by simp at hk; exact (hown.lt k hk).1
        have hJ2 : Rdr w' R z 0 := (hJ.new hNa).keep (fun k hk => by have := hGb k hk; omega) hK2
        have qT2 : RT R w w' := rt_grown (RT.trans _ _ _ (RT.trans _ _ _ qT k8) (RT.new hJ.lt hNa)) hK2 hGb hRl (Below.grown (Below.refl w.heap.size _) hg (Nat.le_trans (Nat.le_trans (RT.size qT) k8.size) hNa.out.size) (fun k hk => (hown.lt k hk).1))
        have Ho := Lib.hid ho'
        clear ho' hg hK2 hJ hNa
        refine wpList_plain rfl (fun K hK => ?_)
        refine opr_bsS rfl rfl (hK _ _ ?_)
        clear hK K
        refine wpList_plain rfl (fun K hK => ?_)
        refine opr_append rfl rfl rfl hr (hK _ _ ?_)
        clear hK K hr
        refine wpList_plain rfl (fun K hK => ?_)
        refine opr_move (.inr rfl) (hK _ _ ?_)
        clear hK K
        refine wpList_end rfl ?_
        go_simp
        go_wp2
        go_roundw
        case rel => exact ⟨k + 1, by omega, by go_num, by rw [Htk.out]; exact Ho.out, qT2, by rw [HZ.out]; exact hJ2⟩
        case measure => simp [intOf]; omega
    · obtain rfl : k = n := by omega
      have Ho : Hid (wr.ownsRow w.heap.size 46 2 u4 l.length (pc l)) := Lib.hid (by rw [← Hn.out, List.take_length] at hown; exact hown)
      have Hz2 : Hid (Rdr wr R rest 0) := Lib.hid (by rw [← Hn.out, List.drop_length] at hz; simpa [stepsL] using hz)
      clear hown hz
      go_wp2
      go_ret
      refine ⟨_, rfl, ⟨rdP_own Ho.out, fun _ a n c e => ?_⟩, qT, Hz2.out⟩
      rcases Ho.out.2 with ⟨h, _⟩ | ⟨g, cap, cur, h, hb, _⟩
      · have e' := h.symm.trans e; cases e'
      · have e' := h.symm.trans e; cases e'; exact hb
end Go.Proofs.YthgblcpekhiphaaDoor
/- Records whose lists lie in blocks from some place on: what reading makes. -/
namespace Go.Proofs.YthgblcpekhiphaaDoor
open Go Go.RowKit
set_option maxRecDepth 8000
def RecVB (w : World) (B : Nat) (v : Value) (x : Rc) : Prop := ∃ sv dv, v = .agg (rowA 109 (recF x sv dv)) ∧ RdPB w B sv x.steps ∧ RdVB w B dv x.data
theorem RecVB.out {w : World} {B : Nat} {v : Value} {x : Rc} (h : RecVB w B v x) : RecV w v x := by
  obtain ⟨sv, dv, h1, h2, h3⟩ := h
  exact ⟨sv, dv, h1, h2.1, h3.out⟩
theorem RecVB.rt {w w' : World} {B R : Nat} {v : Value} {x : Rc} (h : RecVB w B v x) (hT : RT R w w') (hR : R < B) : RecVB w' B v x := by
  obtain ⟨sv, dv, h1, h2, h3⟩ := h
  exact ⟨sv, dv, h1, h2.rt hT hR, h3.rt hT hR⟩
theorem RecVB.new {w w' : World} {B : Nat} {v : Value} {x : Rc} (h : RecVB w B v x) (hT : NewT w w') : RecVB w' B v x := by
  obtain ⟨sv, dv, h1, h2, h3⟩ := h
  exact ⟨sv, dv, h1, h2.new hT, h3.new hT⟩
theorem RecVB.mono {w : World} {B B' : Nat} {v : Value} {x : Rc} (h : RecVB w B v x) (hB : B' ≤ B) : RecVB w B' v x := by
  obtain ⟨sv, dv, h1, h2, h3⟩ := h
  exact ⟨sv, dv, h1, h2.mono hB, h3.mono hB⟩
theorem RdVB.nil (w : World) (B : Nat) : RdVB w B (.slice none 0 0) [] := fun _ _ => rdV_nil _ _
theorem RdPB.nil (w : World) (B : Nat) : RdPB w B (.slice none 0 0) [] := ⟨rdP_nil w, fun _ a n c h => by cases h⟩
def svPB (R B : Nat) (l : List (Int × Int)) : SV (RT R) := ⟨fun v w => R < B ∧ RdPB w B v l, fun _ _ _ h hT => ⟨h.1, h.2.rt hT h.1⟩⟩
def svVB (R B : Nat) (l : List UInt8) : SV (RT R) := ⟨fun v w => R < B ∧ RdVB w B v l, fun _ _ _ h hT => ⟨h.1, h.2.rt hT h.1⟩⟩
def svRecB (R B : Nat) (x : Rc) : SV (RT R) := ⟨fun v w => R < B ∧ RecVB w B v x, fun _ _ _ h hT => ⟨h.1, h.2.rt hT h.1⟩⟩
/-- Steps that lie ahead of block g stay, whatever becomes of that. -/
theorem RdPB.ahead {w : World} {B : Nat} {v : Value} {l : List (Int × Int)} (h : RdPB w B v l) {g : Nat} (hg : w.heap.size ≤ g) : 0 < l.length → ∀ a n c, v = .slice (some a) n c → a.block ≠ g := by
  intro h0 a n c e
  obtain ⟨⟨A, cap, rfl, h1, h2, h3⟩, _⟩ := h
  obtain ⟨b, o, rfl, hc⟩ := h3 h0
  cases e
  have := World.block_lt_of_cell? _ _ (hc 0 h0).1
  simp at this ⊢
  omega
theorem RdPB.rt2 {R B : Nat} {w w' : World} {v : Value} {l : List (Int × Int)} (h : RdPB w B v l) (hT : RT R w w') (hR : 0 < l.length → ∀ a n c, v = .slice (some a) n c → a.block ≠ R) : RdPB w' B v l := ⟨hT.pairs h.1 hR, h.2⟩
/-- Bytes that lie ahead of block g stay, whatever becomes of that. -/
theorem RdVB.rt2 {R B : Nat} {w w' : World} {v : Value} {l : List UInt8} (h : RdVB w B v l) (hT : RT R w w') (hR : w.heap.size ≤ R) : RdVB w' B v l := fun L hL =>
  (((h L hL).more (L' := R :: L) fun k hk hn hm => by rcases List.mem_cons.1 hm with rfl | hm; omega; exact hn hm).keep (hT.keep.more (by simp))).less (fun k hk => by simp [hk])
/-- Bytes outside the blocks of L, and in blocks from B on. -/
def RdVX (w : World) (B g : Nat) (v : Value) (l : List UInt8) : Prop := ∀ L, (∀ k ∈ L, k < B ∨ k = g) → RdV w L v l
theorem RdVB.ahead {w : World} {B : Nat} {v : Value} {l : List UInt8} (h : RdVB w B v l) {g : Nat} (hg : w.heap.size ≤ g) : RdVX w B g v l := fun L hL =>
  (h (L.filter (· < B)) (fun k hk => by simp at hk; exact hk.2)).more fun k hk hn hm => by
    rcases hL k hm with h1 | h1
    · exact hn (by simp [hm, h1])
    · omega
theorem RdVX.rt {R B g : Nat} {w w' : World} {v : Value} {l : List UInt8} (h : RdVX w B g v l) (hT : RT R w w') (hR : R < B ∨ R = g) : RdVX w' B g v l := fun L hL =>
  ((h (R :: L) (fun k hk => by rcases List.mem_cons.1 hk with rfl | hk; exact hR; exact hL k hk)).keep (hT.keep.more (by simp))).less (fun k hk => by simp [hk])
theorem RdVX.new {B g : Nat} {w w' : World} {v : Value} {l : List UInt8} (h : RdVX w B g v l) (hT : NewT w w') : RdVX w' B g v l := fun L hL => hT.rd (h L hL)
theorem RdVX.out {B g : Nat} {w : World} {v : Value} {l : List UInt8} (h : RdVX w B g v l) : RdVB w B v l := fun L hL => h L fun k hk => .inl (hL k hk)
/-- Steps outside block g, and in blocks from B on. -/
def RdPX (w : World) (B g : Nat) (v : Value) (l : List (Int × Int)) : Prop := RdPB w B v l ∧ (0 < l.length → ∀ a n c, v = .slice (some a) n c → a.block ≠ g)
theorem RdPB.aheadX {w : World} {B : Nat} {v : Value} {l : List (Int × Int)} (h : RdPB w B v l) {g : Nat} (hg : w.heap.size ≤ g) : RdPX w B g v l := ⟨h, h.ahead hg⟩
theorem RdPX.rt {R B g : Nat} {w w' : World} {v : Value} {l : List (Int × Int)} (h : RdPX w B g v l) (hT : RT R w w') (hR : R < B ∨ R = g) : RdPX w' B g v l := by
  refine ⟨h.1.rt2 hT fun h0 a n c e => ?_, h.2⟩
  rcases hR with hR | rfl
  · have := h.1.2 h0 a n c e; omega
  · exact h.2 h0 a n c e
theorem RdPX.new {B g : Nat} {w w' : World} {v : Value} {l : List (Int × Int)} (h : RdPX w B g v l) (hT : NewT w w') : RdPX w' B g v l := ⟨h.1.new hT, h.2⟩
def begR (x : Rc) : Rc := if x.gone then { zR with saga := x.saga, gone := x.gone, steps := x.steps, com := x.com } else { zR with saga := x.saga, gone := x.gone, steps := x.steps, salt := x.salt, data := x.data }
end Go.Proofs.YthgblcpekhiphaaDoor
/- Package rec: what a Begin is read from. -/
namespace Go.Proofs.YthgblcpekhiphaaDoor
open Go Go.RowKit
set_option maxRecDepth 8000
theorem build_begin (a : Int) (A0 : Option Addr) (n c : Nat) (e : Bool) (w : World) : (Instr.build 27 #[(1, .int .i64 a), (11, .slice A0 n c), (14, .bool e)]).run Tryd.prog w = .ok (.agg (rowA 109 (recF { zR with saga := a, gone := e } (.slice A0 n c) (.slice none 0 0)))) w := by kernel_rfl
set_option maxHeartbeats 4000000 in
theorem readBegin_cv (R : Nat) (x : Rc) (rest : List UInt8) (w : World) (h : Rdr w R ((hdL x ++ payL x) ++ rest) 0) (h0 : 0 ≤ x.saga ∧ x.saga ≤ 2147483647) (h6 : x.steps.length ≤ 6) (hok : x.steps.all stepOk = true) (h60 : x.data.length ≤ 60) (hl : rest.length ≤ 600000) :
    Calls Tryd.prog 57 #[.pointer (some ⟨R, 0, none⟩)] w fun e w' => ∃ v, e = .returned v ∧ RecVB w' (w.heap.size + 1) v (begR x) ∧ RT R w w' ∧ Rdr w' R rest 0 := by
  have hRl := h.lt
  obtain ⟨pz, hpz⟩ : ∃ pz, (if x.gone then hL x.com else hL x.salt ++ (numI x.data.length ++ x.data)) = pz := ⟨_, rfl⟩
  have hpl : pz.length ≤ 200 := by rw [← hpz]; have := numI_length x.data.length; split <;> simp [hL_length]; omega
  have HPZ := Lib.hid hpz
  rw [show (hdL x ++ payL x) ++ rest = numI x.saga ++ (numI x.steps.length ++ (stepsL x.steps ++ (fB x.gone :: (pz ++ rest)))) by unfold hdL payL; rw [hpz]; simp only [List.append_assoc, List.cons_append]] at h
  have Hr := Lib.hid h
  have Hok := Lib.hid hok
  have n0 := numI_length x.saga
  have n1 := numI_length x.steps.length
  have n2 := stepsL_len x.steps
  have n3 := numI_length x.data.length
  clear h hok hpz
  go_enter Tryd.func57, Tryd.ntmps57
  go_upto_region 1 with fail
  have r2 := rowIs_box w 27 109 (recF zR (.slice none 0 0) (.slice none 0 0))
  have hN := NewT.alloc w (.cells (rowA 109 (recF zR (.slice none 0 0) (.slice none 0 0))) 27)
  have hsz : w.heap.size < (w.alloc (.cells (rowA 109 (recF zR (.slice none 0 0) (.slice none 0 0))) 27)).heap.size := by simp
  change Code.wp _ _ _ _ (w.alloc (.cells (rowA 109 (recF zR (.slice none 0 0) (.slice none 0 0))) 27))
  generalize w.alloc (.cells (rowA 109 (recF zR (.slice none 0 0) (.slice none 0 0))) 27) = W0 at r2 hN hsz ⊢
  replace Hr := Lib.hid (Rdr.new Hr.out hN)
  have hne : w.heap.size ≠ R := by omega
  refine wp_region_steps (RT R) (fun k w => Rdr w R (([numI x.saga ++ (numI x.steps.length ++ (stepsL x.steps ++ (fB x.gone :: (pz ++ rest)))), numI x.saga ++ (numI x.steps.length ++ (stepsL x.steps ++ (fB x.gone :: (pz ++ rest)))), numI x.steps.length ++ (stepsL x.steps ++ (fB x.gone :: (pz ++ rest))), numI x.steps.length ++ (stepsL x.steps ++ (fB x.gone :: (pz ++ rest))), fB x.gone :: (pz ++ rest), fB x.gone :: (pz ++ rest), pz ++ rest] : List (List UInt8)).getD k []) 0) [SV.eq (.pointer (some ⟨R, 0, none⟩)), SV.eq (.int .i64 (x.saga)), SV.eq (.pointer (some ⟨R, 0, none⟩)), svPB R (w.heap.size + 1) x.steps, SV.eq (.pointer (some ⟨R, 0, none⟩)), SV.eq (.bool (x.gone))] [([(0, none)], none), ([(4, some 0)], none), ([(0, none)], none), ([(6, some 2)], none), ([(0, none)], none), ([(8, some 4)], none)] 23 6 rfl rfl (by kernel_rfl) RT.trans (RT.refl _ _) Hr.out (Nat.le_of_ble_eq_true rfl) ⟨?_, ?_, ?_, ?_, ?_, ?_, trivial⟩ ?_
  · intro a wx hT hF hJ K hK
    replace hK := fun v w' (hN : NewT wx w') c => hK v w' (RT.new (Rdr.lt hJ) hN) (Rdr.new hJ hN) c
    obtain ⟨f0, _⟩ := hF
    have f0 : a.tmps.getD 0 undef = .pointer (some ⟨R, 0, none⟩) := f0
    refine rely_wp rfl ?_
    exact opr_move (.inl rfl) (hK _ _ (NewT.refl _) f0)
  · intro a wx hT hF hJ K hK
    obtain ⟨f4, _⟩ := hF
    have f4 : a.tmps.getD 4 undef = .pointer (some ⟨R, 0, none⟩) := f4
    refine rely_wp rfl ?_
    refine opr_call rfl Tryd.func44 (by kernel_rfl) (by kernel_rfl) (by simp only [List.map_toArray, List.map_cons, List.map_nil, eval_tmp, f4]) ((RNum_put R x.saga _ wx (show Rdr wx R (numI x.saga ++ (numI x.steps.length ++ (stepsL x.steps ++ (fB x.gone :: (pz ++ rest))))) 0 from hJ) (by omega) (by first | omega | (simp; omega) | (simp [hL_length]; omega))).mono ?_)
    rintro e w' ⟨rfl, hT', hr⟩
    exact ⟨_, rfl, hK _ _ hT' hr rfl⟩
  · intro a wx hT hF hJ K hK
    replace hK := fun v w' (hN : NewT wx w') c => hK v w' (RT.new (Rdr.lt hJ) hN) (Rdr.new hJ hN) c
    obtain ⟨f0, _⟩ := hF
    have f0 : a.tmps.getD 0 undef = .pointer (some ⟨R, 0, none⟩) := f0
    refine rely_wp rfl ?_
    exact opr_move (.inl rfl) (hK _ _ (NewT.refl _) f0)
  · intro a wx hT hF hJ K hK
    obtain ⟨f6, _⟩ := hF
    have f6 : a.tmps.getD 6 undef = .pointer (some ⟨R, 0, none⟩) := f6
    refine rely_wp rfl ?_
    refine opr_call rfl Tryd.func79 (by kernel_rfl) (by kernel_rfl) (by simp only [List.map_toArray, List.map_cons, List.map_nil, eval_tmp, f6]) ((readSteps_cv R x.steps _ wx (show Rdr wx R (numI x.steps.length ++ (stepsL x.steps ++ (fB x.gone :: (pz ++ rest)))) 0 from hJ) (by omega) Hok.out (by first | omega | (simp; omega) | (simp [hL_length]; omega))).mono ?_)
    rintro e w' ⟨v, rfl, hv, hT', hr⟩
    exact ⟨_, rfl, hK _ _ hT' hr ⟨by omega, hv.mono (by have := hT.size; omega)⟩⟩
  · intro a wx hT hF hJ K hK
    replace hK := fun v w' (hN : NewT wx w') c => hK v w' (RT.new (Rdr.lt hJ) hN) (Rdr.new hJ hN) c
    obtain ⟨f0, _⟩ := hF
    have f0 : a.tmps.getD 0 undef = .pointer (some ⟨R, 0, none⟩) := f0
    refine rely_wp rfl ?_
    exact opr_move (.inl rfl) (hK _ _ (NewT.refl _) f0)
  · intro a wx hT hF hJ K hK
    obtain ⟨f8, _⟩ := hF
    have f8 : a.tmps.getD 8 undef = .pointer (some ⟨R, 0, none⟩) := f8
    refine rely_wp rfl ?_
    refine opr_call rfl Tryd.func80 (by kernel_rfl) (by kernel_rfl) (by simp only [List.map_toArray, List.map_cons, List.map_nil, eval_tmp, f8]) ((RFlag_put R x.gone _ wx (show Rdr wx R (fB x.gone :: (pz ++ rest)) 0 from hJ) (by first | omega | (simp; omega) | (simp [hL_length]; omega))).mono ?_)
    rintro e w' ⟨rfl, hT', hr⟩
    exact ⟨_, rfl, hK _ _ hT' hr rfl⟩
  · intro e1 k1 hJ
    intro u h; obtain rfl := Eq.symm (h (by simp)); clear h
    intro u h; obtain rfl := Eq.symm (h (by simp)); clear h
    intro u h; obtain rfl := Eq.symm (h (by simp)); clear h
    intro u7 h; have g7 := h (by simp); clear h; replace g7 := show (svPB R (w.heap.size + 1) x.steps).pred u7 e1 from g7
    intro u h; obtain rfl := Eq.symm (h (by simp)); clear h
    intro u h; obtain rfl := Eq.symm (h (by simp)); clear h
    refine relyEnd_nil rfl ?_
    simp only [Act.put, List.setIfInBounds_toArray, List.set_cons_zero, List.set_cons_succ]
    obtain ⟨_, G7⟩ := g7
    obtain ⟨A7, c7, e7, _⟩ := id G7.1
    subst e7
    refine wpList_plain rfl (fun K hK => ?_)
    refine opr_build (pv := #[(1, .int .i64 x.saga), (11, .slice A7 x.steps.length c7), (14, .bool x.gone)]) rfl (by simp only [List.map_toArray, List.map_cons, List.map_nil]; rfl) (build_begin _ _ _ _ _ _) (hK _ _ ?_)
    clear hK K
    refine wpList_new (n := 109) rfl rfl rfl rfl rfl rfl (by first | (simp; done) | simp [Act.put]) run_alloc_rec info_rec (recF_one _ _ _ rfl rfl) rfl ?_
    intro w1 hn1 r3
    refine wpList_end rfl ?_
    simp only [Act.put, List.setIfInBounds_toArray, List.set_cons_zero, List.set_cons_succ]
    go_simp
    have X2 := Lib.hid (hn1.row (k1.row hne r2))
    have X3 := Lib.hid r3
    have HJ1 := Lib.hid (Rdr.new (show Rdr e1 R (pz ++ rest) 0 from hJ) hn1)
    have HRT0 := Lib.hid (RT.trans _ _ _ (RT.trans _ _ _ (RT.new hRl hN) k1) (RT.new (Rdr.lt (show Rdr e1 R (pz ++ rest) 0 from hJ)) hn1))
    have hG : w.heap.size < e1.heap.size := Nat.lt_of_lt_of_le hsz k1.size
    have hGl : e1.heap.size < w1.heap.size := r3.lt
    have HP0 := Lib.hid ((G7.aheadX (Nat.le_refl _)).new hn1)
    have c14 : w1.cell? ⟨e1.heap.size, 76, none⟩ = some (.bool x.gone) := r3.cell (i := 76) (by omega)
    clear hJ r3 r2 hN hsz k1 hn1 Hr G7
    generalize e1.heap.size = G at X3 hG c14 HP0 hGl ⊢
    have hGR : G ≠ R := by omega
    have hne2 : w.heap.size ≠ G := by omega
    cases hg : x.gone
    · have HB : Hid (begR x = { zR with saga := x.saga, gone := x.gone, steps := x.steps, salt := x.salt, data := x.data }) := Lib.hid (by unfold begR; rw [hg]; rfl)
      rw [hg] at c14
      replace HJ1 : Hid (Rdr w1 R (hL x.salt ++ (numI x.data.length ++ (x.data ++ rest))) 0) := Lib.hid (by have := HJ1.out; rw [← HPZ.out, hg] at this; simpa using this)
      have HG := Lib.hid hg
      clear hg
      go_upto_region 4 with fail
      clear c14
      refine wp_region_steps (RT R) (fun k w => Rdr w R (([hL x.salt ++ (numI x.data.length ++ (x.data ++ rest)), hL x.salt ++ (numI x.data.length ++ (x.data ++ rest)), numI x.data.length ++ (x.data ++ rest), numI x.data.length ++ (x.data ++ rest), rest] : List (List UInt8)).getD k []) 0) [SV.eq (.pointer (some ⟨R, 0, none⟩)), SV.eq (.agg (rowA 32 (bF (x.salt)))), SV.eq (.pointer (some ⟨R, 0, none⟩)), svVB R (G + 1) x.data] [([(0, none)], none), ([(16, some 0)], none), ([(0, none)], none), ([(18, some 2)], none)] 23 4 rfl rfl (by kernel_rfl) RT.trans (RT.refl _ _) HJ1.out (Nat.le_of_ble_eq_true rfl) ⟨?_, ?_, ?_, ?_, trivial⟩ ?_
      · intro a wx hT hF hJ K hK
        replace hK := fun v w' (hN : NewT wx w') c => hK v w' (RT.new (Rdr.lt hJ) hN) (Rdr.new hJ hN) c
        obtain ⟨f0, _⟩ := hF
        have f0 : a.tmps.getD 0 undef = .pointer (some ⟨R, 0, none⟩) := f0
        refine rely_wp rfl ?_
        exact opr_move (.inl rfl) (hK _ _ (NewT.refl _) f0)
      · intro a wx hT hF hJ K hK
        obtain ⟨f16, _⟩ := hF
        have f16 : a.tmps.getD 16 undef = .pointer (some ⟨R, 0, none⟩) := f16
        refine rely_wp rfl ?_
        refine opr_call rfl Tryd.func81 (by kernel_rfl) (by kernel_rfl) (by simp only [List.map_toArray, List.map_cons, List.map_nil, eval_tmp, f16]) ((RHash_put R x.salt _ wx (show Rdr wx R (hL x.salt ++ (numI x.data.length ++ (x.data ++ rest))) 0 from hJ)).mono ?_)
        rintro e w' ⟨rfl, hT', hr⟩
        exact ⟨_, rfl, hK _ _ hT' hr rfl⟩
      · intro a wx hT hF hJ K hK
        replace hK := fun v w' (hN : NewT wx w') c => hK v w' (RT.new (Rdr.lt hJ) hN) (Rdr.new hJ hN) c
        obtain ⟨f0, _⟩ := hF
        have f0 : a.tmps.getD 0 undef = .pointer (some ⟨R, 0, none⟩) := f0
        refine rely_wp rfl ?_
        exact opr_move (.inl rfl) (hK _ _ (NewT.refl _) f0)
      · intro a wx hT hF hJ K hK
        obtain ⟨f18, _⟩ := hF
        have f18 : a.tmps.getD 18 undef = .pointer (some ⟨R, 0, none⟩) := f18
        refine rely_wp rfl ?_
        refine opr_call rfl Tryd.func82 (by kernel_rfl) (by kernel_rfl) (by simp only [List.map_toArray, List.map_cons, List.map_nil, eval_tmp, eval_const, f18]) ((RBytes_put R x.data rest 60 wx (show Rdr wx R (numI x.data.length ++ (x.data ++ rest)) 0 from hJ) (by omega) (by omega) (by first | omega | (simp; omega) | (simp [hL_length]; omega))).mono ?_)
        rintro e w' ⟨u, rfl, hu, hT', hr⟩
        exact ⟨_, rfl, hK _ _ hT' hr ⟨by omega, hu.mono (by have := hT.size; omega)⟩⟩
      · intro e2 k2 hJ
        intro u h; obtain rfl := Eq.symm (h (by simp)); clear h
        intro u h; obtain rfl := Eq.symm (h (by simp)); clear h
        intro u h; obtain rfl := Eq.symm (h (by simp)); clear h
        intro u19 h; have g19 := h (by simp); clear h; replace g19 := show (svVB R (G + 1) x.data).pred u19 e2 from g19
        refine relyEnd_nil rfl ?_
        simp only [Act.put, List.setIfInBounds_toArray, List.set_cons_zero, List.set_cons_succ]
        obtain ⟨_, G19⟩ := g19
        refine wpList_plain rfl (fun K hK => ?_)
        refine opr_fldR (by decide) rfl rfl (hK _ _ ?_)
        clear hK K
        refine wpList_plain rfl (fun K hK => ?_)
        refine opr_putm rfl rfl rfl (k2.row hGR X3.out) (by decide) info31 (fun _ => rfl) (fun i hi => rs_salt ({ zR with saga := x.saga, gone := x.gone }) (.slice A7 x.steps.length c7) (.slice none 0 0) i _ hi) ?_
        intro e3 k3 r4
        refine hK _ _ ?_
        clear hK K
        refine wpList_plain rfl (fun K hK => ?_)
        refine opr_fldR (by decide) rfl rfl (hK _ _ ?_)
        clear hK K
        refine wpList_plain rfl (fun K hK => ?_)
        refine opr_put1 rfl rfl rfl r4 (by decide) info_d1 (oneR G19.out) (fun i _ => rs_data ({ zR with saga := x.saga, gone := x.gone, salt := x.salt }) (.slice A7 x.steps.length c7) (.slice none 0 0) i _) ?_
        intro e4 k4 r5
        refine hK _ _ ?_
        clear hK K
        refine wpList_end rfl ?_
        go_simp
        have HJ3 := Lib.hid (Rdr.rt (Rdr.rt (show Rdr e2 R rest 0 from hJ) k3 (by omega)) k4 (by omega))
        have HRT : Hid (RT R w e4) := Lib.hid (RT.late2 (RT.late2 (RT.trans _ _ _ HRT0.out k2) (Nat.le_of_lt hG) hRl k3) (Nat.le_of_lt hG) hRl k4)
        have HX2 : Hid (e4.rowIs w.heap.size 27 109 (recF zR (.slice none 0 0) (.slice none 0 0))) := Lib.hid (k4.row hne2 (k3.row hne2 (k2.row hne X2.out)))
        have HP := Lib.hid (((HP0.out.rt k2 (.inl (by omega))).rt k3 (.inr rfl)).rt k4 (.inr rfl))
        have HV := Lib.hid ((G19.rt k3 (Nat.lt_succ_self _)).rt k4 (Nat.lt_succ_self _))
        clear hJ G19
        go_upto_region 5 with fail
        refine wp_region_steps0 NewT [SV.eq (.agg (rowA 109 (recF ({ zR with saga := x.saga, gone := x.gone, salt := x.salt }) (.slice A7 x.steps.length c7) u19)))] [([(3, none)], none)] 23 1 rfl rfl (by kernel_rfl) NewT.trans (NewT.refl _) (Nat.le_of_ble_eq_true rfl) ⟨?_, trivial⟩ ?_
        · intro a wx hT hF K hK
          obtain ⟨f3, _⟩ := hF
          have f3 : a.tmps.getD 3 undef = .pointer (some ⟨G, 0, none⟩) := f3
          refine rely_wp rfl ?_
          exact opr_ldR (hT.row r5) rfl f3 (hK _ _ (NewT.refl _) rfl)
        · intro wf kf
          intro u h; obtain rfl := Eq.symm (h (by simp)); clear h
          refine relyEnd_nil rfl ?_
          simp only [Act.put, List.setIfInBounds_toArray, List.set_cons_zero, List.set_cons_succ]
          refine wpList_plain rfl (fun K hK => ?_)
          refine opr_putm rfl rfl rfl (kf.row HX2.out) (by decide) info_rec (recF_one _ _ _ rfl (oneR HV.out.out)) (put_all _ _) ?_
          intro wq hTq rq
          refine hK _ _ ?_
          refine wpList_end rfl ?_
          go_simp
          go_wp2
          refine bodyPost_ret (results_agg rfl _ rfl rq Tryd.underlying27 rfl info_rec) rfl ⟨_, rfl, ?_, RT.late2 (RT.trans _ _ _ HRT.out (RT.new (Nat.lt_of_lt_of_le hRl HRT.out.size) kf)) (Nat.le_refl _) hRl hTq, Rdr.rt (HJ3.out.new kf) hTq hRl⟩
          rw [HB.out]
          exact ⟨(.slice A7 x.steps.length c7), u19, rfl, ((HP.out.new kf).rt hTq (by omega)).1, ((HV.out.new kf).rt hTq (by omega)).mono (by omega)⟩
    · have HB : Hid (begR x = { zR with saga := x.saga, gone := x.gone, steps := x.steps, com := x.com }) := Lib.hid (by unfold begR; rw [hg]; rfl)
      rw [hg] at c14
      replace HJ1 : Hid (Rdr w1 R (hL x.com ++ rest) 0) := Lib.hid (by have := HJ1.out; rw [← HPZ.out, hg] at this; simpa using this)
      have HG := Lib.hid hg
      clear hg
      go_upto_region 3 with fail
      clear c14
      refine wp_region_steps (RT R) (fun k w => Rdr w R (([hL x.com ++ rest, hL x.com ++ rest, rest] : List (List UInt8)).getD k []) 0) [SV.eq (.pointer (some ⟨R, 0, none⟩)), SV.eq (.agg (rowA 32 (bF (x.com))))] [([(0, none)], none), ([(13, some 0)], none)] 23 2 rfl rfl (by kernel_rfl) RT.trans (RT.refl _ _) HJ1.out (Nat.le_of_ble_eq_true rfl) ⟨?_, ?_, trivial⟩ ?_
      · intro a wx hT hF hJ K hK
        replace hK := fun v w' (hN : NewT wx w') c => hK v w' (RT.new (Rdr.lt hJ) hN) (Rdr.new hJ hN) c
        obtain ⟨f0, _⟩ := hF
        have f0 : a.tmps.getD 0 undef = .pointer (some ⟨R, 0, none⟩) := f0
        refine rely_wp rfl ?_
        exact opr_move (.inl rfl) (hK _ _ (NewT.refl _) f0)
      · intro a wx hT hF hJ K hK
        obtain ⟨f13, _⟩ := hF
        have f13 : a.tmps.getD 13 undef = .pointer (some ⟨R, 0, none⟩) := f13
        refine rely_wp rfl ?_
        refine opr_call rfl Tryd.func81 (by kernel_rfl) (by kernel_rfl) (by simp only [List.map_toArray, List.map_cons, List.map_nil, eval_tmp, f13]) ((RHash_put R x.com _ wx (show Rdr wx R (hL x.com ++ rest) 0 from hJ)).mono ?_)
        rintro e w' ⟨rfl, hT', hr⟩
        exact ⟨_, rfl, hK _ _ hT' hr rfl⟩
      · intro e2 k2 hJ
        intro u h; obtain rfl := Eq.symm (h (by simp)); clear h
        intro u h; obtain rfl := Eq.symm (h (by simp)); clear h
        refine relyEnd_nil rfl ?_
        simp only [Act.put, List.setIfInBounds_toArray, List.set_cons_zero, List.set_cons_succ]
        refine wpList_plain rfl (fun K hK => ?_)
        refine opr_fldR (by decide) rfl rfl (hK _ _ ?_)
        clear hK K
        refine wpList_plain rfl (fun K hK => ?_)
        refine opr_putm rfl rfl rfl (k2.row hGR X3.out) (by decide) info31 (fun _ => rfl) (fun i hi => rs_com ({ zR with saga := x.saga, gone := x.gone }) (.slice A7 x.steps.length c7) (.slice none 0 0) i _ hi) ?_
        intro e3 k3 r4
        refine hK _ _ ?_
        clear hK K
        refine wpList_end rfl ?_
        go_simp
        have HJ3 := Lib.hid (Rdr.rt (show Rdr e2 R rest 0 from hJ) k3 (by omega))
        have HRT : Hid (RT R w e3) := Lib.hid (RT.late2 (RT.trans _ _ _ HRT0.out k2) (Nat.le_of_lt hG) hRl k3)
        have HX2 : Hid (e3.rowIs w.heap.size 27 109 (recF zR (.slice none 0 0) (.slice none 0 0))) := Lib.hid (k3.row hne2 (k2.row hne X2.out))
        have HP := Lib.hid ((HP0.out.rt k2 (.inl (by omega))).rt k3 (.inr rfl))
        clear hJ
        go_upto_region 5 with fail
        refine wp_region_steps0 NewT [SV.eq (.agg (rowA 109 (recF ({ zR with saga := x.saga, gone := x.gone, com := x.com }) (.slice A7 x.steps.length c7) (.slice none 0 0))))] [([(3, none)], none)] 23 1 rfl rfl (by kernel_rfl) NewT.trans (NewT.refl _) (Nat.le_of_ble_eq_true rfl) ⟨?_, trivial⟩ ?_
        · intro a wx hT hF K hK
          obtain ⟨f3, _⟩ := hF
          have f3 : a.tmps.getD 3 undef = .pointer (some ⟨G, 0, none⟩) := f3
          refine rely_wp rfl ?_
          exact opr_ldR (hT.row r4) rfl f3 (hK _ _ (NewT.refl _) rfl)
        · intro wf kf
          intro u h; obtain rfl := Eq.symm (h (by simp)); clear h
          refine relyEnd_nil rfl ?_
          simp only [Act.put, List.setIfInBounds_toArray, List.set_cons_zero, List.set_cons_succ]
          refine wpList_plain rfl (fun K hK => ?_)
          refine opr_putm rfl rfl rfl (kf.row HX2.out) (by decide) info_rec (recF_one _ _ _ rfl rfl) (put_all _ _) ?_
          intro wq hTq rq
          refine hK _ _ ?_
          refine wpList_end rfl ?_
          go_simp
          go_wp2
          refine bodyPost_ret (results_agg rfl _ rfl rq Tryd.underlying27 rfl info_rec) rfl ⟨_, rfl, ?_, RT.late2 (RT.trans _ _ _ HRT.out (RT.new (Nat.lt_of_lt_of_le hRl HRT.out.size) kf)) (Nat.le_refl _) hRl hTq, Rdr.rt (HJ3.out.new kf) hTq hRl⟩
          rw [HB.out]
          exact ⟨(.slice A7 x.steps.length c7), (.slice none 0 0), rfl, ((HP.out.new kf).rt hTq (by omega)).1, RdVB.nil _ _⟩
end Go.Proofs.YthgblcpekhiphaaDoor
/- Records read again, on lists: what is read is what a kind has alone, and that is right, and the same. -/
namespace Go.Proofs.YthgblcpekhiphaaDoor
open Go Go.RowKit
set_option maxRecDepth 8000
theorem hZ_same {d e : Nat → UInt8} (h : hL d = hL e) : hZ d = hZ e := by rw [Bool.eq_iff_iff, hZ_iff, hZ_iff, h]
theorem right_same {x y : Rc} (h : SameR x y) : rightB x = rightB y := by
  unfold rightB noCall noReceipt noBegin isCall
  rw [h.kind, h.saga, h.seq, h.step, h.tr, h.back, h.good, h.nd, h.part, h.epoch, h.steps, h.data, h.gone, hZ_same h.tag, hZ_same h.salt, hZ_same h.com]
theorem only_same (x : Rc) (h : rightB x = true) : SameR x (onlyR x) := by
  rw [← right_eq, Bool.and_eq_true, sameB_iff] at h
  exact h.2
theorem right_only (x : Rc) (h : rightB x = true) : rightB (onlyR x) = true := by rw [← right_same (only_same x h)]; exact h
theorem only_kind (x : Rc) : (onlyR x).kind = x.kind := by
  unfold onlyR
  repeat' split
  all_goals rfl
/-- What is read behind a kind. -/
def bodyR (x : Rc) : Rc := { onlyR x with kind := 0 }
theorem body_kind (x : Rc) (sv dv : Value) : recF { bodyR x with kind := x.kind } sv dv = recF (onlyR x) sv dv := by
  rw [show ({ bodyR x with kind := x.kind } : Rc) = onlyR x by unfold bodyR; rw [← only_kind x]]
theorem body_1 (x : Rc) (hk : x.kind = 1) : begR x = bodyR x := by
  unfold begR bodyR onlyR
  rw [if_pos hk]
  cases x.gone <;> rfl
theorem results_2 {P : Program} {w : World} {b : Nat} {t : TypeId} {n : Nat} {f : Nat → Value} {d : TypeDesc} {fn : Func} {p u : Tmp} {ty : TypeId} (hf : fn.results = #[.cell p ty, .tmp u]) (tmps : Array Value) (hp : tmps.getD p undef = .pointer (some ⟨b, 0, none⟩))
    (h : w.rowIs b t n f) (hu : P.underlying ty = some d) (hd : d.isRow = true) (hi : (P.info? ty).map (·.size) = some n) : (results fn tmps).run P w = .ok (.tuple #[.agg (rowA n f), tmps.getD u undef]) w := by
  have := run_loadVar_mid (P := P) w b 0 ty (rowA n f).toList d (rangeAt_row h) hu hd (by rw [hi, rowA_toList]; simp)
  have hp' : tmps[p]?.getD undef = .pointer (some ⟨b, 0, none⟩) := by simpa using hp
  simp [results, hf, hp', asAddr, this]
/-- A record and an error's number. -/
def svTup (x : Rc) (e : Int) : SV NewT := ⟨fun v w => ∃ r, v = .tuple #[r, .int .i64 e] ∧ RecV w r x, fun _ _ _ ⟨r, h1, h2⟩ hT => ⟨r, h1, hT.recV h2⟩⟩
/-- The function that reads a kind. -/
def rdF (k : Int) : Nat := if k = 1 then 57 else if k = 3 then 61 else if k = 2 ∨ k = 4 then 59 else if k = 5 then 63 else 65
theorem idx_kind (k : Int) (h : 1 ≤ k ∧ k ≤ 6) (w : World) : ∃ f : Nat → Value, f 2 = fnV (rdF k) ∧ (Instr.index 57 (.agg (rowA 21 formF)) (.int .i64 k)).run Tryd.prog w = .ok (.agg (rowA 3 f)) w := by
  have : k = 1 ∨ k = 2 ∨ k = 3 ∨ k = 4 ∨ k = 5 ∨ k = 6 := by omega
  rcases this with rfl | rfl | rfl | rfl | rfl | rfl
  · exact ⟨_, rfl, idx_1 w⟩
  · exact ⟨_, rfl, idx_2 w⟩
  · exact ⟨_, rfl, idx_3 w⟩
  · exact ⟨_, rfl, idx_4 w⟩
  · exact ⟨_, rfl, idx_5 w⟩
  · exact ⟨_, rfl, idx_6 w⟩
theorem rdF_fn (k : Int) (h : 1 ≤ k ∧ k ≤ 6) : ∃ fn, Tryd.prog.funcs[rdF k]? = some fn ∧ (fn.name == "runtime.NumGoroutine") = false ∧ fn.body.isNone = false := by
  have : k = 1 ∨ k = 2 ∨ k = 3 ∨ k = 4 ∨ k = 5 ∨ k = 6 := by omega
  rcases this with rfl | rfl | rfl | rfl | rfl | rfl
  · exact ⟨_, Tryd.func57, by kernel_rfl, by kernel_rfl⟩
  · exact ⟨_, Tryd.func59, by kernel_rfl, by kernel_rfl⟩
  · exact ⟨_, Tryd.func61, by kernel_rfl, by kernel_rfl⟩
  · exact ⟨_, Tryd.func59, by kernel_rfl, by kernel_rfl⟩
  · exact ⟨_, Tryd.func63, by kernel_rfl, by kernel_rfl⟩
  · exact ⟨_, Tryd.func65, by kernel_rfl, by kernel_rfl⟩
end Go.Proofs.YthgblcpekhiphaaDoor
/- Package rec: Read and Get, of what was put, and of an unknown kind. -/
namespace Go.Proofs.YthgblcpekhiphaaDoor
open Go Go.RowKit
set_option maxRecDepth 8000
theorem nums_range (x : Rc) (h : rightB x = true) : (x.kind = 1 → (0 ≤ x.saga ∧ x.saga ≤ 2147483647) ∧ x.steps.all stepOk = true) ∧ (x.kind = 2 ∨ x.kind = 4 ∨ x.kind = 3 → (0 ≤ x.saga ∧ x.saga ≤ 2147483647) ∧ (0 ≤ x.seq ∧ x.seq ≤ 2147483647) ∧ (0 ≤ x.step ∧ x.step ≤ 2147483647) ∧ (0 ≤ x.tr ∧ x.tr ≤ 2147483647)) ∧
    (x.kind = 3 → (0 ≤ x.part ∧ x.part ≤ 2147483647) ∧ (0 ≤ x.epoch ∧ x.epoch ≤ 2147483647)) ∧ (x.kind = 5 → (0 ≤ x.saga ∧ x.saga ≤ 2147483647) ∧ (0 ≤ x.seq ∧ x.seq ≤ 2147483647) ∧ (0 ≤ x.nd ∧ x.nd ≤ 2147483647)) ∧ (x.kind = 6 → (0 ≤ x.part ∧ x.part ≤ 2147483647) ∧ (0 ≤ x.epoch ∧ x.epoch ≤ 2147483647)) := by
  rw [← right_eq, Bool.and_eq_true] at h
  have h := h.1
  unfold inRg at h
  refine ⟨fun hk => ?_, fun hk => ?_, fun hk => ?_, fun hk => ?_, fun hk => ?_⟩
  · rw [if_pos hk] at h
    simp only [Bool.and_eq_true, stepsOk, inR_iff] at h
    exact ⟨by omega, h.1.2.2⟩
  · rw [if_neg (by omega)] at h
    by_cases h3 : x.kind = 3
    · rw [if_pos h3] at h
      simp only [Bool.and_eq_true, inR_iff] at h
      omega
    · rw [if_neg h3, if_pos (by omega)] at h
      simp only [Bool.and_eq_true, inR_iff] at h
      omega
  · rw [if_neg (by omega), if_pos hk] at h
    simp only [Bool.and_eq_true, Bool.not_eq_true', Bool.or_eq_false_iff, Bool.not_eq_false', inR_iff] at h
    omega
  · rw [if_neg (by omega), if_neg (by omega), if_neg (by omega), if_pos hk] at h
    simp only [Bool.and_eq_true, inR_iff] at h
    omega
  · rw [if_neg (by omega), if_neg (by omega), if_neg (by omega), if_neg (by omega), if_pos hk] at h
    simp only [Bool.and_eq_true, inR_iff] at h
    omega
theorem tail_1 (x : Rc) (hk : x.kind = 1) : tailL x (payL x) = hdL x ++ payL x := by unfold tailL hdL; rw [if_pos hk]; simp
theorem nilB {x : Rc} {w : World} {B : Nat} (hs : x.steps = []) (hd : x.data = []) : RecVB w B (.agg (rowA 109 (recF x (.slice none 0 0) (.slice none 0 0)))) x := ⟨_, _, rfl, by rw [hs]; exact RdPB.nil _ _, by rw [hd]; exact RdVB.nil _ _⟩
/-- Whatever kind it is: what stands behind the kind is read. -/
theorem readKind_cv (R : Nat) (x : Rc) (rest : List UInt8) (w : World) (hr : rightB x = true) (h : Rdr w R (tailL x (payL x) ++ rest) 0) (hl : rest.length ≤ 500000) :
    Calls Tryd.prog (rdF x.kind) #[.pointer (some ⟨R, 0, none⟩)] w fun e w' => ∃ v, e = .returned v ∧ RecVB w' (w.heap.size + 1) v (bodyR x) ∧ RT R w w' ∧ Rdr w' R rest 0 := by
  have hk6 := right_kind x hr
  obtain ⟨q1, q2, q3, q5, q6⟩ := nums_range x hr
  have hd := right_data x hr
  have hs := right_steps x hr
  by_cases k1 : x.kind = 1
  · rw [tail_1 x k1] at h
    rw [← body_1 x k1, show rdF x.kind = 57 by unfold rdF; rw [if_pos k1]]
    exact readBegin_cv R x rest w h (q1 k1).1 hs (q1 k1).2 hd (by omega)
  by_cases k3 : x.kind = 3
  · rw [tail_3 x _ k3] at h
    obtain ⟨a1, a2, a3, a4⟩ := q2 (.inr (.inr k3))
    obtain ⟨a5, a6⟩ := q3 k3
    rw [show rdF x.kind = 61 by unfold rdF; rw [if_neg k1, if_pos k3]]
    refine (readReceipt_cv R x rest w h a1 a2 a3 a4 a5 a6 (by omega)).mono ?_
    rintro e w' ⟨rfl, hT, hJ⟩
    refine ⟨_, rfl, ?_, hT, hJ⟩
    rw [show bodyR x = { tryR x with good := x.good, part := x.part, epoch := x.epoch, tag := x.tag } by unfold bodyR onlyR; rw [if_neg k1, if_pos k3]; rfl]
    exact nilB rfl rfl
  by_cases k2 : x.kind = 2 ∨ x.kind = 4
  · rw [tail_2 x _ k2] at h
    obtain ⟨a1, a2, a3, a4⟩ := q2 (by omega)
    rw [show rdF x.kind = 59 by unfold rdF; rw [if_neg k1, if_neg k3, if_pos k2]]
    refine (readTry_cv R x rest w h a1 a2 a3 a4 (by omega)).mono ?_
    rintro e w' ⟨rfl, hT, hJ⟩
    refine ⟨_, rfl, ?_, hT, hJ⟩
    rw [show bodyR x = tryR x by unfold bodyR onlyR; rw [if_neg k1, if_neg k3, if_pos k2]; rfl]
    exact nilB rfl rfl
  by_cases k5 : x.kind = 5
  · rw [tail_5 x _ k5] at h
    obtain ⟨a1, a2, a3⟩ := q5 k5
    rw [show rdF x.kind = 63 by unfold rdF; rw [if_neg k1, if_neg k3, if_neg k2, if_pos k5]]
    refine (readClosed_cv R x rest w h a1 a2 a3 (by omega)).mono ?_
    rintro e w' ⟨rfl, hT, hJ⟩
    refine ⟨_, rfl, ?_, hT, hJ⟩
    rw [show bodyR x = { zR with saga := x.saga, seq := x.seq, nd := x.nd } by unfold bodyR onlyR; rw [if_neg k1, if_neg k3, if_neg k2, if_pos k5]; rfl]
    exact nilB rfl rfl
  have k6 : x.kind = 6 := by omega
  rw [tail_6 x _ k6] at h
  obtain ⟨a1, a2⟩ := q6 k6
  rw [show rdF x.kind = 65 by unfold rdF; rw [if_neg k1, if_neg k3, if_neg k2, if_neg k5]]
  refine (readRotate_cv R x rest w h a1 a2 (by omega)).mono ?_
  rintro e w' ⟨rfl, hT, hJ⟩
  refine ⟨_, rfl, ?_, hT, hJ⟩
  rw [show bodyR x = { zR with part := x.part, epoch := x.epoch } by unfold bodyR onlyR; rw [if_neg k1, if_neg k3, if_neg k2, if_neg k5, if_pos k6]; rfl]
  exact nilB rfl rfl
theorem open_len (x : Rc) (hr : rightB x = true) : (openL x).length ≤ 1000 := by
  have hd := right_data x hr
  have hs := right_steps x hr
  have hk6 := right_kind x hr
  have n0 := numI_length x.kind
  have n1 := numI_length x.data.length
  unfold openL
  rw [List.length_append]
  by_cases k1 : x.kind = 1
  · rw [tail_1 x k1]
    have := hdL_len x (by omega)
    have : (payL x).length ≤ 200 := by unfold payL; split <;> simp [hL_length]; omega
    simp; omega
  by_cases k3 : x.kind = 3
  · rw [tail_3 x _ k3]; have := rcL_len x; omega
  by_cases k2 : x.kind = 2 ∨ x.kind = 4
  · rw [tail_2 x _ k2]; have := callL_len x; omega
  by_cases k5 : x.kind = 5
  · rw [tail_5 x _ k5]; have := clL_len x; omega
  rw [tail_6 x _ (by omega)]; have := roL_len x; omega
def svFm {R : Nat} (k : Nat) : SV (RT R) := ⟨fun v _ => ∃ f : Nat → Value, v = .agg (rowA 3 f) ∧ f 2 = fnV k, fun _ _ _ h _ => h⟩
set_option maxHeartbeats 4000000 in
theorem RRead_cv (R : Nat) (x : Rc) (rest : List UInt8) (w : World) (hr : rightB x = true) (h : Rdr w R (openL x ++ rest) 0) (hl : rest.length ≤ 400000) :
    Calls Tryd.prog 26 #[.pointer (some ⟨R, 0, none⟩)] w fun e w' => ∃ v, e = .returned v ∧ RecVB w' (w.heap.size + 1) v (onlyR x) ∧ RT R w w' ∧ Rdr w' R rest 0 := by
  have hRl := h.lt
  have hol := open_len x hr
  have htl : (tailL x (payL x)).length ≤ 1000 := by unfold openL at hol; simp at hol; omega
  rw [show openL x ++ rest = numI x.kind ++ (tailL x (payL x) ++ rest) by unfold openL; simp only [List.append_assoc]] at h
  have Hr := Lib.hid h
  have Hri := Lib.hid hr
  have hk6 := right_kind x hr
  have HW : Hid (inR x.kind 1 6 = true) := Lib.hid ((inR_iff _ _ _).2 hk6)
  have HR := Lib.hid (right_only x hr)
  clear h hr hol
  go_enter Tryd.func26, Tryd.ntmps26
  go_upto_region 1 with fail
  have r2 := rowIs_box w 27 109 (recF zR (.slice none 0 0) (.slice none 0 0))
  have hN := NewT.alloc w (.cells (rowA 109 (recF zR (.slice none 0 0) (.slice none 0 0))) 27)
  have hsz : w.heap.size < (w.alloc (.cells (rowA 109 (recF zR (.slice none 0 0) (.slice none 0 0))) 27)).heap.size := by simp
  change Code.wp _ _ _ _ (w.alloc (.cells (rowA 109 (recF zR (.slice none 0 0) (.slice none 0 0))) 27))
  generalize w.alloc (.cells (rowA 109 (recF zR (.slice none 0 0) (.slice none 0 0))) 27) = W0 at r2 hN hsz ⊢
  replace Hr := Lib.hid (Rdr.new Hr.out hN)
  have hne : w.heap.size ≠ R := by omega
  refine wp_region_steps (RT R) (fun k w => Rdr w R (([numI x.kind ++ (tailL x (payL x) ++ rest), numI x.kind ++ (tailL x (payL x) ++ rest), tailL x (payL x) ++ rest, tailL x (payL x) ++ rest] : List (List UInt8)).getD k []) 0) [SV.eq (.pointer (some ⟨R, 0, none⟩)), SV.eq (.int .i64 (x.kind)), SV.eq (.int .i64 (x.kind))] [([(0, none)], none), ([(5, some 0)], none), ([(6, some 1)], none)] 31 3 rfl rfl (by kernel_rfl) RT.trans (RT.refl _ _) Hr.out (Nat.le_of_ble_eq_true rfl) ⟨?_, ?_, ?_, trivial⟩ ?_
  · intro a wx hT hF hJ K hK
    replace hK := fun v w' (hN : NewT wx w') c => hK v w' (RT.new (Rdr.lt hJ) hN) (Rdr.new hJ hN) c
    obtain ⟨f0, _⟩ := hF
    have f0 : a.tmps.getD 0 undef = .pointer (some ⟨R, 0, none⟩) := f0
    refine rely_wp rfl ?_
    exact opr_move (.inl rfl) (hK _ _ (NewT.refl _) f0)
  · intro a wx hT hF hJ K hK
    obtain ⟨f5, _⟩ := hF
    have f5 : a.tmps.getD 5 undef = .pointer (some ⟨R, 0, none⟩) := f5
    refine rely_wp rfl ?_
    refine opr_call rfl Tryd.func44 (by kernel_rfl) (by kernel_rfl) (by simp only [List.map_toArray, List.map_cons, List.map_nil, eval_tmp, f5]) ((RNum_put R x.kind _ wx (show Rdr wx R (numI x.kind ++ (tailL x (payL x) ++ rest)) 0 from hJ) (by omega) (by first | omega | (simp; omega) | (simp [hL_length]; omega))).mono ?_)
    rintro e w' ⟨rfl, hT', hr⟩
    exact ⟨_, rfl, hK _ _ hT' hr rfl⟩
  · intro a wx hT hF hJ K hK
    replace hK := fun v w' (hN : NewT wx w') c => hK v w' (RT.new (Rdr.lt hJ) hN) (Rdr.new hJ hN) c
    obtain ⟨f6, _⟩ := hF
    have f6 : a.tmps.getD 6 undef = .int .i64 (x.kind) := f6
    refine rely_wp rfl ?_
    exact opr_move (.inr rfl) (hK _ _ (NewT.refl _) f6)
  · intro e1 k1 hJ
    intro u h; obtain rfl := Eq.symm (h (by simp)); clear h
    intro u h; obtain rfl := Eq.symm (h (by simp)); clear h
    intro u h; obtain rfl := Eq.symm (h (by simp)); clear h
    refine relyEnd_nil rfl ?_
    refine wpList_end rfl ?_
    simp only [Act.put, List.setIfInBounds_toArray, List.set_cons_zero, List.set_cons_succ]
    go_simp
    have HJ1 := Lib.hid (show Rdr e1 R (tailL x (payL x) ++ rest) 0 from hJ)
    clear hJ
    go_upto_region 2 with fail
    refine wp_region_steps0 NewT [SV.eq (.int .i64 (x.kind)), SV.eq (.bool true), SV.eq (.bool false)] [([(3, none)], none), ([(7, some 0)], none), ([(8, some 1)], none)] 31 3 rfl rfl (by kernel_rfl) NewT.trans (NewT.refl _) (Nat.le_of_ble_eq_true rfl) ⟨?_, ?_, ?_, trivial⟩ ?_
    · intro a wx hT hF K hK
      obtain ⟨f3, _⟩ := hF
      have f3 : a.tmps.getD 3 undef = .int .i64 (x.kind) := f3
      refine rely_wp rfl ?_
      exact opr_move (.inl rfl) (hK _ _ (NewT.refl _) f3)
    · intro a wx hT hF K hK
      obtain ⟨f7, _⟩ := hF
      have f7 : a.tmps.getD 7 undef = .int .i64 (x.kind) := f7
      refine rely_wp rfl ?_
      exact opr_cv (HW.out ▸ within_cv x.kind 1 6 wx) rfl Tryd.func45 (by kernel_rfl) (by kernel_rfl) (by simp only [List.map_toArray, List.map_cons, List.map_nil, eval_tmp, eval_const, f7]) hK
    · intro a wx hT hF K hK
      obtain ⟨f8, _⟩ := hF
      have f8 : a.tmps.getD 8 undef = .bool true := f8
      refine rely_wp rfl ?_
      exact opr_not rfl f8 (hK _ _ (NewT.refl _) rfl)
    · intro e2 k2
      intro u h; obtain rfl := Eq.symm (h (by simp)); clear h
      intro u h; obtain rfl := Eq.symm (h (by simp)); clear h
      intro u h; obtain rfl := Eq.symm (h (by simp)); clear h
      refine relyEnd_nil rfl ?_
      refine wpList_end rfl ?_
      simp only [Act.put, List.setIfInBounds_toArray, List.set_cons_zero, List.set_cons_succ]
      go_simp
      have HJ2 := Lib.hid (HJ1.out.new k2)
      have hsz2 : w.heap.size < e2.heap.size := Nat.lt_of_lt_of_le hsz (Nat.le_trans k1.size k2.out.size)
      have HRT2 := Lib.hid (RT.trans _ _ _ (RT.trans _ _ _ (RT.new hRl hN) k1) (RT.new HJ1.out.lt k2))
      have X2 := Lib.hid (NewT.row k2 (k1.row hne r2))
      clear hN r2 Hr HJ1 k1 k2 hsz
      go_upto_region 5 with fail
      refine wp_region_steps (RT R) (fun k w => Rdr w R (([tailL x (payL x) ++ rest, tailL x (payL x) ++ rest, tailL x (payL x) ++ rest, tailL x (payL x) ++ rest, tailL x (payL x) ++ rest, tailL x (payL x) ++ rest, rest] : List (List UInt8)).getD k []) 0) [SV.eq (.agg (rowA 21 (formF))), SV.eq (.int .i64 (x.kind)), svFm (rdF x.kind), SV.eq (fnV (rdF x.kind)), SV.eq (.pointer (some ⟨R, 0, none⟩)), svRecB R (w.heap.size + 1) (bodyR x)] [([], none), ([(3, none)], none), ([(13, some 0), (14, some 1)], none), ([(15, some 2)], none), ([(0, none)], none), ([(16, some 3), (17, some 4)], none)] 31 6 rfl rfl (by kernel_rfl) RT.trans (RT.refl _ _) HJ2.out (Nat.le_of_ble_eq_true rfl) ⟨?_, ?_, ?_, ?_, ?_, ?_, trivial⟩ ?_
      · intro a wx hT hF hJ K hK
        replace hK := fun v w' (hN : NewT wx w') c => hK v w' (RT.new (Rdr.lt hJ) hN) (Rdr.new hJ hN) c
        refine rely_wp rfl ?_
        exact opr_cv (forms_cv wx) rfl Tryd.func39 (by kernel_rfl) (by kernel_rfl) (by simp only [List.map_toArray, List.map_nil]) hK
      · intro a wx hT hF hJ K hK
        replace hK := fun v w' (hN : NewT wx w') c => hK v w' (RT.new (Rdr.lt hJ) hN) (Rdr.new hJ hN) c
        obtain ⟨f3, _⟩ := hF
        have f3 : a.tmps.getD 3 undef = .int .i64 (x.kind) := f3
        refine rely_wp rfl ?_
        exact opr_move (.inl rfl) (hK _ _ (NewT.refl _) f3)
      · intro a wx hT hF hJ K hK
        replace hK := fun v w' (hN : NewT wx w') c => hK v w' (RT.new (Rdr.lt hJ) hN) (Rdr.new hJ hN) c
        obtain ⟨f13, f14, _⟩ := hF
        have f13 : a.tmps.getD 13 undef = .agg (rowA 21 (formF)) := f13
        have f14 : a.tmps.getD 14 undef = .int .i64 (x.kind) := f14
        refine rely_wp rfl ?_
        obtain ⟨ff, hff, hrun⟩ := idx_kind x.kind hk6 wx
        exact opr_idx rfl f13 f14 hrun (hK _ _ (NewT.refl _) ⟨ff, rfl, hff⟩)
      · intro a wx hT hF hJ K hK
        replace hK := fun v w' (hN : NewT wx w') c => hK v w' (RT.new (Rdr.lt hJ) hN) (Rdr.new hJ hN) c
        obtain ⟨f15, _⟩ := hF
        replace f15 := show (svFm (rdF x.kind)).pred (a.tmps.getD 15 undef) wx from f15
        refine rely_wp rfl ?_
        obtain ⟨ff, hff, hf2⟩ := f15
        exact opr_fieldv rfl hff (fldv_2 ff _ hf2 wx) (hK _ _ (NewT.refl _) rfl)
      · intro a wx hT hF hJ K hK
        replace hK := fun v w' (hN : NewT wx w') c => hK v w' (RT.new (Rdr.lt hJ) hN) (Rdr.new hJ hN) c
        obtain ⟨f0, _⟩ := hF
        have f0 : a.tmps.getD 0 undef = .pointer (some ⟨R, 0, none⟩) := f0
        refine rely_wp rfl ?_
        exact opr_move (.inl rfl) (hK _ _ (NewT.refl _) f0)
      · intro a wx hT hF hJ K hK
        obtain ⟨f16, f17, _⟩ := hF
        have f16 : a.tmps.getD 16 undef = fnV (rdF x.kind) := f16
        have f17 : a.tmps.getD 17 undef = .pointer (some ⟨R, 0, none⟩) := f17
        refine rely_wp rfl ?_
        obtain ⟨fn, hf1, hf2, hf3⟩ := rdF_fn x.kind hk6
        refine opr_callv rfl f16 hf1 hf2 hf3 (by simp only [List.map_toArray, List.map_cons, List.map_nil, eval_tmp, f17]; rfl) (Calls.mono (readKind_cv R x rest wx Hri.out (show Rdr wx R (tailL x (payL x) ++ rest) 0 from hJ) (by omega)) ?_)
        rintro e w' ⟨v, rfl, hv, hT', hr⟩
        exact ⟨v, rfl, hK _ _ hT' hr ⟨by omega, hv.mono (by have := hT.size; omega)⟩⟩
      · intro e5 k5 hJ
        intro u h; obtain rfl := Eq.symm (h (by simp)); clear h
        intro u h; obtain rfl := Eq.symm (h (by simp)); clear h
        intro _ _
        intro u h; obtain rfl := Eq.symm (h (by simp)); clear h
        intro u h; obtain rfl := Eq.symm (h (by simp)); clear h
        intro u18 h; have g18 := h (by simp); clear h; replace g18 := show (svRecB R (w.heap.size + 1) (bodyR x)).pred u18 e5 from g18
        refine relyEnd_nil rfl ?_
        simp only [Act.put, List.setIfInBounds_toArray, List.set_cons_zero, List.set_cons_succ]
        obtain ⟨_, sv, dv, e18, G18, V18⟩ := g18
        subst e18
        refine wpList_new (n := 109) rfl rfl rfl rfl rfl rfl (by simp) run_alloc_rec info_rec (recF_one _ _ _ (oneP G18.1) (oneR V18.out)) rfl ?_
        intro w6 hn6 r4
        refine wpList_end rfl ?_
        simp only [Act.put, List.setIfInBounds_toArray, List.set_cons_zero, List.set_cons_succ]
        go_simp
        have HJ5 := Lib.hid (Rdr.new (show Rdr e5 R rest 0 from hJ) hn6)
        have HRT5 := Lib.hid (RT.trans _ _ _ (RT.trans _ _ _ HRT2.out k5) (RT.new (Rdr.lt (show Rdr e5 R rest 0 from hJ)) hn6))
        have X4 := Lib.hid r4
        have X5 := Lib.hid (hn6.row (k5.row hne X2.out))
        have hG : w.heap.size < e5.heap.size := Nat.lt_of_lt_of_le hsz2 k5.size
        have HP0 := Lib.hid ((G18.aheadX (Nat.le_refl _)).new hn6)
        have HV0 := Lib.hid ((V18.ahead (Nat.le_refl _)).new hn6)
        clear hJ r4 hn6 G18 V18 X2
        generalize e5.heap.size = G at X4 hG HP0 HV0 ⊢
        have hne2 : w.heap.size ≠ G := by omega
        go_upto_region 6 with fail
        refine wp_region_steps0 NewT [SV.eq (.int .i64 (x.kind))] [([(3, none)], none)] 31 1 rfl rfl (by kernel_rfl) NewT.trans (NewT.refl _) (Nat.le_of_ble_eq_true rfl) ⟨?_, trivial⟩ ?_
        · intro a wx hT hF K hK
          obtain ⟨f3, _⟩ := hF
          have f3 : a.tmps.getD 3 undef = .int .i64 (x.kind) := f3
          refine rely_wp rfl ?_
          exact opr_move (.inl rfl) (hK _ _ (NewT.refl _) f3)
        · intro e6 k6
          intro u h; obtain rfl := Eq.symm (h (by simp)); clear h
          refine relyEnd_nil rfl ?_
          simp only [Act.put, List.setIfInBounds_toArray, List.set_cons_zero, List.set_cons_succ]
          refine wpList_plain rfl (fun K hK => ?_)
          refine opr_fldR (by decide) rfl rfl (hK _ _ ?_)
          clear hK K
          refine wpList_plain rfl (fun K hK => ?_)
          refine opr_put1 rfl rfl rfl (k6.row X4.out) (by decide) info_i1 rfl (fun i _ => rs_kind (bodyR x) sv dv i _) ?_
          intro e7 k7 r7
          refine hK _ _ ?_
          clear hK K
          refine wpList_end rfl ?_
          go_simp
          rw [body_kind] at r7
          have Y4 := Lib.hid r7
          have HRT := Lib.hid (RT.late2 (RT.trans _ _ _ HRT5.out (RT.new HJ5.out.lt k6)) (Nat.le_of_lt hG) hRl k7)
          have HX2 := Lib.hid (k7.row hne2 (NewT.row k6 X5.out))
          have HP := Lib.hid ((HP0.out.new k6).rt k7 (.inr rfl))
          have HV := Lib.hid ((HV0.out.new k6).rt k7 (.inr rfl))
          have HJ7 := Lib.hid ((HJ5.out.new k6).rt k7 (by omega))
          have HX7 : Hid (RecV e7 (.agg (rowA 109 (recF (onlyR x) sv dv))) (onlyR x)) := Lib.hid ⟨sv, dv, rfl, HP.out.1.1, HV.out.out.out⟩
          clear r7 HP0 HV0 HJ5 X5 X4 HRT5
          go_upto_region 7 with fail
          refine wp_region_steps0 NewT [SV.eq (.agg (rowA 109 (recF (onlyR x) sv dv))), SV.eq (.bool true), SV.eq (.bool false)] [([(4, none)], none), ([(21, some 0)], none), ([(22, some 1)], none)] 31 3 rfl rfl (by kernel_rfl) NewT.trans (NewT.refl _) (Nat.le_of_ble_eq_true rfl) ⟨?_, ?_, ?_, trivial⟩ ?_
          · intro a wx hT hF K hK
            obtain ⟨f4, _⟩ := hF
            have f4 : a.tmps.getD 4 undef = .pointer (some ⟨G, 0, none⟩) := f4
            refine rely_wp rfl ?_
            exact opr_ldR (hT.row Y4.out) rfl f4 (hK _ _ (NewT.refl _) rfl)
          · intro a wx hT hF K hK
            obtain ⟨f21, _⟩ := hF
            have f21 : a.tmps.getD 21 undef = .agg (rowA 109 (recF (onlyR x) sv dv)) := f21
            refine rely_wp rfl ?_
            exact opr_cv (HR.out ▸ Right_cv _ (onlyR x) wx (hT.recV HX7.out)) rfl Tryd.func11 (by kernel_rfl) (by kernel_rfl) (by simp only [List.map_toArray, List.map_cons, List.map_nil, eval_tmp, f21]) hK
          · intro a wx hT hF K hK
            obtain ⟨f22, _⟩ := hF
            have f22 : a.tmps.getD 22 undef = .bool true := f22
            refine rely_wp rfl ?_
            exact opr_not rfl f22 (hK _ _ (NewT.refl _) rfl)
          · intro e8 k8
            intro u h; obtain rfl := Eq.symm (h (by simp)); clear h
            intro u h; obtain rfl := Eq.symm (h (by simp)); clear h
            intro u h; obtain rfl := Eq.symm (h (by simp)); clear h
            refine relyEnd_nil rfl ?_
            refine wpList_end rfl ?_
            simp only [Act.put, List.setIfInBounds_toArray, List.set_cons_zero, List.set_cons_succ]
            go_simp
            have HJ8 := Lib.hid (HJ7.out.new k8)
            go_upto_region 9 with fail
            refine wp_region_steps0 NewT [SV.eq (.pointer (some ⟨R, 0, none⟩)), SV.eq (.int .i64 (0)), SV.eq (.bool false)] [([(0, none)], none), ([(26, some 0)], none), ([(27, some 1)], none)] 31 3 rfl rfl (by kernel_rfl) NewT.trans (NewT.refl _) (Nat.le_of_ble_eq_true rfl) ⟨?_, ?_, ?_, trivial⟩ ?_
            · intro a wx hT hF K hK
              obtain ⟨f0, _⟩ := hF
              have f0 : a.tmps.getD 0 undef = .pointer (some ⟨R, 0, none⟩) := f0
              refine rely_wp rfl ?_
              exact opr_move (.inl rfl) (hK _ _ (NewT.refl _) f0)
            · intro a wx hT hF K hK
              obtain ⟨f26, _⟩ := hF
              have f26 : a.tmps.getD 26 undef = .pointer (some ⟨R, 0, none⟩) := f26
              refine rely_wp rfl ?_
              exact opr_cv (Bad_any R rest 0 wx (HJ8.out.new hT)) rfl Tryd.func47 (by kernel_rfl) (by kernel_rfl) (by simp only [List.map_toArray, List.map_cons, List.map_nil, eval_tmp, f26]) hK
            · intro a wx hT hF K hK
              obtain ⟨f27, _⟩ := hF
              have f27 : a.tmps.getD 27 undef = .int .i64 (0) := f27
              refine rely_wp rfl ?_
              exact opr_cmp (b := false) (.inr (.inl ⟨rfl, (by decide)⟩)) Tryd.underlying36 rfl f27 rfl (hK _ _ (NewT.refl _) rfl)
            · intro e9 k9
              intro u h; obtain rfl := Eq.symm (h (by simp)); clear h
              intro u h; obtain rfl := Eq.symm (h (by simp)); clear h
              intro u h; obtain rfl := Eq.symm (h (by simp)); clear h
              refine relyEnd_nil rfl ?_
              refine wpList_end rfl ?_
              simp only [Act.put, List.setIfInBounds_toArray, List.set_cons_zero, List.set_cons_succ]
              go_simp
              go_upto_region 11 with fail
              refine wp_region_steps0 NewT [SV.eq (.agg (rowA 109 (recF (onlyR x) sv dv)))] [([(4, none)], none)] 31 1 rfl rfl (by kernel_rfl) NewT.trans (NewT.refl _) (Nat.le_of_ble_eq_true rfl) ⟨?_, trivial⟩ ?_
              · intro a wx hT hF K hK
                obtain ⟨f4, _⟩ := hF
                have f4 : a.tmps.getD 4 undef = .pointer (some ⟨G, 0, none⟩) := f4
                refine rely_wp rfl ?_
                exact opr_ldR (hT.row (NewT.row k9 (NewT.row k8 Y4.out))) rfl f4 (hK _ _ (NewT.refl _) rfl)
              · intro wf kf
                intro u h; obtain rfl := Eq.symm (h (by simp)); clear h
                refine relyEnd_nil rfl ?_
                simp only [Act.put, List.setIfInBounds_toArray, List.set_cons_zero, List.set_cons_succ]
                refine wpList_plain rfl (fun K hK => ?_)
                refine opr_putm rfl rfl rfl (kf.row (NewT.row k9 (NewT.row k8 HX2.out))) (by decide) info_rec (recF_one _ _ _ (oneP HP.out.1.1) (oneR HV.out.out.out)) (put_all _ _) ?_
                intro wq hTq rq
                refine hK _ _ ?_
                refine wpList_end rfl ?_
                go_simp
                go_wp2
                have hN9 := NewT.trans _ _ _ k8 (NewT.trans _ _ _ k9 kf)
                refine bodyPost_ret (results_agg rfl _ rfl rq Tryd.underlying27 rfl info_rec) rfl ⟨_, rfl, ?_, RT.late2 (RT.trans _ _ _ HRT.out (RT.new (Nat.lt_of_lt_of_le hRl HRT.out.size) hN9)) (Nat.le_refl _) hRl hTq, Rdr.rt (HJ7.out.new hN9) hTq hRl⟩
                exact ⟨sv, dv, rfl, ((HP.out.new hN9).rt hTq (.inl (by omega))).1, ((HV.out.new hN9).rt hTq (.inl (by omega))).out⟩
end Go.Proofs.YthgblcpekhiphaaDoor
