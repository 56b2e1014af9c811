/- The laws' bound on records. -/
import Derived.Test.YtcfogkimjbgjgaaDoorMb
import Derived.Test.YtcfogkimjbgjgaaDoorMc
import Derived.Test.YtcfogkimjbgjgaaDoorMd
import Derived.Test.YtcfogkimjbgjgaaDoorMe
import Derived.Test.YtcfogkimjbgjgaaDoorMf
set_option linter.all false
namespace Go.Proofs.YtcfogkimjbgjgaaDoor
open Go Go.RowKit
set_option maxRecDepth 8000
set_option linter.all false
def greatB (x : Rc) : Bool := decide ((30 : Int) < (x.steps.length : Int)) || decide ((300 : Int) < (x.data.length : Int))
theorem not_great (x : Rc) (h : greatB x = false) : x.steps.length ≤ 30 ∧ x.data.length ≤ 300 := by
  unfold greatB at h
  simp at h
  omega
end Go.Proofs.YtcfogkimjbgjgaaDoor
/- The laws' own bound, and alive as a contract. -/
namespace Go.Proofs.YtcfogkimjbgjgaaDoor
open Go Go.RowKit
set_option maxRecDepth 8000
set_option linter.all false
set_option maxHeartbeats 400000 in
theorem Great_cv (v : Value) (x : Rc) (w : World) (h : RecV w v x) : Cv 11 #[v] w (.eq (.bool (greatB x))) := by
  obtain ⟨sv, dv, rfl, hs, hd⟩ := h
  unfold Cv
  have HX : Hid (RecV w (.agg (rowA 109 (recF x sv dv))) x) := Lib.hid ⟨sv, dv, rfl, hs, hd⟩
  have HS := Lib.hid hs
  have HD := Lib.hid hd
  clear hs hd
  go_enter Tryd.func11, Tryd.ntmps11
  go_upto_region 1 with fail
  have r1 := rowIs_box w 30 109 (recF x sv dv)
  have hN := NewT.alloc w (.cells (rowA 109 (recF x sv dv)) 30)
  change Code.wp _ _ _ _ (w.alloc (.cells (rowA 109 (recF x sv dv)) 30))
  generalize w.alloc (.cells (rowA 109 (recF x sv dv)) 30) = W0 at r1 hN ⊢
  have R1 := Lib.hid r1
  have HN := Lib.hid hN
  replace HX := Lib.hid (hN.recV HX.out)
  replace HS := Lib.hid (hN.pairs HS.out)
  replace HD := Lib.hid (hN.rd HD.out)
  clear r1 hN
  obtain ⟨q1_1, Q1_1⟩ : ∃ bq_, ((decide (30 < ((List.length (x.steps) : Int)))) || (decide (300 < ((List.length (x.data) : Int))))) = bq_ := ⟨_, rfl⟩
  refine wp_region_steps0 NewT [SV.eq (.pointer (some ⟨w.heap.size, 42, none⟩)), SV.eq (sv), SV.eq (.int .i64 ((List.length (x.steps) : Int))), SV.eq (.bool (decide (30 < ((List.length (x.steps) : Int))))), SV.eq (.bool (decide (30 < ((List.length (x.steps) : Int))))), svIf ((!(decide (30 < ((List.length (x.steps) : Int)))))) (SV.eq (.pointer (some ⟨w.heap.size, 43, none⟩))), svIf ((!(decide (30 < ((List.length (x.steps) : Int)))))) (SV.eq (dv)), svIf ((!(decide (30 < ((List.length (x.steps) : Int)))))) (SV.eq (.int .i64 ((List.length (x.data) : Int)))), svIf ((!(decide (30 < ((List.length (x.steps) : Int)))))) (SV.eq (.bool (decide (300 < ((List.length (x.data) : Int)))))), SV.eq (.bool (q1_1)), SV.eq (.bool (q1_1))] [([(1, none)], none), ([(3, some 0)], none), ([(4, some 1)], none), ([(5, some 2)], none), ([(6, some 3)], none), ([(1, none), (7, some 4)], some (7, false)), ([(8, some 5), (7, some 4)], some (7, false)), ([(9, some 6), (7, some 4)], some (7, false)), ([(10, some 7), (7, some 4)], some (7, false)), ([(7, some 4), (11, some 8)], none), ([(12, some 9)], none)] 13 11 rfl rfl (by kernel_rfl) NewT.trans (NewT.refl _) (Nat.le_of_ble_eq_true rfl) ⟨?_, ?_, ?_, ?_, ?_, ?_, ?_, ?_, ?_, ?_, ?_, trivial⟩ ?_
  · exact fun a wx hT hF K hK => rely_wp rfl (opr_fldR (by decide) rfl hF.1 (hK _ _ (NewT.refl _) rfl))
  · exact fun a wx hT hF K hK => rely_wp rfl (opr_ldS (hT.row R1.out) (by decide) rfl rfl hF.1 (hK _ _ (NewT.refl _) rfl))
  · intro a wx hT hF K hK
    obtain ⟨f4, _⟩ := hF
    have f4 : a.tmps.getD 4 undef = sv := f4
    refine rely_wp rfl ?_
    exact opr_len_pairs rfl (by rw [eval_tmp, f4]; exact (hT.pairs HS.out)) (hK _ _ (NewT.refl _) rfl)
  · exact fun a wx hT hF K hK => rely_wp rfl (opr_cmp (b := decide (30 < ((List.length (x.steps) : Int)))) (.inr (.inr (.inr (.inr (.inl ⟨rfl, rfl⟩))))) Tryd.underlying3 rfl hF.1 rfl (hK _ _ (NewT.refl _) rfl))
  · exact fun a wx hT hF K hK => rely_wp rfl (opr_move (.inl rfl) (hK _ _ (NewT.refl _) hF.1))
  · exact fun a wx hT hF K hK => rely_if (rely_gf hF.2.1) (NewT.refl _) hK fun hE hK => opr_fldR (by decide) rfl hF.1 (hK _ _ (NewT.refl _) rfl)
  · exact fun a wx hT hF K hK => rely_if (rely_gf hF.2.1) (NewT.refl _) hK fun hE hK => opr_ldB (hT.row R1.out) (by decide) rfl rfl (hF.1 hE) (hK _ _ (NewT.refl _) rfl)
  · intro a wx hT hF K hK
    obtain ⟨f9, f7, _⟩ := hF
    have f9 : ((!(decide (30 < ((List.length (x.steps) : Int)))))) = true → a.tmps.getD 9 undef = dv := f9
    have f7 : a.tmps.getD 7 undef = .bool (decide (30 < ((List.length (x.steps) : Int)))) := f7
    refine rely_if (rely_gf f7) (NewT.refl _) hK (fun hE hK => ?_)
    exact opr_len_rd rfl (by rw [eval_tmp, (f9 hE)]; exact (hT.rd HD.out)) (hK _ _ (NewT.refl _) rfl)
  · exact fun a wx hT hF K hK => rely_if (rely_gf hF.2.1) (NewT.refl _) hK fun hE hK => opr_cmp (b := decide (300 < ((List.length (x.data) : Int)))) (.inr (.inr (.inr (.inr (.inl ⟨rfl, rfl⟩))))) Tryd.underlying3 rfl (hF.1 hE) rfl (hK _ _ (NewT.refl _) rfl)
  · exact fun a wx hT hF K hK => rely_wp rfl (opr_pick_b rfl hF.1 (fun hb => hK _ _ (NewT.refl _) (pn_or1 Q1_1 hb)) (fun hb => hK _ _ (NewT.refl _) (pn_or0 Q1_1 (hF.2.1 (bnot hb)) hb)))
  · exact fun a wx hT hF K hK => rely_wp rfl (opr_move (.inr rfl) (hK _ _ (NewT.refl _) hF.1))
  · intro wx hT
    iterate 5 (intro u h; obtain rfl := Eq.symm (h (by simp)); clear h)
    iterate 4 (intro _ _)
    iterate 2 (intro u h; obtain rfl := Eq.symm (h (by simp)); clear h)
    subst Q1_1
    refine relyEnd_nil rfl ?_
    refine wpList_end rfl ?_
    simp only [Act.put, List.setIfInBounds_toArray, List.set_cons_zero, List.set_cons_succ]
    go_simp
    go_wp2
    go_ret
    exact ⟨_, rfl, NewT.trans _ _ _ HN.out hT, rfl⟩
end Go.Proofs.YtcfogkimjbgjgaaDoor
/- The reference's Right, walked: what it answers, as its text goes. -/
namespace Go.Proofs.YtcfogkimjbgjgaaDoor
open Go Go.RowKit
set_option maxRecDepth 8000
set_option linter.all false
def begQ (x : Rc) : Bool := x.kind == 1
def callQ (x : Rc) : Bool := decide (2 ≤ x.kind) && decide (x.kind ≤ 4)
def recQ (x : Rc) : Bool := x.kind == 3
/-- What the reference's text says. -/
def refR (x : Rc) : Bool :=
  if (((((decide (x.kind < 1)) || (decide (6 < x.kind))) || (!(inR x.saga 0 11))) || ((x.kind == 6) && (x.saga != 0)))) = true then false else if (if ((callQ x) || (x.kind == 5)) = true then (!(inR x.seq 1 400)) else (x.seq != 0)) = true then false else if ((((callQ x) && ((!(inR x.step 0 5)) || (!(inR x.tr 1 9)))) || ((!(callQ x)) && (((x.step != 0) || (x.tr != 0)) || x.back)))) = true then false else if (((((!(recQ x)) && (x.good || (!(eqH (x.tag) (fun _ => 0))))) || ((x.kind == 5) && (!(inR x.nd 2 4)))) || ((x.kind != 5) && (x.nd != 0)))) = true then false else if ((((recQ x) && ((!(inR x.part 0 3)) || (!(inR x.epoch 0 400)))) || ((x.kind == 6) && ((!(inR x.part 0 3)) || (!(inR x.epoch 1 400)))))) = true then false else if ((((!(recQ x)) && (x.kind != 6)) && ((x.part != 0) || (x.epoch != 0)))) = true then false
  else if (!(begQ x)) = true then ((((((((List.length (x.steps) : Int)) == 0) && (((List.length (x.data) : Int)) == 0)) && (eqH (x.salt) (fun _ => 0))) && (!x.gone)) && (eqH (x.com) (fun _ => 0)))) else if x.steps.all stepOk = false then false else if (((!(inR ((List.length (x.steps) : Int)) 1 6)) || (decide (60 < ((List.length (x.data) : Int)))))) = true then false else if x.gone = true then (((((List.length (x.data) : Int)) == 0) && (eqH (x.salt) (fun _ => 0)))) else (eqH (x.com) (fun _ => 0))
set_option maxHeartbeats 8000000 in
theorem RRightR_cv (v : Value) (x : Rc) (w : World) (h : RecV w v x) : Cv 24 #[v] w (.eq (.bool (refR x))) := by
  obtain ⟨sv, dv, rfl, hs, hd⟩ := h
  unfold Cv
  have HX : Hid (RecV w (.agg (rowA 109 (recF x sv dv))) x) := Lib.hid ⟨sv, dv, rfl, hs, hd⟩
  have HS := Lib.hid hs
  have HD := Lib.hid hd
  clear hs hd
  go_enter Tryd.func24, Tryd.ntmps24
  go_upto_region 2 with fail
  have r1 := (rowIs_box w 30 109 (recF x sv dv)).alloc (.cells (rowA 32 (bF fun _ => 0)) 26)
  have r3 := rowIs_box (w.alloc (.cells (rowA 109 (recF x sv dv)) 30)) 26 32 (bF fun _ => 0)
  have hN : NewT w ((w.alloc (.cells (rowA 109 (recF x sv dv)) 30)).alloc (.cells (rowA 32 (bF fun _ => 0)) 26)) := NewT.trans _ _ _ (NewT.alloc _ _) (NewT.alloc _ _)
  rw [World.size_alloc] at r3
  change Code.wp _ _ _ _ ((w.alloc (.cells (rowA 109 (recF x sv dv)) 30)).alloc (.cells (rowA 32 (bF fun _ => 0)) 26))
  generalize (w.alloc (.cells (rowA 109 (recF x sv dv)) 30)).alloc (.cells (rowA 32 (bF fun _ => 0)) 26) = W0 at r1 r3 hN ⊢
  have R1 := Lib.hid r1
  have R3 := Lib.hid r3
  have HN := Lib.hid hN
  replace HS := Lib.hid (hN.pairs HS.out)
  replace HD := Lib.hid (hN.rd HD.out)
  clear r1 r3 hN HX
  obtain ⟨q1_2, Q1_2⟩ : ∃ bq_, ((decide (2 ≤ x.kind)) && (decide (x.kind ≤ 4))) = bq_ := ⟨_, rfl⟩
  refine wp_region_rely (NewT) [SV.eq (.pointer (some ⟨w.heap.size, 0, none⟩)), SV.eq (.int .i64 (x.kind)), SV.eq (.bool (x.kind == 1)), SV.eq (.pointer (some ⟨w.heap.size, 0, none⟩)), SV.eq (.int .i64 (x.kind)), SV.eq (.bool (decide (2 ≤ x.kind))), SV.eq (.bool (decide (2 ≤ x.kind))), svIf (decide (2 ≤ x.kind)) (SV.eq (.pointer (some ⟨w.heap.size, 0, none⟩))), svIf (decide (2 ≤ x.kind)) (SV.eq (.int .i64 (x.kind))), svIf (decide (2 ≤ x.kind)) (SV.eq (.bool (decide (x.kind ≤ 4)))), SV.eq (.bool (q1_2)), SV.eq (.pointer (some ⟨w.heap.size, 0, none⟩)), SV.eq (.int .i64 (x.kind)), SV.eq (.bool (x.kind == 3)), SV.eq (.bool (x.kind == 1)), SV.eq (.bool (q1_2))] [([(1, none)], none), ([(8, some 0)], none), ([(9, some 1)], none), ([(1, none)], none), ([(11, some 3)], none), ([(12, some 4)], none), ([(13, some 5)], none), ([(1, none), (14, some 6)], some (14, true)), ([(15, some 7), (14, some 6)], some (14, true)), ([(16, some 8), (14, some 6)], some (14, true)), ([(14, some 6), (17, some 9)], none), ([(1, none)], none), ([(19, some 11)], none), ([(20, some 12)], none), ([(10, some 2)], none), ([(18, some 10)], none)] 251 rfl (by kernel_rfl) rfl (by kernel_rfl) (by kernel_rfl) rfl NewT.trans (NewT.drew _) (Nat.le_of_ble_eq_true rfl) ⟨?_, ?_, ?_, ?_, ?_, ?_, ?_, ?_, ?_, ?_, ?_, ?_, ?_, ?_, ?_, ?_, trivial⟩ ?_
  · exact fun a wx hT hF K hK => rely_wp rfl (opr_fldR (by decide) rfl hF.1 (hK _ _ (NewT.refl _) rfl))
  · exact fun a wx hT hF K hK => rely_wp rfl (opr_ldI (hT.row R1.out) (by decide) rfl rfl hF.1 (hK _ _ (NewT.refl _) rfl))
  · exact fun a wx hT hF K hK => rely_wp rfl (opr_cmp (b := x.kind == 1) (.inl ⟨rfl, rfl⟩) Tryd.underlying3 rfl hF.1 rfl (hK _ _ (NewT.refl _) rfl))
  · exact fun a wx hT hF K hK => rely_wp rfl (opr_fldR (by decide) rfl hF.1 (hK _ _ (NewT.refl _) rfl))
  · exact fun a wx hT hF K hK => rely_wp rfl (opr_ldI (hT.row R1.out) (by decide) rfl rfl hF.1 (hK _ _ (NewT.refl _) rfl))
  · exact fun a wx hT hF K hK => rely_wp rfl (opr_cmp (b := decide (2 ≤ x.kind)) (.inr (.inr (.inr (.inr (.inr (⟨rfl, rfl⟩)))))) Tryd.underlying3 rfl hF.1 rfl (hK _ _ (NewT.refl _) rfl))
  · exact fun a wx hT hF K hK => rely_wp rfl (opr_move (.inl rfl) (hK _ _ (NewT.refl _) hF.1))
  · exact fun a wx hT hF K hK => rely_if (rely_gt hF.2.1) (NewT.refl _) hK fun hE hK => opr_fldR (by decide) rfl hF.1 (hK _ _ (NewT.refl _) rfl)
  · exact fun a wx hT hF K hK => rely_if (rely_gt hF.2.1) (NewT.refl _) hK fun hE hK => opr_ldI (hT.row R1.out) (by decide) rfl rfl (hF.1 hE) (hK _ _ (NewT.refl _) rfl)
  · exact fun a wx hT hF K hK => rely_if (rely_gt hF.2.1) (NewT.refl _) hK fun hE hK => opr_cmp (b := decide (x.kind ≤ 4)) (.inr (.inr (.inl ⟨rfl, rfl⟩))) Tryd.underlying3 rfl (hF.1 hE) rfl (hK _ _ (NewT.refl _) rfl)
  · exact fun a wx hT hF K hK => rely_wp rfl (opr_pick_b rfl hF.1 (fun hb => hK _ _ (NewT.refl _) (pn_and1 Q1_2 (hF.2.1 hb) hb)) (fun hb => hK _ _ (NewT.refl _) (pn_and0 Q1_2 hb)))
  · exact fun a wx hT hF K hK => rely_wp rfl (opr_fldR (by decide) rfl hF.1 (hK _ _ (NewT.refl _) rfl))
  · exact fun a wx hT hF K hK => rely_wp rfl (opr_ldI (hT.row R1.out) (by decide) rfl rfl hF.1 (hK _ _ (NewT.refl _) rfl))
  · exact fun a wx hT hF K hK => rely_wp rfl (opr_cmp (b := x.kind == 3) (.inl ⟨rfl, rfl⟩) Tryd.underlying3 rfl hF.1 rfl (hK _ _ (NewT.refl _) rfl))
  · exact fun a wx hT hF K hK => rely_wp rfl (opr_move (.inr rfl) (hK _ _ (NewT.refl _) hF.1))
  · exact fun a wx hT hF K hK => rely_wp rfl (opr_move (.inr rfl) (hK _ _ (NewT.refl _) hF.1))
  · intro w2 k2
    iterate 7 (intro u h; obtain rfl := Eq.symm (h (by simp)); clear h)
    iterate 3 (intro _ _)
    iterate 6 (intro u h; obtain rfl := Eq.symm (h (by simp)); clear h)
    subst Q1_2
    refine relyEnd_nil rfl ?_
    simp only [Act.put, List.setIfInBounds_toArray, List.set_cons_zero, List.set_cons_succ]
    refine opr_move (.inr rfl) ?_
    go_simp
    replace R1 := Lib.hid (k2.row R1.out)
    replace R3 := Lib.hid (k2.row R3.out)
    replace HS := Lib.hid (k2.pairs HS.out)
    replace HD := Lib.hid (k2.rd HD.out)
    replace HN := Lib.hid (NewT.trans _ _ _ HN.out k2)
    clear k2
    go_upto_region 3 with fail
    obtain ⟨q1_3, Q1_3⟩ : ∃ bq_, ((decide (x.kind < 1)) || (decide (6 < x.kind))) = bq_ := ⟨_, rfl⟩
    obtain ⟨q2_3, Q2_3⟩ : ∃ bq_, ((q1_3 || (!(inR x.saga 0 11))) || ((x.kind == 6) && (x.saga != 0))) = bq_ := ⟨_, rfl⟩
    refine wp_region_steps0 NewT [SV.eq (.pointer (some ⟨w.heap.size, 0, none⟩)), SV.eq (.int .i64 (x.kind)), SV.eq (.bool (decide (x.kind < 1))), SV.eq (.bool (decide (x.kind < 1))), svIf ((!(decide (x.kind < 1)))) (SV.eq (.pointer (some ⟨w.heap.size, 0, none⟩))), svIf ((!(decide (x.kind < 1)))) (SV.eq (.int .i64 (x.kind))), svIf ((!(decide (x.kind < 1)))) (SV.eq (.bool (decide (6 < x.kind)))), SV.eq (.bool (q1_3)), SV.eq (.bool (q1_3)), svIf ((!q1_3)) (SV.eq (.pointer (some ⟨w.heap.size, 1, none⟩))), svIf ((!q1_3)) (SV.eq (.int .i64 (x.saga))), svIf ((!q1_3)) (SV.eq (.bool (inR x.saga 0 11))), svIf ((!q1_3)) (SV.eq (.bool (!(inR x.saga 0 11)))), SV.eq (.bool (q1_3 || (!(inR x.saga 0 11)))), SV.eq (.bool (q1_3 || (!(inR x.saga 0 11)))), svIf ((!(q1_3 || (!(inR x.saga 0 11))))) (SV.eq (.pointer (some ⟨w.heap.size, 0, none⟩))), svIf ((!(q1_3 || (!(inR x.saga 0 11))))) (SV.eq (.int .i64 (x.kind))), svIf ((!(q1_3 || (!(inR x.saga 0 11))))) (SV.eq (.bool (x.kind == 6))), SV.eq (gV ((!(q1_3 || (!(inR x.saga 0 11))))) (x.kind == 6)), svIf ((!(q1_3 || (!(inR x.saga 0 11)))) && x.kind == 6) (SV.eq (.pointer (some ⟨w.heap.size, 1, none⟩))), svIf ((!(q1_3 || (!(inR x.saga 0 11)))) && x.kind == 6) (SV.eq (.int .i64 (x.saga))), svIf ((!(q1_3 || (!(inR x.saga 0 11)))) && x.kind == 6) (SV.eq (.bool (x.saga != 0))), svIf ((!(q1_3 || (!(inR x.saga 0 11))))) (SV.eq (.bool ((x.kind == 6) && (x.saga != 0)))), SV.eq (.bool (q2_3))] [([(1, none)], none), ([(22, some 0)], none), ([(23, some 1)], none), ([(24, some 2)], none), ([(1, none), (25, some 3)], some (25, false)), ([(26, some 4), (25, some 3)], some (25, false)), ([(27, some 5), (25, some 3)], some (25, false)), ([(25, some 3), (28, some 6)], none), ([(29, some 7)], none), ([(1, none), (30, some 8)], some (30, false)), ([(31, some 9), (30, some 8)], some (30, false)), ([(32, some 10), (30, some 8)], some (30, false)), ([(33, some 11), (30, some 8)], some (30, false)), ([(30, some 8), (34, some 12)], none), ([(35, some 13)], none), ([(1, none), (36, some 14)], some (36, false)), ([(37, some 15), (36, some 14)], some (36, false)), ([(38, some 16), (36, some 14)], some (36, false)), ([(39, some 17), (36, some 14)], some (36, false)), ([(1, none), (40, some 18)], some (40, true)), ([(41, some 19), (40, some 18)], some (40, true)), ([(42, some 20), (40, some 18)], some (40, true)), ([(40, some 18), (43, some 21), (36, some 14)], some (36, false)), ([(36, some 14), (44, some 22)], none)] 251 24 rfl rfl (by kernel_rfl) NewT.trans (NewT.refl _) (Nat.le_of_ble_eq_true rfl) ⟨?_, ?_, ?_, ?_, ?_, ?_, ?_, ?_, ?_, ?_, ?_, ?_, ?_, ?_, ?_, ?_, ?_, ?_, ?_, ?_, ?_, ?_, ?_, ?_, trivial⟩ ?_
    · exact fun a wx hT hF K hK => rely_wp rfl (opr_fldR (by decide) rfl hF.1 (hK _ _ (NewT.refl _) rfl))
    · exact fun a wx hT hF K hK => rely_wp rfl (opr_ldI (hT.row R1.out) (by decide) rfl rfl hF.1 (hK _ _ (NewT.refl _) rfl))
    · exact fun a wx hT hF K hK => rely_wp rfl (opr_cmp (b := decide (x.kind < 1)) (.inr (.inr (.inr (.inl ⟨rfl, rfl⟩)))) Tryd.underlying3 rfl hF.1 rfl (hK _ _ (NewT.refl _) rfl))
    · exact fun a wx hT hF K hK => rely_wp rfl (opr_move (.inl rfl) (hK _ _ (NewT.refl _) hF.1))
    · exact fun a wx hT hF K hK => rely_if (rely_gf hF.2.1) (NewT.refl _) hK fun hE hK => opr_fldR (by decide) rfl hF.1 (hK _ _ (NewT.refl _) rfl)
    · exact fun a wx hT hF K hK => rely_if (rely_gf hF.2.1) (NewT.refl _) hK fun hE hK => opr_ldI (hT.row R1.out) (by decide) rfl rfl (hF.1 hE) (hK _ _ (NewT.refl _) rfl)
    · exact fun a wx hT hF K hK => rely_if (rely_gf hF.2.1) (NewT.refl _) hK fun hE hK => opr_cmp (b := decide (6 < x.kind)) (.inr (.inr (.inr (.inr (.inl ⟨rfl, rfl⟩))))) Tryd.underlying3 rfl (hF.1 hE) rfl (hK _ _ (NewT.refl _) rfl)
    · exact fun a wx hT hF K hK => rely_wp rfl (opr_pick_b rfl hF.1 (fun hb => hK _ _ (NewT.refl _) (pn_or1 Q1_3 hb)) (fun hb => hK _ _ (NewT.refl _) (pn_or0 Q1_3 (hF.2.1 (bnot hb)) hb)))
    · exact fun a wx hT hF K hK => rely_wp rfl (opr_move (.inl rfl) (hK _ _ (NewT.refl _) hF.1))
    · exact fun a wx hT hF K hK => rely_if (rely_gf hF.2.1) (NewT.refl _) hK fun hE hK => opr_fldR (by decide) rfl hF.1 (hK _ _ (NewT.refl _) rfl)
    · exact fun a wx hT hF K hK => rely_if (rely_gf hF.2.1) (NewT.refl _) hK fun hE hK => opr_ldI (hT.row R1.out) (by decide) rfl rfl (hF.1 hE) (hK _ _ (NewT.refl _) rfl)
    · exact fun a wx hT hF K hK => rely_if (rely_gf hF.2.1) (NewT.refl _) hK fun hE hK => opr_cv (refIn_cv x.saga 0 11 wx) rfl Tryd.func43 (by kernel_rfl) (by kernel_rfl) (evs3 (hF.1 hE) rfl rfl) hK
    · exact fun a wx hT hF K hK => rely_if (rely_gf hF.2.1) (NewT.refl _) hK fun hE hK => opr_not rfl (hF.1 hE) (hK _ _ (NewT.refl _) rfl)
    · exact fun a wx hT hF K hK => rely_wp rfl (opr_pick_b rfl hF.1 (fun hb => hK _ _ (NewT.refl _) (pk_or1 hb)) (fun hb => hK _ _ (NewT.refl _) (pk_or0 (hF.2.1 (bnot hb)) hb)))
    · exact fun a wx hT hF K hK => rely_wp rfl (opr_move (.inl rfl) (hK _ _ (NewT.refl _) hF.1))
    · exact fun a wx hT hF K hK => rely_if (rely_gf hF.2.1) (NewT.refl _) hK fun hE hK => opr_fldR (by decide) rfl hF.1 (hK _ _ (NewT.refl _) rfl)
    · exact fun a wx hT hF K hK => rely_if (rely_gf hF.2.1) (NewT.refl _) hK fun hE hK => opr_ldI (hT.row R1.out) (by decide) rfl rfl (hF.1 hE) (hK _ _ (NewT.refl _) rfl)
    · exact fun a wx hT hF K hK => rely_if (rely_gf hF.2.1) (NewT.refl _) hK fun hE hK => opr_cmp (b := x.kind == 6) (.inl ⟨rfl, rfl⟩) Tryd.underlying3 rfl (hF.1 hE) rfl (hK _ _ (NewT.refl _) rfl)
    · exact fun a wx hT hF K hK => rely_ifg (rely_gf hF.2.1) (NewT.refl _) hK fun hE hK => opr_move (.inl rfl) (hK _ _ (NewT.refl _) (hF.1 hE))
    · exact fun a wx hT hF K hK => rely_if (rely_ggt hF.2.1) (NewT.refl _) hK fun hE hK => opr_fldR (by decide) rfl hF.1 (hK _ _ (NewT.refl _) rfl)
    · exact fun a wx hT hF K hK => rely_if (rely_ggt hF.2.1) (NewT.refl _) hK fun hE hK => opr_ldI (hT.row R1.out) (by decide) rfl rfl (hF.1 hE) (hK _ _ (NewT.refl _) rfl)
    · exact fun a wx hT hF K hK => rely_if (rely_ggt hF.2.1) (NewT.refl _) hK fun hE hK => opr_cmp (b := x.saga != 0) (.inr (.inl ⟨rfl, rfl⟩)) Tryd.underlying3 rfl (hF.1 hE) rfl (hK _ _ (NewT.refl _) rfl)
    · exact fun a wx hT hF K hK => rely_if (rely_gf hF.2.2.1) (NewT.refl _) hK fun hE hK => opr_pick_b rfl (hF.1.trans (gV_on hE)) (fun hb => hK _ _ (NewT.refl _) (pk_and1 (hF.2.1 (band hE hb)) hb)) (fun hb => hK _ _ (NewT.refl _) (pk_and0 hb))
    · exact fun a wx hT hF K hK => rely_wp rfl (opr_pick_b rfl hF.1 (fun hb => hK _ _ (NewT.refl _) (pn_or1 Q2_3 hb)) (fun hb => hK _ _ (NewT.refl _) (pn_or0 Q2_3 (hF.2.1 (bnot hb)) hb)))
    · intro w3 k3
      iterate 4 (intro u h; obtain rfl := Eq.symm (h (by simp)); clear h)
      iterate 3 (intro _ _)
      iterate 2 (intro u h; obtain rfl := Eq.symm (h (by simp)); clear h)
      iterate 4 (intro _ _)
      iterate 2 (intro u h; obtain rfl := Eq.symm (h (by simp)); clear h)
      iterate 8 (intro _ _)
      intro u h; obtain rfl := Eq.symm (h (by simp)); clear h
      subst Q2_3 Q1_3
      refine relyEnd_nil rfl ?_
      refine wpList_end rfl ?_
      simp only [Act.put, List.setIfInBounds_toArray, List.set_cons_zero, List.set_cons_succ]
      go_simp
      replace R1 := Lib.hid (k3.row R1.out)
      replace R3 := Lib.hid (k3.row R3.out)
      replace HS := Lib.hid (k3.pairs HS.out)
      replace HD := Lib.hid (k3.rd HD.out)
      replace HN := Lib.hid (NewT.trans _ _ _ HN.out k3)
      clear k3
      cases hb3 : (((((decide (x.kind < 1)) || (decide (6 < x.kind))) || (!(inR x.saga 0 11))) || ((x.kind == 6) && (x.saga != 0))))
      rotate_left
      · have HB3 := Lib.hid hb3
        clear hb3
        go_wp2
        go_ret
        exact ⟨_, rfl, HN.out, by unfold refR; rw [if_pos HB3.out]; rfl⟩
      have HB3 := Lib.hid hb3
      clear hb3
      go_upto_region 5 with fail
      refine wp_region_steps0 NewT [SV.eq (.bool (callQ x)), SV.eq (.bool (callQ x)), svIf ((!(callQ x))) (SV.eq (.pointer (some ⟨w.heap.size, 0, none⟩))), svIf ((!(callQ x))) (SV.eq (.int .i64 (x.kind))), svIf ((!(callQ x))) (SV.eq (.bool (x.kind == 5))), SV.eq (.bool ((callQ x) || (x.kind == 5)))] [([(5, none)], none), ([(46, some 0)], none), ([(1, none), (47, some 1)], some (47, false)), ([(48, some 2), (47, some 1)], some (47, false)), ([(49, some 3), (47, some 1)], some (47, false)), ([(47, some 1), (50, some 4)], none)] 251 6 rfl rfl (by kernel_rfl) NewT.trans (NewT.refl _) (Nat.le_of_ble_eq_true rfl) ⟨?_, ?_, ?_, ?_, ?_, ?_, trivial⟩ ?_
      · exact fun a wx hT hF K hK => rely_wp rfl (opr_move (.inl rfl) (hK _ _ (NewT.refl _) hF.1))
      · exact fun a wx hT hF K hK => rely_wp rfl (opr_move (.inl rfl) (hK _ _ (NewT.refl _) hF.1))
      · exact fun a wx hT hF K hK => rely_if (rely_gf hF.2.1) (NewT.refl _) hK fun hE hK => opr_fldR (by decide) rfl hF.1 (hK _ _ (NewT.refl _) rfl)
      · exact fun a wx hT hF K hK => rely_if (rely_gf hF.2.1) (NewT.refl _) hK fun hE hK => opr_ldI (hT.row R1.out) (by decide) rfl rfl (hF.1 hE) (hK _ _ (NewT.refl _) rfl)
      · exact fun a wx hT hF K hK => rely_if (rely_gf hF.2.1) (NewT.refl _) hK fun hE hK => opr_cmp (b := x.kind == 5) (.inl ⟨rfl, rfl⟩) Tryd.underlying3 rfl (hF.1 hE) rfl (hK _ _ (NewT.refl _) rfl)
      · exact fun a wx hT hF K hK => rely_wp rfl (opr_pick_b rfl hF.1 (fun hb => hK _ _ (NewT.refl _) (pk_or1 hb)) (fun hb => hK _ _ (NewT.refl _) (pk_or0 (hF.2.1 (bnot hb)) hb)))
      · intro w5 k5
        iterate 2 (intro u h; obtain rfl := Eq.symm (h (by simp)); clear h)
        iterate 3 (intro _ _)
        intro u h; obtain rfl := Eq.symm (h (by simp)); clear h
        refine relyEnd_nil rfl ?_
        refine wpList_end rfl ?_
        simp only [Act.put, List.setIfInBounds_toArray, List.set_cons_zero, List.set_cons_succ]
        go_simp
        replace R1 := Lib.hid (k5.row R1.out)
        replace R3 := Lib.hid (k5.row R3.out)
        replace HS := Lib.hid (k5.pairs HS.out)
        replace HD := Lib.hid (k5.rd HD.out)
        replace HN := Lib.hid (NewT.trans _ _ _ HN.out k5)
        clear k5
        go_upto_if 51 with fail
        go_cut [] from 8 (fun wy => NewT w5 wy ∧ Hid ((if ((callQ x) || (x.kind == 5)) = true then (!(inR x.seq 1 400)) else (x.seq != 0)) = false))
        case first =>
          cases hb5 : ((callQ x) || (x.kind == 5))
          · have HB5 := Lib.hid hb5
            clear hb5
            go_upto_region 8 with fail
            refine wp_region_steps0 NewT [SV.eq (.pointer (some ⟨w.heap.size, 2, none⟩)), SV.eq (.int .i64 (x.seq)), SV.eq (.bool (x.seq != 0))] [([(1, none)], none), ([(56, some 0)], none), ([(57, some 1)], none)] 251 3 rfl rfl (by kernel_rfl) NewT.trans (NewT.refl _) (Nat.le_of_ble_eq_true rfl) ⟨?_, ?_, ?_, trivial⟩ ?_
            · exact fun a wx hT hF K hK => rely_wp rfl (opr_fldR (by decide) rfl hF.1 (hK _ _ (NewT.refl _) rfl))
            · exact fun a wx hT hF K hK => rely_wp rfl (opr_ldI (hT.row R1.out) (by decide) rfl rfl hF.1 (hK _ _ (NewT.refl _) rfl))
            · exact fun a wx hT hF K hK => rely_wp rfl (opr_cmp (b := x.seq != 0) (.inr (.inl ⟨rfl, rfl⟩)) Tryd.underlying3 rfl hF.1 rfl (hK _ _ (NewT.refl _) rfl))
            · intro w8 k8
              iterate 3 (intro u h; obtain rfl := Eq.symm (h (by simp)); clear h)
              refine relyEnd_nil rfl ?_
              refine wpList_end rfl ?_
              simp only [Act.put, List.setIfInBounds_toArray, List.set_cons_zero, List.set_cons_succ]
              go_simp
              cases hb8 : (x.seq != 0)
              · refine ?_
                have HB8 := Lib.hid hb8
                clear hb8
                go_wp2
                go_meet
                case rel => exact ⟨k8, Lib.hid (by rw [if_neg (by rw [HB5.out]; decide)]; exact HB8.out)⟩
              · have HB8 := Lib.hid hb8
                clear hb8
                go_wp2
                go_ret
                exact ⟨_, rfl, NewT.trans _ _ _ HN.out k8, by unfold refR; rw [if_neg (by rw [HB3.out]; decide)]; rw [if_pos (by rw [if_neg (by rw [HB5.out]; decide)]; exact HB8.out)]; rfl⟩
          · have HB5 := Lib.hid hb5
            clear hb5
            go_upto_region 6 with fail
            refine wp_region_steps0 NewT [SV.eq (.pointer (some ⟨w.heap.size, 2, none⟩)), SV.eq (.int .i64 (x.seq)), SV.eq (.bool (inR x.seq 1 400)), SV.eq (.bool (!(inR x.seq 1 400)))] [([(1, none)], none), ([(52, some 0)], none), ([(53, some 1)], none), ([(54, some 2)], none)] 251 4 rfl rfl (by kernel_rfl) NewT.trans (NewT.refl _) (Nat.le_of_ble_eq_true rfl) ⟨?_, ?_, ?_, ?_, trivial⟩ ?_
            · exact fun a wx hT hF K hK => rely_wp rfl (opr_fldR (by decide) rfl hF.1 (hK _ _ (NewT.refl _) rfl))
            · exact fun a wx hT hF K hK => rely_wp rfl (opr_ldI (hT.row R1.out) (by decide) rfl rfl hF.1 (hK _ _ (NewT.refl _) rfl))
            · exact fun a wx hT hF K hK => rely_wp rfl (opr_cv (refIn_cv x.seq 1 400 wx) rfl Tryd.func43 (by kernel_rfl) (by kernel_rfl) (evs3 hF.1 rfl rfl) hK)
            · exact fun a wx hT hF K hK => rely_wp rfl (opr_not rfl hF.1 (hK _ _ (NewT.refl _) rfl))
            · intro w6 k6
              iterate 4 (intro u h; obtain rfl := Eq.symm (h (by simp)); clear h)
              refine relyEnd_nil rfl ?_
              refine wpList_end rfl ?_
              simp only [Act.put, List.setIfInBounds_toArray, List.set_cons_zero, List.set_cons_succ]
              go_simp
              cases hb6 : (!(inR x.seq 1 400))
              · refine ?_
                have HB6 := Lib.hid hb6
                clear hb6
                go_wp2
                go_meet
                case rel => exact ⟨k6, Lib.hid (by rw [if_pos HB5.out]; exact HB6.out)⟩
              · have HB6 := Lib.hid hb6
                clear hb6
                go_wp2
                go_ret
                exact ⟨_, rfl, NewT.trans _ _ _ HN.out k6, by unfold refR; rw [if_neg (by rw [HB3.out]; decide)]; rw [if_pos (by rw [if_pos HB5.out]; exact HB6.out)]; rfl⟩
        case rest =>
          obtain ⟨kc, HB6⟩ := hcut
          replace R1 := Lib.hid (kc.row R1.out)
          replace R3 := Lib.hid (kc.row R3.out)
          replace HS := Lib.hid (kc.pairs HS.out)
          replace HD := Lib.hid (kc.rd HD.out)
          replace HN := Lib.hid (NewT.trans _ _ _ HN.out kc)
          clear kc
          go_upto_region 10 with fail
          obtain ⟨q1_10, Q1_10⟩ : ∃ bq_, ((!(inR x.step 0 5)) || (!(inR x.tr 1 9))) = bq_ := ⟨_, rfl⟩
          obtain ⟨q2_10, Q2_10⟩ : ∃ bq_, (((x.step != 0) || (x.tr != 0)) || x.back) = bq_ := ⟨_, rfl⟩
          obtain ⟨q3_10, Q3_10⟩ : ∃ bq_, (((callQ x) && q1_10) || ((!(callQ x)) && q2_10)) = bq_ := ⟨_, rfl⟩
          refine wp_region_steps0 NewT [SV.eq (.bool (callQ x)), SV.eq (.bool (callQ x)), svIf (callQ x) (SV.eq (.pointer (some ⟨w.heap.size, 3, none⟩))), svIf (callQ x) (SV.eq (.int .i64 (x.step))), svIf (callQ x) (SV.eq (.bool (inR x.step 0 5))), svIf (callQ x) (SV.eq (.bool (!(inR x.step 0 5)))), SV.eq (gV (callQ x) (!(inR x.step 0 5))), svIf (callQ x && (!(!(inR x.step 0 5)))) (SV.eq (.pointer (some ⟨w.heap.size, 4, none⟩))), svIf (callQ x && (!(!(inR x.step 0 5)))) (SV.eq (.int .i64 (x.tr))), svIf (callQ x && (!(!(inR x.step 0 5)))) (SV.eq (.bool (inR x.tr 1 9))), svIf (callQ x && (!(!(inR x.step 0 5)))) (SV.eq (.bool (!(inR x.tr 1 9)))), svIf (callQ x) (SV.eq (.bool (q1_10))), SV.eq (.bool ((callQ x) && q1_10)), SV.eq (.bool ((callQ x) && q1_10)), svIf ((!((callQ x) && q1_10))) (SV.eq (.bool (callQ x))), svIf ((!((callQ x) && q1_10))) (SV.eq (.bool (!(callQ x)))), SV.eq (gV ((!((callQ x) && q1_10))) (!(callQ x))), svIf ((!((callQ x) && q1_10)) && !(callQ x)) (SV.eq (.pointer (some ⟨w.heap.size, 3, none⟩))), svIf ((!((callQ x) && q1_10)) && !(callQ x)) (SV.eq (.int .i64 (x.step))), svIf ((!((callQ x) && q1_10)) && !(callQ x)) (SV.eq (.bool (x.step != 0))), SV.eq (gV ((!((callQ x) && q1_10)) && !(callQ x)) (x.step != 0)), svIf (((!((callQ x) && q1_10)) && !(callQ x)) && (!(x.step != 0))) (SV.eq (.pointer (some ⟨w.heap.size, 4, none⟩))), svIf (((!((callQ x) && q1_10)) && !(callQ x)) && (!(x.step != 0))) (SV.eq (.int .i64 (x.tr))), svIf (((!((callQ x) && q1_10)) && !(callQ x)) && (!(x.step != 0))) (SV.eq (.bool (x.tr != 0))), svIf ((!((callQ x) && q1_10)) && !(callQ x)) (SV.eq (.bool ((x.step != 0) || (x.tr != 0)))), SV.eq (gV ((!((callQ x) && q1_10)) && !(callQ x)) ((x.step != 0) || (x.tr != 0))), svIf (((!((callQ x) && q1_10)) && !(callQ x)) && (!((x.step != 0) || (x.tr != 0)))) (SV.eq (.pointer (some ⟨w.heap.size, 5, none⟩))), svIf (((!((callQ x) && q1_10)) && !(callQ x)) && (!((x.step != 0) || (x.tr != 0)))) (SV.eq (.bool (x.back))), svIf ((!((callQ x) && q1_10)) && !(callQ x)) (SV.eq (.bool (q2_10))), svIf ((!((callQ x) && q1_10))) (SV.eq (.bool ((!(callQ x)) && q2_10))), SV.eq (.bool (q3_10))] [([(5, none)], none), ([(59, some 0)], none), ([(1, none), (60, some 1)], some (60, true)), ([(61, some 2), (60, some 1)], some (60, true)), ([(62, some 3), (60, some 1)], some (60, true)), ([(63, some 4), (60, some 1)], some (60, true)), ([(64, some 5), (60, some 1)], some (60, true)), ([(1, none), (65, some 6)], some (65, false)), ([(66, some 7), (65, some 6)], some (65, false)), ([(67, some 8), (65, some 6)], some (65, false)), ([(68, some 9), (65, some 6)], some (65, false)), ([(65, some 6), (69, some 10), (60, some 1)], some (60, true)), ([(60, some 1), (70, some 11)], none), ([(71, some 12)], none), ([(5, none), (72, some 13)], some (72, false)), ([(73, some 14), (72, some 13)], some (72, false)), ([(74, some 15), (72, some 13)], some (72, false)), ([(1, none), (75, some 16)], some (75, true)), ([(76, some 17), (75, some 16)], some (75, true)), ([(77, some 18), (75, some 16)], some (75, true)), ([(78, some 19), (75, some 16)], some (75, true)), ([(1, none), (79, some 20)], some (79, false)), ([(80, some 21), (79, some 20)], some (79, false)), ([(81, some 22), (79, some 20)], some (79, false)), ([(79, some 20), (82, some 23), (75, some 16)], some (75, true)), ([(83, some 24), (75, some 16)], some (75, true)), ([(1, none), (84, some 25)], some (84, false)), ([(85, some 26), (84, some 25)], some (84, false)), ([(84, some 25), (86, some 27), (75, some 16)], some (75, true)), ([(75, some 16), (87, some 28), (72, some 13)], some (72, false)), ([(72, some 13), (88, some 29)], none)] 251 31 rfl rfl (by kernel_rfl) NewT.trans (NewT.refl _) (Nat.le_of_ble_eq_true rfl) ⟨?_, ?_, ?_, ?_, ?_, ?_, ?_, ?_, ?_, ?_, ?_, ?_, ?_, ?_, ?_, ?_, ?_, ?_, ?_, ?_, ?_, ?_, ?_, ?_, ?_, ?_, ?_, ?_, ?_, ?_, ?_, trivial⟩ ?_
          · exact fun a wx hT hF K hK => rely_wp rfl (opr_move (.inl rfl) (hK _ _ (NewT.refl _) hF.1))
          · exact fun a wx hT hF K hK => rely_wp rfl (opr_move (.inl rfl) (hK _ _ (NewT.refl _) hF.1))
          · exact fun a wx hT hF K hK => rely_if (rely_gt hF.2.1) (NewT.refl _) hK fun hE hK => opr_fldR (by decide) rfl hF.1 (hK _ _ (NewT.refl _) rfl)
          · exact fun a wx hT hF K hK => rely_if (rely_gt hF.2.1) (NewT.refl _) hK fun hE hK => opr_ldI (hT.row R1.out) (by decide) rfl rfl (hF.1 hE) (hK _ _ (NewT.refl _) rfl)
          · exact fun a wx hT hF K hK => rely_if (rely_gt hF.2.1) (NewT.refl _) hK fun hE hK => opr_cv (refIn_cv x.step 0 5 wx) rfl Tryd.func43 (by kernel_rfl) (by kernel_rfl) (evs3 (hF.1 hE) rfl rfl) hK
          · exact fun a wx hT hF K hK => rely_if (rely_gt hF.2.1) (NewT.refl _) hK fun hE hK => opr_not rfl (hF.1 hE) (hK _ _ (NewT.refl _) rfl)
          · exact fun a wx hT hF K hK => rely_ifg (rely_gt hF.2.1) (NewT.refl _) hK fun hE hK => opr_move (.inl rfl) (hK _ _ (NewT.refl _) (hF.1 hE))
          · exact fun a wx hT hF K hK => rely_if (rely_ggf hF.2.1) (NewT.refl _) hK fun hE hK => opr_fldR (by decide) rfl hF.1 (hK _ _ (NewT.refl _) rfl)
          · exact fun a wx hT hF K hK => rely_if (rely_ggf hF.2.1) (NewT.refl _) hK fun hE hK => opr_ldI (hT.row R1.out) (by decide) rfl rfl (hF.1 hE) (hK _ _ (NewT.refl _) rfl)
          · exact fun a wx hT hF K hK => rely_if (rely_ggf hF.2.1) (NewT.refl _) hK fun hE hK => opr_cv (refIn_cv x.tr 1 9 wx) rfl Tryd.func43 (by kernel_rfl) (by kernel_rfl) (evs3 (hF.1 hE) rfl rfl) hK
          · exact fun a wx hT hF K hK => rely_if (rely_ggf hF.2.1) (NewT.refl _) hK fun hE hK => opr_not rfl (hF.1 hE) (hK _ _ (NewT.refl _) rfl)
          · exact fun a wx hT hF K hK => rely_if (rely_gt hF.2.2.1) (NewT.refl _) hK fun hE hK => opr_pick_b rfl (hF.1.trans (gV_on hE)) (fun hb => hK _ _ (NewT.refl _) (pn_or1 Q1_10 hb)) (fun hb => hK _ _ (NewT.refl _) (pn_or0 Q1_10 (hF.2.1 (band hE (bnot hb))) hb))
          · exact fun a wx hT hF K hK => rely_wp rfl (opr_pick_b rfl hF.1 (fun hb => hK _ _ (NewT.refl _) (pk_and1 (hF.2.1 hb) hb)) (fun hb => hK _ _ (NewT.refl _) (pk_and0 hb)))
          · exact fun a wx hT hF K hK => rely_wp rfl (opr_move (.inl rfl) (hK _ _ (NewT.refl _) hF.1))
          · exact fun a wx hT hF K hK => rely_if (rely_gf hF.2.1) (NewT.refl _) hK fun hE hK => opr_move (.inl rfl) (hK _ _ (NewT.refl _) hF.1)
          · exact fun a wx hT hF K hK => rely_if (rely_gf hF.2.1) (NewT.refl _) hK fun hE hK => opr_not rfl (hF.1 hE) (hK _ _ (NewT.refl _) rfl)
          · exact fun a wx hT hF K hK => rely_ifg (rely_gf hF.2.1) (NewT.refl _) hK fun hE hK => opr_move (.inl rfl) (hK _ _ (NewT.refl _) (hF.1 hE))
          · exact fun a wx hT hF K hK => rely_if (rely_ggt hF.2.1) (NewT.refl _) hK fun hE hK => opr_fldR (by decide) rfl hF.1 (hK _ _ (NewT.refl _) rfl)
          · exact fun a wx hT hF K hK => rely_if (rely_ggt hF.2.1) (NewT.refl _) hK fun hE hK => opr_ldI (hT.row R1.out) (by decide) rfl rfl (hF.1 hE) (hK _ _ (NewT.refl _) rfl)
          · exact fun a wx hT hF K hK => rely_if (rely_ggt hF.2.1) (NewT.refl _) hK fun hE hK => opr_cmp (b := x.step != 0) (.inr (.inl ⟨rfl, rfl⟩)) Tryd.underlying3 rfl (hF.1 hE) rfl (hK _ _ (NewT.refl _) rfl)
          · exact fun a wx hT hF K hK => rely_ifg (rely_ggt hF.2.1) (NewT.refl _) hK fun hE hK => opr_move (.inl rfl) (hK _ _ (NewT.refl _) (hF.1 hE))
          · exact fun a wx hT hF K hK => rely_if (rely_ggf hF.2.1) (NewT.refl _) hK fun hE hK => opr_fldR (by decide) rfl hF.1 (hK _ _ (NewT.refl _) rfl)
          · exact fun a wx hT hF K hK => rely_if (rely_ggf hF.2.1) (NewT.refl _) hK fun hE hK => opr_ldI (hT.row R1.out) (by decide) rfl rfl (hF.1 hE) (hK _ _ (NewT.refl _) rfl)
          · exact fun a wx hT hF K hK => rely_if (rely_ggf hF.2.1) (NewT.refl _) hK fun hE hK => opr_cmp (b := x.tr != 0) (.inr (.inl ⟨rfl, rfl⟩)) Tryd.underlying3 rfl (hF.1 hE) rfl (hK _ _ (NewT.refl _) rfl)
          · exact fun a wx hT hF K hK => rely_if (rely_ggt hF.2.2.1) (NewT.refl _) hK fun hE hK => opr_pick_b rfl (hF.1.trans (gV_on hE)) (fun hb => hK _ _ (NewT.refl _) (pk_or1 hb)) (fun hb => hK _ _ (NewT.refl _) (pk_or0 (hF.2.1 (band hE (bnot hb))) hb))
          · exact fun a wx hT hF K hK => rely_ifg (rely_ggt hF.2.1) (NewT.refl _) hK fun hE hK => opr_move (.inl rfl) (hK _ _ (NewT.refl _) (hF.1 hE))
          · exact fun a wx hT hF K hK => rely_if (rely_ggf hF.2.1) (NewT.refl _) hK fun hE hK => opr_fldR (by decide) rfl hF.1 (hK _ _ (NewT.refl _) rfl)
          · exact fun a wx hT hF K hK => rely_if (rely_ggf hF.2.1) (NewT.refl _) hK fun hE hK => opr_ldQ (hT.row R1.out) (by decide) rfl rfl (hF.1 hE) (hK _ _ (NewT.refl _) rfl)
          · exact fun a wx hT hF K hK => rely_if (rely_ggt hF.2.2.1) (NewT.refl _) hK fun hE hK => opr_pick_b rfl (hF.1.trans (gV_on hE)) (fun hb => hK _ _ (NewT.refl _) (pn_or1 Q2_10 hb)) (fun hb => hK _ _ (NewT.refl _) (pn_or0 Q2_10 (hF.2.1 (band hE (bnot hb))) hb))
          · exact fun a wx hT hF K hK => rely_if (rely_gf hF.2.2.1) (NewT.refl _) hK fun hE hK => opr_pick_b rfl (hF.1.trans (gV_on hE)) (fun hb => hK _ _ (NewT.refl _) (pk_and1 (hF.2.1 (band hE hb)) hb)) (fun hb => hK _ _ (NewT.refl _) (pk_and0 hb))
          · exact fun a wx hT hF K hK => rely_wp rfl (opr_pick_b rfl hF.1 (fun hb => hK _ _ (NewT.refl _) (pn_or1 Q3_10 hb)) (fun hb => hK _ _ (NewT.refl _) (pn_or0 Q3_10 (hF.2.1 (bnot hb)) hb)))
          · intro w10 k10
            iterate 2 (intro u h; obtain rfl := Eq.symm (h (by simp)); clear h)
            iterate 10 (intro _ _)
            iterate 2 (intro u h; obtain rfl := Eq.symm (h (by simp)); clear h)
            iterate 16 (intro _ _)
            intro u h; obtain rfl := Eq.symm (h (by simp)); clear h
            subst Q3_10 Q2_10 Q1_10
            refine relyEnd_nil rfl ?_
            refine wpList_end rfl ?_
            simp only [Act.put, List.setIfInBounds_toArray, List.set_cons_zero, List.set_cons_succ]
            go_simp
            replace R1 := Lib.hid (k10.row R1.out)
            replace R3 := Lib.hid (k10.row R3.out)
            replace HS := Lib.hid (k10.pairs HS.out)
            replace HD := Lib.hid (k10.rd HD.out)
            replace HN := Lib.hid (NewT.trans _ _ _ HN.out k10)
            clear k10
            cases hb10 : ((((callQ x) && ((!(inR x.step 0 5)) || (!(inR x.tr 1 9)))) || ((!(callQ x)) && (((x.step != 0) || (x.tr != 0)) || x.back))))
            rotate_left
            · have HB10 := Lib.hid hb10
              clear hb10
              go_wp2
              go_ret
              exact ⟨_, rfl, HN.out, by unfold refR; rw [if_neg (by rw [HB3.out]; decide)]; rw [if_neg (by rw [HB6.out]; decide)]; rw [if_pos HB10.out]; rfl⟩
            have HB10 := Lib.hid hb10
            clear hb10
            go_upto_region 12 with fail
            obtain ⟨q1_12, Q1_12⟩ : ∃ bq_, (x.good || (!(eqH (x.tag) (fun _ => 0)))) = bq_ := ⟨_, rfl⟩
            obtain ⟨q2_12, Q2_12⟩ : ∃ bq_, ((x.kind == 5) && (!(inR x.nd 2 4))) = bq_ := ⟨_, rfl⟩
            obtain ⟨q3_12, Q3_12⟩ : ∃ bq_, (((!(recQ x)) && q1_12) || q2_12) = bq_ := ⟨_, rfl⟩
            obtain ⟨q4_12, Q4_12⟩ : ∃ bq_, (q3_12 || ((x.kind != 5) && (x.nd != 0))) = bq_ := ⟨_, rfl⟩
            refine wp_region_steps0 NewT [SV.eq (.bool (recQ x)), SV.eq (.bool (!(recQ x))), SV.eq (.bool (!(recQ x))), svIf (!(recQ x)) (SV.eq (.pointer (some ⟨w.heap.size, 6, none⟩))), svIf (!(recQ x)) (SV.eq (.bool (x.good))), SV.eq (gV (!(recQ x)) (x.good)), svIf (!(recQ x) && (!x.good)) (SV.eq (.pointer (some ⟨w.heap.size, 10, none⟩))), svIf (!(recQ x) && (!x.good)) (SV.eq (.agg (rowA 32 (bF (x.tag))))), svIf (!(recQ x) && (!x.good)) (SV.eq (.agg (rowA 32 (bF (fun _ => 0))))), svIf (!(recQ x) && (!x.good)) (SV.eq (.bool (!(eqH (x.tag) (fun _ => 0))))), svIf (!(recQ x)) (SV.eq (.bool (q1_12))), SV.eq (.bool ((!(recQ x)) && q1_12)), SV.eq (.bool ((!(recQ x)) && q1_12)), svIf ((!((!(recQ x)) && q1_12))) (SV.eq (.pointer (some ⟨w.heap.size, 0, none⟩))), svIf ((!((!(recQ x)) && q1_12))) (SV.eq (.int .i64 (x.kind))), svIf ((!((!(recQ x)) && q1_12))) (SV.eq (.bool (x.kind == 5))), SV.eq (gV ((!((!(recQ x)) && q1_12))) (x.kind == 5)), svIf ((!((!(recQ x)) && q1_12)) && x.kind == 5) (SV.eq (.pointer (some ⟨w.heap.size, 7, none⟩))), svIf ((!((!(recQ x)) && q1_12)) && x.kind == 5) (SV.eq (.int .i64 (x.nd))), svIf ((!((!(recQ x)) && q1_12)) && x.kind == 5) (SV.eq (.bool (inR x.nd 2 4))), svIf ((!((!(recQ x)) && q1_12)) && x.kind == 5) (SV.eq (.bool (!(inR x.nd 2 4)))), svIf ((!((!(recQ x)) && q1_12))) (SV.eq (.bool (q2_12))), SV.eq (.bool (q3_12)), SV.eq (.bool (q3_12)), svIf ((!q3_12)) (SV.eq (.pointer (some ⟨w.heap.size, 0, none⟩))), svIf ((!q3_12)) (SV.eq (.int .i64 (x.kind))), svIf ((!q3_12)) (SV.eq (.bool (x.kind != 5))), SV.eq (gV ((!q3_12)) (x.kind != 5)), svIf ((!q3_12) && x.kind != 5) (SV.eq (.pointer (some ⟨w.heap.size, 7, none⟩))), svIf ((!q3_12) && x.kind != 5) (SV.eq (.int .i64 (x.nd))), svIf ((!q3_12) && x.kind != 5) (SV.eq (.bool (x.nd != 0))), svIf ((!q3_12)) (SV.eq (.bool ((x.kind != 5) && (x.nd != 0)))), SV.eq (.bool (q4_12))] [([(6, none)], none), ([(90, some 0)], none), ([(91, some 1)], none), ([(1, none), (92, some 2)], some (92, true)), ([(93, some 3), (92, some 2)], some (92, true)), ([(94, some 4), (92, some 2)], some (92, true)), ([(1, none), (95, some 5)], some (95, false)), ([(96, some 6), (95, some 5)], some (95, false)), ([(3, none), (95, some 5)], some (95, false)), ([(97, some 7), (98, some 8), (95, some 5)], some (95, false)), ([(95, some 5), (99, some 9), (92, some 2)], some (92, true)), ([(92, some 2), (100, some 10)], none), ([(101, some 11)], none), ([(1, none), (102, some 12)], some (102, false)), ([(103, some 13), (102, some 12)], some (102, false)), ([(104, some 14), (102, some 12)], some (102, false)), ([(105, some 15), (102, some 12)], some (102, false)), ([(1, none), (106, some 16)], some (106, true)), ([(107, some 17), (106, some 16)], some (106, true)), ([(108, some 18), (106, some 16)], some (106, true)), ([(109, some 19), (106, some 16)], some (106, true)), ([(106, some 16), (110, some 20), (102, some 12)], some (102, false)), ([(102, some 12), (111, some 21)], none), ([(112, some 22)], none), ([(1, none), (113, some 23)], some (113, false)), ([(114, some 24), (113, some 23)], some (113, false)), ([(115, some 25), (113, some 23)], some (113, false)), ([(116, some 26), (113, some 23)], some (113, false)), ([(1, none), (117, some 27)], some (117, true)), ([(118, some 28), (117, some 27)], some (117, true)), ([(119, some 29), (117, some 27)], some (117, true)), ([(117, some 27), (120, some 30), (113, some 23)], some (113, false)), ([(113, some 23), (121, some 31)], none)] 251 33 rfl rfl (by kernel_rfl) NewT.trans (NewT.refl _) (Nat.le_of_ble_eq_true rfl) ⟨?_, ?_, ?_, ?_, ?_, ?_, ?_, ?_, ?_, ?_, ?_, ?_, ?_, ?_, ?_, ?_, ?_, ?_, ?_, ?_, ?_, ?_, ?_, ?_, ?_, ?_, ?_, ?_, ?_, ?_, ?_, ?_, ?_, trivial⟩ ?_
            · exact fun a wx hT hF K hK => rely_wp rfl (opr_move (.inl rfl) (hK _ _ (NewT.refl _) hF.1))
            · exact fun a wx hT hF K hK => rely_wp rfl (opr_not rfl hF.1 (hK _ _ (NewT.refl _) rfl))
            · exact fun a wx hT hF K hK => rely_wp rfl (opr_move (.inl rfl) (hK _ _ (NewT.refl _) hF.1))
            · exact fun a wx hT hF K hK => rely_if (rely_gt hF.2.1) (NewT.refl _) hK fun hE hK => opr_fldR (by decide) rfl hF.1 (hK _ _ (NewT.refl _) rfl)
            · exact fun a wx hT hF K hK => rely_if (rely_gt hF.2.1) (NewT.refl _) hK fun hE hK => opr_ldQ (hT.row R1.out) (by decide) rfl rfl (hF.1 hE) (hK _ _ (NewT.refl _) rfl)
            · exact fun a wx hT hF K hK => rely_ifg (rely_gt hF.2.1) (NewT.refl _) hK fun hE hK => opr_move (.inl rfl) (hK _ _ (NewT.refl _) (hF.1 hE))
            · exact fun a wx hT hF K hK => rely_if (rely_ggf hF.2.1) (NewT.refl _) hK fun hE hK => opr_fldR (by decide) rfl hF.1 (hK _ _ (NewT.refl _) rfl)
            · exact fun a wx hT hF K hK => rely_if (rely_ggf hF.2.1) (NewT.refl _) hK fun hE hK => opr_ldH (hT.row R1.out) (by decide) (recF_tag x _ _) rfl (hF.1 hE) (hK _ _ (NewT.refl _) rfl)
            · exact fun a wx hT hF K hK => rely_if (rely_ggf hF.2.1) (NewT.refl _) hK fun hE hK => opr_load_hash rfl hF.1 (hT.row R3.out) (hK _ _ (NewT.refl _) rfl)
            · exact fun a wx hT hF K hK => rely_if (rely_ggf hF.2.2.1) (NewT.refl _) hK fun hE hK => opr_neq_hash (b := !(eqH (x.tag) (fun _ => 0))) rfl (hF.1 hE) (hF.2.1 hE) (rfl) (hK _ _ (NewT.refl _) rfl)
            · exact fun a wx hT hF K hK => rely_if (rely_gt hF.2.2.1) (NewT.refl _) hK fun hE hK => opr_pick_b rfl (hF.1.trans (gV_on hE)) (fun hb => hK _ _ (NewT.refl _) (pn_or1 Q1_12 hb)) (fun hb => hK _ _ (NewT.refl _) (pn_or0 Q1_12 (hF.2.1 (band hE (bnot hb))) hb))
            · exact fun a wx hT hF K hK => rely_wp rfl (opr_pick_b rfl hF.1 (fun hb => hK _ _ (NewT.refl _) (pk_and1 (hF.2.1 hb) hb)) (fun hb => hK _ _ (NewT.refl _) (pk_and0 hb)))
            · exact fun a wx hT hF K hK => rely_wp rfl (opr_move (.inl rfl) (hK _ _ (NewT.refl _) hF.1))
            · exact fun a wx hT hF K hK => rely_if (rely_gf hF.2.1) (NewT.refl _) hK fun hE hK => opr_fldR (by decide) rfl hF.1 (hK _ _ (NewT.refl _) rfl)
            · exact fun a wx hT hF K hK => rely_if (rely_gf hF.2.1) (NewT.refl _) hK fun hE hK => opr_ldI (hT.row R1.out) (by decide) rfl rfl (hF.1 hE) (hK _ _ (NewT.refl _) rfl)
            · exact fun a wx hT hF K hK => rely_if (rely_gf hF.2.1) (NewT.refl _) hK fun hE hK => opr_cmp (b := x.kind == 5) (.inl ⟨rfl, rfl⟩) Tryd.underlying3 rfl (hF.1 hE) rfl (hK _ _ (NewT.refl _) rfl)
            · exact fun a wx hT hF K hK => rely_ifg (rely_gf hF.2.1) (NewT.refl _) hK fun hE hK => opr_move (.inl rfl) (hK _ _ (NewT.refl _) (hF.1 hE))
            · exact fun a wx hT hF K hK => rely_if (rely_ggt hF.2.1) (NewT.refl _) hK fun hE hK => opr_fldR (by decide) rfl hF.1 (hK _ _ (NewT.refl _) rfl)
            · exact fun a wx hT hF K hK => rely_if (rely_ggt hF.2.1) (NewT.refl _) hK fun hE hK => opr_ldI (hT.row R1.out) (by decide) rfl rfl (hF.1 hE) (hK _ _ (NewT.refl _) rfl)
            · exact fun a wx hT hF K hK => rely_if (rely_ggt hF.2.1) (NewT.refl _) hK fun hE hK => opr_cv (refIn_cv x.nd 2 4 wx) rfl Tryd.func43 (by kernel_rfl) (by kernel_rfl) (evs3 (hF.1 hE) rfl rfl) hK
            · exact fun a wx hT hF K hK => rely_if (rely_ggt hF.2.1) (NewT.refl _) hK fun hE hK => opr_not rfl (hF.1 hE) (hK _ _ (NewT.refl _) rfl)
            · exact fun a wx hT hF K hK => rely_if (rely_gf hF.2.2.1) (NewT.refl _) hK fun hE hK => opr_pick_b rfl (hF.1.trans (gV_on hE)) (fun hb => hK _ _ (NewT.refl _) (pn_and1 Q2_12 (hF.2.1 (band hE hb)) hb)) (fun hb => hK _ _ (NewT.refl _) (pn_and0 Q2_12 hb))
            · exact fun a wx hT hF K hK => rely_wp rfl (opr_pick_b rfl hF.1 (fun hb => hK _ _ (NewT.refl _) (pn_or1 Q3_12 hb)) (fun hb => hK _ _ (NewT.refl _) (pn_or0 Q3_12 (hF.2.1 (bnot hb)) hb)))
            · exact fun a wx hT hF K hK => rely_wp rfl (opr_move (.inl rfl) (hK _ _ (NewT.refl _) hF.1))
            · exact fun a wx hT hF K hK => rely_if (rely_gf hF.2.1) (NewT.refl _) hK fun hE hK => opr_fldR (by decide) rfl hF.1 (hK _ _ (NewT.refl _) rfl)
            · exact fun a wx hT hF K hK => rely_if (rely_gf hF.2.1) (NewT.refl _) hK fun hE hK => opr_ldI (hT.row R1.out) (by decide) rfl rfl (hF.1 hE) (hK _ _ (NewT.refl _) rfl)
            · exact fun a wx hT hF K hK => rely_if (rely_gf hF.2.1) (NewT.refl _) hK fun hE hK => opr_cmp (b := x.kind != 5) (.inr (.inl ⟨rfl, rfl⟩)) Tryd.underlying3 rfl (hF.1 hE) rfl (hK _ _ (NewT.refl _) rfl)
            · exact fun a wx hT hF K hK => rely_ifg (rely_gf hF.2.1) (NewT.refl _) hK fun hE hK => opr_move (.inl rfl) (hK _ _ (NewT.refl _) (hF.1 hE))
            · exact fun a wx hT hF K hK => rely_if (rely_ggt hF.2.1) (NewT.refl _) hK fun hE hK => opr_fldR (by decide) rfl hF.1 (hK _ _ (NewT.refl _) rfl)
            · exact fun a wx hT hF K hK => rely_if (rely_ggt hF.2.1) (NewT.refl _) hK fun hE hK => opr_ldI (hT.row R1.out) (by decide) rfl rfl (hF.1 hE) (hK _ _ (NewT.refl _) rfl)
            · exact fun a wx hT hF K hK => rely_if (rely_ggt hF.2.1) (NewT.refl _) hK fun hE hK => opr_cmp (b := x.nd != 0) (.inr (.inl ⟨rfl, rfl⟩)) Tryd.underlying3 rfl (hF.1 hE) rfl (hK _ _ (NewT.refl _) rfl)
            · exact fun a wx hT hF K hK => rely_if (rely_gf hF.2.2.1) (NewT.refl _) hK fun hE hK => opr_pick_b rfl (hF.1.trans (gV_on hE)) (fun hb => hK _ _ (NewT.refl _) (pk_and1 (hF.2.1 (band hE hb)) hb)) (fun hb => hK _ _ (NewT.refl _) (pk_and0 hb))
            · exact fun a wx hT hF K hK => rely_wp rfl (opr_pick_b rfl hF.1 (fun hb => hK _ _ (NewT.refl _) (pn_or1 Q4_12 hb)) (fun hb => hK _ _ (NewT.refl _) (pn_or0 Q4_12 (hF.2.1 (bnot hb)) hb)))
            · intro w12 k12
              iterate 3 (intro u h; obtain rfl := Eq.symm (h (by simp)); clear h)
              iterate 8 (intro _ _)
              iterate 2 (intro u h; obtain rfl := Eq.symm (h (by simp)); clear h)
              iterate 9 (intro _ _)
              iterate 2 (intro u h; obtain rfl := Eq.symm (h (by simp)); clear h)
              iterate 8 (intro _ _)
              intro u h; obtain rfl := Eq.symm (h (by simp)); clear h
              subst Q4_12 Q3_12 Q2_12 Q1_12
              refine relyEnd_nil rfl ?_
              refine wpList_end rfl ?_
              simp only [Act.put, List.setIfInBounds_toArray, List.set_cons_zero, List.set_cons_succ]
              go_simp
              replace R1 := Lib.hid (k12.row R1.out)
              replace R3 := Lib.hid (k12.row R3.out)
              replace HS := Lib.hid (k12.pairs HS.out)
              replace HD := Lib.hid (k12.rd HD.out)
              replace HN := Lib.hid (NewT.trans _ _ _ HN.out k12)
              clear k12
              cases hb12 : (((((!(recQ x)) && (x.good || (!(eqH (x.tag) (fun _ => 0))))) || ((x.kind == 5) && (!(inR x.nd 2 4)))) || ((x.kind != 5) && (x.nd != 0))))
              rotate_left
              · have HB12 := Lib.hid hb12
                clear hb12
                go_wp2
                go_ret
                exact ⟨_, rfl, HN.out, by unfold refR; rw [if_neg (by rw [HB3.out]; decide)]; rw [if_neg (by rw [HB6.out]; decide)]; rw [if_neg (by rw [HB10.out]; decide)]; rw [if_pos HB12.out]; rfl⟩
              have HB12 := Lib.hid hb12
              clear hb12
              go_upto_region 14 with fail
              obtain ⟨q1_14, Q1_14⟩ : ∃ bq_, ((!(inR x.part 0 3)) || (!(inR x.epoch 0 400))) = bq_ := ⟨_, rfl⟩
              obtain ⟨q2_14, Q2_14⟩ : ∃ bq_, ((!(inR x.part 0 3)) || (!(inR x.epoch 1 400))) = bq_ := ⟨_, rfl⟩
              obtain ⟨q3_14, Q3_14⟩ : ∃ bq_, (((recQ x) && q1_14) || ((x.kind == 6) && q2_14)) = bq_ := ⟨_, rfl⟩
              refine wp_region_steps0 NewT [SV.eq (.bool (recQ x)), SV.eq (.bool (recQ x)), svIf (recQ x) (SV.eq (.pointer (some ⟨w.heap.size, 8, none⟩))), svIf (recQ x) (SV.eq (.int .i64 (x.part))), svIf (recQ x) (SV.eq (.bool (inR x.part 0 3))), svIf (recQ x) (SV.eq (.bool (!(inR x.part 0 3)))), SV.eq (gV (recQ x) (!(inR x.part 0 3))), svIf (recQ x && (!(!(inR x.part 0 3)))) (SV.eq (.pointer (some ⟨w.heap.size, 9, none⟩))), svIf (recQ x && (!(!(inR x.part 0 3)))) (SV.eq (.int .i64 (x.epoch))), svIf (recQ x && (!(!(inR x.part 0 3)))) (SV.eq (.bool (inR x.epoch 0 400))), svIf (recQ x && (!(!(inR x.part 0 3)))) (SV.eq (.bool (!(inR x.epoch 0 400)))), svIf (recQ x) (SV.eq (.bool (q1_14))), SV.eq (.bool ((recQ x) && q1_14)), SV.eq (.bool ((recQ x) && q1_14)), svIf ((!((recQ x) && q1_14))) (SV.eq (.pointer (some ⟨w.heap.size, 0, none⟩))), svIf ((!((recQ x) && q1_14))) (SV.eq (.int .i64 (x.kind))), svIf ((!((recQ x) && q1_14))) (SV.eq (.bool (x.kind == 6))), SV.eq (gV ((!((recQ x) && q1_14))) (x.kind == 6)), svIf ((!((recQ x) && q1_14)) && x.kind == 6) (SV.eq (.pointer (some ⟨w.heap.size, 8, none⟩))), svIf ((!((recQ x) && q1_14)) && x.kind == 6) (SV.eq (.int .i64 (x.part))), svIf ((!((recQ x) && q1_14)) && x.kind == 6) (SV.eq (.bool (inR x.part 0 3))), svIf ((!((recQ x) && q1_14)) && x.kind == 6) (SV.eq (.bool (!(inR x.part 0 3)))), SV.eq (gV ((!((recQ x) && q1_14)) && x.kind == 6) (!(inR x.part 0 3))), svIf (((!((recQ x) && q1_14)) && x.kind == 6) && (!(!(inR x.part 0 3)))) (SV.eq (.pointer (some ⟨w.heap.size, 9, none⟩))), svIf (((!((recQ x) && q1_14)) && x.kind == 6) && (!(!(inR x.part 0 3)))) (SV.eq (.int .i64 (x.epoch))), svIf (((!((recQ x) && q1_14)) && x.kind == 6) && (!(!(inR x.part 0 3)))) (SV.eq (.bool (inR x.epoch 1 400))), svIf (((!((recQ x) && q1_14)) && x.kind == 6) && (!(!(inR x.part 0 3)))) (SV.eq (.bool (!(inR x.epoch 1 400)))), svIf ((!((recQ x) && q1_14)) && x.kind == 6) (SV.eq (.bool (q2_14))), svIf ((!((recQ x) && q1_14))) (SV.eq (.bool ((x.kind == 6) && q2_14))), SV.eq (.bool (q3_14))] [([(6, none)], none), ([(123, some 0)], none), ([(1, none), (124, some 1)], some (124, true)), ([(125, some 2), (124, some 1)], some (124, true)), ([(126, some 3), (124, some 1)], some (124, true)), ([(127, some 4), (124, some 1)], some (124, true)), ([(128, some 5), (124, some 1)], some (124, true)), ([(1, none), (129, some 6)], some (129, false)), ([(130, some 7), (129, some 6)], some (129, false)), ([(131, some 8), (129, some 6)], some (129, false)), ([(132, some 9), (129, some 6)], some (129, false)), ([(129, some 6), (133, some 10), (124, some 1)], some (124, true)), ([(124, some 1), (134, some 11)], none), ([(135, some 12)], none), ([(1, none), (136, some 13)], some (136, false)), ([(137, some 14), (136, some 13)], some (136, false)), ([(138, some 15), (136, some 13)], some (136, false)), ([(139, some 16), (136, some 13)], some (136, false)), ([(1, none), (140, some 17)], some (140, true)), ([(141, some 18), (140, some 17)], some (140, true)), ([(142, some 19), (140, some 17)], some (140, true)), ([(143, some 20), (140, some 17)], some (140, true)), ([(144, some 21), (140, some 17)], some (140, true)), ([(1, none), (145, some 22)], some (145, false)), ([(146, some 23), (145, some 22)], some (145, false)), ([(147, some 24), (145, some 22)], some (145, false)), ([(148, some 25), (145, some 22)], some (145, false)), ([(145, some 22), (149, some 26), (140, some 17)], some (140, true)), ([(140, some 17), (150, some 27), (136, some 13)], some (136, false)), ([(136, some 13), (151, some 28)], none)] 251 30 rfl rfl (by kernel_rfl) NewT.trans (NewT.refl _) (Nat.le_of_ble_eq_true rfl) ⟨?_, ?_, ?_, ?_, ?_, ?_, ?_, ?_, ?_, ?_, ?_, ?_, ?_, ?_, ?_, ?_, ?_, ?_, ?_, ?_, ?_, ?_, ?_, ?_, ?_, ?_, ?_, ?_, ?_, ?_, trivial⟩ ?_
              · exact fun a wx hT hF K hK => rely_wp rfl (opr_move (.inl rfl) (hK _ _ (NewT.refl _) hF.1))
              · exact fun a wx hT hF K hK => rely_wp rfl (opr_move (.inl rfl) (hK _ _ (NewT.refl _) hF.1))
              · exact fun a wx hT hF K hK => rely_if (rely_gt hF.2.1) (NewT.refl _) hK fun hE hK => opr_fldR (by decide) rfl hF.1 (hK _ _ (NewT.refl _) rfl)
              · exact fun a wx hT hF K hK => rely_if (rely_gt hF.2.1) (NewT.refl _) hK fun hE hK => opr_ldI (hT.row R1.out) (by decide) rfl rfl (hF.1 hE) (hK _ _ (NewT.refl _) rfl)
              · exact fun a wx hT hF K hK => rely_if (rely_gt hF.2.1) (NewT.refl _) hK fun hE hK => opr_cv (refIn_cv x.part 0 3 wx) rfl Tryd.func43 (by kernel_rfl) (by kernel_rfl) (evs3 (hF.1 hE) rfl rfl) hK
              · exact fun a wx hT hF K hK => rely_if (rely_gt hF.2.1) (NewT.refl _) hK fun hE hK => opr_not rfl (hF.1 hE) (hK _ _ (NewT.refl _) rfl)
              · exact fun a wx hT hF K hK => rely_ifg (rely_gt hF.2.1) (NewT.refl _) hK fun hE hK => opr_move (.inl rfl) (hK _ _ (NewT.refl _) (hF.1 hE))
              · exact fun a wx hT hF K hK => rely_if (rely_ggf hF.2.1) (NewT.refl _) hK fun hE hK => opr_fldR (by decide) rfl hF.1 (hK _ _ (NewT.refl _) rfl)
              · exact fun a wx hT hF K hK => rely_if (rely_ggf hF.2.1) (NewT.refl _) hK fun hE hK => opr_ldI (hT.row R1.out) (by decide) rfl rfl (hF.1 hE) (hK _ _ (NewT.refl _) rfl)
              · exact fun a wx hT hF K hK => rely_if (rely_ggf hF.2.1) (NewT.refl _) hK fun hE hK => opr_cv (refIn_cv x.epoch 0 400 wx) rfl Tryd.func43 (by kernel_rfl) (by kernel_rfl) (evs3 (hF.1 hE) rfl rfl) hK
              · exact fun a wx hT hF K hK => rely_if (rely_ggf hF.2.1) (NewT.refl _) hK fun hE hK => opr_not rfl (hF.1 hE) (hK _ _ (NewT.refl _) rfl)
              · exact fun a wx hT hF K hK => rely_if (rely_gt hF.2.2.1) (NewT.refl _) hK fun hE hK => opr_pick_b rfl (hF.1.trans (gV_on hE)) (fun hb => hK _ _ (NewT.refl _) (pn_or1 Q1_14 hb)) (fun hb => hK _ _ (NewT.refl _) (pn_or0 Q1_14 (hF.2.1 (band hE (bnot hb))) hb))
              · exact fun a wx hT hF K hK => rely_wp rfl (opr_pick_b rfl hF.1 (fun hb => hK _ _ (NewT.refl _) (pk_and1 (hF.2.1 hb) hb)) (fun hb => hK _ _ (NewT.refl _) (pk_and0 hb)))
              · exact fun a wx hT hF K hK => rely_wp rfl (opr_move (.inl rfl) (hK _ _ (NewT.refl _) hF.1))
              · exact fun a wx hT hF K hK => rely_if (rely_gf hF.2.1) (NewT.refl _) hK fun hE hK => opr_fldR (by decide) rfl hF.1 (hK _ _ (NewT.refl _) rfl)
              · exact fun a wx hT hF K hK => rely_if (rely_gf hF.2.1) (NewT.refl _) hK fun hE hK => opr_ldI (hT.row R1.out) (by decide) rfl rfl (hF.1 hE) (hK _ _ (NewT.refl _) rfl)
              · exact fun a wx hT hF K hK => rely_if (rely_gf hF.2.1) (NewT.refl _) hK fun hE hK => opr_cmp (b := x.kind == 6) (.inl ⟨rfl, rfl⟩) Tryd.underlying3 rfl (hF.1 hE) rfl (hK _ _ (NewT.refl _) rfl)
              · exact fun a wx hT hF K hK => rely_ifg (rely_gf hF.2.1) (NewT.refl _) hK fun hE hK => opr_move (.inl rfl) (hK _ _ (NewT.refl _) (hF.1 hE))
              · exact fun a wx hT hF K hK => rely_if (rely_ggt hF.2.1) (NewT.refl _) hK fun hE hK => opr_fldR (by decide) rfl hF.1 (hK _ _ (NewT.refl _) rfl)
              · exact fun a wx hT hF K hK => rely_if (rely_ggt hF.2.1) (NewT.refl _) hK fun hE hK => opr_ldI (hT.row R1.out) (by decide) rfl rfl (hF.1 hE) (hK _ _ (NewT.refl _) rfl)
              · exact fun a wx hT hF K hK => rely_if (rely_ggt hF.2.1) (NewT.refl _) hK fun hE hK => opr_cv (refIn_cv x.part 0 3 wx) rfl Tryd.func43 (by kernel_rfl) (by kernel_rfl) (evs3 (hF.1 hE) rfl rfl) hK
              · exact fun a wx hT hF K hK => rely_if (rely_ggt hF.2.1) (NewT.refl _) hK fun hE hK => opr_not rfl (hF.1 hE) (hK _ _ (NewT.refl _) rfl)
              · exact fun a wx hT hF K hK => rely_ifg (rely_ggt hF.2.1) (NewT.refl _) hK fun hE hK => opr_move (.inl rfl) (hK _ _ (NewT.refl _) (hF.1 hE))
              · exact fun a wx hT hF K hK => rely_if (rely_ggf hF.2.1) (NewT.refl _) hK fun hE hK => opr_fldR (by decide) rfl hF.1 (hK _ _ (NewT.refl _) rfl)
              · exact fun a wx hT hF K hK => rely_if (rely_ggf hF.2.1) (NewT.refl _) hK fun hE hK => opr_ldI (hT.row R1.out) (by decide) rfl rfl (hF.1 hE) (hK _ _ (NewT.refl _) rfl)
              · exact fun a wx hT hF K hK => rely_if (rely_ggf hF.2.1) (NewT.refl _) hK fun hE hK => opr_cv (refIn_cv x.epoch 1 400 wx) rfl Tryd.func43 (by kernel_rfl) (by kernel_rfl) (evs3 (hF.1 hE) rfl rfl) hK
              · exact fun a wx hT hF K hK => rely_if (rely_ggf hF.2.1) (NewT.refl _) hK fun hE hK => opr_not rfl (hF.1 hE) (hK _ _ (NewT.refl _) rfl)
              · exact fun a wx hT hF K hK => rely_if (rely_ggt hF.2.2.1) (NewT.refl _) hK fun hE hK => opr_pick_b rfl (hF.1.trans (gV_on hE)) (fun hb => hK _ _ (NewT.refl _) (pn_or1 Q2_14 hb)) (fun hb => hK _ _ (NewT.refl _) (pn_or0 Q2_14 (hF.2.1 (band hE (bnot hb))) hb))
              · exact fun a wx hT hF K hK => rely_if (rely_gf hF.2.2.1) (NewT.refl _) hK fun hE hK => opr_pick_b rfl (hF.1.trans (gV_on hE)) (fun hb => hK _ _ (NewT.refl _) (pk_and1 (hF.2.1 (band hE hb)) hb)) (fun hb => hK _ _ (NewT.refl _) (pk_and0 hb))
              · exact fun a wx hT hF K hK => rely_wp rfl (opr_pick_b rfl hF.1 (fun hb => hK _ _ (NewT.refl _) (pn_or1 Q3_14 hb)) (fun hb => hK _ _ (NewT.refl _) (pn_or0 Q3_14 (hF.2.1 (bnot hb)) hb)))
              · intro w14 k14
                iterate 2 (intro u h; obtain rfl := Eq.symm (h (by simp)); clear h)
                iterate 10 (intro _ _)
                iterate 2 (intro u h; obtain rfl := Eq.symm (h (by simp)); clear h)
                iterate 15 (intro _ _)
                intro u h; obtain rfl := Eq.symm (h (by simp)); clear h
                subst Q3_14 Q2_14 Q1_14
                refine relyEnd_nil rfl ?_
                refine wpList_end rfl ?_
                simp only [Act.put, List.setIfInBounds_toArray, List.set_cons_zero, List.set_cons_succ]
                go_simp
                replace R1 := Lib.hid (k14.row R1.out)
                replace R3 := Lib.hid (k14.row R3.out)
                replace HS := Lib.hid (k14.pairs HS.out)
                replace HD := Lib.hid (k14.rd HD.out)
                replace HN := Lib.hid (NewT.trans _ _ _ HN.out k14)
                clear k14
                cases hb14 : ((((recQ x) && ((!(inR x.part 0 3)) || (!(inR x.epoch 0 400)))) || ((x.kind == 6) && ((!(inR x.part 0 3)) || (!(inR x.epoch 1 400))))))
                rotate_left
                · have HB14 := Lib.hid hb14
                  clear hb14
                  go_wp2
                  go_ret
                  exact ⟨_, rfl, HN.out, by unfold refR; rw [if_neg (by rw [HB3.out]; decide)]; rw [if_neg (by rw [HB6.out]; decide)]; rw [if_neg (by rw [HB10.out]; decide)]; rw [if_neg (by rw [HB12.out]; decide)]; rw [if_pos HB14.out]; rfl⟩
                have HB14 := Lib.hid hb14
                clear hb14
                go_upto_region 16 with fail
                obtain ⟨q1_16, Q1_16⟩ : ∃ bq_, (((!(recQ x)) && (x.kind != 6)) && ((x.part != 0) || (x.epoch != 0))) = bq_ := ⟨_, rfl⟩
                refine wp_region_steps0 NewT [SV.eq (.bool (recQ x)), SV.eq (.bool (!(recQ x))), SV.eq (.bool (!(recQ x))), svIf (!(recQ x)) (SV.eq (.pointer (some ⟨w.heap.size, 0, none⟩))), svIf (!(recQ x)) (SV.eq (.int .i64 (x.kind))), svIf (!(recQ x)) (SV.eq (.bool (x.kind != 6))), SV.eq (.bool ((!(recQ x)) && (x.kind != 6))), SV.eq (.bool ((!(recQ x)) && (x.kind != 6))), svIf ((!(recQ x)) && (x.kind != 6)) (SV.eq (.pointer (some ⟨w.heap.size, 8, none⟩))), svIf ((!(recQ x)) && (x.kind != 6)) (SV.eq (.int .i64 (x.part))), svIf ((!(recQ x)) && (x.kind != 6)) (SV.eq (.bool (x.part != 0))), SV.eq (gV ((!(recQ x)) && (x.kind != 6)) (x.part != 0)), svIf ((!(recQ x)) && (x.kind != 6) && (!(x.part != 0))) (SV.eq (.pointer (some ⟨w.heap.size, 9, none⟩))), svIf ((!(recQ x)) && (x.kind != 6) && (!(x.part != 0))) (SV.eq (.int .i64 (x.epoch))), svIf ((!(recQ x)) && (x.kind != 6) && (!(x.part != 0))) (SV.eq (.bool (x.epoch != 0))), svIf ((!(recQ x)) && (x.kind != 6)) (SV.eq (.bool ((x.part != 0) || (x.epoch != 0)))), SV.eq (.bool (q1_16))] [([(6, none)], none), ([(153, some 0)], none), ([(154, some 1)], none), ([(1, none), (155, some 2)], some (155, true)), ([(156, some 3), (155, some 2)], some (155, true)), ([(157, some 4), (155, some 2)], some (155, true)), ([(155, some 2), (158, some 5)], none), ([(159, some 6)], none), ([(1, none), (160, some 7)], some (160, true)), ([(161, some 8), (160, some 7)], some (160, true)), ([(162, some 9), (160, some 7)], some (160, true)), ([(163, some 10), (160, some 7)], some (160, true)), ([(1, none), (164, some 11)], some (164, false)), ([(165, some 12), (164, some 11)], some (164, false)), ([(166, some 13), (164, some 11)], some (164, false)), ([(164, some 11), (167, some 14), (160, some 7)], some (160, true)), ([(160, some 7), (168, some 15)], none)] 251 17 rfl rfl (by kernel_rfl) NewT.trans (NewT.refl _) (Nat.le_of_ble_eq_true rfl) ⟨?_, ?_, ?_, ?_, ?_, ?_, ?_, ?_, ?_, ?_, ?_, ?_, ?_, ?_, ?_, ?_, ?_, trivial⟩ ?_
                · exact fun a wx hT hF K hK => rely_wp rfl (opr_move (.inl rfl) (hK _ _ (NewT.refl _) hF.1))
                · exact fun a wx hT hF K hK => rely_wp rfl (opr_not rfl hF.1 (hK _ _ (NewT.refl _) rfl))
                · exact fun a wx hT hF K hK => rely_wp rfl (opr_move (.inl rfl) (hK _ _ (NewT.refl _) hF.1))
                · exact fun a wx hT hF K hK => rely_if (rely_gt hF.2.1) (NewT.refl _) hK fun hE hK => opr_fldR (by decide) rfl hF.1 (hK _ _ (NewT.refl _) rfl)
                · exact fun a wx hT hF K hK => rely_if (rely_gt hF.2.1) (NewT.refl _) hK fun hE hK => opr_ldI (hT.row R1.out) (by decide) rfl rfl (hF.1 hE) (hK _ _ (NewT.refl _) rfl)
                · exact fun a wx hT hF K hK => rely_if (rely_gt hF.2.1) (NewT.refl _) hK fun hE hK => opr_cmp (b := x.kind != 6) (.inr (.inl ⟨rfl, rfl⟩)) Tryd.underlying3 rfl (hF.1 hE) rfl (hK _ _ (NewT.refl _) rfl)
                · exact fun a wx hT hF K hK => rely_wp rfl (opr_pick_b rfl hF.1 (fun hb => hK _ _ (NewT.refl _) (pk_and1 (hF.2.1 hb) hb)) (fun hb => hK _ _ (NewT.refl _) (pk_and0 hb)))
                · exact fun a wx hT hF K hK => rely_wp rfl (opr_move (.inl rfl) (hK _ _ (NewT.refl _) hF.1))
                · exact fun a wx hT hF K hK => rely_if (rely_gt hF.2.1) (NewT.refl _) hK fun hE hK => opr_fldR (by decide) rfl hF.1 (hK _ _ (NewT.refl _) rfl)
                · exact fun a wx hT hF K hK => rely_if (rely_gt hF.2.1) (NewT.refl _) hK fun hE hK => opr_ldI (hT.row R1.out) (by decide) rfl rfl (hF.1 hE) (hK _ _ (NewT.refl _) rfl)
                · exact fun a wx hT hF K hK => rely_if (rely_gt hF.2.1) (NewT.refl _) hK fun hE hK => opr_cmp (b := x.part != 0) (.inr (.inl ⟨rfl, rfl⟩)) Tryd.underlying3 rfl (hF.1 hE) rfl (hK _ _ (NewT.refl _) rfl)
                · exact fun a wx hT hF K hK => rely_ifg (rely_gt hF.2.1) (NewT.refl _) hK fun hE hK => opr_move (.inl rfl) (hK _ _ (NewT.refl _) (hF.1 hE))
                · exact fun a wx hT hF K hK => rely_if (rely_ggf hF.2.1) (NewT.refl _) hK fun hE hK => opr_fldR (by decide) rfl hF.1 (hK _ _ (NewT.refl _) rfl)
                · exact fun a wx hT hF K hK => rely_if (rely_ggf hF.2.1) (NewT.refl _) hK fun hE hK => opr_ldI (hT.row R1.out) (by decide) rfl rfl (hF.1 hE) (hK _ _ (NewT.refl _) rfl)
                · exact fun a wx hT hF K hK => rely_if (rely_ggf hF.2.1) (NewT.refl _) hK fun hE hK => opr_cmp (b := x.epoch != 0) (.inr (.inl ⟨rfl, rfl⟩)) Tryd.underlying3 rfl (hF.1 hE) rfl (hK _ _ (NewT.refl _) rfl)
                · exact fun a wx hT hF K hK => rely_if (rely_gt hF.2.2.1) (NewT.refl _) hK fun hE hK => opr_pick_b rfl (hF.1.trans (gV_on hE)) (fun hb => hK _ _ (NewT.refl _) (pk_or1 hb)) (fun hb => hK _ _ (NewT.refl _) (pk_or0 (hF.2.1 (band hE (bnot hb))) hb))
                · exact fun a wx hT hF K hK => rely_wp rfl (opr_pick_b rfl hF.1 (fun hb => hK _ _ (NewT.refl _) (pn_and1 Q1_16 (hF.2.1 hb) hb)) (fun hb => hK _ _ (NewT.refl _) (pn_and0 Q1_16 hb)))
                · intro w16 k16
                  iterate 3 (intro u h; obtain rfl := Eq.symm (h (by simp)); clear h)
                  iterate 3 (intro _ _)
                  iterate 2 (intro u h; obtain rfl := Eq.symm (h (by simp)); clear h)
                  iterate 8 (intro _ _)
                  intro u h; obtain rfl := Eq.symm (h (by simp)); clear h
                  subst Q1_16
                  refine relyEnd_nil rfl ?_
                  refine wpList_end rfl ?_
                  simp only [Act.put, List.setIfInBounds_toArray, List.set_cons_zero, List.set_cons_succ]
                  go_simp
                  replace R1 := Lib.hid (k16.row R1.out)
                  replace R3 := Lib.hid (k16.row R3.out)
                  replace HS := Lib.hid (k16.pairs HS.out)
                  replace HD := Lib.hid (k16.rd HD.out)
                  replace HN := Lib.hid (NewT.trans _ _ _ HN.out k16)
                  clear k16
                  cases hb16 : ((((!(recQ x)) && (x.kind != 6)) && ((x.part != 0) || (x.epoch != 0))))
                  rotate_left
                  · have HB16 := Lib.hid hb16
                    clear hb16
                    go_wp2
                    go_ret
                    exact ⟨_, rfl, HN.out, by unfold refR; rw [if_neg (by rw [HB3.out]; decide)]; rw [if_neg (by rw [HB6.out]; decide)]; rw [if_neg (by rw [HB10.out]; decide)]; rw [if_neg (by rw [HB12.out]; decide)]; rw [if_neg (by rw [HB14.out]; decide)]; rw [if_pos HB16.out]; rfl⟩
                  have HB16 := Lib.hid hb16
                  clear hb16
                  go_upto_region 18 with fail
                  refine wp_region_steps0 NewT [SV.eq (.bool (begQ x)), SV.eq (.bool (!(begQ x)))] [([(4, none)], none), ([(170, some 0)], none)] 251 2 rfl rfl (by kernel_rfl) NewT.trans (NewT.refl _) (Nat.le_of_ble_eq_true rfl) ⟨?_, ?_, trivial⟩ ?_
                  · exact fun a wx hT hF K hK => rely_wp rfl (opr_move (.inl rfl) (hK _ _ (NewT.refl _) hF.1))
                  · exact fun a wx hT hF K hK => rely_wp rfl (opr_not rfl hF.1 (hK _ _ (NewT.refl _) rfl))
                  · intro w18 k18
                    iterate 2 (intro u h; obtain rfl := Eq.symm (h (by simp)); clear h)
                    refine relyEnd_nil rfl ?_
                    refine wpList_end rfl ?_
                    simp only [Act.put, List.setIfInBounds_toArray, List.set_cons_zero, List.set_cons_succ]
                    go_simp
                    replace R1 := Lib.hid (k18.row R1.out)
                    replace R3 := Lib.hid (k18.row R3.out)
                    replace HS := Lib.hid (k18.pairs HS.out)
                    replace HD := Lib.hid (k18.rd HD.out)
                    replace HN := Lib.hid (NewT.trans _ _ _ HN.out k18)
                    clear k18
                    cases hb18 : (!(begQ x))
                    rotate_left
                    · have HB18 := Lib.hid hb18
                      clear hb18
                      go_upto_region 19 with fail
                      obtain ⟨q1_19, Q1_19⟩ : ∃ bq_, ((((List.length (x.steps) : Int)) == 0) && (((List.length (x.data) : Int)) == 0)) = bq_ := ⟨_, rfl⟩
                      obtain ⟨q2_19, Q2_19⟩ : ∃ bq_, (q1_19 && (eqH (x.salt) (fun _ => 0))) = bq_ := ⟨_, rfl⟩
                      obtain ⟨q3_19, Q3_19⟩ : ∃ bq_, ((q2_19 && (!x.gone)) && (eqH (x.com) (fun _ => 0))) = bq_ := ⟨_, rfl⟩
                      refine wp_region_steps0 NewT [SV.eq (.pointer (some ⟨w.heap.size, 42, none⟩)), SV.eq (sv), SV.eq (.int .i64 ((List.length (x.steps) : Int))), SV.eq (.bool (((List.length (x.steps) : Int)) == 0)), SV.eq (.bool (((List.length (x.steps) : Int)) == 0)), svIf (((List.length (x.steps) : Int)) == 0) (SV.eq (.pointer (some ⟨w.heap.size, 43, none⟩))), svIf (((List.length (x.steps) : Int)) == 0) (SV.eq (dv)), svIf (((List.length (x.steps) : Int)) == 0) (SV.eq (.int .i64 ((List.length (x.data) : Int)))), svIf (((List.length (x.steps) : Int)) == 0) (SV.eq (.bool (((List.length (x.data) : Int)) == 0))), SV.eq (.bool (q1_19)), SV.eq (.bool (q1_19)), svIf q1_19 (SV.eq (.pointer (some ⟨w.heap.size, 44, none⟩))), svIf q1_19 (SV.eq (.agg (rowA 32 (bF (x.salt))))), svIf q1_19 (SV.eq (.agg (rowA 32 (bF (fun _ => 0))))), svIf q1_19 (SV.eq (.bool (eqH (x.salt) (fun _ => 0)))), SV.eq (.bool (q2_19)), SV.eq (.bool (q2_19)), svIf q2_19 (SV.eq (.pointer (some ⟨w.heap.size, 76, none⟩))), svIf q2_19 (SV.eq (.bool (x.gone))), svIf q2_19 (SV.eq (.bool (!x.gone))), SV.eq (.bool (q2_19 && (!x.gone))), SV.eq (.bool (q2_19 && (!x.gone))), svIf (q2_19 && (!x.gone)) (SV.eq (.pointer (some ⟨w.heap.size, 77, none⟩))), svIf (q2_19 && (!x.gone)) (SV.eq (.agg (rowA 32 (bF (x.com))))), svIf (q2_19 && (!x.gone)) (SV.eq (.agg (rowA 32 (bF (fun _ => 0))))), svIf (q2_19 && (!x.gone)) (SV.eq (.bool (eqH (x.com) (fun _ => 0)))), SV.eq (.bool (q3_19))] [([(1, none)], none), ([(172, some 0)], none), ([(173, some 1)], none), ([(174, some 2)], none), ([(175, some 3)], none), ([(1, none), (176, some 4)], some (176, true)), ([(177, some 5), (176, some 4)], some (176, true)), ([(178, some 6), (176, some 4)], some (176, true)), ([(179, some 7), (176, some 4)], some (176, true)), ([(176, some 4), (180, some 8)], none), ([(181, some 9)], none), ([(1, none), (182, some 10)], some (182, true)), ([(183, some 11), (182, some 10)], some (182, true)), ([(3, none), (182, some 10)], some (182, true)), ([(184, some 12), (185, some 13), (182, some 10)], some (182, true)), ([(182, some 10), (186, some 14)], none), ([(187, some 15)], none), ([(1, none), (188, some 16)], some (188, true)), ([(189, some 17), (188, some 16)], some (188, true)), ([(190, some 18), (188, some 16)], some (188, true)), ([(188, some 16), (191, some 19)], none), ([(192, some 20)], none), ([(1, none), (193, some 21)], some (193, true)), ([(194, some 22), (193, some 21)], some (193, true)), ([(3, none), (193, some 21)], some (193, true)), ([(195, some 23), (196, some 24), (193, some 21)], some (193, true)), ([(193, some 21), (197, some 25)], none)] 251 27 rfl rfl (by kernel_rfl) NewT.trans (NewT.refl _) (Nat.le_of_ble_eq_true rfl) ⟨?_, ?_, ?_, ?_, ?_, ?_, ?_, ?_, ?_, ?_, ?_, ?_, ?_, ?_, ?_, ?_, ?_, ?_, ?_, ?_, ?_, ?_, ?_, ?_, ?_, ?_, ?_, trivial⟩ ?_
                      · exact fun a wx hT hF K hK => rely_wp rfl (opr_fldR (by decide) rfl hF.1 (hK _ _ (NewT.refl _) rfl))
                      · exact fun a wx hT hF K hK => rely_wp rfl (opr_ldS (hT.row R1.out) (by decide) rfl rfl hF.1 (hK _ _ (NewT.refl _) rfl))
                      · intro a wx hT hF K hK
                        obtain ⟨f173, _⟩ := hF
                        have f173 : a.tmps.getD 173 undef = sv := f173
                        refine rely_wp rfl ?_
                        exact opr_len_pairs rfl (by rw [eval_tmp, f173]; exact (hT.pairs HS.out)) (hK _ _ (NewT.refl _) rfl)
                      · exact fun a wx hT hF K hK => rely_wp rfl (opr_cmp (b := ((List.length (x.steps) : Int)) == 0) (.inl ⟨rfl, rfl⟩) Tryd.underlying3 rfl hF.1 rfl (hK _ _ (NewT.refl _) rfl))
                      · exact fun a wx hT hF K hK => rely_wp rfl (opr_move (.inl rfl) (hK _ _ (NewT.refl _) hF.1))
                      · exact fun a wx hT hF K hK => rely_if (rely_gt hF.2.1) (NewT.refl _) hK fun hE hK => opr_fldR (by decide) rfl hF.1 (hK _ _ (NewT.refl _) rfl)
                      · exact fun a wx hT hF K hK => rely_if (rely_gt hF.2.1) (NewT.refl _) hK fun hE hK => opr_ldB (hT.row R1.out) (by decide) rfl rfl (hF.1 hE) (hK _ _ (NewT.refl _) rfl)
                      · intro a wx hT hF K hK
                        obtain ⟨f178, f176, _⟩ := hF
                        have f178 : (((List.length (x.steps) : Int)) == 0) = true → a.tmps.getD 178 undef = dv := f178
                        have f176 : a.tmps.getD 176 undef = .bool (((List.length (x.steps) : Int)) == 0) := f176
                        refine rely_if (rely_gt f176) (NewT.refl _) hK (fun hE hK => ?_)
                        exact opr_len_rd rfl (by rw [eval_tmp, (f178 hE)]; exact (hT.rd HD.out)) (hK _ _ (NewT.refl _) rfl)
                      · exact fun a wx hT hF K hK => rely_if (rely_gt hF.2.1) (NewT.refl _) hK fun hE hK => opr_cmp (b := ((List.length (x.data) : Int)) == 0) (.inl ⟨rfl, rfl⟩) Tryd.underlying3 rfl (hF.1 hE) rfl (hK _ _ (NewT.refl _) rfl)
                      · exact fun a wx hT hF K hK => rely_wp rfl (opr_pick_b rfl hF.1 (fun hb => hK _ _ (NewT.refl _) (pn_and1 Q1_19 (hF.2.1 hb) hb)) (fun hb => hK _ _ (NewT.refl _) (pn_and0 Q1_19 hb)))
                      · exact fun a wx hT hF K hK => rely_wp rfl (opr_move (.inl rfl) (hK _ _ (NewT.refl _) hF.1))
                      · exact fun a wx hT hF K hK => rely_if (rely_gt hF.2.1) (NewT.refl _) hK fun hE hK => opr_fldR (by decide) rfl hF.1 (hK _ _ (NewT.refl _) rfl)
                      · exact fun a wx hT hF K hK => rely_if (rely_gt hF.2.1) (NewT.refl _) hK fun hE hK => opr_ldH (hT.row R1.out) (by decide) (recF_salt x _ _) rfl (hF.1 hE) (hK _ _ (NewT.refl _) rfl)
                      · exact fun a wx hT hF K hK => rely_if (rely_gt hF.2.1) (NewT.refl _) hK fun hE hK => opr_load_hash rfl hF.1 (hT.row R3.out) (hK _ _ (NewT.refl _) rfl)
                      · exact fun a wx hT hF K hK => rely_if (rely_gt hF.2.2.1) (NewT.refl _) hK fun hE hK => opr_eql_hash (b := eqH (x.salt) (fun _ => 0)) rfl (hF.1 hE) (hF.2.1 hE) (rfl) (hK _ _ (NewT.refl _) rfl)
                      · exact fun a wx hT hF K hK => rely_wp rfl (opr_pick_b rfl hF.1 (fun hb => hK _ _ (NewT.refl _) (pn_and1 Q2_19 (hF.2.1 hb) hb)) (fun hb => hK _ _ (NewT.refl _) (pn_and0 Q2_19 hb)))
                      · exact fun a wx hT hF K hK => rely_wp rfl (opr_move (.inl rfl) (hK _ _ (NewT.refl _) hF.1))
                      · exact fun a wx hT hF K hK => rely_if (rely_gt hF.2.1) (NewT.refl _) hK fun hE hK => opr_fldR (by decide) rfl hF.1 (hK _ _ (NewT.refl _) rfl)
                      · exact fun a wx hT hF K hK => rely_if (rely_gt hF.2.1) (NewT.refl _) hK fun hE hK => opr_ldQ (hT.row R1.out) (by decide) rfl rfl (hF.1 hE) (hK _ _ (NewT.refl _) rfl)
                      · exact fun a wx hT hF K hK => rely_if (rely_gt hF.2.1) (NewT.refl _) hK fun hE hK => opr_not rfl (hF.1 hE) (hK _ _ (NewT.refl _) rfl)
                      · exact fun a wx hT hF K hK => rely_wp rfl (opr_pick_b rfl hF.1 (fun hb => hK _ _ (NewT.refl _) (pk_and1 (hF.2.1 hb) hb)) (fun hb => hK _ _ (NewT.refl _) (pk_and0 hb)))
                      · exact fun a wx hT hF K hK => rely_wp rfl (opr_move (.inl rfl) (hK _ _ (NewT.refl _) hF.1))
                      · exact fun a wx hT hF K hK => rely_if (rely_gt hF.2.1) (NewT.refl _) hK fun hE hK => opr_fldR (by decide) rfl hF.1 (hK _ _ (NewT.refl _) rfl)
                      · exact fun a wx hT hF K hK => rely_if (rely_gt hF.2.1) (NewT.refl _) hK fun hE hK => opr_ldH (hT.row R1.out) (by decide) (recF_com x _ _) rfl (hF.1 hE) (hK _ _ (NewT.refl _) rfl)
                      · exact fun a wx hT hF K hK => rely_if (rely_gt hF.2.1) (NewT.refl _) hK fun hE hK => opr_load_hash rfl hF.1 (hT.row R3.out) (hK _ _ (NewT.refl _) rfl)
                      · exact fun a wx hT hF K hK => rely_if (rely_gt hF.2.2.1) (NewT.refl _) hK fun hE hK => opr_eql_hash (b := eqH (x.com) (fun _ => 0)) rfl (hF.1 hE) (hF.2.1 hE) (rfl) (hK _ _ (NewT.refl _) rfl)
                      · exact fun a wx hT hF K hK => rely_wp rfl (opr_pick_b rfl hF.1 (fun hb => hK _ _ (NewT.refl _) (pn_and1 Q3_19 (hF.2.1 hb) hb)) (fun hb => hK _ _ (NewT.refl _) (pn_and0 Q3_19 hb)))
                      · intro w19 k19
                        iterate 5 (intro u h; obtain rfl := Eq.symm (h (by simp)); clear h)
                        iterate 4 (intro _ _)
                        iterate 2 (intro u h; obtain rfl := Eq.symm (h (by simp)); clear h)
                        iterate 4 (intro _ _)
                        iterate 2 (intro u h; obtain rfl := Eq.symm (h (by simp)); clear h)
                        iterate 3 (intro _ _)
                        iterate 2 (intro u h; obtain rfl := Eq.symm (h (by simp)); clear h)
                        iterate 4 (intro _ _)
                        intro u h; obtain rfl := Eq.symm (h (by simp)); clear h
                        subst Q3_19 Q2_19 Q1_19
                        refine relyEnd_nil rfl ?_
                        simp only [Act.put, List.setIfInBounds_toArray, List.set_cons_zero, List.set_cons_succ]
                        refine wpList_plain rfl (fun K hK => ?_)
                        refine opr_move (.inr rfl) (hK _ _ ?_)
                        refine wpList_end rfl ?_
                        go_simp
                        replace R1 := Lib.hid (k19.row R1.out)
                        replace R3 := Lib.hid (k19.row R3.out)
                        replace HS := Lib.hid (k19.pairs HS.out)
                        replace HD := Lib.hid (k19.rd HD.out)
                        replace HN := Lib.hid (NewT.trans _ _ _ HN.out k19)
                        clear k19
                        go_wp2
                        go_ret
                        exact ⟨_, rfl, HN.out, by unfold refR; rw [if_neg (by rw [HB3.out]; decide)]; rw [if_neg (by rw [HB6.out]; decide)]; rw [if_neg (by rw [HB10.out]; decide)]; rw [if_neg (by rw [HB12.out]; decide)]; rw [if_neg (by rw [HB14.out]; decide)]; rw [if_neg (by rw [HB16.out]; decide)]; rw [if_pos HB18.out]; rfl⟩
                    have HB18 := Lib.hid hb18
                    clear hb18
                    obtain ⟨A0, cap, rfl, p1, p2, p3⟩ := HS.out
                    have P3 := Lib.hid p3
                    have HSo := HS
                    unfold maxLen at p2
                    clear p3
                    have c42 : w18.cell? ⟨w.heap.size, 42, none⟩ = some (.slice A0 x.steps.length cap) := R1.out.cell (i := 42) (by omega)
                    go_wp2
                    go_loopw [7] (fun i wr => ∃ k : Nat, k ≤ x.steps.length ∧ i = .int .i64 k ∧ Hid ((x.steps.take k).all stepOk = true) ∧ NewT w18 wr) (fun i _ => x.steps.length - (intOf i).toNat)
                    case atStart => exact ⟨0, by omega, rfl, Lib.hid (by simp), NewT.refl _⟩
                    case round =>
                      obtain ⟨k, hk, rfl, Hs, qN⟩ := hrel
                      replace c42 := (qN.out.cell (p := ⟨w.heap.size, 42, none⟩) (World.block_lt_of_cell? _ _ c42)).trans c42
                      replace R1 := Lib.hid (qN.row R1.out)
                      replace R3 := Lib.hid (qN.row R3.out)
                      replace HD := Lib.hid (qN.rd HD.out)
                      replace HSo := Lib.hid (qN.pairs HSo.out)
                      by_cases hlt : k < x.steps.length
                      · obtain ⟨b, o, rfl, hcell⟩ := P3.out (by omega)
                        obtain ⟨j0, j1⟩ := hcell k hlt
                        have k0 := (qN.out.cell (p := ⟨b, o + 2 * k, none⟩) (World.block_lt_of_cell? _ _ j0)).trans j0
                        have k1 := (qN.out.cell (p := ⟨b, o + 2 * k + 1, none⟩) (World.block_lt_of_cell? _ _ j1)).trans j1
                        have Hal := Lib.hid (all_next x.steps k hlt)
                        have Hno := Lib.hid (all_not x.steps k hlt)
                        clear hcell j0 j1
                        generalize x.steps.getD k (0, 0) = s at k0 k1 Hal Hno
                        have it : (k : Int) < (x.steps.length : Int) := by omega
                        go_upto_region 23 with fail
                        obtain ⟨q1_23, Q1_23⟩ : ∃ bq_, ((!(inR s.1 0 3)) || (!(inR s.2 1 3))) = bq_ := ⟨_, rfl⟩
                        refine wp_region_steps0 NewT [SV.eq (.pointer (some ⟨w.heap.size, 42, none⟩)), SV.eq ((.slice (some ⟨b, o, none⟩) x.steps.length cap)), SV.eq (.int .i64 ((k : Int))), SV.eq (.pointer (some ⟨b, o + 2 * k, none⟩)), SV.eq (.pointer (some ⟨b, o + 2 * k + 0, none⟩)), SV.eq (.int .i64 (s.1)), SV.eq (.bool (inR s.1 0 3)), SV.eq (.bool (!(inR s.1 0 3))), SV.eq (.bool (!(inR s.1 0 3))), svIf ((!(!(inR s.1 0 3)))) (SV.eq (.pointer (some ⟨w.heap.size, 42, none⟩))), svIf ((!(!(inR s.1 0 3)))) (SV.eq ((.slice (some ⟨b, o, none⟩) x.steps.length cap))), svIf ((!(!(inR s.1 0 3)))) (SV.eq (.int .i64 ((k : Int)))), svIf ((!(!(inR s.1 0 3)))) (SV.eq (.pointer (some ⟨b, o + 2 * k, none⟩))), svIf ((!(!(inR s.1 0 3)))) (SV.eq (.pointer (some ⟨b, o + 2 * k + 1, none⟩))), svIf ((!(!(inR s.1 0 3)))) (SV.eq (.int .i64 (s.2))), svIf ((!(!(inR s.1 0 3)))) (SV.eq (.bool (inR s.2 1 3))), svIf ((!(!(inR s.1 0 3)))) (SV.eq (.bool (!(inR s.2 1 3)))), SV.eq (.bool (q1_23))] [([(1, none)], none), ([(206, some 0)], none), ([(7, none)], none), ([(207, some 1), (208, some 2)], none), ([(209, some 3)], none), ([(210, some 4)], none), ([(211, some 5)], none), ([(212, some 6)], none), ([(213, some 7)], none), ([(1, none), (214, some 8)], some (214, false)), ([(215, some 9), (214, some 8)], some (214, false)), ([(7, none), (214, some 8)], some (214, false)), ([(216, some 10), (217, some 11), (214, some 8)], some (214, false)), ([(218, some 12), (214, some 8)], some (214, false)), ([(219, some 13), (214, some 8)], some (214, false)), ([(220, some 14), (214, some 8)], some (214, false)), ([(221, some 15), (214, some 8)], some (214, false)), ([(214, some 8), (222, some 16)], none)] 251 18 rfl rfl (by kernel_rfl) NewT.trans (NewT.refl _) (Nat.le_of_ble_eq_true rfl) ⟨?_, ?_, ?_, ?_, ?_, ?_, ?_, ?_, ?_, ?_, ?_, ?_, ?_, ?_, ?_, ?_, ?_, ?_, trivial⟩ ?_
                        · exact fun a wx hT hF K hK => rely_wp rfl (opr_fldR (by decide) rfl hF.1 (hK _ _ (NewT.refl _) rfl))
                        · exact fun a wx hT hF K hK => rely_wp rfl (opr_ldS (hT.row R1.out) (by decide) rfl rfl hF.1 (hK _ _ (NewT.refl _) rfl))
                        · exact fun a wx hT hF K hK => rely_wp rfl (opr_move (.inl rfl) (hK _ _ (NewT.refl _) hF.1))
                        · exact fun a wx hT hF K hK => rely_wp rfl (opr_idxS hlt rfl hF.1 hF.2.1 (hK _ _ (NewT.refl _) rfl))
                        · exact fun a wx hT hF K hK => rely_wp rfl (opr_fldS (by decide) rfl hF.1 (hK _ _ (NewT.refl _) rfl))
                        · exact fun a wx hT hF K hK => rely_wp rfl (opr_ld1 Tryd.underlying3 rfl rfl hF.1 (show wx.cell? ⟨b, o + 2 * k + 0, none⟩ = _ from (hT.out.cell (World.block_lt_of_cell? _ _ k0)).trans k0) (hK _ _ (NewT.refl _) rfl))
                        · exact fun a wx hT hF K hK => rely_wp rfl (opr_cv (refIn_cv s.1 0 3 wx) rfl Tryd.func43 (by kernel_rfl) (by kernel_rfl) (evs3 hF.1 rfl rfl) hK)
                        · exact fun a wx hT hF K hK => rely_wp rfl (opr_not rfl hF.1 (hK _ _ (NewT.refl _) rfl))
                        · exact fun a wx hT hF K hK => rely_wp rfl (opr_move (.inl rfl) (hK _ _ (NewT.refl _) hF.1))
                        · exact fun a wx hT hF K hK => rely_if (rely_gf hF.2.1) (NewT.refl _) hK fun hE hK => opr_fldR (by decide) rfl hF.1 (hK _ _ (NewT.refl _) rfl)
                        · exact fun a wx hT hF K hK => rely_if (rely_gf hF.2.1) (NewT.refl _) hK fun hE hK => opr_ldS (hT.row R1.out) (by decide) rfl rfl (hF.1 hE) (hK _ _ (NewT.refl _) rfl)
                        · exact fun a wx hT hF K hK => rely_if (rely_gf hF.2.1) (NewT.refl _) hK fun hE hK => opr_move (.inl rfl) (hK _ _ (NewT.refl _) hF.1)
                        · exact fun a wx hT hF K hK => rely_if (rely_gf hF.2.2.1) (NewT.refl _) hK fun hE hK => opr_idxS hlt rfl (hF.1 hE) (hF.2.1 hE) (hK _ _ (NewT.refl _) rfl)
                        · exact fun a wx hT hF K hK => rely_if (rely_gf hF.2.1) (NewT.refl _) hK fun hE hK => opr_fldS (by decide) rfl (hF.1 hE) (hK _ _ (NewT.refl _) rfl)
                        · exact fun a wx hT hF K hK => rely_if (rely_gf hF.2.1) (NewT.refl _) hK fun hE hK => opr_ld1 Tryd.underlying3 rfl rfl (hF.1 hE) (show wx.cell? ⟨b, o + 2 * k + 1, none⟩ = _ from (hT.out.cell (World.block_lt_of_cell? _ _ k1)).trans k1) (hK _ _ (NewT.refl _) rfl)
                        · exact fun a wx hT hF K hK => rely_if (rely_gf hF.2.1) (NewT.refl _) hK fun hE hK => opr_cv (refIn_cv s.2 1 3 wx) rfl Tryd.func43 (by kernel_rfl) (by kernel_rfl) (evs3 (hF.1 hE) rfl rfl) hK
                        · exact fun a wx hT hF K hK => rely_if (rely_gf hF.2.1) (NewT.refl _) hK fun hE hK => opr_not rfl (hF.1 hE) (hK _ _ (NewT.refl _) rfl)
                        · exact fun a wx hT hF K hK => rely_wp rfl (opr_pick_b rfl hF.1 (fun hb => hK _ _ (NewT.refl _) (pn_or1 Q1_23 hb)) (fun hb => hK _ _ (NewT.refl _) (pn_or0 Q1_23 (hF.2.1 (bnot hb)) hb)))
                        · intro w23 k23
                          iterate 9 (intro u h; obtain rfl := Eq.symm (h (by simp)); clear h)
                          iterate 8 (intro _ _)
                          intro u h; obtain rfl := Eq.symm (h (by simp)); clear h
                          subst Q1_23
                          refine relyEnd_nil rfl ?_
                          refine wpList_end rfl ?_
                          simp only [Act.put, List.setIfInBounds_toArray, List.set_cons_zero, List.set_cons_succ]
                          go_simp
                          have hst : (((!(inR s.1 0 3)) || (!(inR s.2 1 3)))) = !stepOk s := by unfold stepOk; cases inR s.1 0 3 <;> rfl
                          have HST := Lib.hid hst
                          clear hst
                          cases hq : (((!(inR s.1 0 3)) || (!(inR s.2 1 3))))
                          · have Hq : Hid (stepOk s = true) := Lib.hid (by have := HST.out; rw [hq] at this; simpa using this.symm)
                            clear hq
                            go_wp2
                            go_roundw
                            case rel => exact ⟨k + 1, by omega, by go_num, Lib.hid (by rw [Hal.out, Hs.out, Hq.out]; rfl), NewT.trans _ _ _ qN k23⟩
                            case measure => simp [intOf]; omega
                          · have Hq : Hid (stepOk s = false) := Lib.hid (by have := HST.out; rw [hq] at this; simpa using this.symm)
                            have HBs : Hid (x.steps.all stepOk = false) := Lib.hid (Hno.out Hq.out)
                            clear hq
                            go_wp2
                            go_ret
                            exact ⟨_, rfl, NewT.trans _ _ _ HN.out (NewT.trans _ _ _ qN k23), by unfold refR; rw [if_neg (by rw [HB3.out]; decide)]; rw [if_neg (by rw [HB6.out]; decide)]; rw [if_neg (by rw [HB10.out]; decide)]; rw [if_neg (by rw [HB12.out]; decide)]; rw [if_neg (by rw [HB14.out]; decide)]; rw [if_neg (by rw [HB16.out]; decide)]; rw [if_neg (by rw [HB18.out]; decide)]; rw [if_pos HBs.out]; rfl⟩
                      · obtain rfl : k = x.steps.length := by omega
                        have HBs : Hid (x.steps.all stepOk = true) := Lib.hid (by have := Hs.out; rw [List.take_length] at this; exact this)
                        replace HN := Lib.hid (NewT.trans _ _ _ HN.out qN)
                        replace HS := HSo
                        clear HSo Hs
                        generalize wr = w20 at *
                        clear qN
                        go_upto_region 25 with fail
                        obtain ⟨q1_25, Q1_25⟩ : ∃ bq_, ((!(inR ((List.length (x.steps) : Int)) 1 6)) || (decide (60 < ((List.length (x.data) : Int))))) = bq_ := ⟨_, rfl⟩
                        refine wp_region_steps0 NewT [SV.eq (.pointer (some ⟨w.heap.size, 42, none⟩)), SV.eq ((.slice A0 x.steps.length cap)), SV.eq (.int .i64 ((List.length (x.steps) : Int))), SV.eq (.bool (inR ((List.length (x.steps) : Int)) 1 6)), SV.eq (.bool (!(inR ((List.length (x.steps) : Int)) 1 6))), SV.eq (.bool (!(inR ((List.length (x.steps) : Int)) 1 6))), svIf ((!(!(inR ((List.length (x.steps) : Int)) 1 6)))) (SV.eq (.pointer (some ⟨w.heap.size, 43, none⟩))), svIf ((!(!(inR ((List.length (x.steps) : Int)) 1 6)))) (SV.eq (dv)), svIf ((!(!(inR ((List.length (x.steps) : Int)) 1 6)))) (SV.eq (.int .i64 ((List.length (x.data) : Int)))), svIf ((!(!(inR ((List.length (x.steps) : Int)) 1 6)))) (SV.eq (.bool (decide (60 < ((List.length (x.data) : Int)))))), SV.eq (.bool (q1_25))] [([(1, none)], none), ([(224, some 0)], none), ([(225, some 1)], none), ([(226, some 2)], none), ([(227, some 3)], none), ([(228, some 4)], none), ([(1, none), (229, some 5)], some (229, false)), ([(230, some 6), (229, some 5)], some (229, false)), ([(231, some 7), (229, some 5)], some (229, false)), ([(232, some 8), (229, some 5)], some (229, false)), ([(229, some 5), (233, some 9)], none)] 251 11 rfl rfl (by kernel_rfl) NewT.trans (NewT.refl _) (Nat.le_of_ble_eq_true rfl) ⟨?_, ?_, ?_, ?_, ?_, ?_, ?_, ?_, ?_, ?_, ?_, trivial⟩ ?_
                        · exact fun a wx hT hF K hK => rely_wp rfl (opr_fldR (by decide) rfl hF.1 (hK _ _ (NewT.refl _) rfl))
                        · exact fun a wx hT hF K hK => rely_wp rfl (opr_ldS (hT.row R1.out) (by decide) rfl rfl hF.1 (hK _ _ (NewT.refl _) rfl))
                        · intro a wx hT hF K hK
                          obtain ⟨f225, _⟩ := hF
                          have f225 : a.tmps.getD 225 undef = (.slice A0 x.steps.length cap) := f225
                          refine rely_wp rfl ?_
                          exact opr_len_pairs rfl (by rw [eval_tmp, f225]; exact (hT.pairs HS.out)) (hK _ _ (NewT.refl _) rfl)
                        · exact fun a wx hT hF K hK => rely_wp rfl (opr_cv (refIn_cv ((List.length (x.steps) : Int)) 1 6 wx) rfl Tryd.func43 (by kernel_rfl) (by kernel_rfl) (evs3 hF.1 rfl rfl) hK)
                        · exact fun a wx hT hF K hK => rely_wp rfl (opr_not rfl hF.1 (hK _ _ (NewT.refl _) rfl))
                        · exact fun a wx hT hF K hK => rely_wp rfl (opr_move (.inl rfl) (hK _ _ (NewT.refl _) hF.1))
                        · exact fun a wx hT hF K hK => rely_if (rely_gf hF.2.1) (NewT.refl _) hK fun hE hK => opr_fldR (by decide) rfl hF.1 (hK _ _ (NewT.refl _) rfl)
                        · exact fun a wx hT hF K hK => rely_if (rely_gf hF.2.1) (NewT.refl _) hK fun hE hK => opr_ldB (hT.row R1.out) (by decide) rfl rfl (hF.1 hE) (hK _ _ (NewT.refl _) rfl)
                        · intro a wx hT hF K hK
                          obtain ⟨f231, f229, _⟩ := hF
                          have f231 : ((!(!(inR ((List.length (x.steps) : Int)) 1 6)))) = true → a.tmps.getD 231 undef = dv := f231
                          have f229 : a.tmps.getD 229 undef = .bool (!(inR ((List.length (x.steps) : Int)) 1 6)) := f229
                          refine rely_if (rely_gf f229) (NewT.refl _) hK (fun hE hK => ?_)
                          exact opr_len_rd rfl (by rw [eval_tmp, (f231 hE)]; exact (hT.rd HD.out)) (hK _ _ (NewT.refl _) rfl)
                        · exact fun a wx hT hF K hK => rely_if (rely_gf hF.2.1) (NewT.refl _) hK fun hE hK => opr_cmp (b := decide (60 < ((List.length (x.data) : Int)))) (.inr (.inr (.inr (.inr (.inl ⟨rfl, rfl⟩))))) Tryd.underlying3 rfl (hF.1 hE) rfl (hK _ _ (NewT.refl _) rfl)
                        · exact fun a wx hT hF K hK => rely_wp rfl (opr_pick_b rfl hF.1 (fun hb => hK _ _ (NewT.refl _) (pn_or1 Q1_25 hb)) (fun hb => hK _ _ (NewT.refl _) (pn_or0 Q1_25 (hF.2.1 (bnot hb)) hb)))
                        · intro w25 k25
                          iterate 6 (intro u h; obtain rfl := Eq.symm (h (by simp)); clear h)
                          iterate 4 (intro _ _)
                          intro u h; obtain rfl := Eq.symm (h (by simp)); clear h
                          subst Q1_25
                          refine relyEnd_nil rfl ?_
                          refine wpList_end rfl ?_
                          simp only [Act.put, List.setIfInBounds_toArray, List.set_cons_zero, List.set_cons_succ]
                          go_simp
                          replace R1 := Lib.hid (k25.row R1.out)
                          replace R3 := Lib.hid (k25.row R3.out)
                          replace HS := Lib.hid (k25.pairs HS.out)
                          replace HD := Lib.hid (k25.rd HD.out)
                          replace HN := Lib.hid (NewT.trans _ _ _ HN.out k25)
                          clear k25
                          cases hb25 : (((!(inR ((List.length (x.steps) : Int)) 1 6)) || (decide (60 < ((List.length (x.data) : Int))))))
                          rotate_left
                          · have HB25 := Lib.hid hb25
                            clear hb25
                            go_wp2
                            go_ret
                            exact ⟨_, rfl, HN.out, by unfold refR; rw [if_neg (by rw [HB3.out]; decide)]; rw [if_neg (by rw [HB6.out]; decide)]; rw [if_neg (by rw [HB10.out]; decide)]; rw [if_neg (by rw [HB12.out]; decide)]; rw [if_neg (by rw [HB14.out]; decide)]; rw [if_neg (by rw [HB16.out]; decide)]; rw [if_neg (by rw [HB18.out]; decide)]; rw [if_neg (by rw [HBs.out]; decide)]; rw [if_pos HB25.out]; rfl⟩
                          have HB25 := Lib.hid hb25
                          clear hb25
                          have c76 : w25.cell? ⟨w.heap.size, 76, none⟩ = some (.bool x.gone) := R1.out.cell (i := 76) (by omega)
                          cases hg : x.gone
                          · rw [hg] at c76
                            have HG : Hid (x.gone = false) := Lib.hid hg
                            clear hg
                            go_upto_region 29 with fail
                            clear c76
                            refine wp_region_steps0 NewT [SV.eq (.pointer (some ⟨w.heap.size, 77, none⟩)), SV.eq (.agg (rowA 32 (bF (x.com)))), SV.eq (.agg (rowA 32 (bF (fun _ => 0)))), SV.eq (.bool (eqH (x.com) (fun _ => 0)))] [([(1, none)], none), ([(247, some 0)], none), ([(3, none)], none), ([(248, some 1), (249, some 2)], none)] 251 4 rfl rfl (by kernel_rfl) NewT.trans (NewT.refl _) (Nat.le_of_ble_eq_true rfl) ⟨?_, ?_, ?_, ?_, trivial⟩ ?_
                            · exact fun a wx hT hF K hK => rely_wp rfl (opr_fldR (by decide) rfl hF.1 (hK _ _ (NewT.refl _) rfl))
                            · exact fun a wx hT hF K hK => rely_wp rfl (opr_ldH (hT.row R1.out) (by decide) (recF_com x _ _) rfl hF.1 (hK _ _ (NewT.refl _) rfl))
                            · exact fun a wx hT hF K hK => rely_wp rfl (opr_load_hash rfl hF.1 (hT.row R3.out) (hK _ _ (NewT.refl _) rfl))
                            · exact fun a wx hT hF K hK => rely_wp rfl (opr_eql_hash (b := eqH (x.com) (fun _ => 0)) rfl hF.1 hF.2.1 (rfl) (hK _ _ (NewT.refl _) rfl))
                            · intro w29 k29
                              iterate 4 (intro u h; obtain rfl := Eq.symm (h (by simp)); clear h)
                              refine relyEnd_nil rfl ?_
                              simp only [Act.put, List.setIfInBounds_toArray, List.set_cons_zero, List.set_cons_succ]
                              refine wpList_plain rfl (fun K hK => ?_)
                              refine opr_move (.inr rfl) (hK _ _ ?_)
                              refine wpList_end rfl ?_
                              go_simp
                              go_wp2
                              go_ret
                              exact ⟨_, rfl, NewT.trans _ _ _ HN.out k29, by unfold refR; rw [if_neg (by rw [HB3.out]; decide)]; rw [if_neg (by rw [HB6.out]; decide)]; rw [if_neg (by rw [HB10.out]; decide)]; rw [if_neg (by rw [HB12.out]; decide)]; rw [if_neg (by rw [HB14.out]; decide)]; rw [if_neg (by rw [HB16.out]; decide)]; rw [if_neg (by rw [HB18.out]; decide)]; rw [if_neg (by rw [HBs.out]; decide)]; rw [if_neg (by rw [HB25.out]; decide)]; rw [if_neg (by rw [HG.out]; decide)]; rfl⟩
                          · rw [hg] at c76
                            have HG : Hid (x.gone = true) := Lib.hid hg
                            clear hg
                            go_upto_region 28 with fail
                            clear c76
                            obtain ⟨q1_28, Q1_28⟩ : ∃ bq_, ((((List.length (x.data) : Int)) == 0) && (eqH (x.salt) (fun _ => 0))) = bq_ := ⟨_, rfl⟩
                            refine wp_region_steps0 NewT [SV.eq (.pointer (some ⟨w.heap.size, 43, none⟩)), SV.eq (dv), SV.eq (.int .i64 ((List.length (x.data) : Int))), SV.eq (.bool (((List.length (x.data) : Int)) == 0)), SV.eq (.bool (((List.length (x.data) : Int)) == 0)), svIf (((List.length (x.data) : Int)) == 0) (SV.eq (.pointer (some ⟨w.heap.size, 44, none⟩))), svIf (((List.length (x.data) : Int)) == 0) (SV.eq (.agg (rowA 32 (bF (x.salt))))), svIf (((List.length (x.data) : Int)) == 0) (SV.eq (.agg (rowA 32 (bF (fun _ => 0))))), svIf (((List.length (x.data) : Int)) == 0) (SV.eq (.bool (eqH (x.salt) (fun _ => 0)))), SV.eq (.bool (q1_28))] [([(1, none)], none), ([(237, some 0)], none), ([(238, some 1)], none), ([(239, some 2)], none), ([(240, some 3)], none), ([(1, none), (241, some 4)], some (241, true)), ([(242, some 5), (241, some 4)], some (241, true)), ([(3, none), (241, some 4)], some (241, true)), ([(243, some 6), (244, some 7), (241, some 4)], some (241, true)), ([(241, some 4), (245, some 8)], none)] 251 10 rfl rfl (by kernel_rfl) NewT.trans (NewT.refl _) (Nat.le_of_ble_eq_true rfl) ⟨?_, ?_, ?_, ?_, ?_, ?_, ?_, ?_, ?_, ?_, trivial⟩ ?_
                            · exact fun a wx hT hF K hK => rely_wp rfl (opr_fldR (by decide) rfl hF.1 (hK _ _ (NewT.refl _) rfl))
                            · exact fun a wx hT hF K hK => rely_wp rfl (opr_ldB (hT.row R1.out) (by decide) rfl rfl hF.1 (hK _ _ (NewT.refl _) rfl))
                            · intro a wx hT hF K hK
                              obtain ⟨f238, _⟩ := hF
                              have f238 : a.tmps.getD 238 undef = dv := f238
                              refine rely_wp rfl ?_
                              exact opr_len_rd rfl (by rw [eval_tmp, f238]; exact (hT.rd HD.out)) (hK _ _ (NewT.refl _) rfl)
                            · exact fun a wx hT hF K hK => rely_wp rfl (opr_cmp (b := ((List.length (x.data) : Int)) == 0) (.inl ⟨rfl, rfl⟩) Tryd.underlying3 rfl hF.1 rfl (hK _ _ (NewT.refl _) rfl))
                            · exact fun a wx hT hF K hK => rely_wp rfl (opr_move (.inl rfl) (hK _ _ (NewT.refl _) hF.1))
                            · exact fun a wx hT hF K hK => rely_if (rely_gt hF.2.1) (NewT.refl _) hK fun hE hK => opr_fldR (by decide) rfl hF.1 (hK _ _ (NewT.refl _) rfl)
                            · exact fun a wx hT hF K hK => rely_if (rely_gt hF.2.1) (NewT.refl _) hK fun hE hK => opr_ldH (hT.row R1.out) (by decide) (recF_salt x _ _) rfl (hF.1 hE) (hK _ _ (NewT.refl _) rfl)
                            · exact fun a wx hT hF K hK => rely_if (rely_gt hF.2.1) (NewT.refl _) hK fun hE hK => opr_load_hash rfl hF.1 (hT.row R3.out) (hK _ _ (NewT.refl _) rfl)
                            · exact fun a wx hT hF K hK => rely_if (rely_gt hF.2.2.1) (NewT.refl _) hK fun hE hK => opr_eql_hash (b := eqH (x.salt) (fun _ => 0)) rfl (hF.1 hE) (hF.2.1 hE) (rfl) (hK _ _ (NewT.refl _) rfl)
                            · exact fun a wx hT hF K hK => rely_wp rfl (opr_pick_b rfl hF.1 (fun hb => hK _ _ (NewT.refl _) (pn_and1 Q1_28 (hF.2.1 hb) hb)) (fun hb => hK _ _ (NewT.refl _) (pn_and0 Q1_28 hb)))
                            · intro w28 k28
                              iterate 5 (intro u h; obtain rfl := Eq.symm (h (by simp)); clear h)
                              iterate 4 (intro _ _)
                              intro u h; obtain rfl := Eq.symm (h (by simp)); clear h
                              subst Q1_28
                              refine relyEnd_nil rfl ?_
                              simp only [Act.put, List.setIfInBounds_toArray, List.set_cons_zero, List.set_cons_succ]
                              refine wpList_plain rfl (fun K hK => ?_)
                              refine opr_move (.inr rfl) (hK _ _ ?_)
                              refine wpList_end rfl ?_
                              go_simp
                              go_wp2
                              go_ret
                              exact ⟨_, rfl, NewT.trans _ _ _ HN.out k28, by unfold refR; rw [if_neg (by rw [HB3.out]; decide)]; rw [if_neg (by rw [HB6.out]; decide)]; rw [if_neg (by rw [HB10.out]; decide)]; rw [if_neg (by rw [HB12.out]; decide)]; rw [if_neg (by rw [HB14.out]; decide)]; rw [if_neg (by rw [HB16.out]; decide)]; rw [if_neg (by rw [HB18.out]; decide)]; rw [if_neg (by rw [HBs.out]; decide)]; rw [if_neg (by rw [HB25.out]; decide)]; rw [if_pos HG.out]; rfl⟩
end Go.Proofs.YtcfogkimjbgjgaaDoor
/- What the reference's Right says is what a right record is. -/
namespace Go.Proofs.YtcfogkimjbgjgaaDoor
open Go Go.RowKit
set_option maxRecDepth 8000
set_option linter.all false
theorem eqH_Z (d : Nat → UInt8) : eqH d (fun _ => 0) = hZ d := by rw [Bool.eq_iff_iff, eqH_hL, hZ_iff]
theorem len_empty {α : Type} (l : List α) : ((l.length : Int) == 0) = l.isEmpty := by cases l <;> simp; omega
theorem ite_no (c r : Bool) : (if c = true then false else r) = (!c && r) := by cases c <;> rfl
theorem ite_no2 (c r : Bool) : (if c = false then false else r) = (c && r) := by cases c <;> rfl
theorem dec60 (n : Nat) : decide ((60 : Int) < (n : Int)) = !decide (n ≤ 60) := by
  by_cases h : n ≤ 60 <;> simp [h] <;> omega
set_option maxHeartbeats 2000000 in
theorem ref_right (x : Rc) : refR x = rightB x := by
  unfold refR rightB begQ callQ recQ noCall noReceipt noBegin isCall
  simp only [eqH_Z, len_empty, bne, ite_no, ite_no2, dec60]
  by_cases k1 : x.kind = 1
  · rw [Bool.eq_iff_iff]
    simp [k1]
    cases x.gone <;> simp <;> constructor <;> intro h <;> simp_all
  by_cases k2 : x.kind = 2 ∨ x.kind = 4
  · rw [Bool.eq_iff_iff]
    rcases k2 with k | k <;> simp [k] <;> constructor <;> intro h <;> simp_all
  by_cases k3 : x.kind = 3
  · rw [Bool.eq_iff_iff]
    simp [k3]
    constructor <;> intro h <;> simp_all
  by_cases k5 : x.kind = 5
  · rw [Bool.eq_iff_iff]
    simp [k5]
    constructor <;> intro h <;> simp_all
  by_cases k6 : x.kind = 6
  · rw [Bool.eq_iff_iff]
    simp [k6]
    constructor
    · intro h; simp_all
    · intro h; simp_all; decide
  · have hb : (decide (x.kind < 1) || decide (6 < x.kind)) = true := by simp; omega
    rw [hb]
    simp [k1, k2, k3, k5, k6]
theorem RRight_cv (v : Value) (x : Rc) (w : World) (h : RecV w v x) : Cv 24 #[v] w (.eq (.bool (rightB x))) := by rw [← ref_right]; exact RRightR_cv v x w h
end Go.Proofs.YtcfogkimjbgjgaaDoor
/- What layer 10's laws say of receipts, on lists. -/
namespace Go.Proofs.YtcfogkimjbgjgaaDoor
open Go
set_option maxRecDepth 8000
set_option linter.all false
/-- What a right receipt is. -/
theorem right3 {x : Rc} (hk : x.kind = 3) : rightB x = (inR x.saga 0 11 && isCall x && x.nd == 0 && inR x.part 0 3 && inR x.epoch 0 400 && noBegin x) := by
  unfold rightB
  rw [if_neg (by omega), if_neg (by omega), if_pos hk]
theorem right3_iff {x : Rc} (hk : x.kind = 3) : rightB x = true ↔ (0 ≤ x.saga ∧ x.saga ≤ 11) ∧ ((1 ≤ x.seq ∧ x.seq ≤ 400) ∧ (0 ≤ x.step ∧ x.step ≤ 5) ∧ 1 ≤ x.tr ∧ x.tr ≤ 9) ∧ x.nd = 0 ∧ (0 ≤ x.part ∧ x.part ≤ 3) ∧ (0 ≤ x.epoch ∧ x.epoch ≤ 400) ∧ noBegin x = true := by
  rw [right3 hk]
  unfold isCall
  simp only [Bool.and_eq_true, inR_iff, beq_iff_eq]
  constructor
  · rintro ⟨⟨⟨⟨⟨a, b⟩, c⟩, d⟩, e⟩, f⟩; exact ⟨a, ⟨b.1.1, b.1.2, b.2⟩, c, d, e, f⟩
  · rintro ⟨a, b, c, d, e, f⟩; exact ⟨⟨⟨⟨⟨a, ⟨b.1, b.2.1⟩, b.2.2⟩, c⟩, d⟩, e⟩, f⟩
section
variable {kf : Hs → List Int → Hs} {ps ws : List Hs} {need : Int}
/-- Of a right receipt, by keys that may be. -/
theorem holds_right {y : Rc} (hm : mayB ps ws need = true) (hk : y.kind = 3) (hr : rightB y = true) : holdsB kf ps ws need y = (decide (y.part < (ps.length : Int)) && eqH (recpH kf ps ws need y) y.tag) := by
  obtain ⟨_, _, _, hp, he, _⟩ := (right3_iff hk).1 hr
  have hh : hasB ps ws need y.part y.epoch = decide (y.part < (ps.length : Int)) := by
    rw [Bool.eq_iff_iff, hasB_iff, decide_eq_true_iff]
    exact ⟨fun h => h.2.1.2, fun h => ⟨hm, ⟨hp.1, h⟩, he⟩⟩
  unfold holdsB
  rw [hk, hr, hh]; rfl
theorem recp_tag (x : Rc) (d : Hs) : recpH kf ps ws need { x with tag := d } = recpH kf ps ws need x := rfl
theorem recp_tr (x : Rc) (t : Int) : recpH kf ps ws need { x with tr := t } = recpH kf ps ws need x := rfl
theorem right_tag {x : Rc} (hk : x.kind = 3) (d : Hs) (hr : rightB x = true) : rightB { x with tag := d } = true := by
  exact (right3 (x := { x with tag := d }) hk).trans ((right3 hk).symm.trans hr)
theorem hold_1 {x : Rc} (hm : mayB ps ws need = true) (hk : x.kind = 3) (hr : rightB x = true) (hp : x.part < (ps.length : Int)) : holdsB kf ps ws need { x with tag := recpH kf ps ws need x } = true := by
  refine (holds_right (y := { x with tag := recpH kf ps ws need x }) hm hk (right_tag hk _ hr)).trans ?_
  show (decide (x.part < (ps.length : Int)) && eqH (recpH kf ps ws need x) (recpH kf ps ws need x)) = true
  rw [eqH_same, decide_eq_true hp]; rfl
theorem hold_2 {x : Rc} {t : Int} (hm : mayB ps ws need = true) (hk : x.kind = 3) (hr : rightB x = true) (hp : x.part < (ps.length : Int)) (ht : 1 ≤ t ∧ t ≤ 9) : holdsB kf ps ws need { { x with tag := recpH kf ps ws need x } with tr := t } = true := by
  have hr2 : rightB { { x with tag := recpH kf ps ws need x } with tr := t } = true := by
    obtain ⟨a, ⟨b, c, _⟩, d, e, f, g⟩ := (right3_iff hk).1 hr
    exact (right3_iff (x := { { x with tag := recpH kf ps ws need x } with tr := t }) hk).2 ⟨a, ⟨b, c, ht⟩, d, e, f, g⟩
  refine (holds_right (y := { { x with tag := recpH kf ps ws need x } with tr := t }) hm hk hr2).trans ?_
  show (decide (x.part < (ps.length : Int)) && eqH (recpH kf ps ws need x) (recpH kf ps ws need x)) = true
  rw [eqH_same, decide_eq_true hp]; rfl
/-- A receipt in which something else stands, with the first one's tag. -/
theorem apart_of {y : Rc} (hm : mayB ps ws need = true) (hk : y.kind = 3) (hr : rightB y = true) : (holdsB kf ps ws need y == (decide (y.part < (ps.length : Int)) && eqH (recpH kf ps ws need y) y.tag)) = true := by
  rw [holds_right hm hk hr]; exact beq_self_eq_true _
end
end Go.Proofs.YtcfogkimjbgjgaaDoor
/- Single operations that layer 10's laws have: numbers turned, remainders. -/
namespace Go.Proofs.YtcfogkimjbgjgaaDoor
open Go Go.RowKit
set_option maxRecDepth 8000
set_option linter.all false
section
variable {a : Act} {w : World} {o : Oper} {K : Act → World → Prop} {Q : Exit → Act → World → Prop} {x y : Operand}
theorem opr_cv8 {n : Int} (hn : 0 ≤ n ∧ n ≤ 255) (ho : o.op = .convert 5 3 x) (hx : a.eval x = .int .u8 n) (h : K (a.put o.dst (.int .i64 n)) w) : o.wp Tryd.prog a w K Q := by
  obtain ⟨dst, op, type, pos, after, guard⟩ := o
  simp only at ho
  subst ho
  refine opr_val (s := convert 5 3 (a.eval x)) rfl ?_ h
  rw [hx]
  have hw : IntKind.i64.wrap n = n := by simp [IntKind.wrap, IntKind.bits, IntKind.signed]; omega
  simp [go_sem, hw]
theorem opr_rem {m n r : Int} {t2 : TypeId} (hm : 0 ≤ m ∧ m ≤ 1000000) (hn : 0 < n ∧ n ≤ 1000) (hr : m % n = r) (ho : o.op = .binOp .rem 3 x y t2) (hx : a.eval x = .int .i64 m) (hy : a.eval y = .int .i64 n) (h : K (a.put o.dst (.int .i64 r)) w) : o.wp Tryd.prog a w K Q := by
  obtain ⟨dst, op, type, pos, after, guard⟩ := o
  simp only at ho
  subst ho hr
  refine opr_val (s := do eqGuard .rem 3 x y (a.eval x) (a.eval y); binOp .rem 3 (a.eval x) (a.eval y)) rfl ?_ h
  rw [hx, hy]
  have h0 : n ≠ 0 := by omega
  have ht : Int.tmod m n = m % n := Int.tmod_eq_emod_of_nonneg hm.1
  have hw : IntKind.i64.wrap (m % n) = m % n := by
    have h1 := Int.emod_nonneg m h0
    have h2 := Int.emod_lt_of_pos m hn.1
    simp [IntKind.wrap, IntKind.bits, IntKind.signed]; omega
  simp [go_sem, h0, ht, hw]
theorem opr_rem8 {m r : Int} {t2 : TypeId} (hm : 0 ≤ m ∧ m ≤ 255) (hr : m % 5 = r) (ho : o.op = .binOp .rem 5 x (.const (.int .u8 5)) t2) (hx : a.eval x = .int .u8 m) (h : K (a.put o.dst (.int .u8 r)) w) : o.wp Tryd.prog a w K Q := by
  obtain ⟨dst, op, type, pos, after, guard⟩ := o
  simp only at ho
  subst ho hr
  refine opr_val (s := do eqGuard .rem 5 x (.const (.int .u8 5)) (a.eval x) (.int .u8 5); binOp .rem 5 (a.eval x) (.int .u8 5)) rfl ?_ h
  rw [hx]
  have ht : Int.tmod m 5 = m % 5 := Int.tmod_eq_emod_of_nonneg hm.1
  have hw : IntKind.u8.wrap (m % 5) = m % 5 := by simp [IntKind.wrap, IntKind.bits, IntKind.signed]; omega
  simp [go_sem, ht, hw]
end
end Go.Proofs.YtcfogkimjbgjgaaDoor
/- The law KeysApart, walked: a receipt holds by no other participant's number, and no other answer, saga, step or way, unless that has the same tag. -/
namespace Go.Proofs.YtcfogkimjbgjgaaDoor
open Go Go.RowKit
set_option maxRecDepth 8000
set_option linter.all false
set_option maxHeartbeats 8000000 in
theorem KeysApart_walk (v u : Value) (ps ws : List Hs) (need : Int) (x : Rc) (n : Int) (hn8 : 0 ≤ n ∧ n ≤ 255) (w : World) (hT : Tables w) (hk : KeysV w v ps ws need) (hx : RecV w u x) : Calls Tryd.prog 7 #[v, u, .int .u8 n] w fun e w' => e = .returned (.bool true) ∧ Below w.heap.size w w' := by
  have HN8 := Lib.hid hn8
  clear hn8
  obtain ⟨kf, tg, pf, hX⟩ := keyH_ex
  obtain ⟨pv, wv, rfl, hpv, hwv⟩ := hk
  obtain ⟨sv, dv, rfl, hs, hd⟩ := hx
  have HX : Hid (RecV w (.agg (rowA 109 (recF x sv dv))) x) := Lib.hid ⟨sv, dv, rfl, hs, hd⟩
  have HS := Lib.hid hs
  have HD := Lib.hid hd
  clear hs hd
  have HT := Lib.hid hT
  have HK : Hid (KeysV w (.agg (rowA 3 (keyF pv wv need))) ps ws need) := Lib.hid ⟨pv, wv, rfl, hpv, hwv⟩
  have HP := Lib.hid hpv
  have HW := Lib.hid hwv
  clear hT hpv hwv
  go_enter Tryd.func7, Tryd.ntmps7
  go_upto_region 1 with fail
  have rk := (rowIs_box w 24 3 (keyF pv wv need)).alloc (.cells (rowA 109 (recF x sv dv)) 30)
  have r2 := rowIs_box (w.alloc (.cells (rowA 3 (keyF pv wv need)) 24)) 30 109 (recF x sv dv)
  have hN : NewT w ((w.alloc (.cells (rowA 3 (keyF pv wv need)) 24)).alloc (.cells (rowA 109 (recF x sv dv)) 30)) := NewT.trans _ _ _ (NewT.alloc _ _) (NewT.alloc _ _)
  rw [World.size_alloc] at r2
  change Code.wp _ _ _ _ ((w.alloc (.cells (rowA 3 (keyF pv wv need)) 24)).alloc (.cells (rowA 109 (recF x sv dv)) 30))
  generalize (w.alloc (.cells (rowA 3 (keyF pv wv need)) 24)).alloc (.cells (rowA 109 (recF x sv dv)) 30) = W0 at rk r2 hN ⊢
  obtain ⟨g1, hg1⟩ : ∃ g1, w.heap.size = g1 := ⟨_, rfl⟩
  obtain ⟨g2, hg2⟩ : ∃ g2, w.heap.size + 1 = g2 := ⟨_, rfl⟩
  have HG12 : Hid (g1 < g2 ∧ w.heap.size ≤ g1) := Lib.hid (by omega)
  rw [hg1] at rk
  rw [hg2] at r2
  rw [hg2]
  simp only [hg1]
  have RK := Lib.hid rk
  have RX := Lib.hid r2
  have HM := Lib.hid hN
  clear rk r2 hN hg1 hg2
  refine wp_region_steps0 NewT [SV.eq (.bool true), SV.eq (.bool false)] [([], none), ([(8, some 0)], none)] 103 2 rfl rfl (by kernel_rfl) NewT.trans (NewT.refl _) (Nat.le_of_ble_eq_true rfl) ⟨?_, ?_, trivial⟩ ?_
  · exact fun a wx hT hF K hK => rely_wp rfl (opr_cv (alive10_c wx ((NewT.trans _ _ _ HM.out hT).tables HT.out)) rfl Tryd.func10 (by kernel_rfl) (by kernel_rfl) evs0 hK)
  · exact fun a wx hT hF K hK => rely_wp rfl (opr_not rfl hF.1 (hK _ _ (NewT.refl _) rfl))
  · intro w1 k1
    iterate 2 (intro u h; obtain rfl := Eq.symm (h (by simp)); clear h)
    refine relyEnd_nil rfl ?_
    refine wpList_end rfl ?_
    simp only [Act.put, List.setIfInBounds_toArray, List.set_cons_zero, List.set_cons_succ]
    go_simp
    replace RK := Lib.hid (k1.row RK.out)
    replace RX := Lib.hid (k1.row RX.out)
    replace HM := Lib.hid (NewT.trans _ _ _ HM.out k1)
    clear k1
    go_upto_region 3 with fail
    obtain ⟨q1_3, Q1_3⟩ : ∃ bq_, ((decide (20 < ((List.length (ps) : Int)))) || (decide (20 < ((List.length (ws) : Int))))) = bq_ := ⟨_, rfl⟩
    obtain ⟨q2_3, Q2_3⟩ : ∃ bq_, ((q1_3 || (greatB x)) || (!(mayB ps ws need))) = bq_ := ⟨_, rfl⟩
    obtain ⟨q3_3, Q3_3⟩ : ∃ bq_, ((q2_3 || (x.kind != 3)) || (!(rightB x))) = bq_ := ⟨_, rfl⟩
    obtain ⟨q4_3, Q4_3⟩ : ∃ bq_, (q3_3 || (decide (((List.length (ps) : Int)) ≤ x.part))) = bq_ := ⟨_, rfl⟩
    refine wp_region_steps0 NewT [SV.eq (.pointer (some ⟨g1, 0, none⟩)), SV.eq (pv), SV.eq (.int .i64 ((List.length (ps) : Int))), SV.eq (.bool (decide (20 < ((List.length (ps) : Int))))), SV.eq (.bool (decide (20 < ((List.length (ps) : Int))))), svIf ((!(decide (20 < ((List.length (ps) : Int)))))) (SV.eq (.pointer (some ⟨g1, 1, none⟩))), svIf ((!(decide (20 < ((List.length (ps) : Int)))))) (SV.eq (wv)), svIf ((!(decide (20 < ((List.length (ps) : Int)))))) (SV.eq (.int .i64 ((List.length (ws) : Int)))), svIf ((!(decide (20 < ((List.length (ps) : Int)))))) (SV.eq (.bool (decide (20 < ((List.length (ws) : Int)))))), SV.eq (.bool (q1_3)), SV.eq (.bool (q1_3)), svIf ((!q1_3)) (SV.eq (.agg (rowA 109 (recF x sv dv)))), svIf ((!q1_3)) (SV.eq (.bool (greatB x))), SV.eq (.bool (q1_3 || (greatB x))), SV.eq (.bool (q1_3 || (greatB x))), svIf ((!(q1_3 || (greatB x)))) (SV.eq (.agg (rowA 3 (keyF pv wv need)))), svIf ((!(q1_3 || (greatB x)))) (SV.eq (.bool (mayB ps ws need))), svIf ((!(q1_3 || (greatB x)))) (SV.eq (.bool (!(mayB ps ws need)))), SV.eq (.bool (q2_3)), SV.eq (.bool (q2_3)), svIf ((!q2_3)) (SV.eq (.pointer (some ⟨g2, 0, none⟩))), svIf ((!q2_3)) (SV.eq (.int .i64 (x.kind))), svIf ((!q2_3)) (SV.eq (.bool (x.kind != 3))), SV.eq (.bool (q2_3 || (x.kind != 3))), SV.eq (.bool (q2_3 || (x.kind != 3))), svIf ((!(q2_3 || (x.kind != 3)))) (SV.eq (.agg (rowA 109 (recF x sv dv)))), svIf ((!(q2_3 || (x.kind != 3)))) (SV.eq (.bool (rightB x))), svIf ((!(q2_3 || (x.kind != 3)))) (SV.eq (.bool (!(rightB x)))), SV.eq (.bool (q3_3)), SV.eq (.bool (q3_3)), svIf ((!q3_3)) (SV.eq (.pointer (some ⟨g2, 8, none⟩))), svIf ((!q3_3)) (SV.eq (.int .i64 (x.part))), svIf ((!q3_3)) (SV.eq (.pointer (some ⟨g1, 0, none⟩))), svIf ((!q3_3)) (SV.eq (pv)), svIf ((!q3_3)) (SV.eq (.int .i64 ((List.length (ps) : Int)))), svIf ((!q3_3)) (SV.eq (.bool (decide (((List.length (ps) : Int)) ≤ x.part)))), SV.eq (.bool (q4_3))] [([(3, none)], none), ([(10, some 0)], none), ([(11, some 1)], none), ([(12, some 2)], none), ([(13, some 3)], none), ([(3, none), (14, some 4)], some (14, false)), ([(15, some 5), (14, some 4)], some (14, false)), ([(16, some 6), (14, some 4)], some (14, false)), ([(17, some 7), (14, some 4)], some (14, false)), ([(14, some 4), (18, some 8)], none), ([(19, some 9)], none), ([(4, none), (20, some 10)], some (20, false)), ([(21, some 11), (20, some 10)], some (20, false)), ([(20, some 10), (22, some 12)], none), ([(23, some 13)], none), ([(3, none), (24, some 14)], some (24, false)), ([(25, some 15), (24, some 14)], some (24, false)), ([(26, some 16), (24, some 14)], some (24, false)), ([(24, some 14), (27, some 17)], none), ([(28, some 18)], none), ([(4, none), (29, some 19)], some (29, false)), ([(30, some 20), (29, some 19)], some (29, false)), ([(31, some 21), (29, some 19)], some (29, false)), ([(29, some 19), (32, some 22)], none), ([(33, some 23)], none), ([(4, none), (34, some 24)], some (34, false)), ([(35, some 25), (34, some 24)], some (34, false)), ([(36, some 26), (34, some 24)], some (34, false)), ([(34, some 24), (37, some 27)], none), ([(38, some 28)], none), ([(4, none), (39, some 29)], some (39, false)), ([(40, some 30), (39, some 29)], some (39, false)), ([(3, none), (39, some 29)], some (39, false)), ([(42, some 32), (39, some 29)], some (39, false)), ([(43, some 33), (39, some 29)], some (39, false)), ([(41, some 31), (44, some 34), (39, some 29)], some (39, false)), ([(39, some 29), (45, some 35)], none)] 103 37 rfl rfl (by kernel_rfl) NewT.trans (NewT.refl _) (Nat.le_of_ble_eq_true rfl) ⟨?_, ?_, ?_, ?_, ?_, ?_, ?_, ?_, ?_, ?_, ?_, ?_, ?_, ?_, ?_, ?_, ?_, ?_, ?_, ?_, ?_, ?_, ?_, ?_, ?_, ?_, ?_, ?_, ?_, ?_, ?_, ?_, ?_, ?_, ?_, ?_, ?_, trivial⟩ ?_
    · exact fun a wx hT hF K hK => rely_wp rfl (opr_fldY0 rfl hF.1 (hK _ _ (NewT.refl _) rfl))
    · exact fun a wx hT hF K hK => rely_wp rfl (opr_ldHs (hT.row RK.out) (by decide) rfl rfl hF.1 (hK _ _ (NewT.refl _) rfl))
    · intro a wx hT hF K hK
      obtain ⟨f11, _⟩ := hF
      have f11 : a.tmps.getD 11 undef = pv := f11
      refine rely_wp rfl ?_
      exact opr_len_h rfl (by rw [eval_tmp, f11]; exact ((NewT.trans _ _ _ HM.out hT).hs HP.out)) (hK _ _ (NewT.refl _) rfl)
    · exact fun a wx hT hF K hK => rely_wp rfl (opr_cmp (b := decide (20 < ((List.length (ps) : Int)))) (.inr (.inr (.inr (.inr (.inl ⟨rfl, rfl⟩))))) Tryd.underlying3 rfl hF.1 rfl (hK _ _ (NewT.refl _) rfl))
    · exact fun a wx hT hF K hK => rely_wp rfl (opr_move (.inl rfl) (hK _ _ (NewT.refl _) hF.1))
    · exact fun a wx hT hF K hK => rely_if (rely_gf hF.2.1) (NewT.refl _) hK fun hE hK => opr_fldY1 rfl hF.1 (hK _ _ (NewT.refl _) rfl)
    · exact fun a wx hT hF K hK => rely_if (rely_gf hF.2.1) (NewT.refl _) hK fun hE hK => opr_ldHs (hT.row RK.out) (by decide) rfl rfl (hF.1 hE) (hK _ _ (NewT.refl _) rfl)
    · intro a wx hT hF K hK
      obtain ⟨f16, f14, _⟩ := hF
      have f16 : ((!(decide (20 < ((List.length (ps) : Int)))))) = true → a.tmps.getD 16 undef = wv := f16
      have f14 : a.tmps.getD 14 undef = .bool (decide (20 < ((List.length (ps) : Int)))) := f14
      refine rely_if (rely_gf f14) (NewT.refl _) hK (fun hE hK => ?_)
      exact opr_len_h rfl (by rw [eval_tmp, (f16 hE)]; exact ((NewT.trans _ _ _ HM.out hT).hs HW.out)) (hK _ _ (NewT.refl _) rfl)
    · exact fun a wx hT hF K hK => rely_if (rely_gf hF.2.1) (NewT.refl _) hK fun hE hK => opr_cmp (b := decide (20 < ((List.length (ws) : Int)))) (.inr (.inr (.inr (.inr (.inl ⟨rfl, rfl⟩))))) Tryd.underlying3 rfl (hF.1 hE) rfl (hK _ _ (NewT.refl _) rfl)
    · exact fun a wx hT hF K hK => rely_wp rfl (opr_pick_b rfl hF.1 (fun hb => hK _ _ (NewT.refl _) (pn_or1 Q1_3 hb)) (fun hb => hK _ _ (NewT.refl _) (pn_or0 Q1_3 (hF.2.1 (bnot hb)) hb)))
    · exact fun a wx hT hF K hK => rely_wp rfl (opr_move (.inl rfl) (hK _ _ (NewT.refl _) hF.1))
    · exact fun a wx hT hF K hK => rely_if (rely_gf hF.2.1) (NewT.refl _) hK fun hE hK => opr_ldR (hT.row RX.out) rfl hF.1 (hK _ _ (NewT.refl _) rfl)
    · exact fun a wx hT hF K hK => rely_if (rely_gf hF.2.1) (NewT.refl _) hK fun hE hK => opr_cv (Great_cv _ x wx ((NewT.trans _ _ _ HM.out hT).recV HX.out)) rfl Tryd.func11 (by kernel_rfl) (by kernel_rfl) (evs1 (hF.1 hE)) hK
    · exact fun a wx hT hF K hK => rely_wp rfl (opr_pick_b rfl hF.1 (fun hb => hK _ _ (NewT.refl _) (pk_or1 hb)) (fun hb => hK _ _ (NewT.refl _) (pk_or0 (hF.2.1 (bnot hb)) hb)))
    · exact fun a wx hT hF K hK => rely_wp rfl (opr_move (.inl rfl) (hK _ _ (NewT.refl _) hF.1))
    · exact fun a wx hT hF K hK => rely_if (rely_gf hF.2.1) (NewT.refl _) hK fun hE hK => opr_ldY (hT.row RK.out) rfl hF.1 (hK _ _ (NewT.refl _) rfl)
    · exact fun a wx hT hF K hK => rely_if (rely_gf hF.2.1) (NewT.refl _) hK fun hE hK => opr_cv (May_cv _ ps ws need wx ((NewT.trans _ _ _ HM.out hT).keysV HK.out)) rfl Tryd.func12 (by kernel_rfl) (by kernel_rfl) (evs1 (hF.1 hE)) hK
    · exact fun a wx hT hF K hK => rely_if (rely_gf hF.2.1) (NewT.refl _) hK fun hE hK => opr_not rfl (hF.1 hE) (hK _ _ (NewT.refl _) rfl)
    · exact fun a wx hT hF K hK => rely_wp rfl (opr_pick_b rfl hF.1 (fun hb => hK _ _ (NewT.refl _) (pn_or1 Q2_3 hb)) (fun hb => hK _ _ (NewT.refl _) (pn_or0 Q2_3 (hF.2.1 (bnot hb)) hb)))
    · exact fun a wx hT hF K hK => rely_wp rfl (opr_move (.inl rfl) (hK _ _ (NewT.refl _) hF.1))
    · exact fun a wx hT hF K hK => rely_if (rely_gf hF.2.1) (NewT.refl _) hK fun hE hK => opr_fldR (by decide) rfl hF.1 (hK _ _ (NewT.refl _) rfl)
    · exact fun a wx hT hF K hK => rely_if (rely_gf hF.2.1) (NewT.refl _) hK fun hE hK => opr_ldI (hT.row RX.out) (by decide) rfl rfl (hF.1 hE) (hK _ _ (NewT.refl _) rfl)
    · exact fun a wx hT hF K hK => rely_if (rely_gf hF.2.1) (NewT.refl _) hK fun hE hK => opr_cmp (b := x.kind != 3) (.inr (.inl ⟨rfl, rfl⟩)) Tryd.underlying3 rfl (hF.1 hE) rfl (hK _ _ (NewT.refl _) rfl)
    · exact fun a wx hT hF K hK => rely_wp rfl (opr_pick_b rfl hF.1 (fun hb => hK _ _ (NewT.refl _) (pk_or1 hb)) (fun hb => hK _ _ (NewT.refl _) (pk_or0 (hF.2.1 (bnot hb)) hb)))
    · exact fun a wx hT hF K hK => rely_wp rfl (opr_move (.inl rfl) (hK _ _ (NewT.refl _) hF.1))
    · exact fun a wx hT hF K hK => rely_if (rely_gf hF.2.1) (NewT.refl _) hK fun hE hK => opr_ldR (hT.row RX.out) rfl hF.1 (hK _ _ (NewT.refl _) rfl)
    · exact fun a wx hT hF K hK => rely_if (rely_gf hF.2.1) (NewT.refl _) hK fun hE hK => opr_cv (RRight_cv _ x wx ((NewT.trans _ _ _ HM.out hT).recV HX.out)) rfl Tryd.func24 (by kernel_rfl) (by kernel_rfl) (evs1 (hF.1 hE)) hK
    · exact fun a wx hT hF K hK => rely_if (rely_gf hF.2.1) (NewT.refl _) hK fun hE hK => opr_not rfl (hF.1 hE) (hK _ _ (NewT.refl _) rfl)
    · exact fun a wx hT hF K hK => rely_wp rfl (opr_pick_b rfl hF.1 (fun hb => hK _ _ (NewT.refl _) (pn_or1 Q3_3 hb)) (fun hb => hK _ _ (NewT.refl _) (pn_or0 Q3_3 (hF.2.1 (bnot hb)) hb)))
    · exact fun a wx hT hF K hK => rely_wp rfl (opr_move (.inl rfl) (hK _ _ (NewT.refl _) hF.1))
    · exact fun a wx hT hF K hK => rely_if (rely_gf hF.2.1) (NewT.refl _) hK fun hE hK => opr_fldR (by decide) rfl hF.1 (hK _ _ (NewT.refl _) rfl)
    · exact fun a wx hT hF K hK => rely_if (rely_gf hF.2.1) (NewT.refl _) hK fun hE hK => opr_ldI (hT.row RX.out) (by decide) rfl rfl (hF.1 hE) (hK _ _ (NewT.refl _) rfl)
    · exact fun a wx hT hF K hK => rely_if (rely_gf hF.2.1) (NewT.refl _) hK fun hE hK => opr_fldY0 rfl hF.1 (hK _ _ (NewT.refl _) rfl)
    · exact fun a wx hT hF K hK => rely_if (rely_gf hF.2.1) (NewT.refl _) hK fun hE hK => opr_ldHs (hT.row RK.out) (by decide) rfl rfl (hF.1 hE) (hK _ _ (NewT.refl _) rfl)
    · intro a wx hT hF K hK
      obtain ⟨f43, f39, _⟩ := hF
      have f43 : ((!q3_3)) = true → a.tmps.getD 43 undef = pv := f43
      have f39 : a.tmps.getD 39 undef = .bool (q3_3) := f39
      refine rely_if (rely_gf f39) (NewT.refl _) hK (fun hE hK => ?_)
      exact opr_len_h rfl (by rw [eval_tmp, (f43 hE)]; exact ((NewT.trans _ _ _ HM.out hT).hs HP.out)) (hK _ _ (NewT.refl _) rfl)
    · exact fun a wx hT hF K hK => rely_if (rely_gf hF.2.2.1) (NewT.refl _) hK fun hE hK => opr_cmp (b := decide (((List.length (ps) : Int)) ≤ x.part)) (.inr (.inr (.inr (.inr (.inr (⟨rfl, rfl⟩)))))) Tryd.underlying3 rfl (hF.1 hE) (hF.2.1 hE) (hK _ _ (NewT.refl _) rfl)
    · exact fun a wx hT hF K hK => rely_wp rfl (opr_pick_b rfl hF.1 (fun hb => hK _ _ (NewT.refl _) (pn_or1 Q4_3 hb)) (fun hb => hK _ _ (NewT.refl _) (pn_or0 Q4_3 (hF.2.1 (bnot hb)) hb)))
    · intro w3 k3
      iterate 5 (intro u h; obtain rfl := Eq.symm (h (by simp)); clear h)
      iterate 4 (intro _ _)
      iterate 2 (intro u h; obtain rfl := Eq.symm (h (by simp)); clear h)
      iterate 2 (intro _ _)
      iterate 2 (intro u h; obtain rfl := Eq.symm (h (by simp)); clear h)
      iterate 3 (intro _ _)
      iterate 2 (intro u h; obtain rfl := Eq.symm (h (by simp)); clear h)
      iterate 3 (intro _ _)
      iterate 2 (intro u h; obtain rfl := Eq.symm (h (by simp)); clear h)
      iterate 3 (intro _ _)
      iterate 2 (intro u h; obtain rfl := Eq.symm (h (by simp)); clear h)
      iterate 6 (intro _ _)
      intro u h; obtain rfl := Eq.symm (h (by simp)); clear h
      subst Q4_3 Q3_3 Q2_3 Q1_3
      refine relyEnd_nil rfl ?_
      refine wpList_end rfl ?_
      simp only [Act.put, List.setIfInBounds_toArray, List.set_cons_zero, List.set_cons_succ]
      go_simp
      replace RK := Lib.hid (k3.row RK.out)
      replace RX := Lib.hid (k3.row RX.out)
      replace HM := Lib.hid (NewT.trans _ _ _ HM.out k3)
      clear k3
      cases hq : ((((((((decide (20 < ((List.length (ps) : Int)))) || (decide (20 < ((List.length (ws) : Int))))) || (greatB x)) || (!(mayB ps ws need))) || (x.kind != 3)) || (!(rightB x))) || (decide (((List.length (ps) : Int)) ≤ x.part))))
      · simp only [Bool.or_eq_false_iff, decide_eq_false_iff_not, Bool.not_eq_false', bne_eq_false_iff_eq] at hq
        obtain ⟨⟨⟨⟨⟨_, _⟩, hm⟩, hk3⟩, hr⟩, hp⟩ := hq
        obtain ⟨tr, HTR⟩ := hid_ex (recpH kf ps ws need x)
        obtain ⟨x1, HX1D⟩ := hid_ex ({ x with tag := tr } : Rc)
        have HMY := Lib.hid hm
        have HK3 : Hid (x1.kind = 3) := Lib.hid (by rw [← HX1D.out]; exact hk3)
        have HR3 := Lib.hid ((right3_iff HK3.out).1 (by rw [← HX1D.out]; exact right_tag hk3 _ hr))
        have HSX : Hid (∀ i, i < 109 → recF x1 sv dv i = if 10 ≤ i ∧ i < 10 + 32 then bF tr (i - 10) else recF x sv dv i) := Lib.hid (by rw [← HX1D.out]; exact fun i hi => rs_tag x sv dv i tr hi)
        have HX1 : Hid (RecV w (.agg (rowA 109 (recF x1 sv dv))) x1) := Lib.hid ⟨sv, dv, rfl, by rw [← HX1D.out]; exact HS.out, by rw [← HX1D.out]; exact HD.out⟩
        have HTG : Hid (x1.tag = tr) := Lib.hid (by rw [← HX1D.out])
        clear hm hk3 hr hp
        go_upto_region 5 with fail
        refine wp_region_steps0 NewT [SV.eq (.agg (rowA 3 (keyF pv wv need))), SV.eq (.agg (rowA 109 (recF x sv dv))), SV.eq (.agg (rowA 32 (bF (tr)))), SV.eq (.pointer (some ⟨g2, 10, none⟩))] [([(3, none)], none), ([(4, none)], none), ([(47, some 0), (48, some 1)], none), ([(4, none)], none)] 103 4 rfl rfl (by kernel_rfl) NewT.trans (NewT.refl _) (Nat.le_of_ble_eq_true rfl) ⟨?_, ?_, ?_, ?_, trivial⟩ ?_
        · exact fun a wx hT hF K hK => rely_wp rfl (opr_ldY (hT.row RK.out) rfl hF.1 (hK _ _ (NewT.refl _) rfl))
        · exact fun a wx hT hF K hK => rely_wp rfl (opr_ldR (hT.row RX.out) rfl hF.1 (hK _ _ (NewT.refl _) rfl))
        · exact fun a wx hT hF K hK => rely_wp rfl (opr_cv (HTR.out ▸ Receipt_cv hX _ _ ps ws need x wx ((NewT.trans _ _ _ HM.out hT).tables HT.out) ((NewT.trans _ _ _ HM.out hT).keysV HK.out) ((NewT.trans _ _ _ HM.out hT).recV HX.out)) rfl Tryd.func16 (by kernel_rfl) (by kernel_rfl) (evs2 hF.1 hF.2.1) hK)
        · exact fun a wx hT hF K hK => rely_wp rfl (opr_fldR (by decide) rfl hF.1 (hK _ _ (NewT.refl _) rfl))
        · intro wa ka
          iterate 4 (intro u h; obtain rfl := Eq.symm (h (by simp)); clear h)
          refine relyEnd_nil rfl ?_
          simp only [Act.put, List.setIfInBounds_toArray, List.set_cons_zero, List.set_cons_succ]
          refine wpList_plain rfl (fun K hK => ?_)
          refine opr_putm (g := g2) (o0 := 10) (m := 32) (f := bF tr) (F := recF x1 sv dv) rfl rfl rfl (ka.row RX.out) (by decide) info31 (fun _ => rfl) HSX.out ?_
          intro wb hRb rxb
          refine hK _ _ ?_
          refine wpList_end rfl ?_
          simp only [Act.put, List.setIfInBounds_toArray, List.set_cons_zero, List.set_cons_succ]
          go_simp
          replace RX := Lib.hid rxb
          replace RK := Lib.hid (hRb.row (by have := HG12.out; omega) (ka.row RK.out))
          replace HM := Lib.hid (NewT.rt (NewT.trans _ _ _ HM.out ka) hRb (by have := HG12.out; omega))
          clear ka hRb rxb
          go_upto_region 6 with fail
          refine wp_region_steps0 NewT [SV.eq (.agg (rowA 109 (recF x1 sv dv)))] [([(4, none)], none)] 103 1 rfl rfl (by kernel_rfl) NewT.trans (NewT.refl _) (Nat.le_of_ble_eq_true rfl) ⟨?_, trivial⟩ ?_
          · exact fun a wx hT hF K hK => rely_wp rfl (opr_ldR (hT.row RX.out) rfl hF.1 (hK _ _ (NewT.refl _) rfl))
          · intro wc kc
            intro u h; obtain rfl := Eq.symm (h (by simp)); clear h
            refine relyEnd_nil rfl ?_
            simp only [Act.put, List.setIfInBounds_toArray, List.set_cons_zero, List.set_cons_succ]
            refine wpList_new (n := 109) (f := recF x1 sv dv) rfl rfl rfl rfl rfl rfl (by first | (simp; done) | simp [Act.put]) run_alloc_rec info_rec (recF_one _ _ _ (oneP HS.out) (oneR HD.out)) rfl ?_
            intro wd hnd ry
            refine wpList_end rfl ?_
            simp only [Act.put, List.setIfInBounds_toArray, List.set_cons_zero, List.set_cons_succ]
            go_simp
            have kd := NewT.trans _ _ _ kc hnd
            obtain ⟨g7, hg7⟩ : ∃ g7, wc.heap.size = g7 := ⟨_, rfl⟩
            rw [hg7] at ry ⊢
            have HG7 : Hid (g1 < g7 ∧ g2 < g7 ∧ w.heap.size ≤ g7) := Lib.hid (by rw [← hg7]; exact ⟨(kc.row RK.out).lt, (kc.row RX.out).lt, (NewT.trans _ _ _ HM.out kc).out.size⟩)
            have RY := Lib.hid ry
            replace RK := Lib.hid (kd.row RK.out)
            replace RX := Lib.hid (kd.row RX.out)
            replace HM := Lib.hid (NewT.trans _ _ _ HM.out kd)
            clear kc kd hnd ry hg7
            have hr5 : n % 5 = 0 ∨ n % 5 = 1 ∨ n % 5 = 2 ∨ n % 5 = 3 ∨ n % 5 = 4 := by omega
            rcases hr5 with hm5 | hm5 | hm5 | hm5 | hm5
            ·
              have HM5 := Lib.hid hm5
              clear hm5
              obtain ⟨y1, hy1⟩ := hid_ex ({ x1 with good := !x1.good } : Rc)
              have HSY : Hid (∀ i, i < 109 → recF y1 sv dv i = if i = 6 then .bool (!x1.good) else recF x1 sv dv i) := Lib.hid (by rw [← hy1.out]; exact fun i _ => rs_good x1 sv dv i _)
              have HY1 : Hid (RecV w (.agg (rowA 109 (recF y1 sv dv))) y1) := Lib.hid ⟨sv, dv, rfl, by rw [← hy1.out, ← HX1D.out]; exact HS.out, by rw [← hy1.out, ← HX1D.out]; exact HD.out⟩
              have hky : y1.kind = 3 := by rw [← hy1.out]; exact HK3.out
              have hry : rightB y1 = true := by
                refine (right3_iff hky).2 ?_
                obtain ⟨a, b, c, d, e, f⟩ := HR3.out
                rw [← hy1.out]
                exact ⟨a, b, c, d, e, f⟩
              have hty : y1.tag = x1.tag := by rw [← hy1.out]
              obtain ⟨hb, HHB⟩ := hid_ex (holdsB kf ps ws need y1)
              obtain ⟨pb, HPB⟩ := hid_ex (decide (y1.part < (List.length ps : Int)))
              obtain ⟨eb, HEB⟩ := hid_ex (eqH (recpH kf ps ws need y1) x1.tag)
              have HEQ : Hid ((hb == (pb && eb)) = true) := Lib.hid (by
                have h := apart_of (kf := kf) HMY.out hky hry
                rw [hty, HHB.out, HPB.out, HEB.out] at h
                exact h)
              clear hky hry hty hy1
              go_upto_region 7 with fail
              refine wp_region_steps0 NewT [SV.eq ((.int .u8 n)), SV.eq ((.int .u8 0))] [([(2, none)], none), ([(52, some 0)], none)] 103 2 rfl rfl (by kernel_rfl) NewT.trans (NewT.refl _) (Nat.le_of_ble_eq_true rfl) ⟨?_, ?_, trivial⟩ ?_
              · exact fun a wx hT hF K hK => rely_wp rfl (opr_move (.inl rfl) (hK _ _ (NewT.refl _) hF.1))
              · exact fun a wx hT hF K hK => rely_wp rfl (opr_rem8 HN8.out HM5.out rfl hF.1 (hK _ _ (NewT.refl _) rfl))
              · intro we ke
                iterate 2 (intro u h; obtain rfl := Eq.symm (h (by simp)); clear h)
                refine relyEnd_nil rfl ?_
                refine wpList_end rfl ?_
                simp only [Act.put, List.setIfInBounds_toArray, List.set_cons_zero, List.set_cons_succ]
                go_simp
                replace RK := Lib.hid (ke.row RK.out)
                replace RX := Lib.hid (ke.row RX.out)
                replace RY := Lib.hid (ke.row RY.out)
                replace HM := Lib.hid (NewT.trans _ _ _ HM.out ke)
                clear ke
                go_upto_region 10 with fail
                refine wp_region_steps0 NewT [SV.eq (.pointer (some ⟨g7, 6, none⟩)), SV.eq (.bool (x1.good)), SV.eq (.bool (!x1.good)), SV.eq (.pointer (some ⟨g7, 6, none⟩))] [([(7, none)], none), ([(61, some 0)], none), ([(62, some 1)], none), ([(7, none)], none)] 103 4 rfl rfl (by kernel_rfl) NewT.trans (NewT.refl _) (Nat.le_of_ble_eq_true rfl) ⟨?_, ?_, ?_, ?_, trivial⟩ ?_
                · exact fun a wx hT hF K hK => rely_wp rfl (opr_fldR (by decide) rfl hF.1 (hK _ _ (NewT.refl _) rfl))
                · exact fun a wx hT hF K hK => rely_wp rfl (opr_ldQ (hT.row RY.out) (by decide) rfl rfl hF.1 (hK _ _ (NewT.refl _) rfl))
                · exact fun a wx hT hF K hK => rely_wp rfl (opr_not rfl hF.1 (hK _ _ (NewT.refl _) rfl))
                · exact fun a wx hT hF K hK => rely_wp rfl (opr_fldR (by decide) rfl hF.1 (hK _ _ (NewT.refl _) rfl))
                · intro wf kf_
                  iterate 4 (intro u h; obtain rfl := Eq.symm (h (by simp)); clear h)
                  refine relyEnd_nil rfl ?_
                  simp only [Act.put, List.setIfInBounds_toArray, List.set_cons_zero, List.set_cons_succ]
                  refine wpList_plain rfl (fun K hK => ?_)
                  refine opr_put1 (g := g7) (o0 := 6) (v := .bool (!x1.good)) (F := recF y1 sv dv) rfl rfl rfl (kf_.row RY.out) (by decide) info_b1 rfl HSY.out ?_
                  intro wg hRg ryg
                  refine hK _ _ ?_
                  refine wpList_end rfl ?_
                  simp only [Act.put, List.setIfInBounds_toArray, List.set_cons_zero, List.set_cons_succ]
                  go_simp
                  replace RY := Lib.hid ryg
                  replace RK := Lib.hid (hRg.row (by have := HG7.out; omega) (kf_.row RK.out))
                  replace RX := Lib.hid (hRg.row (by have := HG7.out; omega) (kf_.row RX.out))
                  replace HM := Lib.hid (NewT.rt (NewT.trans _ _ _ HM.out kf_) hRg (by have := HG7.out; omega))
                  clear kf_ hRg ryg
                  go_upto_region 17 with fail
                  refine wp_region_rely (NewT) [SV.eq (.agg (rowA 3 (keyF pv wv need))), SV.eq (.agg (rowA 109 (recF y1 sv dv))), SV.eq (.bool (hb)), SV.eq (.pointer (some ⟨g7, 8, none⟩)), SV.eq (.int .i64 (y1.part)), SV.eq (.pointer (some ⟨g1, 0, none⟩)), SV.eq (pv), SV.eq (.int .i64 ((List.length (ps) : Int))), SV.eq (.bool (pb)), SV.eq (.bool (pb)), svIf pb (SV.eq (.agg (rowA 3 (keyF pv wv need)))), svIf pb (SV.eq (.agg (rowA 109 (recF y1 sv dv)))), svIf pb (SV.eq (.agg (rowA 32 (bF (recpH kf ps ws need y1))))), svIf pb (SV.eq (.pointer (some ⟨g2, 10, none⟩))), svIf pb (SV.eq (.agg (rowA 32 (bF (x1.tag))))), svIf pb (SV.eq (.bool (eb))), SV.eq (.bool (pb && eb)), SV.eq (.bool true)] [([(3, none)], none), ([(7, none)], none), ([(85, some 0), (86, some 1)], none), ([(7, none)], none), ([(88, some 3)], none), ([(3, none)], none), ([(90, some 5)], none), ([(91, some 6)], none), ([(89, some 4), (92, some 7)], none), ([(93, some 8)], none), ([(3, none), (94, some 9)], some (94, true)), ([(7, none), (94, some 9)], some (94, true)), ([(95, some 10), (96, some 11), (94, some 9)], some (94, true)), ([(4, none), (94, some 9)], some (94, true)), ([(98, some 13), (94, some 9)], some (94, true)), ([(97, some 12), (99, some 14), (94, some 9)], some (94, true)), ([(94, some 9), (100, some 15)], none), ([(87, some 2), (101, some 16)], none)] 103 rfl (by kernel_rfl) rfl (by kernel_rfl) (by kernel_rfl) rfl NewT.trans (NewT.drew _) (Nat.le_of_ble_eq_true rfl) ⟨?_, ?_, ?_, ?_, ?_, ?_, ?_, ?_, ?_, ?_, ?_, ?_, ?_, ?_, ?_, ?_, ?_, ?_, trivial⟩ ?_
                  · exact fun a wx hT hF K hK => rely_wp rfl (opr_ldY (hT.row RK.out) rfl hF.1 (hK _ _ (NewT.refl _) rfl))
                  · exact fun a wx hT hF K hK => rely_wp rfl (opr_ldR (hT.row RY.out) rfl hF.1 (hK _ _ (NewT.refl _) rfl))
                  · exact fun a wx hT hF K hK => rely_wp rfl (opr_cv (HHB.out ▸ Holds_cv hX _ _ ps ws need y1 wx ((NewT.trans _ _ _ HM.out hT).tables HT.out) ((NewT.trans _ _ _ HM.out hT).keysV HK.out) ((NewT.trans _ _ _ HM.out hT).recV HY1.out)) rfl Tryd.func18 (by kernel_rfl) (by kernel_rfl) (evs2 hF.1 hF.2.1) hK)
                  · exact fun a wx hT hF K hK => rely_wp rfl (opr_fldR (by decide) rfl hF.1 (hK _ _ (NewT.refl _) rfl))
                  · exact fun a wx hT hF K hK => rely_wp rfl (opr_ldI (hT.row RY.out) (by decide) rfl rfl hF.1 (hK _ _ (NewT.refl _) rfl))
                  · exact fun a wx hT hF K hK => rely_wp rfl (opr_fldY0 rfl hF.1 (hK _ _ (NewT.refl _) rfl))
                  · exact fun a wx hT hF K hK => rely_wp rfl (opr_ldHs (hT.row RK.out) (by decide) rfl rfl hF.1 (hK _ _ (NewT.refl _) rfl))
                  · intro a wx hT hF K hK
                    obtain ⟨f91, _⟩ := hF
                    have f91 : a.tmps.getD 91 undef = pv := f91
                    refine rely_wp rfl ?_
                    exact opr_len_h rfl (by rw [eval_tmp, f91]; exact ((NewT.trans _ _ _ HM.out hT).hs HP.out)) (hK _ _ (NewT.refl _) rfl)
                  · exact fun a wx hT hF K hK => rely_wp rfl (opr_cmp (b := pb) (.inr (.inr (.inr (.inl ⟨rfl, (by exact HPB.out)⟩)))) Tryd.underlying3 rfl hF.1 hF.2.1 (hK _ _ (NewT.refl _) rfl))
                  · exact fun a wx hT hF K hK => rely_wp rfl (opr_move (.inl rfl) (hK _ _ (NewT.refl _) hF.1))
                  · exact fun a wx hT hF K hK => rely_if (rely_gt hF.2.1) (NewT.refl _) hK fun hE hK => opr_ldY (hT.row RK.out) rfl hF.1 (hK _ _ (NewT.refl _) rfl)
                  · exact fun a wx hT hF K hK => rely_if (rely_gt hF.2.1) (NewT.refl _) hK fun hE hK => opr_ldR (hT.row RY.out) rfl hF.1 (hK _ _ (NewT.refl _) rfl)
                  · exact fun a wx hT hF K hK => rely_if (rely_gt hF.2.2.1) (NewT.refl _) hK fun hE hK => opr_cv (Receipt_cv hX _ _ ps ws need y1 wx ((NewT.trans _ _ _ HM.out hT).tables HT.out) ((NewT.trans _ _ _ HM.out hT).keysV HK.out) ((NewT.trans _ _ _ HM.out hT).recV HY1.out)) rfl Tryd.func16 (by kernel_rfl) (by kernel_rfl) (evs2 (hF.1 hE) (hF.2.1 hE)) hK
                  · exact fun a wx hT hF K hK => rely_if (rely_gt hF.2.1) (NewT.refl _) hK fun hE hK => opr_fldR (by decide) rfl hF.1 (hK _ _ (NewT.refl _) rfl)
                  · exact fun a wx hT hF K hK => rely_if (rely_gt hF.2.1) (NewT.refl _) hK fun hE hK => opr_ldH (hT.row RX.out) (by decide) (recF_tag x1 _ _) rfl (hF.1 hE) (hK _ _ (NewT.refl _) rfl)
                  · exact fun a wx hT hF K hK => rely_if (rely_gt hF.2.2.1) (NewT.refl _) hK fun hE hK => opr_eql_hash (b := eb) rfl (hF.1 hE) (hF.2.1 hE) (HEB.out) (hK _ _ (NewT.refl _) rfl)
                  · exact fun a wx hT hF K hK => rely_wp rfl (opr_pick_b rfl hF.1 (fun hb => hK _ _ (NewT.refl _) (pk_and1 (hF.2.1 hb) hb)) (fun hb => hK _ _ (NewT.refl _) (pk_and0 hb)))
                  · exact fun a wx hT hF K hK => rely_wp rfl (opr_eqlQ (b := true) (HEQ.out) rfl hF.1 hF.2.1 (hK _ _ (NewT.refl _) rfl))
                  · intro wh kh
                    iterate 10 (intro u h; obtain rfl := Eq.symm (h (by simp)); clear h)
                    iterate 6 (intro _ _)
                    iterate 2 (intro u h; obtain rfl := Eq.symm (h (by simp)); clear h)
                    refine relyEnd_nil rfl ?_
                    simp only [Act.put, List.setIfInBounds_toArray, List.set_cons_zero, List.set_cons_succ]
                    refine opr_move (.inr rfl) ?_
                    go_simp
                    go_wp2
                    go_ret
                    exact ⟨rfl, (NewT.trans _ _ _ HM.out kh).out⟩
            ·
              have HM5 := Lib.hid hm5
              clear hm5
              obtain ⟨y1, hy1⟩ := hid_ex ({ x1 with back := !x1.back } : Rc)
              have HSY : Hid (∀ i, i < 109 → recF y1 sv dv i = if i = 5 then .bool (!x1.back) else recF x1 sv dv i) := Lib.hid (by rw [← hy1.out]; exact fun i _ => rs_back x1 sv dv i _)
              have HY1 : Hid (RecV w (.agg (rowA 109 (recF y1 sv dv))) y1) := Lib.hid ⟨sv, dv, rfl, by rw [← hy1.out, ← HX1D.out]; exact HS.out, by rw [← hy1.out, ← HX1D.out]; exact HD.out⟩
              have hky : y1.kind = 3 := by rw [← hy1.out]; exact HK3.out
              have hry : rightB y1 = true := by
                refine (right3_iff hky).2 ?_
                obtain ⟨a, b, c, d, e, f⟩ := HR3.out
                rw [← hy1.out]
                exact ⟨a, b, c, d, e, f⟩
              have hty : y1.tag = x1.tag := by rw [← hy1.out]
              obtain ⟨hb, HHB⟩ := hid_ex (holdsB kf ps ws need y1)
              obtain ⟨pb, HPB⟩ := hid_ex (decide (y1.part < (List.length ps : Int)))
              obtain ⟨eb, HEB⟩ := hid_ex (eqH (recpH kf ps ws need y1) x1.tag)
              have HEQ : Hid ((hb == (pb && eb)) = true) := Lib.hid (by
                have h := apart_of (kf := kf) HMY.out hky hry
                rw [hty, HHB.out, HPB.out, HEB.out] at h
                exact h)
              clear hky hry hty hy1
              go_upto_region 7 with fail
              refine wp_region_steps0 NewT [SV.eq ((.int .u8 n)), SV.eq ((.int .u8 1))] [([(2, none)], none), ([(52, some 0)], none)] 103 2 rfl rfl (by kernel_rfl) NewT.trans (NewT.refl _) (Nat.le_of_ble_eq_true rfl) ⟨?_, ?_, trivial⟩ ?_
              · exact fun a wx hT hF K hK => rely_wp rfl (opr_move (.inl rfl) (hK _ _ (NewT.refl _) hF.1))
              · exact fun a wx hT hF K hK => rely_wp rfl (opr_rem8 HN8.out HM5.out rfl hF.1 (hK _ _ (NewT.refl _) rfl))
              · intro we ke
                iterate 2 (intro u h; obtain rfl := Eq.symm (h (by simp)); clear h)
                refine relyEnd_nil rfl ?_
                refine wpList_end rfl ?_
                simp only [Act.put, List.setIfInBounds_toArray, List.set_cons_zero, List.set_cons_succ]
                go_simp
                replace RK := Lib.hid (ke.row RK.out)
                replace RX := Lib.hid (ke.row RX.out)
                replace RY := Lib.hid (ke.row RY.out)
                replace HM := Lib.hid (NewT.trans _ _ _ HM.out ke)
                clear ke
                go_upto_region 12 with fail
                refine wp_region_steps0 NewT [SV.eq (.pointer (some ⟨g7, 5, none⟩)), SV.eq (.bool (x1.back)), SV.eq (.bool (!x1.back)), SV.eq (.pointer (some ⟨g7, 5, none⟩))] [([(7, none)], none), ([(67, some 0)], none), ([(68, some 1)], none), ([(7, none)], none)] 103 4 rfl rfl (by kernel_rfl) NewT.trans (NewT.refl _) (Nat.le_of_ble_eq_true rfl) ⟨?_, ?_, ?_, ?_, trivial⟩ ?_
                · exact fun a wx hT hF K hK => rely_wp rfl (opr_fldR (by decide) rfl hF.1 (hK _ _ (NewT.refl _) rfl))
                · exact fun a wx hT hF K hK => rely_wp rfl (opr_ldQ (hT.row RY.out) (by decide) rfl rfl hF.1 (hK _ _ (NewT.refl _) rfl))
                · exact fun a wx hT hF K hK => rely_wp rfl (opr_not rfl hF.1 (hK _ _ (NewT.refl _) rfl))
                · exact fun a wx hT hF K hK => rely_wp rfl (opr_fldR (by decide) rfl hF.1 (hK _ _ (NewT.refl _) rfl))
                · intro wf kf_
                  iterate 4 (intro u h; obtain rfl := Eq.symm (h (by simp)); clear h)
                  refine relyEnd_nil rfl ?_
                  simp only [Act.put, List.setIfInBounds_toArray, List.set_cons_zero, List.set_cons_succ]
                  refine wpList_plain rfl (fun K hK => ?_)
                  refine opr_put1 (g := g7) (o0 := 5) (v := .bool (!x1.back)) (F := recF y1 sv dv) rfl rfl rfl (kf_.row RY.out) (by decide) info_b1 rfl HSY.out ?_
                  intro wg hRg ryg
                  refine hK _ _ ?_
                  refine wpList_end rfl ?_
                  simp only [Act.put, List.setIfInBounds_toArray, List.set_cons_zero, List.set_cons_succ]
                  go_simp
                  replace RY := Lib.hid ryg
                  replace RK := Lib.hid (hRg.row (by have := HG7.out; omega) (kf_.row RK.out))
                  replace RX := Lib.hid (hRg.row (by have := HG7.out; omega) (kf_.row RX.out))
                  replace HM := Lib.hid (NewT.rt (NewT.trans _ _ _ HM.out kf_) hRg (by have := HG7.out; omega))
                  clear kf_ hRg ryg
                  go_upto_region 17 with fail
                  refine wp_region_rely (NewT) [SV.eq (.agg (rowA 3 (keyF pv wv need))), SV.eq (.agg (rowA 109 (recF y1 sv dv))), SV.eq (.bool (hb)), SV.eq (.pointer (some ⟨g7, 8, none⟩)), SV.eq (.int .i64 (y1.part)), SV.eq (.pointer (some ⟨g1, 0, none⟩)), SV.eq (pv), SV.eq (.int .i64 ((List.length (ps) : Int))), SV.eq (.bool (pb)), SV.eq (.bool (pb)), svIf pb (SV.eq (.agg (rowA 3 (keyF pv wv need)))), svIf pb (SV.eq (.agg (rowA 109 (recF y1 sv dv)))), svIf pb (SV.eq (.agg (rowA 32 (bF (recpH kf ps ws need y1))))), svIf pb (SV.eq (.pointer (some ⟨g2, 10, none⟩))), svIf pb (SV.eq (.agg (rowA 32 (bF (x1.tag))))), svIf pb (SV.eq (.bool (eb))), SV.eq (.bool (pb && eb)), SV.eq (.bool true)] [([(3, none)], none), ([(7, none)], none), ([(85, some 0), (86, some 1)], none), ([(7, none)], none), ([(88, some 3)], none), ([(3, none)], none), ([(90, some 5)], none), ([(91, some 6)], none), ([(89, some 4), (92, some 7)], none), ([(93, some 8)], none), ([(3, none), (94, some 9)], some (94, true)), ([(7, none), (94, some 9)], some (94, true)), ([(95, some 10), (96, some 11), (94, some 9)], some (94, true)), ([(4, none), (94, some 9)], some (94, true)), ([(98, some 13), (94, some 9)], some (94, true)), ([(97, some 12), (99, some 14), (94, some 9)], some (94, true)), ([(94, some 9), (100, some 15)], none), ([(87, some 2), (101, some 16)], none)] 103 rfl (by kernel_rfl) rfl (by kernel_rfl) (by kernel_rfl) rfl NewT.trans (NewT.drew _) (Nat.le_of_ble_eq_true rfl) ⟨?_, ?_, ?_, ?_, ?_, ?_, ?_, ?_, ?_, ?_, ?_, ?_, ?_, ?_, ?_, ?_, ?_, ?_, trivial⟩ ?_
                  · exact fun a wx hT hF K hK => rely_wp rfl (opr_ldY (hT.row RK.out) rfl hF.1 (hK _ _ (NewT.refl _) rfl))
                  · exact fun a wx hT hF K hK => rely_wp rfl (opr_ldR (hT.row RY.out) rfl hF.1 (hK _ _ (NewT.refl _) rfl))
                  · exact fun a wx hT hF K hK => rely_wp rfl (opr_cv (HHB.out ▸ Holds_cv hX _ _ ps ws need y1 wx ((NewT.trans _ _ _ HM.out hT).tables HT.out) ((NewT.trans _ _ _ HM.out hT).keysV HK.out) ((NewT.trans _ _ _ HM.out hT).recV HY1.out)) rfl Tryd.func18 (by kernel_rfl) (by kernel_rfl) (evs2 hF.1 hF.2.1) hK)
                  · exact fun a wx hT hF K hK => rely_wp rfl (opr_fldR (by decide) rfl hF.1 (hK _ _ (NewT.refl _) rfl))
                  · exact fun a wx hT hF K hK => rely_wp rfl (opr_ldI (hT.row RY.out) (by decide) rfl rfl hF.1 (hK _ _ (NewT.refl _) rfl))
                  · exact fun a wx hT hF K hK => rely_wp rfl (opr_fldY0 rfl hF.1 (hK _ _ (NewT.refl _) rfl))
                  · exact fun a wx hT hF K hK => rely_wp rfl (opr_ldHs (hT.row RK.out) (by decide) rfl rfl hF.1 (hK _ _ (NewT.refl _) rfl))
                  · intro a wx hT hF K hK
                    obtain ⟨f91, _⟩ := hF
                    have f91 : a.tmps.getD 91 undef = pv := f91
                    refine rely_wp rfl ?_
                    exact opr_len_h rfl (by rw [eval_tmp, f91]; exact ((NewT.trans _ _ _ HM.out hT).hs HP.out)) (hK _ _ (NewT.refl _) rfl)
                  · exact fun a wx hT hF K hK => rely_wp rfl (opr_cmp (b := pb) (.inr (.inr (.inr (.inl ⟨rfl, (by exact HPB.out)⟩)))) Tryd.underlying3 rfl hF.1 hF.2.1 (hK _ _ (NewT.refl _) rfl))
                  · exact fun a wx hT hF K hK => rely_wp rfl (opr_move (.inl rfl) (hK _ _ (NewT.refl _) hF.1))
                  · exact fun a wx hT hF K hK => rely_if (rely_gt hF.2.1) (NewT.refl _) hK fun hE hK => opr_ldY (hT.row RK.out) rfl hF.1 (hK _ _ (NewT.refl _) rfl)
                  · exact fun a wx hT hF K hK => rely_if (rely_gt hF.2.1) (NewT.refl _) hK fun hE hK => opr_ldR (hT.row RY.out) rfl hF.1 (hK _ _ (NewT.refl _) rfl)
                  · exact fun a wx hT hF K hK => rely_if (rely_gt hF.2.2.1) (NewT.refl _) hK fun hE hK => opr_cv (Receipt_cv hX _ _ ps ws need y1 wx ((NewT.trans _ _ _ HM.out hT).tables HT.out) ((NewT.trans _ _ _ HM.out hT).keysV HK.out) ((NewT.trans _ _ _ HM.out hT).recV HY1.out)) rfl Tryd.func16 (by kernel_rfl) (by kernel_rfl) (evs2 (hF.1 hE) (hF.2.1 hE)) hK
                  · exact fun a wx hT hF K hK => rely_if (rely_gt hF.2.1) (NewT.refl _) hK fun hE hK => opr_fldR (by decide) rfl hF.1 (hK _ _ (NewT.refl _) rfl)
                  · exact fun a wx hT hF K hK => rely_if (rely_gt hF.2.1) (NewT.refl _) hK fun hE hK => opr_ldH (hT.row RX.out) (by decide) (recF_tag x1 _ _) rfl (hF.1 hE) (hK _ _ (NewT.refl _) rfl)
                  · exact fun a wx hT hF K hK => rely_if (rely_gt hF.2.2.1) (NewT.refl _) hK fun hE hK => opr_eql_hash (b := eb) rfl (hF.1 hE) (hF.2.1 hE) (HEB.out) (hK _ _ (NewT.refl _) rfl)
                  · exact fun a wx hT hF K hK => rely_wp rfl (opr_pick_b rfl hF.1 (fun hb => hK _ _ (NewT.refl _) (pk_and1 (hF.2.1 hb) hb)) (fun hb => hK _ _ (NewT.refl _) (pk_and0 hb)))
                  · exact fun a wx hT hF K hK => rely_wp rfl (opr_eqlQ (b := true) (HEQ.out) rfl hF.1 hF.2.1 (hK _ _ (NewT.refl _) rfl))
                  · intro wh kh
                    iterate 10 (intro u h; obtain rfl := Eq.symm (h (by simp)); clear h)
                    iterate 6 (intro _ _)
                    iterate 2 (intro u h; obtain rfl := Eq.symm (h (by simp)); clear h)
                    refine relyEnd_nil rfl ?_
                    simp only [Act.put, List.setIfInBounds_toArray, List.set_cons_zero, List.set_cons_succ]
                    refine opr_move (.inr rfl) ?_
                    go_simp
                    go_wp2
                    go_ret
                    exact ⟨rfl, (NewT.trans _ _ _ HM.out kh).out⟩
            ·
              have HM5 := Lib.hid hm5
              clear hm5
              obtain ⟨q5, HQ⟩ := hid_ex ((x1.saga + 1) % 12)
              have HRG : Hid (0 ≤ x1.saga ∧ x1.saga ≤ 11) := Lib.hid (by have := HR3.out.1; omega)
              obtain ⟨y1, hy1⟩ := hid_ex ({ x1 with saga := q5 } : Rc)
              have HSY : Hid (∀ i, i < 109 → recF y1 sv dv i = if i = 1 then .int .i64 q5 else recF x1 sv dv i) := Lib.hid (by rw [← hy1.out]; exact fun i _ => rs_saga x1 sv dv i _)
              have HY1 : Hid (RecV w (.agg (rowA 109 (recF y1 sv dv))) y1) := Lib.hid ⟨sv, dv, rfl, by rw [← hy1.out, ← HX1D.out]; exact HS.out, by rw [← hy1.out, ← HX1D.out]; exact HD.out⟩
              have hky : y1.kind = 3 := by rw [← hy1.out]; exact HK3.out
              have hry : rightB y1 = true := by
                refine (right3_iff hky).2 ?_
                obtain ⟨a, b, c, d, e, f⟩ := HR3.out
                rw [← hy1.out]
                exact ⟨⟨by have := HQ.out; show 0 ≤ q5; omega, by have := HQ.out; show q5 ≤ 11; omega⟩, b, c, d, e, f⟩
              have hty : y1.tag = x1.tag := by rw [← hy1.out]
              obtain ⟨hb, HHB⟩ := hid_ex (holdsB kf ps ws need y1)
              obtain ⟨pb, HPB⟩ := hid_ex (decide (y1.part < (List.length ps : Int)))
              obtain ⟨eb, HEB⟩ := hid_ex (eqH (recpH kf ps ws need y1) x1.tag)
              have HEQ : Hid ((hb == (pb && eb)) = true) := Lib.hid (by
                have h := apart_of (kf := kf) HMY.out hky hry
                rw [hty, HHB.out, HPB.out, HEB.out] at h
                exact h)
              clear hky hry hty hy1
              go_upto_region 7 with fail
              refine wp_region_steps0 NewT [SV.eq ((.int .u8 n)), SV.eq ((.int .u8 2))] [([(2, none)], none), ([(52, some 0)], none)] 103 2 rfl rfl (by kernel_rfl) NewT.trans (NewT.refl _) (Nat.le_of_ble_eq_true rfl) ⟨?_, ?_, trivial⟩ ?_
              · exact fun a wx hT hF K hK => rely_wp rfl (opr_move (.inl rfl) (hK _ _ (NewT.refl _) hF.1))
              · exact fun a wx hT hF K hK => rely_wp rfl (opr_rem8 HN8.out HM5.out rfl hF.1 (hK _ _ (NewT.refl _) rfl))
              · intro we ke
                iterate 2 (intro u h; obtain rfl := Eq.symm (h (by simp)); clear h)
                refine relyEnd_nil rfl ?_
                refine wpList_end rfl ?_
                simp only [Act.put, List.setIfInBounds_toArray, List.set_cons_zero, List.set_cons_succ]
                go_simp
                replace RK := Lib.hid (ke.row RK.out)
                replace RX := Lib.hid (ke.row RX.out)
                replace RY := Lib.hid (ke.row RY.out)
                replace HM := Lib.hid (NewT.trans _ _ _ HM.out ke)
                clear ke
                go_upto_region 14 with fail
                refine wp_region_steps0 NewT [SV.eq (.pointer (some ⟨g7, 1, none⟩)), SV.eq (.int .i64 (x1.saga)), SV.eq (.int .i64 (x1.saga + 1)), SV.eq (.int .i64 (q5)), SV.eq (.pointer (some ⟨g7, 1, none⟩))] [([(7, none)], none), ([(73, some 0)], none), ([(74, some 1)], none), ([(75, some 2)], none), ([(7, none)], none)] 103 5 rfl rfl (by kernel_rfl) NewT.trans (NewT.refl _) (Nat.le_of_ble_eq_true rfl) ⟨?_, ?_, ?_, ?_, ?_, trivial⟩ ?_
                · exact fun a wx hT hF K hK => rely_wp rfl (opr_fldR (by decide) rfl hF.1 (hK _ _ (NewT.refl _) rfl))
                · exact fun a wx hT hF K hK => rely_wp rfl (opr_ldI (hT.row RY.out) (by decide) rfl rfl hF.1 (hK _ _ (NewT.refl _) rfl))
                · exact fun a wx hT hF K hK => rely_wp rfl (opr_add (r := x1.saga + 1) Tryd.underlying3 (by have := HRG.out; unfold wrap64; omega) rfl hF.1 rfl (hK _ _ (NewT.refl _) rfl))
                · exact fun a wx hT hF K hK => rely_wp rfl (opr_rem (by have := HRG.out; omega) (by omega) HQ.out rfl hF.1 rfl (hK _ _ (NewT.refl _) rfl))
                · exact fun a wx hT hF K hK => rely_wp rfl (opr_fldR (by decide) rfl hF.1 (hK _ _ (NewT.refl _) rfl))
                · intro wf kf_
                  iterate 5 (intro u h; obtain rfl := Eq.symm (h (by simp)); clear h)
                  refine relyEnd_nil rfl ?_
                  simp only [Act.put, List.setIfInBounds_toArray, List.set_cons_zero, List.set_cons_succ]
                  refine wpList_plain rfl (fun K hK => ?_)
                  refine opr_put1 (g := g7) (o0 := 1) (v := .int .i64 q5) (F := recF y1 sv dv) rfl rfl rfl (kf_.row RY.out) (by decide) info_i1 rfl HSY.out ?_
                  intro wg hRg ryg
                  refine hK _ _ ?_
                  refine wpList_end rfl ?_
                  simp only [Act.put, List.setIfInBounds_toArray, List.set_cons_zero, List.set_cons_succ]
                  go_simp
                  replace RY := Lib.hid ryg
                  replace RK := Lib.hid (hRg.row (by have := HG7.out; omega) (kf_.row RK.out))
                  replace RX := Lib.hid (hRg.row (by have := HG7.out; omega) (kf_.row RX.out))
                  replace HM := Lib.hid (NewT.rt (NewT.trans _ _ _ HM.out kf_) hRg (by have := HG7.out; omega))
                  clear kf_ hRg ryg
                  go_upto_region 17 with fail
                  refine wp_region_rely (NewT) [SV.eq (.agg (rowA 3 (keyF pv wv need))), SV.eq (.agg (rowA 109 (recF y1 sv dv))), SV.eq (.bool (hb)), SV.eq (.pointer (some ⟨g7, 8, none⟩)), SV.eq (.int .i64 (y1.part)), SV.eq (.pointer (some ⟨g1, 0, none⟩)), SV.eq (pv), SV.eq (.int .i64 ((List.length (ps) : Int))), SV.eq (.bool (pb)), SV.eq (.bool (pb)), svIf pb (SV.eq (.agg (rowA 3 (keyF pv wv need)))), svIf pb (SV.eq (.agg (rowA 109 (recF y1 sv dv)))), svIf pb (SV.eq (.agg (rowA 32 (bF (recpH kf ps ws need y1))))), svIf pb (SV.eq (.pointer (some ⟨g2, 10, none⟩))), svIf pb (SV.eq (.agg (rowA 32 (bF (x1.tag))))), svIf pb (SV.eq (.bool (eb))), SV.eq (.bool (pb && eb)), SV.eq (.bool true)] [([(3, none)], none), ([(7, none)], none), ([(85, some 0), (86, some 1)], none), ([(7, none)], none), ([(88, some 3)], none), ([(3, none)], none), ([(90, some 5)], none), ([(91, some 6)], none), ([(89, some 4), (92, some 7)], none), ([(93, some 8)], none), ([(3, none), (94, some 9)], some (94, true)), ([(7, none), (94, some 9)], some (94, true)), ([(95, some 10), (96, some 11), (94, some 9)], some (94, true)), ([(4, none), (94, some 9)], some (94, true)), ([(98, some 13), (94, some 9)], some (94, true)), ([(97, some 12), (99, some 14), (94, some 9)], some (94, true)), ([(94, some 9), (100, some 15)], none), ([(87, some 2), (101, some 16)], none)] 103 rfl (by kernel_rfl) rfl (by kernel_rfl) (by kernel_rfl) rfl NewT.trans (NewT.drew _) (Nat.le_of_ble_eq_true rfl) ⟨?_, ?_, ?_, ?_, ?_, ?_, ?_, ?_, ?_, ?_, ?_, ?_, ?_, ?_, ?_, ?_, ?_, ?_, trivial⟩ ?_
                  · exact fun a wx hT hF K hK => rely_wp rfl (opr_ldY (hT.row RK.out) rfl hF.1 (hK _ _ (NewT.refl _) rfl))
                  · exact fun a wx hT hF K hK => rely_wp rfl (opr_ldR (hT.row RY.out) rfl hF.1 (hK _ _ (NewT.refl _) rfl))
                  · exact fun a wx hT hF K hK => rely_wp rfl (opr_cv (HHB.out ▸ Holds_cv hX _ _ ps ws need y1 wx ((NewT.trans _ _ _ HM.out hT).tables HT.out) ((NewT.trans _ _ _ HM.out hT).keysV HK.out) ((NewT.trans _ _ _ HM.out hT).recV HY1.out)) rfl Tryd.func18 (by kernel_rfl) (by kernel_rfl) (evs2 hF.1 hF.2.1) hK)
                  · exact fun a wx hT hF K hK => rely_wp rfl (opr_fldR (by decide) rfl hF.1 (hK _ _ (NewT.refl _) rfl))
                  · exact fun a wx hT hF K hK => rely_wp rfl (opr_ldI (hT.row RY.out) (by decide) rfl rfl hF.1 (hK _ _ (NewT.refl _) rfl))
                  · exact fun a wx hT hF K hK => rely_wp rfl (opr_fldY0 rfl hF.1 (hK _ _ (NewT.refl _) rfl))
                  · exact fun a wx hT hF K hK => rely_wp rfl (opr_ldHs (hT.row RK.out) (by decide) rfl rfl hF.1 (hK _ _ (NewT.refl _) rfl))
                  · intro a wx hT hF K hK
                    obtain ⟨f91, _⟩ := hF
                    have f91 : a.tmps.getD 91 undef = pv := f91
                    refine rely_wp rfl ?_
                    exact opr_len_h rfl (by rw [eval_tmp, f91]; exact ((NewT.trans _ _ _ HM.out hT).hs HP.out)) (hK _ _ (NewT.refl _) rfl)
                  · exact fun a wx hT hF K hK => rely_wp rfl (opr_cmp (b := pb) (.inr (.inr (.inr (.inl ⟨rfl, (by exact HPB.out)⟩)))) Tryd.underlying3 rfl hF.1 hF.2.1 (hK _ _ (NewT.refl _) rfl))
                  · exact fun a wx hT hF K hK => rely_wp rfl (opr_move (.inl rfl) (hK _ _ (NewT.refl _) hF.1))
                  · exact fun a wx hT hF K hK => rely_if (rely_gt hF.2.1) (NewT.refl _) hK fun hE hK => opr_ldY (hT.row RK.out) rfl hF.1 (hK _ _ (NewT.refl _) rfl)
                  · exact fun a wx hT hF K hK => rely_if (rely_gt hF.2.1) (NewT.refl _) hK fun hE hK => opr_ldR (hT.row RY.out) rfl hF.1 (hK _ _ (NewT.refl _) rfl)
                  · exact fun a wx hT hF K hK => rely_if (rely_gt hF.2.2.1) (NewT.refl _) hK fun hE hK => opr_cv (Receipt_cv hX _ _ ps ws need y1 wx ((NewT.trans _ _ _ HM.out hT).tables HT.out) ((NewT.trans _ _ _ HM.out hT).keysV HK.out) ((NewT.trans _ _ _ HM.out hT).recV HY1.out)) rfl Tryd.func16 (by kernel_rfl) (by kernel_rfl) (evs2 (hF.1 hE) (hF.2.1 hE)) hK
                  · exact fun a wx hT hF K hK => rely_if (rely_gt hF.2.1) (NewT.refl _) hK fun hE hK => opr_fldR (by decide) rfl hF.1 (hK _ _ (NewT.refl _) rfl)
                  · exact fun a wx hT hF K hK => rely_if (rely_gt hF.2.1) (NewT.refl _) hK fun hE hK => opr_ldH (hT.row RX.out) (by decide) (recF_tag x1 _ _) rfl (hF.1 hE) (hK _ _ (NewT.refl _) rfl)
                  · exact fun a wx hT hF K hK => rely_if (rely_gt hF.2.2.1) (NewT.refl _) hK fun hE hK => opr_eql_hash (b := eb) rfl (hF.1 hE) (hF.2.1 hE) (HEB.out) (hK _ _ (NewT.refl _) rfl)
                  · exact fun a wx hT hF K hK => rely_wp rfl (opr_pick_b rfl hF.1 (fun hb => hK _ _ (NewT.refl _) (pk_and1 (hF.2.1 hb) hb)) (fun hb => hK _ _ (NewT.refl _) (pk_and0 hb)))
                  · exact fun a wx hT hF K hK => rely_wp rfl (opr_eqlQ (b := true) (HEQ.out) rfl hF.1 hF.2.1 (hK _ _ (NewT.refl _) rfl))
                  · intro wh kh
                    iterate 10 (intro u h; obtain rfl := Eq.symm (h (by simp)); clear h)
                    iterate 6 (intro _ _)
                    iterate 2 (intro u h; obtain rfl := Eq.symm (h (by simp)); clear h)
                    refine relyEnd_nil rfl ?_
                    simp only [Act.put, List.setIfInBounds_toArray, List.set_cons_zero, List.set_cons_succ]
                    refine opr_move (.inr rfl) ?_
                    go_simp
                    go_wp2
                    go_ret
                    exact ⟨rfl, (NewT.trans _ _ _ HM.out kh).out⟩
            ·
              have HM5 := Lib.hid hm5
              clear hm5
              obtain ⟨q5, HQ⟩ := hid_ex ((x1.step + 1) % 6)
              have HRG : Hid (0 ≤ x1.step ∧ x1.step ≤ 11) := Lib.hid (by have := HR3.out.2.1.2.1; omega)
              obtain ⟨y1, hy1⟩ := hid_ex ({ x1 with step := q5 } : Rc)
              have HSY : Hid (∀ i, i < 109 → recF y1 sv dv i = if i = 3 then .int .i64 q5 else recF x1 sv dv i) := Lib.hid (by rw [← hy1.out]; exact fun i _ => rs_step x1 sv dv i _)
              have HY1 : Hid (RecV w (.agg (rowA 109 (recF y1 sv dv))) y1) := Lib.hid ⟨sv, dv, rfl, by rw [← hy1.out, ← HX1D.out]; exact HS.out, by rw [← hy1.out, ← HX1D.out]; exact HD.out⟩
              have hky : y1.kind = 3 := by rw [← hy1.out]; exact HK3.out
              have hry : rightB y1 = true := by
                refine (right3_iff hky).2 ?_
                obtain ⟨a, b, c, d, e, f⟩ := HR3.out
                rw [← hy1.out]
                exact ⟨a, ⟨b.1, ⟨by have := HQ.out; show 0 ≤ q5; omega, by have := HQ.out; show q5 ≤ 5; omega⟩, b.2.2⟩, c, d, e, f⟩
              have hty : y1.tag = x1.tag := by rw [← hy1.out]
              obtain ⟨hb, HHB⟩ := hid_ex (holdsB kf ps ws need y1)
              obtain ⟨pb, HPB⟩ := hid_ex (decide (y1.part < (List.length ps : Int)))
              obtain ⟨eb, HEB⟩ := hid_ex (eqH (recpH kf ps ws need y1) x1.tag)
              have HEQ : Hid ((hb == (pb && eb)) = true) := Lib.hid (by
                have h := apart_of (kf := kf) HMY.out hky hry
                rw [hty, HHB.out, HPB.out, HEB.out] at h
                exact h)
              clear hky hry hty hy1
              go_upto_region 7 with fail
              refine wp_region_steps0 NewT [SV.eq ((.int .u8 n)), SV.eq ((.int .u8 3))] [([(2, none)], none), ([(52, some 0)], none)] 103 2 rfl rfl (by kernel_rfl) NewT.trans (NewT.refl _) (Nat.le_of_ble_eq_true rfl) ⟨?_, ?_, trivial⟩ ?_
              · exact fun a wx hT hF K hK => rely_wp rfl (opr_move (.inl rfl) (hK _ _ (NewT.refl _) hF.1))
              · exact fun a wx hT hF K hK => rely_wp rfl (opr_rem8 HN8.out HM5.out rfl hF.1 (hK _ _ (NewT.refl _) rfl))
              · intro we ke
                iterate 2 (intro u h; obtain rfl := Eq.symm (h (by simp)); clear h)
                refine relyEnd_nil rfl ?_
                refine wpList_end rfl ?_
                simp only [Act.put, List.setIfInBounds_toArray, List.set_cons_zero, List.set_cons_succ]
                go_simp
                replace RK := Lib.hid (ke.row RK.out)
                replace RX := Lib.hid (ke.row RX.out)
                replace RY := Lib.hid (ke.row RY.out)
                replace HM := Lib.hid (NewT.trans _ _ _ HM.out ke)
                clear ke
                go_upto_region 16 with fail
                refine wp_region_steps0 NewT [SV.eq (.pointer (some ⟨g7, 3, none⟩)), SV.eq (.int .i64 (x1.step)), SV.eq (.int .i64 (x1.step + 1)), SV.eq (.int .i64 (q5)), SV.eq (.pointer (some ⟨g7, 3, none⟩))] [([(7, none)], none), ([(80, some 0)], none), ([(81, some 1)], none), ([(82, some 2)], none), ([(7, none)], none)] 103 5 rfl rfl (by kernel_rfl) NewT.trans (NewT.refl _) (Nat.le_of_ble_eq_true rfl) ⟨?_, ?_, ?_, ?_, ?_, trivial⟩ ?_
                · exact fun a wx hT hF K hK => rely_wp rfl (opr_fldR (by decide) rfl hF.1 (hK _ _ (NewT.refl _) rfl))
                · exact fun a wx hT hF K hK => rely_wp rfl (opr_ldI (hT.row RY.out) (by decide) rfl rfl hF.1 (hK _ _ (NewT.refl _) rfl))
                · exact fun a wx hT hF K hK => rely_wp rfl (opr_add (r := x1.step + 1) Tryd.underlying3 (by have := HRG.out; unfold wrap64; omega) rfl hF.1 rfl (hK _ _ (NewT.refl _) rfl))
                · exact fun a wx hT hF K hK => rely_wp rfl (opr_rem (by have := HRG.out; omega) (by omega) HQ.out rfl hF.1 rfl (hK _ _ (NewT.refl _) rfl))
                · exact fun a wx hT hF K hK => rely_wp rfl (opr_fldR (by decide) rfl hF.1 (hK _ _ (NewT.refl _) rfl))
                · intro wf kf_
                  iterate 5 (intro u h; obtain rfl := Eq.symm (h (by simp)); clear h)
                  refine relyEnd_nil rfl ?_
                  simp only [Act.put, List.setIfInBounds_toArray, List.set_cons_zero, List.set_cons_succ]
                  refine wpList_plain rfl (fun K hK => ?_)
                  refine opr_put1 (g := g7) (o0 := 3) (v := .int .i64 q5) (F := recF y1 sv dv) rfl rfl rfl (kf_.row RY.out) (by decide) info_i1 rfl HSY.out ?_
                  intro wg hRg ryg
                  refine hK _ _ ?_
                  refine wpList_end rfl ?_
                  simp only [Act.put, List.setIfInBounds_toArray, List.set_cons_zero, List.set_cons_succ]
                  go_simp
                  replace RY := Lib.hid ryg
                  replace RK := Lib.hid (hRg.row (by have := HG7.out; omega) (kf_.row RK.out))
                  replace RX := Lib.hid (hRg.row (by have := HG7.out; omega) (kf_.row RX.out))
                  replace HM := Lib.hid (NewT.rt (NewT.trans _ _ _ HM.out kf_) hRg (by have := HG7.out; omega))
                  clear kf_ hRg ryg
                  go_upto_region 17 with fail
                  refine wp_region_rely (NewT) [SV.eq (.agg (rowA 3 (keyF pv wv need))), SV.eq (.agg (rowA 109 (recF y1 sv dv))), SV.eq (.bool (hb)), SV.eq (.pointer (some ⟨g7, 8, none⟩)), SV.eq (.int .i64 (y1.part)), SV.eq (.pointer (some ⟨g1, 0, none⟩)), SV.eq (pv), SV.eq (.int .i64 ((List.length (ps) : Int))), SV.eq (.bool (pb)), SV.eq (.bool (pb)), svIf pb (SV.eq (.agg (rowA 3 (keyF pv wv need)))), svIf pb (SV.eq (.agg (rowA 109 (recF y1 sv dv)))), svIf pb (SV.eq (.agg (rowA 32 (bF (recpH kf ps ws need y1))))), svIf pb (SV.eq (.pointer (some ⟨g2, 10, none⟩))), svIf pb (SV.eq (.agg (rowA 32 (bF (x1.tag))))), svIf pb (SV.eq (.bool (eb))), SV.eq (.bool (pb && eb)), SV.eq (.bool true)] [([(3, none)], none), ([(7, none)], none), ([(85, some 0), (86, some 1)], none), ([(7, none)], none), ([(88, some 3)], none), ([(3, none)], none), ([(90, some 5)], none), ([(91, some 6)], none), ([(89, some 4), (92, some 7)], none), ([(93, some 8)], none), ([(3, none), (94, some 9)], some (94, true)), ([(7, none), (94, some 9)], some (94, true)), ([(95, some 10), (96, some 11), (94, some 9)], some (94, true)), ([(4, none), (94, some 9)], some (94, true)), ([(98, some 13), (94, some 9)], some (94, true)), ([(97, some 12), (99, some 14), (94, some 9)], some (94, true)), ([(94, some 9), (100, some 15)], none), ([(87, some 2), (101, some 16)], none)] 103 rfl (by kernel_rfl) rfl (by kernel_rfl) (by kernel_rfl) rfl NewT.trans (NewT.drew _) (Nat.le_of_ble_eq_true rfl) ⟨?_, ?_, ?_, ?_, ?_, ?_, ?_, ?_, ?_, ?_, ?_, ?_, ?_, ?_, ?_, ?_, ?_, ?_, trivial⟩ ?_
                  · exact fun a wx hT hF K hK => rely_wp rfl (opr_ldY (hT.row RK.out) rfl hF.1 (hK _ _ (NewT.refl _) rfl))
                  · exact fun a wx hT hF K hK => rely_wp rfl (opr_ldR (hT.row RY.out) rfl hF.1 (hK _ _ (NewT.refl _) rfl))
                  · exact fun a wx hT hF K hK => rely_wp rfl (opr_cv (HHB.out ▸ Holds_cv hX _ _ ps ws need y1 wx ((NewT.trans _ _ _ HM.out hT).tables HT.out) ((NewT.trans _ _ _ HM.out hT).keysV HK.out) ((NewT.trans _ _ _ HM.out hT).recV HY1.out)) rfl Tryd.func18 (by kernel_rfl) (by kernel_rfl) (evs2 hF.1 hF.2.1) hK)
                  · exact fun a wx hT hF K hK => rely_wp rfl (opr_fldR (by decide) rfl hF.1 (hK _ _ (NewT.refl _) rfl))
                  · exact fun a wx hT hF K hK => rely_wp rfl (opr_ldI (hT.row RY.out) (by decide) rfl rfl hF.1 (hK _ _ (NewT.refl _) rfl))
                  · exact fun a wx hT hF K hK => rely_wp rfl (opr_fldY0 rfl hF.1 (hK _ _ (NewT.refl _) rfl))
                  · exact fun a wx hT hF K hK => rely_wp rfl (opr_ldHs (hT.row RK.out) (by decide) rfl rfl hF.1 (hK _ _ (NewT.refl _) rfl))
                  · intro a wx hT hF K hK
                    obtain ⟨f91, _⟩ := hF
                    have f91 : a.tmps.getD 91 undef = pv := f91
                    refine rely_wp rfl ?_
                    exact opr_len_h rfl (by rw [eval_tmp, f91]; exact ((NewT.trans _ _ _ HM.out hT).hs HP.out)) (hK _ _ (NewT.refl _) rfl)
                  · exact fun a wx hT hF K hK => rely_wp rfl (opr_cmp (b := pb) (.inr (.inr (.inr (.inl ⟨rfl, (by exact HPB.out)⟩)))) Tryd.underlying3 rfl hF.1 hF.2.1 (hK _ _ (NewT.refl _) rfl))
                  · exact fun a wx hT hF K hK => rely_wp rfl (opr_move (.inl rfl) (hK _ _ (NewT.refl _) hF.1))
                  · exact fun a wx hT hF K hK => rely_if (rely_gt hF.2.1) (NewT.refl _) hK fun hE hK => opr_ldY (hT.row RK.out) rfl hF.1 (hK _ _ (NewT.refl _) rfl)
                  · exact fun a wx hT hF K hK => rely_if (rely_gt hF.2.1) (NewT.refl _) hK fun hE hK => opr_ldR (hT.row RY.out) rfl hF.1 (hK _ _ (NewT.refl _) rfl)
                  · exact fun a wx hT hF K hK => rely_if (rely_gt hF.2.2.1) (NewT.refl _) hK fun hE hK => opr_cv (Receipt_cv hX _ _ ps ws need y1 wx ((NewT.trans _ _ _ HM.out hT).tables HT.out) ((NewT.trans _ _ _ HM.out hT).keysV HK.out) ((NewT.trans _ _ _ HM.out hT).recV HY1.out)) rfl Tryd.func16 (by kernel_rfl) (by kernel_rfl) (evs2 (hF.1 hE) (hF.2.1 hE)) hK
                  · exact fun a wx hT hF K hK => rely_if (rely_gt hF.2.1) (NewT.refl _) hK fun hE hK => opr_fldR (by decide) rfl hF.1 (hK _ _ (NewT.refl _) rfl)
                  · exact fun a wx hT hF K hK => rely_if (rely_gt hF.2.1) (NewT.refl _) hK fun hE hK => opr_ldH (hT.row RX.out) (by decide) (recF_tag x1 _ _) rfl (hF.1 hE) (hK _ _ (NewT.refl _) rfl)
                  · exact fun a wx hT hF K hK => rely_if (rely_gt hF.2.2.1) (NewT.refl _) hK fun hE hK => opr_eql_hash (b := eb) rfl (hF.1 hE) (hF.2.1 hE) (HEB.out) (hK _ _ (NewT.refl _) rfl)
                  · exact fun a wx hT hF K hK => rely_wp rfl (opr_pick_b rfl hF.1 (fun hb => hK _ _ (NewT.refl _) (pk_and1 (hF.2.1 hb) hb)) (fun hb => hK _ _ (NewT.refl _) (pk_and0 hb)))
                  · exact fun a wx hT hF K hK => rely_wp rfl (opr_eqlQ (b := true) (HEQ.out) rfl hF.1 hF.2.1 (hK _ _ (NewT.refl _) rfl))
                  · intro wh kh
                    iterate 10 (intro u h; obtain rfl := Eq.symm (h (by simp)); clear h)
                    iterate 6 (intro _ _)
                    iterate 2 (intro u h; obtain rfl := Eq.symm (h (by simp)); clear h)
                    refine relyEnd_nil rfl ?_
                    simp only [Act.put, List.setIfInBounds_toArray, List.set_cons_zero, List.set_cons_succ]
                    refine opr_move (.inr rfl) ?_
                    go_simp
                    go_wp2
                    go_ret
                    exact ⟨rfl, (NewT.trans _ _ _ HM.out kh).out⟩
            ·
              have HM5 := Lib.hid hm5
              clear hm5
              obtain ⟨q5, HQ⟩ := hid_ex ((x1.part + 1) % 4)
              have HRG : Hid (0 ≤ x1.part ∧ x1.part ≤ 11) := Lib.hid (by have := HR3.out.2.2.2.1; omega)
              obtain ⟨y1, hy1⟩ := hid_ex ({ x1 with part := q5 } : Rc)
              have HSY : Hid (∀ i, i < 109 → recF y1 sv dv i = if i = 8 then .int .i64 q5 else recF x1 sv dv i) := Lib.hid (by rw [← hy1.out]; exact fun i _ => rs_part x1 sv dv i _)
              have HY1 : Hid (RecV w (.agg (rowA 109 (recF y1 sv dv))) y1) := Lib.hid ⟨sv, dv, rfl, by rw [← hy1.out, ← HX1D.out]; exact HS.out, by rw [← hy1.out, ← HX1D.out]; exact HD.out⟩
              have hky : y1.kind = 3 := by rw [← hy1.out]; exact HK3.out
              have hry : rightB y1 = true := by
                refine (right3_iff hky).2 ?_
                obtain ⟨a, b, c, d, e, f⟩ := HR3.out
                rw [← hy1.out]
                exact ⟨a, b, c, ⟨by have := HQ.out; show 0 ≤ q5; omega, by have := HQ.out; show q5 ≤ 3; omega⟩, e, f⟩
              have hty : y1.tag = x1.tag := by rw [← hy1.out]
              obtain ⟨hb, HHB⟩ := hid_ex (holdsB kf ps ws need y1)
              obtain ⟨pb, HPB⟩ := hid_ex (decide (y1.part < (List.length ps : Int)))
              obtain ⟨eb, HEB⟩ := hid_ex (eqH (recpH kf ps ws need y1) x1.tag)
              have HEQ : Hid ((hb == (pb && eb)) = true) := Lib.hid (by
                have h := apart_of (kf := kf) HMY.out hky hry
                rw [hty, HHB.out, HPB.out, HEB.out] at h
                exact h)
              clear hky hry hty hy1
              go_upto_region 7 with fail
              refine wp_region_steps0 NewT [SV.eq ((.int .u8 n)), SV.eq ((.int .u8 4))] [([(2, none)], none), ([(52, some 0)], none)] 103 2 rfl rfl (by kernel_rfl) NewT.trans (NewT.refl _) (Nat.le_of_ble_eq_true rfl) ⟨?_, ?_, trivial⟩ ?_
              · exact fun a wx hT hF K hK => rely_wp rfl (opr_move (.inl rfl) (hK _ _ (NewT.refl _) hF.1))
              · exact fun a wx hT hF K hK => rely_wp rfl (opr_rem8 HN8.out HM5.out rfl hF.1 (hK _ _ (NewT.refl _) rfl))
              · intro we ke
                iterate 2 (intro u h; obtain rfl := Eq.symm (h (by simp)); clear h)
                refine relyEnd_nil rfl ?_
                refine wpList_end rfl ?_
                simp only [Act.put, List.setIfInBounds_toArray, List.set_cons_zero, List.set_cons_succ]
                go_simp
                replace RK := Lib.hid (ke.row RK.out)
                replace RX := Lib.hid (ke.row RX.out)
                replace RY := Lib.hid (ke.row RY.out)
                replace HM := Lib.hid (NewT.trans _ _ _ HM.out ke)
                clear ke
                go_upto_region 8 with fail
                refine wp_region_steps0 NewT [SV.eq (.pointer (some ⟨g7, 8, none⟩)), SV.eq (.int .i64 (x1.part)), SV.eq (.int .i64 (x1.part + 1)), SV.eq (.int .i64 (q5)), SV.eq (.pointer (some ⟨g7, 8, none⟩))] [([(7, none)], none), ([(54, some 0)], none), ([(55, some 1)], none), ([(56, some 2)], none), ([(7, none)], none)] 103 5 rfl rfl (by kernel_rfl) NewT.trans (NewT.refl _) (Nat.le_of_ble_eq_true rfl) ⟨?_, ?_, ?_, ?_, ?_, trivial⟩ ?_
                · exact fun a wx hT hF K hK => rely_wp rfl (opr_fldR (by decide) rfl hF.1 (hK _ _ (NewT.refl _) rfl))
                · exact fun a wx hT hF K hK => rely_wp rfl (opr_ldI (hT.row RY.out) (by decide) rfl rfl hF.1 (hK _ _ (NewT.refl _) rfl))
                · exact fun a wx hT hF K hK => rely_wp rfl (opr_add (r := x1.part + 1) Tryd.underlying3 (by have := HRG.out; unfold wrap64; omega) rfl hF.1 rfl (hK _ _ (NewT.refl _) rfl))
                · exact fun a wx hT hF K hK => rely_wp rfl (opr_rem (by have := HRG.out; omega) (by omega) HQ.out rfl hF.1 rfl (hK _ _ (NewT.refl _) rfl))
                · exact fun a wx hT hF K hK => rely_wp rfl (opr_fldR (by decide) rfl hF.1 (hK _ _ (NewT.refl _) rfl))
                · intro wf kf_
                  iterate 5 (intro u h; obtain rfl := Eq.symm (h (by simp)); clear h)
                  refine relyEnd_nil rfl ?_
                  simp only [Act.put, List.setIfInBounds_toArray, List.set_cons_zero, List.set_cons_succ]
                  refine wpList_plain rfl (fun K hK => ?_)
                  refine opr_put1 (g := g7) (o0 := 8) (v := .int .i64 q5) (F := recF y1 sv dv) rfl rfl rfl (kf_.row RY.out) (by decide) info_i1 rfl HSY.out ?_
                  intro wg hRg ryg
                  refine hK _ _ ?_
                  refine wpList_end rfl ?_
                  simp only [Act.put, List.setIfInBounds_toArray, List.set_cons_zero, List.set_cons_succ]
                  go_simp
                  replace RY := Lib.hid ryg
                  replace RK := Lib.hid (hRg.row (by have := HG7.out; omega) (kf_.row RK.out))
                  replace RX := Lib.hid (hRg.row (by have := HG7.out; omega) (kf_.row RX.out))
                  replace HM := Lib.hid (NewT.rt (NewT.trans _ _ _ HM.out kf_) hRg (by have := HG7.out; omega))
                  clear kf_ hRg ryg
                  go_upto_region 17 with fail
                  refine wp_region_rely (NewT) [SV.eq (.agg (rowA 3 (keyF pv wv need))), SV.eq (.agg (rowA 109 (recF y1 sv dv))), SV.eq (.bool (hb)), SV.eq (.pointer (some ⟨g7, 8, none⟩)), SV.eq (.int .i64 (y1.part)), SV.eq (.pointer (some ⟨g1, 0, none⟩)), SV.eq (pv), SV.eq (.int .i64 ((List.length (ps) : Int))), SV.eq (.bool (pb)), SV.eq (.bool (pb)), svIf pb (SV.eq (.agg (rowA 3 (keyF pv wv need)))), svIf pb (SV.eq (.agg (rowA 109 (recF y1 sv dv)))), svIf pb (SV.eq (.agg (rowA 32 (bF (recpH kf ps ws need y1))))), svIf pb (SV.eq (.pointer (some ⟨g2, 10, none⟩))), svIf pb (SV.eq (.agg (rowA 32 (bF (x1.tag))))), svIf pb (SV.eq (.bool (eb))), SV.eq (.bool (pb && eb)), SV.eq (.bool true)] [([(3, none)], none), ([(7, none)], none), ([(85, some 0), (86, some 1)], none), ([(7, none)], none), ([(88, some 3)], none), ([(3, none)], none), ([(90, some 5)], none), ([(91, some 6)], none), ([(89, some 4), (92, some 7)], none), ([(93, some 8)], none), ([(3, none), (94, some 9)], some (94, true)), ([(7, none), (94, some 9)], some (94, true)), ([(95, some 10), (96, some 11), (94, some 9)], some (94, true)), ([(4, none), (94, some 9)], some (94, true)), ([(98, some 13), (94, some 9)], some (94, true)), ([(97, some 12), (99, some 14), (94, some 9)], some (94, true)), ([(94, some 9), (100, some 15)], none), ([(87, some 2), (101, some 16)], none)] 103 rfl (by kernel_rfl) rfl (by kernel_rfl) (by kernel_rfl) rfl NewT.trans (NewT.drew _) (Nat.le_of_ble_eq_true rfl) ⟨?_, ?_, ?_, ?_, ?_, ?_, ?_, ?_, ?_, ?_, ?_, ?_, ?_, ?_, ?_, ?_, ?_, ?_, trivial⟩ ?_
                  · exact fun a wx hT hF K hK => rely_wp rfl (opr_ldY (hT.row RK.out) rfl hF.1 (hK _ _ (NewT.refl _) rfl))
                  · exact fun a wx hT hF K hK => rely_wp rfl (opr_ldR (hT.row RY.out) rfl hF.1 (hK _ _ (NewT.refl _) rfl))
                  · exact fun a wx hT hF K hK => rely_wp rfl (opr_cv (HHB.out ▸ Holds_cv hX _ _ ps ws need y1 wx ((NewT.trans _ _ _ HM.out hT).tables HT.out) ((NewT.trans _ _ _ HM.out hT).keysV HK.out) ((NewT.trans _ _ _ HM.out hT).recV HY1.out)) rfl Tryd.func18 (by kernel_rfl) (by kernel_rfl) (evs2 hF.1 hF.2.1) hK)
                  · exact fun a wx hT hF K hK => rely_wp rfl (opr_fldR (by decide) rfl hF.1 (hK _ _ (NewT.refl _) rfl))
                  · exact fun a wx hT hF K hK => rely_wp rfl (opr_ldI (hT.row RY.out) (by decide) rfl rfl hF.1 (hK _ _ (NewT.refl _) rfl))
                  · exact fun a wx hT hF K hK => rely_wp rfl (opr_fldY0 rfl hF.1 (hK _ _ (NewT.refl _) rfl))
                  · exact fun a wx hT hF K hK => rely_wp rfl (opr_ldHs (hT.row RK.out) (by decide) rfl rfl hF.1 (hK _ _ (NewT.refl _) rfl))
                  · intro a wx hT hF K hK
                    obtain ⟨f91, _⟩ := hF
                    have f91 : a.tmps.getD 91 undef = pv := f91
                    refine rely_wp rfl ?_
                    exact opr_len_h rfl (by rw [eval_tmp, f91]; exact ((NewT.trans _ _ _ HM.out hT).hs HP.out)) (hK _ _ (NewT.refl _) rfl)
                  · exact fun a wx hT hF K hK => rely_wp rfl (opr_cmp (b := pb) (.inr (.inr (.inr (.inl ⟨rfl, (by exact HPB.out)⟩)))) Tryd.underlying3 rfl hF.1 hF.2.1 (hK _ _ (NewT.refl _) rfl))
                  · exact fun a wx hT hF K hK => rely_wp rfl (opr_move (.inl rfl) (hK _ _ (NewT.refl _) hF.1))
                  · exact fun a wx hT hF K hK => rely_if (rely_gt hF.2.1) (NewT.refl _) hK fun hE hK => opr_ldY (hT.row RK.out) rfl hF.1 (hK _ _ (NewT.refl _) rfl)
                  · exact fun a wx hT hF K hK => rely_if (rely_gt hF.2.1) (NewT.refl _) hK fun hE hK => opr_ldR (hT.row RY.out) rfl hF.1 (hK _ _ (NewT.refl _) rfl)
                  · exact fun a wx hT hF K hK => rely_if (rely_gt hF.2.2.1) (NewT.refl _) hK fun hE hK => opr_cv (Receipt_cv hX _ _ ps ws need y1 wx ((NewT.trans _ _ _ HM.out hT).tables HT.out) ((NewT.trans _ _ _ HM.out hT).keysV HK.out) ((NewT.trans _ _ _ HM.out hT).recV HY1.out)) rfl Tryd.func16 (by kernel_rfl) (by kernel_rfl) (evs2 (hF.1 hE) (hF.2.1 hE)) hK
                  · exact fun a wx hT hF K hK => rely_if (rely_gt hF.2.1) (NewT.refl _) hK fun hE hK => opr_fldR (by decide) rfl hF.1 (hK _ _ (NewT.refl _) rfl)
                  · exact fun a wx hT hF K hK => rely_if (rely_gt hF.2.1) (NewT.refl _) hK fun hE hK => opr_ldH (hT.row RX.out) (by decide) (recF_tag x1 _ _) rfl (hF.1 hE) (hK _ _ (NewT.refl _) rfl)
                  · exact fun a wx hT hF K hK => rely_if (rely_gt hF.2.2.1) (NewT.refl _) hK fun hE hK => opr_eql_hash (b := eb) rfl (hF.1 hE) (hF.2.1 hE) (HEB.out) (hK _ _ (NewT.refl _) rfl)
                  · exact fun a wx hT hF K hK => rely_wp rfl (opr_pick_b rfl hF.1 (fun hb => hK _ _ (NewT.refl _) (pk_and1 (hF.2.1 hb) hb)) (fun hb => hK _ _ (NewT.refl _) (pk_and0 hb)))
                  · exact fun a wx hT hF K hK => rely_wp rfl (opr_eqlQ (b := true) (HEQ.out) rfl hF.1 hF.2.1 (hK _ _ (NewT.refl _) rfl))
                  · intro wh kh
                    iterate 10 (intro u h; obtain rfl := Eq.symm (h (by simp)); clear h)
                    iterate 6 (intro _ _)
                    iterate 2 (intro u h; obtain rfl := Eq.symm (h (by simp)); clear h)
                    refine relyEnd_nil rfl ?_
                    simp only [Act.put, List.setIfInBounds_toArray, List.set_cons_zero, List.set_cons_succ]
                    refine opr_move (.inr rfl) ?_
                    go_simp
                    go_wp2
                    go_ret
                    exact ⟨rfl, (NewT.trans _ _ _ HM.out kh).out⟩
      · clear hq
        go_wp2
        go_ret
        exact ⟨rfl, HM.out.out⟩
end Go.Proofs.YtcfogkimjbgjgaaDoor
