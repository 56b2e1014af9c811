/- The reference's Right, walked: what it answers, as its text goes. -/
import Derived.Test.YthgblcpekhiphaaDoorMf
import Derived.Test.YthgblcpekhiphaaDoorMa
import Derived.Test.YthgblcpekhiphaaDoorMb
set_option linter.all false
namespace Go.Proofs.YthgblcpekhiphaaDoor
open Go Go.RowKit
set_option maxRecDepth 8000
def begQ (x : Rc) : Bool := x.kind == 1
def callQ (x : Rc) : Bool := decide (2 ≤ x.kind) && decide (x.kind ≤ 4)
def recQ (x : Rc) : Bool := x.kind == 3
/-- What the reference's text says. -/
def refR (x : Rc) : Bool :=
  if (((((decide (x.kind < 1)) || (decide (6 < x.kind))) || (!(inR x.saga 0 11))) || ((x.kind == 6) && (x.saga != 0)))) = true then false else if (if ((callQ x) || (x.kind == 5)) = true then (!(inR x.seq 1 400)) else (x.seq != 0)) = true then false else if ((((callQ x) && ((!(inR x.step 0 5)) || (!(inR x.tr 1 9)))) || ((!(callQ x)) && (((x.step != 0) || (x.tr != 0)) || x.back)))) = true then false else if (((((!(recQ x)) && (x.good || (!(eqH (x.tag) (fun _ => 0))))) || ((x.kind == 5) && (!(inR x.nd 2 4)))) || ((x.kind != 5) && (x.nd != 0)))) = true then false else if ((((recQ x) && ((!(inR x.part 0 3)) || (!(inR x.epoch 0 400)))) || ((x.kind == 6) && ((!(inR x.part 0 3)) || (!(inR x.epoch 1 400)))))) = true then false else if ((((!(recQ x)) && (x.kind != 6)) && ((x.part != 0) || (x.epoch != 0)))) = true then false
  else if (!(begQ x)) = true then ((((((((List.length (x.steps) : Int)) == 0) && (((List.length (x.data) : Int)) == 0)) && (eqH (x.salt) (fun _ => 0))) && (!x.gone)) && (eqH (x.com) (fun _ => 0)))) else if x.steps.all stepOk = false then false else if (((!(inR ((List.length (x.steps) : Int)) 1 6)) || (decide (60 < ((List.length (x.data) : Int)))))) = true then false else if x.gone = true then (((((List.length (x.data) : Int)) == 0) && (eqH (x.salt) (fun _ => 0)))) else (eqH (x.com) (fun _ => 0))
set_option maxHeartbeats 8000000 in
theorem RRightR_cv (v : Value) (x : Rc) (w : World) (h : RecV w v x) : Cv 12 #[v] w (.eq (.bool (refR x))) := by
  obtain ⟨sv, dv, rfl, hs, hd⟩ := h
  unfold Cv
  have HX : Hid (RecV w (.agg (rowA 109 (recF x sv dv))) x) := Lib.hid ⟨sv, dv, rfl, hs, hd⟩
  have HS := Lib.hid hs
  have HD := Lib.hid hd
  clear hs hd
  go_enter Tryd.func12, Tryd.ntmps12
  go_upto_region 2 with fail
  have r1 := (rowIs_box w 27 109 (recF x sv dv)).alloc (.cells (rowA 32 (bF fun _ => 0)) 23)
  have r3 := rowIs_box (w.alloc (.cells (rowA 109 (recF x sv dv)) 27)) 23 32 (bF fun _ => 0)
  have hN : NewT w ((w.alloc (.cells (rowA 109 (recF x sv dv)) 27)).alloc (.cells (rowA 32 (bF fun _ => 0)) 23)) := NewT.trans _ _ _ (NewT.alloc _ _) (NewT.alloc _ _)
  rw [World.size_alloc] at r3
  change Code.wp _ _ _ _ ((w.alloc (.cells (rowA 109 (recF x sv dv)) 27)).alloc (.cells (rowA 32 (bF fun _ => 0)) 23))
  generalize (w.alloc (.cells (rowA 109 (recF x sv dv)) 27)).alloc (.cells (rowA 32 (bF fun _ => 0)) 23) = W0 at r1 r3 hN ⊢
  have R1 := Lib.hid r1
  have R3 := Lib.hid r3
  have HN := Lib.hid hN
  replace HS := Lib.hid (hN.pairs HS.out)
  replace HD := Lib.hid (hN.rd HD.out)
  clear r1 r3 hN HX
  obtain ⟨q1_2, Q1_2⟩ : ∃ q, ((decide (2 ≤ x.kind)) && (decide (x.kind ≤ 4))) = q := ⟨_, rfl⟩
  refine wp_region_rely NewT [SV.eq (.pointer (some ⟨w.heap.size, 0, none⟩)), SV.eq (.int .i64 (x.kind)), SV.eq (.bool (x.kind == 1)), SV.eq (.pointer (some ⟨w.heap.size, 0, none⟩)), SV.eq (.int .i64 (x.kind)), SV.eq (.bool (decide (2 ≤ x.kind))), SV.eq (.bool (decide (2 ≤ x.kind))), svIf (decide (2 ≤ x.kind)) (SV.eq (.pointer (some ⟨w.heap.size, 0, none⟩))), svIf (decide (2 ≤ x.kind)) (SV.eq (.int .i64 (x.kind))), svIf (decide (2 ≤ x.kind)) (SV.eq (.bool (decide (x.kind ≤ 4)))), SV.eq (.bool (q1_2)), SV.eq (.pointer (some ⟨w.heap.size, 0, none⟩)), SV.eq (.int .i64 (x.kind)), SV.eq (.bool (x.kind == 3)), SV.eq (.bool (x.kind == 1)), SV.eq (.bool (q1_2))] [([(1, none)], none), ([(8, some 0)], none), ([(9, some 1)], none), ([(1, none)], none), ([(11, some 3)], none), ([(12, some 4)], none), ([(13, some 5)], none), ([(1, none), (14, some 6)], some (14, true)), ([(15, some 7), (14, some 6)], some (14, true)), ([(16, some 8), (14, some 6)], some (14, true)), ([(14, some 6), (17, some 9)], none), ([(1, none)], none), ([(19, some 11)], none), ([(20, some 12)], none), ([(10, some 2)], none), ([(18, some 10)], none)] 251 rfl (by kernel_rfl) rfl (by kernel_rfl) (by kernel_rfl) rfl NewT.trans (NewT.drew _) (Nat.le_of_ble_eq_true rfl) ⟨?_, ?_, ?_, ?_, ?_, ?_, ?_, ?_, ?_, ?_, ?_, ?_, ?_, ?_, ?_, ?_, trivial⟩ ?_
  · intro a wx hT hF K hK
    obtain ⟨f1, _⟩ := hF
    have f1 : a.tmps.getD 1 undef = .pointer (some ⟨w.heap.size, 0, none⟩) := f1
    refine rely_wp rfl ?_
    exact opr_fldR (by decide) rfl f1 (hK _ _ (NewT.refl _) rfl)
  · intro a wx hT hF K hK
    obtain ⟨f8, _⟩ := hF
    have f8 : a.tmps.getD 8 undef = .pointer (some ⟨w.heap.size, 0, none⟩) := f8
    refine rely_wp rfl ?_
    exact opr_ldI (hT.row R1.out) (by decide) rfl rfl f8 (hK _ _ (NewT.refl _) rfl)
  · intro a wx hT hF K hK
    obtain ⟨f9, _⟩ := hF
    have f9 : a.tmps.getD 9 undef = .int .i64 (x.kind) := f9
    refine rely_wp rfl ?_
    exact opr_cmp (b := x.kind == 1) (.inl ⟨rfl, rfl⟩) Tryd.underlying3 rfl f9 rfl (hK _ _ (NewT.refl _) rfl)
  · intro a wx hT hF K hK
    obtain ⟨f1, _⟩ := hF
    have f1 : a.tmps.getD 1 undef = .pointer (some ⟨w.heap.size, 0, none⟩) := f1
    refine rely_wp rfl ?_
    exact opr_fldR (by decide) rfl f1 (hK _ _ (NewT.refl _) rfl)
  · intro a wx hT hF K hK
    obtain ⟨f11, _⟩ := hF
    have f11 : a.tmps.getD 11 undef = .pointer (some ⟨w.heap.size, 0, none⟩) := f11
    refine rely_wp rfl ?_
    exact opr_ldI (hT.row R1.out) (by decide) rfl rfl f11 (hK _ _ (NewT.refl _) rfl)
  · intro a wx hT hF K hK
    obtain ⟨f12, _⟩ := hF
    have f12 : a.tmps.getD 12 undef = .int .i64 (x.kind) := f12
    refine rely_wp rfl ?_
    exact opr_cmp (b := decide (2 ≤ x.kind)) (.inr (.inr (.inr (.inr (.inr (⟨rfl, rfl⟩)))))) Tryd.underlying3 rfl f12 rfl (hK _ _ (NewT.refl _) rfl)
  · intro a wx hT hF K hK
    obtain ⟨f13, _⟩ := hF
    have f13 : a.tmps.getD 13 undef = .bool (decide (2 ≤ x.kind)) := f13
    refine rely_wp rfl ?_
    exact opr_move (.inl rfl) (hK _ _ (NewT.refl _) f13)
  · intro a wx hT hF K hK
    obtain ⟨f1, f14, _⟩ := hF
    have f1 : a.tmps.getD 1 undef = .pointer (some ⟨w.heap.size, 0, none⟩) := f1
    have f14 : a.tmps.getD 14 undef = .bool (decide (2 ≤ x.kind)) := f14
    refine rely_if (rely_gt f14) (NewT.refl _) hK (fun hE hK => ?_)
    exact opr_fldR (by decide) rfl f1 (hK _ _ (NewT.refl _) rfl)
  · intro a wx hT hF K hK
    obtain ⟨f15, f14, _⟩ := hF
    have f15 : (decide (2 ≤ x.kind)) = true → a.tmps.getD 15 undef = .pointer (some ⟨w.heap.size, 0, none⟩) := f15
    have f14 : a.tmps.getD 14 undef = .bool (decide (2 ≤ x.kind)) := f14
    refine rely_if (rely_gt f14) (NewT.refl _) hK (fun hE hK => ?_)
    exact opr_ldI (hT.row R1.out) (by decide) rfl rfl (f15 hE) (hK _ _ (NewT.refl _) rfl)
  · intro a wx hT hF K hK
    obtain ⟨f16, f14, _⟩ := hF
    have f16 : (decide (2 ≤ x.kind)) = true → a.tmps.getD 16 undef = .int .i64 (x.kind) := f16
    have f14 : a.tmps.getD 14 undef = .bool (decide (2 ≤ x.kind)) := f14
    refine rely_if (rely_gt f14) (NewT.refl _) hK (fun hE hK => ?_)
    exact opr_cmp (b := decide (x.kind ≤ 4)) (.inr (.inr (.inl ⟨rfl, rfl⟩))) Tryd.underlying3 rfl (f16 hE) rfl (hK _ _ (NewT.refl _) rfl)
  · intro a wx hT hF K hK
    obtain ⟨f14, f17, _⟩ := hF
    have f14 : a.tmps.getD 14 undef = .bool (decide (2 ≤ x.kind)) := f14
    have f17 : (decide (2 ≤ x.kind)) = true → a.tmps.getD 17 undef = .bool (decide (x.kind ≤ 4)) := f17
    refine rely_wp rfl ?_
    exact opr_pick_b rfl f14 (fun hb => hK _ _ (NewT.refl _) (pn_and1 Q1_2 (f17 hb) hb)) (fun hb => hK _ _ (NewT.refl _) (pn_and0 Q1_2 hb))
  · intro a wx hT hF K hK
    obtain ⟨f1, _⟩ := hF
    have f1 : a.tmps.getD 1 undef = .pointer (some ⟨w.heap.size, 0, none⟩) := f1
    refine rely_wp rfl ?_
    exact opr_fldR (by decide) rfl f1 (hK _ _ (NewT.refl _) rfl)
  · intro a wx hT hF K hK
    obtain ⟨f19, _⟩ := hF
    have f19 : a.tmps.getD 19 undef = .pointer (some ⟨w.heap.size, 0, none⟩) := f19
    refine rely_wp rfl ?_
    exact opr_ldI (hT.row R1.out) (by decide) rfl rfl f19 (hK _ _ (NewT.refl _) rfl)
  · intro a wx hT hF K hK
    obtain ⟨f20, _⟩ := hF
    have f20 : a.tmps.getD 20 undef = .int .i64 (x.kind) := f20
    refine rely_wp rfl ?_
    exact opr_cmp (b := x.kind == 3) (.inl ⟨rfl, rfl⟩) Tryd.underlying3 rfl f20 rfl (hK _ _ (NewT.refl _) rfl)
  · intro a wx hT hF K hK
    obtain ⟨f10, _⟩ := hF
    have f10 : a.tmps.getD 10 undef = .bool (x.kind == 1) := f10
    refine rely_wp rfl ?_
    exact opr_move (.inr rfl) (hK _ _ (NewT.refl _) f10)
  · intro a wx hT hF K hK
    obtain ⟨f18, _⟩ := hF
    have f18 : a.tmps.getD 18 undef = .bool (q1_2) := f18
    refine rely_wp rfl ?_
    exact opr_move (.inr rfl) (hK _ _ (NewT.refl _) f18)
  · intro w2 k2
    intro u h; obtain rfl := Eq.symm (h (by simp)); clear h
    intro u h; obtain rfl := Eq.symm (h (by simp)); clear h
    intro u h; obtain rfl := Eq.symm (h (by simp)); clear h
    intro u h; obtain rfl := Eq.symm (h (by simp)); clear h
    intro u h; obtain rfl := Eq.symm (h (by simp)); clear h
    intro u h; obtain rfl := Eq.symm (h (by simp)); clear h
    intro u h; obtain rfl := Eq.symm (h (by simp)); clear h
    intro _ _
    intro _ _
    intro _ _
    intro u h; obtain rfl := Eq.symm (h (by simp)); clear h
    intro u h; obtain rfl := Eq.symm (h (by simp)); clear h
    intro u h; obtain rfl := Eq.symm (h (by simp)); clear h
    intro u h; obtain rfl := Eq.symm (h (by simp)); clear h
    intro u h; obtain rfl := Eq.symm (h (by simp)); clear h
    intro u h; obtain rfl := Eq.symm (h (by simp)); clear h
    subst Q1_2
    refine relyEnd_nil rfl ?_
    simp only [Act.put, List.setIfInBounds_toArray, List.set_cons_zero, List.set_cons_succ]
    refine opr_move (.inr rfl) ?_
    go_simp
    replace R1 := Lib.hid (k2.row R1.out)
    replace R3 := Lib.hid (k2.row R3.out)
    replace HS := Lib.hid (k2.pairs HS.out)
    replace HD := Lib.hid (k2.rd HD.out)
    replace HN := Lib.hid (NewT.trans _ _ _ HN.out k2)
    clear k2
    go_upto_region 3 with fail
    obtain ⟨q1_3, Q1_3⟩ : ∃ q, ((decide (x.kind < 1)) || (decide (6 < x.kind))) = q := ⟨_, rfl⟩
    obtain ⟨q2_3, Q2_3⟩ : ∃ q, ((q1_3 || (!(inR x.saga 0 11))) || ((x.kind == 6) && (x.saga != 0))) = q := ⟨_, rfl⟩
    refine wp_region_steps0 NewT [SV.eq (.pointer (some ⟨w.heap.size, 0, none⟩)), SV.eq (.int .i64 (x.kind)), SV.eq (.bool (decide (x.kind < 1))), SV.eq (.bool (decide (x.kind < 1))), svIf ((!(decide (x.kind < 1)))) (SV.eq (.pointer (some ⟨w.heap.size, 0, none⟩))), svIf ((!(decide (x.kind < 1)))) (SV.eq (.int .i64 (x.kind))), svIf ((!(decide (x.kind < 1)))) (SV.eq (.bool (decide (6 < x.kind)))), SV.eq (.bool (q1_3)), SV.eq (.bool (q1_3)), svIf ((!q1_3)) (SV.eq (.pointer (some ⟨w.heap.size, 1, none⟩))), svIf ((!q1_3)) (SV.eq (.int .i64 (x.saga))), svIf ((!q1_3)) (SV.eq (.bool (inR x.saga 0 11))), svIf ((!q1_3)) (SV.eq (.bool (!(inR x.saga 0 11)))), SV.eq (.bool (q1_3 || (!(inR x.saga 0 11)))), SV.eq (.bool (q1_3 || (!(inR x.saga 0 11)))), svIf ((!(q1_3 || (!(inR x.saga 0 11))))) (SV.eq (.pointer (some ⟨w.heap.size, 0, none⟩))), svIf ((!(q1_3 || (!(inR x.saga 0 11))))) (SV.eq (.int .i64 (x.kind))), svIf ((!(q1_3 || (!(inR x.saga 0 11))))) (SV.eq (.bool (x.kind == 6))), SV.eq (gV ((!(q1_3 || (!(inR x.saga 0 11))))) (x.kind == 6)), svIf ((!(q1_3 || (!(inR x.saga 0 11)))) && x.kind == 6) (SV.eq (.pointer (some ⟨w.heap.size, 1, none⟩))), svIf ((!(q1_3 || (!(inR x.saga 0 11)))) && x.kind == 6) (SV.eq (.int .i64 (x.saga))), svIf ((!(q1_3 || (!(inR x.saga 0 11)))) && x.kind == 6) (SV.eq (.bool (x.saga != 0))), svIf ((!(q1_3 || (!(inR x.saga 0 11))))) (SV.eq (.bool ((x.kind == 6) && (x.saga != 0)))), SV.eq (.bool (q2_3))] [([(1, none)], none), ([(22, some 0)], none), ([(23, some 1)], none), ([(24, some 2)], none), ([(1, none), (25, some 3)], some (25, false)), ([(26, some 4), (25, some 3)], some (25, false)), ([(27, some 5), (25, some 3)], some (25, false)), ([(25, some 3), (28, some 6)], none), ([(29, some 7)], none), ([(1, none), (30, some 8)], some (30, false)), ([(31, some 9), (30, some 8)], some (30, false)), ([(32, some 10), (30, some 8)], some (30, false)), ([(33, some 11), (30, some 8)], some (30, false)), ([(30, some 8), (34, some 12)], none), ([(35, some 13)], none), ([(1, none), (36, some 14)], some (36, false)), ([(37, some 15), (36, some 14)], some (36, false)), ([(38, some 16), (36, some 14)], some (36, false)), ([(39, some 17), (36, some 14)], some (36, false)), ([(1, none), (40, some 18)], some (40, true)), ([(41, some 19), (40, some 18)], some (40, true)), ([(42, some 20), (40, some 18)], some (40, true)), ([(40, some 18), (43, some 21), (36, some 14)], some (36, false)), ([(36, some 14), (44, some 22)], none)] 251 24 rfl rfl (by kernel_rfl) NewT.trans (NewT.refl _) (Nat.le_of_ble_eq_true rfl) ⟨?_, ?_, ?_, ?_, ?_, ?_, ?_, ?_, ?_, ?_, ?_, ?_, ?_, ?_, ?_, ?_, ?_, ?_, ?_, ?_, ?_, ?_, ?_, ?_, trivial⟩ ?_
    · intro a wx hT hF K hK
      obtain ⟨f1, _⟩ := hF
      have f1 : a.tmps.getD 1 undef = .pointer (some ⟨w.heap.size, 0, none⟩) := f1
      refine rely_wp rfl ?_
      exact opr_fldR (by decide) rfl f1 (hK _ _ (NewT.refl _) rfl)
    · intro a wx hT hF K hK
      obtain ⟨f22, _⟩ := hF
      have f22 : a.tmps.getD 22 undef = .pointer (some ⟨w.heap.size, 0, none⟩) := f22
      refine rely_wp rfl ?_
      exact opr_ldI (hT.row R1.out) (by decide) rfl rfl f22 (hK _ _ (NewT.refl _) rfl)
    · intro a wx hT hF K hK
      obtain ⟨f23, _⟩ := hF
      have f23 : a.tmps.getD 23 undef = .int .i64 (x.kind) := f23
      refine rely_wp rfl ?_
      exact opr_cmp (b := decide (x.kind < 1)) (.inr (.inr (.inr (.inl ⟨rfl, rfl⟩)))) Tryd.underlying3 rfl f23 rfl (hK _ _ (NewT.refl _) rfl)
    · intro a wx hT hF K hK
      obtain ⟨f24, _⟩ := hF
      have f24 : a.tmps.getD 24 undef = .bool (decide (x.kind < 1)) := f24
      refine rely_wp rfl ?_
      exact opr_move (.inl rfl) (hK _ _ (NewT.refl _) f24)
    · intro a wx hT hF K hK
      obtain ⟨f1, f25, _⟩ := hF
      have f1 : a.tmps.getD 1 undef = .pointer (some ⟨w.heap.size, 0, none⟩) := f1
      have f25 : a.tmps.getD 25 undef = .bool (decide (x.kind < 1)) := f25
      refine rely_if (rely_gf f25) (NewT.refl _) hK (fun hE hK => ?_)
      exact opr_fldR (by decide) rfl f1 (hK _ _ (NewT.refl _) rfl)
    · intro a wx hT hF K hK
      obtain ⟨f26, f25, _⟩ := hF
      have f26 : ((!(decide (x.kind < 1)))) = true → a.tmps.getD 26 undef = .pointer (some ⟨w.heap.size, 0, none⟩) := f26
      have f25 : a.tmps.getD 25 undef = .bool (decide (x.kind < 1)) := f25
      refine rely_if (rely_gf f25) (NewT.refl _) hK (fun hE hK => ?_)
      exact opr_ldI (hT.row R1.out) (by decide) rfl rfl (f26 hE) (hK _ _ (NewT.refl _) rfl)
    · intro a wx hT hF K hK
      obtain ⟨f27, f25, _⟩ := hF
      have f27 : ((!(decide (x.kind < 1)))) = true → a.tmps.getD 27 undef = .int .i64 (x.kind) := f27
      have f25 : a.tmps.getD 25 undef = .bool (decide (x.kind < 1)) := f25
      refine rely_if (rely_gf f25) (NewT.refl _) hK (fun hE hK => ?_)
      exact opr_cmp (b := decide (6 < x.kind)) (.inr (.inr (.inr (.inr (.inl ⟨rfl, rfl⟩))))) Tryd.underlying3 rfl (f27 hE) rfl (hK _ _ (NewT.refl _) rfl)
    · intro a wx hT hF K hK
      obtain ⟨f25, f28, _⟩ := hF
      have f25 : a.tmps.getD 25 undef = .bool (decide (x.kind < 1)) := f25
      have f28 : ((!(decide (x.kind < 1)))) = true → a.tmps.getD 28 undef = .bool (decide (6 < x.kind)) := f28
      refine rely_wp rfl ?_
      exact opr_pick_b rfl f25 (fun hb => hK _ _ (NewT.refl _) (pn_or1 Q1_3 hb)) (fun hb => hK _ _ (NewT.refl _) (pn_or0 Q1_3 (f28 (bnot hb)) hb))
    · intro a wx hT hF K hK
      obtain ⟨f29, _⟩ := hF
      have f29 : a.tmps.getD 29 undef = .bool (q1_3) := f29
      refine rely_wp rfl ?_
      exact opr_move (.inl rfl) (hK _ _ (NewT.refl _) f29)
    · intro a wx hT hF K hK
      obtain ⟨f1, f30, _⟩ := hF
      have f1 : a.tmps.getD 1 undef = .pointer (some ⟨w.heap.size, 0, none⟩) := f1
      have f30 : a.tmps.getD 30 undef = .bool (q1_3) := f30
      refine rely_if (rely_gf f30) (NewT.refl _) hK (fun hE hK => ?_)
      exact opr_fldR (by decide) rfl f1 (hK _ _ (NewT.refl _) rfl)
    · intro a wx hT hF K hK
      obtain ⟨f31, f30, _⟩ := hF
      have f31 : ((!q1_3)) = true → a.tmps.getD 31 undef = .pointer (some ⟨w.heap.size, 1, none⟩) := f31
      have f30 : a.tmps.getD 30 undef = .bool (q1_3) := f30
      refine rely_if (rely_gf f30) (NewT.refl _) hK (fun hE hK => ?_)
      exact opr_ldI (hT.row R1.out) (by decide) rfl rfl (f31 hE) (hK _ _ (NewT.refl _) rfl)
    · intro a wx hT hF K hK
      obtain ⟨f32, f30, _⟩ := hF
      have f32 : ((!q1_3)) = true → a.tmps.getD 32 undef = .int .i64 (x.saga) := f32
      have f30 : a.tmps.getD 30 undef = .bool (q1_3) := f30
      refine rely_if (rely_gf f30) (NewT.refl _) hK (fun hE hK => ?_)
      exact opr_cv (refIn_cv x.saga 0 11 wx) rfl Tryd.func30 (by kernel_rfl) (by kernel_rfl) (by simp only [List.map_toArray, List.map_cons, List.map_nil, eval_tmp, eval_const, (f32 hE)]) hK
    · intro a wx hT hF K hK
      obtain ⟨f33, f30, _⟩ := hF
      have f33 : ((!q1_3)) = true → a.tmps.getD 33 undef = .bool (inR x.saga 0 11) := f33
      have f30 : a.tmps.getD 30 undef = .bool (q1_3) := f30
      refine rely_if (rely_gf f30) (NewT.refl _) hK (fun hE hK => ?_)
      exact opr_not rfl (f33 hE) (hK _ _ (NewT.refl _) rfl)
    · intro a wx hT hF K hK
      obtain ⟨f30, f34, _⟩ := hF
      have f30 : a.tmps.getD 30 undef = .bool (q1_3) := f30
      have f34 : ((!q1_3)) = true → a.tmps.getD 34 undef = .bool (!(inR x.saga 0 11)) := f34
      refine rely_wp rfl ?_
      exact opr_pick_b rfl f30 (fun hb => hK _ _ (NewT.refl _) (pk_or1 hb)) (fun hb => hK _ _ (NewT.refl _) (pk_or0 (f34 (bnot hb)) hb))
    · intro a wx hT hF K hK
      obtain ⟨f35, _⟩ := hF
      have f35 : a.tmps.getD 35 undef = .bool (q1_3 || (!(inR x.saga 0 11))) := f35
      refine rely_wp rfl ?_
      exact opr_move (.inl rfl) (hK _ _ (NewT.refl _) f35)
    · intro a wx hT hF K hK
      obtain ⟨f1, f36, _⟩ := hF
      have f1 : a.tmps.getD 1 undef = .pointer (some ⟨w.heap.size, 0, none⟩) := f1
      have f36 : a.tmps.getD 36 undef = .bool (q1_3 || (!(inR x.saga 0 11))) := f36
      refine rely_if (rely_gf f36) (NewT.refl _) hK (fun hE hK => ?_)
      exact opr_fldR (by decide) rfl f1 (hK _ _ (NewT.refl _) rfl)
    · intro a wx hT hF K hK
      obtain ⟨f37, f36, _⟩ := hF
      have f37 : ((!(q1_3 || (!(inR x.saga 0 11))))) = true → a.tmps.getD 37 undef = .pointer (some ⟨w.heap.size, 0, none⟩) := f37
      have f36 : a.tmps.getD 36 undef = .bool (q1_3 || (!(inR x.saga 0 11))) := f36
      refine rely_if (rely_gf f36) (NewT.refl _) hK (fun hE hK => ?_)
      exact opr_ldI (hT.row R1.out) (by decide) rfl rfl (f37 hE) (hK _ _ (NewT.refl _) rfl)
    · intro a wx hT hF K hK
      obtain ⟨f38, f36, _⟩ := hF
      have f38 : ((!(q1_3 || (!(inR x.saga 0 11))))) = true → a.tmps.getD 38 undef = .int .i64 (x.kind) := f38
      have f36 : a.tmps.getD 36 undef = .bool (q1_3 || (!(inR x.saga 0 11))) := f36
      refine rely_if (rely_gf f36) (NewT.refl _) hK (fun hE hK => ?_)
      exact opr_cmp (b := x.kind == 6) (.inl ⟨rfl, rfl⟩) Tryd.underlying3 rfl (f38 hE) rfl (hK _ _ (NewT.refl _) rfl)
    · intro a wx hT hF K hK
      obtain ⟨f39, f36, _⟩ := hF
      have f39 : ((!(q1_3 || (!(inR x.saga 0 11))))) = true → a.tmps.getD 39 undef = .bool (x.kind == 6) := f39
      have f36 : a.tmps.getD 36 undef = .bool (q1_3 || (!(inR x.saga 0 11))) := f36
      refine rely_ifg (rely_gf f36) (NewT.refl _) hK (fun hE hK => ?_)
      exact opr_move (.inl rfl) (hK _ _ (NewT.refl _) (f39 hE))
    · intro a wx hT hF K hK
      obtain ⟨f1, f40, _⟩ := hF
      have f1 : a.tmps.getD 1 undef = .pointer (some ⟨w.heap.size, 0, none⟩) := f1
      have f40 : a.tmps.getD 40 undef = gV ((!(q1_3 || (!(inR x.saga 0 11))))) (x.kind == 6) := f40
      refine rely_if (rely_ggt f40) (NewT.refl _) hK (fun hE hK => ?_)
      exact opr_fldR (by decide) rfl f1 (hK _ _ (NewT.refl _) rfl)
    · intro a wx hT hF K hK
      obtain ⟨f41, f40, _⟩ := hF
      have f41 : ((!(q1_3 || (!(inR x.saga 0 11)))) && x.kind == 6) = true → a.tmps.getD 41 undef = .pointer (some ⟨w.heap.size, 1, none⟩) := f41
      have f40 : a.tmps.getD 40 undef = gV ((!(q1_3 || (!(inR x.saga 0 11))))) (x.kind == 6) := f40
      refine rely_if (rely_ggt f40) (NewT.refl _) hK (fun hE hK => ?_)
      exact opr_ldI (hT.row R1.out) (by decide) rfl rfl (f41 hE) (hK _ _ (NewT.refl _) rfl)
    · intro a wx hT hF K hK
      obtain ⟨f42, f40, _⟩ := hF
      have f42 : ((!(q1_3 || (!(inR x.saga 0 11)))) && x.kind == 6) = true → a.tmps.getD 42 undef = .int .i64 (x.saga) := f42
      have f40 : a.tmps.getD 40 undef = gV ((!(q1_3 || (!(inR x.saga 0 11))))) (x.kind == 6) := f40
      refine rely_if (rely_ggt f40) (NewT.refl _) hK (fun hE hK => ?_)
      exact opr_cmp (b := x.saga != 0) (.inr (.inl ⟨rfl, rfl⟩)) Tryd.underlying3 rfl (f42 hE) rfl (hK _ _ (NewT.refl _) rfl)
    · intro a wx hT hF K hK
      obtain ⟨f40, f43, f36, _⟩ := hF
      have f40 : a.tmps.getD 40 undef = gV ((!(q1_3 || (!(inR x.saga 0 11))))) (x.kind == 6) := f40
      have f43 : ((!(q1_3 || (!(inR x.saga 0 11)))) && x.kind == 6) = true → a.tmps.getD 43 undef = .bool (x.saga != 0) := f43
      have f36 : a.tmps.getD 36 undef = .bool (q1_3 || (!(inR x.saga 0 11))) := f36
      refine rely_if (rely_gf f36) (NewT.refl _) hK (fun hE hK => ?_)
      exact opr_pick_b rfl (f40.trans (gV_on hE)) (fun hb => hK _ _ (NewT.refl _) (pk_and1 (f43 (band hE hb)) hb)) (fun hb => hK _ _ (NewT.refl _) (pk_and0 hb))
    · intro a wx hT hF K hK
      obtain ⟨f36, f44, _⟩ := hF
      have f36 : a.tmps.getD 36 undef = .bool (q1_3 || (!(inR x.saga 0 11))) := f36
      have f44 : ((!(q1_3 || (!(inR x.saga 0 11))))) = true → a.tmps.getD 44 undef = .bool ((x.kind == 6) && (x.saga != 0)) := f44
      refine rely_wp rfl ?_
      exact opr_pick_b rfl f36 (fun hb => hK _ _ (NewT.refl _) (pn_or1 Q2_3 hb)) (fun hb => hK _ _ (NewT.refl _) (pn_or0 Q2_3 (f44 (bnot hb)) hb))
    · intro w3 k3
      intro u h; obtain rfl := Eq.symm (h (by simp)); clear h
      intro u h; obtain rfl := Eq.symm (h (by simp)); clear h
      intro u h; obtain rfl := Eq.symm (h (by simp)); clear h
      intro u h; obtain rfl := Eq.symm (h (by simp)); clear h
      intro _ _
      intro _ _
      intro _ _
      intro u h; obtain rfl := Eq.symm (h (by simp)); clear h
      intro u h; obtain rfl := Eq.symm (h (by simp)); clear h
      intro _ _
      intro _ _
      intro _ _
      intro _ _
      intro u h; obtain rfl := Eq.symm (h (by simp)); clear h
      intro u h; obtain rfl := Eq.symm (h (by simp)); clear h
      intro _ _
      intro _ _
      intro _ _
      intro _ _
      intro _ _
      intro _ _
      intro _ _
      intro _ _
      intro u h; obtain rfl := Eq.symm (h (by simp)); clear h
      subst Q2_3 Q1_3
      refine relyEnd_nil rfl ?_
      refine wpList_end rfl ?_
      simp only [Act.put, List.setIfInBounds_toArray, List.set_cons_zero, List.set_cons_succ]
      go_simp
      replace R1 := Lib.hid (k3.row R1.out)
      replace R3 := Lib.hid (k3.row R3.out)
      replace HS := Lib.hid (k3.pairs HS.out)
      replace HD := Lib.hid (k3.rd HD.out)
      replace HN := Lib.hid (NewT.trans _ _ _ HN.out k3)
      clear k3
      cases hb3 : (((((decide (x.kind < 1)) || (decide (6 < x.kind))) || (!(inR x.saga 0 11))) || ((x.kind == 6) && (x.saga != 0))))
      rotate_left
      · have HB3 := Lib.hid hb3
        clear hb3
        go_wp2
        go_ret
        exact ⟨_, rfl, HN.out, by unfold refR; rw [if_pos HB3.out]; rfl⟩
      have HB3 := Lib.hid hb3
      clear hb3
      go_upto_region 5 with fail
      refine wp_region_steps0 NewT [SV.eq (.bool (callQ x)), SV.eq (.bool (callQ x)), svIf ((!(callQ x))) (SV.eq (.pointer (some ⟨w.heap.size, 0, none⟩))), svIf ((!(callQ x))) (SV.eq (.int .i64 (x.kind))), svIf ((!(callQ x))) (SV.eq (.bool (x.kind == 5))), SV.eq (.bool ((callQ x) || (x.kind == 5)))] [([(5, none)], none), ([(46, some 0)], none), ([(1, none), (47, some 1)], some (47, false)), ([(48, some 2), (47, some 1)], some (47, false)), ([(49, some 3), (47, some 1)], some (47, false)), ([(47, some 1), (50, some 4)], none)] 251 6 rfl rfl (by kernel_rfl) NewT.trans (NewT.refl _) (Nat.le_of_ble_eq_true rfl) ⟨?_, ?_, ?_, ?_, ?_, ?_, trivial⟩ ?_
      · intro a wx hT hF K hK
        obtain ⟨f5, _⟩ := hF
        have f5 : a.tmps.getD 5 undef = .bool (callQ x) := f5
        refine rely_wp rfl ?_
        exact opr_move (.inl rfl) (hK _ _ (NewT.refl _) f5)
      · intro a wx hT hF K hK
        obtain ⟨f46, _⟩ := hF
        have f46 : a.tmps.getD 46 undef = .bool (callQ x) := f46
        refine rely_wp rfl ?_
        exact opr_move (.inl rfl) (hK _ _ (NewT.refl _) f46)
      · intro a wx hT hF K hK
        obtain ⟨f1, f47, _⟩ := hF
        have f1 : a.tmps.getD 1 undef = .pointer (some ⟨w.heap.size, 0, none⟩) := f1
        have f47 : a.tmps.getD 47 undef = .bool (callQ x) := f47
        refine rely_if (rely_gf f47) (NewT.refl _) hK (fun hE hK => ?_)
        exact opr_fldR (by decide) rfl f1 (hK _ _ (NewT.refl _) rfl)
      · intro a wx hT hF K hK
        obtain ⟨f48, f47, _⟩ := hF
        have f48 : ((!(callQ x))) = true → a.tmps.getD 48 undef = .pointer (some ⟨w.heap.size, 0, none⟩) := f48
        have f47 : a.tmps.getD 47 undef = .bool (callQ x) := f47
        refine rely_if (rely_gf f47) (NewT.refl _) hK (fun hE hK => ?_)
        exact opr_ldI (hT.row R1.out) (by decide) rfl rfl (f48 hE) (hK _ _ (NewT.refl _) rfl)
      · intro a wx hT hF K hK
        obtain ⟨f49, f47, _⟩ := hF
        have f49 : ((!(callQ x))) = true → a.tmps.getD 49 undef = .int .i64 (x.kind) := f49
        have f47 : a.tmps.getD 47 undef = .bool (callQ x) := f47
        refine rely_if (rely_gf f47) (NewT.refl _) hK (fun hE hK => ?_)
        exact opr_cmp (b := x.kind == 5) (.inl ⟨rfl, rfl⟩) Tryd.underlying3 rfl (f49 hE) rfl (hK _ _ (NewT.refl _) rfl)
      · intro a wx hT hF K hK
        obtain ⟨f47, f50, _⟩ := hF
        have f47 : a.tmps.getD 47 undef = .bool (callQ x) := f47
        have f50 : ((!(callQ x))) = true → a.tmps.getD 50 undef = .bool (x.kind == 5) := f50
        refine rely_wp rfl ?_
        exact opr_pick_b rfl f47 (fun hb => hK _ _ (NewT.refl _) (pk_or1 hb)) (fun hb => hK _ _ (NewT.refl _) (pk_or0 (f50 (bnot hb)) hb))
      · intro w5 k5
        intro u h; obtain rfl := Eq.symm (h (by simp)); clear h
        intro u h; obtain rfl := Eq.symm (h (by simp)); clear h
        intro _ _
        intro _ _
        intro _ _
        intro u h; obtain rfl := Eq.symm (h (by simp)); clear h
        refine relyEnd_nil rfl ?_
        refine wpList_end rfl ?_
        simp only [Act.put, List.setIfInBounds_toArray, List.set_cons_zero, List.set_cons_succ]
        go_simp
        replace R1 := Lib.hid (k5.row R1.out)
        replace R3 := Lib.hid (k5.row R3.out)
        replace HS := Lib.hid (k5.pairs HS.out)
        replace HD := Lib.hid (k5.rd HD.out)
        replace HN := Lib.hid (NewT.trans _ _ _ HN.out k5)
        clear k5
        go_upto_if 51 with fail
        go_cut [] from 8 (fun wy => NewT w5 wy ∧ Hid ((if ((callQ x) || (x.kind == 5)) = true then (!(inR x.seq 1 400)) else (x.seq != 0)) = false))
        case first =>
          cases hb5 : ((callQ x) || (x.kind == 5))
          · have HB5 := Lib.hid hb5
            clear hb5
            go_upto_region 8 with fail
            refine wp_region_steps0 NewT [SV.eq (.pointer (some ⟨w.heap.size, 2, none⟩)), SV.eq (.int .i64 (x.seq)), SV.eq (.bool (x.seq != 0))] [([(1, none)], none), ([(56, some 0)], none), ([(57, some 1)], none)] 251 3 rfl rfl (by kernel_rfl) NewT.trans (NewT.refl _) (Nat.le_of_ble_eq_true rfl) ⟨?_, ?_, ?_, trivial⟩ ?_
            · intro a wx hT hF K hK
              obtain ⟨f1, _⟩ := hF
              have f1 : a.tmps.getD 1 undef = .pointer (some ⟨w.heap.size, 0, none⟩) := f1
              refine rely_wp rfl ?_
              exact opr_fldR (by decide) rfl f1 (hK _ _ (NewT.refl _) rfl)
            · intro a wx hT hF K hK
              obtain ⟨f56, _⟩ := hF
              have f56 : a.tmps.getD 56 undef = .pointer (some ⟨w.heap.size, 2, none⟩) := f56
              refine rely_wp rfl ?_
              exact opr_ldI (hT.row R1.out) (by decide) rfl rfl f56 (hK _ _ (NewT.refl _) rfl)
            · intro a wx hT hF K hK
              obtain ⟨f57, _⟩ := hF
              have f57 : a.tmps.getD 57 undef = .int .i64 (x.seq) := f57
              refine rely_wp rfl ?_
              exact opr_cmp (b := x.seq != 0) (.inr (.inl ⟨rfl, rfl⟩)) Tryd.underlying3 rfl f57 rfl (hK _ _ (NewT.refl _) rfl)
            · intro w8 k8
              intro u h; obtain rfl := Eq.symm (h (by simp)); clear h
              intro u h; obtain rfl := Eq.symm (h (by simp)); clear h
              intro u h; obtain rfl := Eq.symm (h (by simp)); clear h
              refine relyEnd_nil rfl ?_
              refine wpList_end rfl ?_
              simp only [Act.put, List.setIfInBounds_toArray, List.set_cons_zero, List.set_cons_succ]
              go_simp
              cases hb8 : (x.seq != 0)
              · refine ?_
                have HB8 := Lib.hid hb8
                clear hb8
                go_wp2
                go_meet
                case rel => exact ⟨k8, Lib.hid (by rw [if_neg (by rw [HB5.out]; decide)]; exact HB8.out)⟩
              · have HB8 := Lib.hid hb8
                clear hb8
                go_wp2
                go_ret
                exact ⟨_, rfl, NewT.trans _ _ _ HN.out k8, by unfold refR; rw [if_neg (by rw [HB3.out]; decide)]; rw [if_pos (by rw [if_neg (by rw [HB5.out]; decide)]; exact HB8.out)]; rfl⟩
          · have HB5 := Lib.hid hb5
            clear hb5
            go_upto_region 6 with fail
            refine wp_region_steps0 NewT [SV.eq (.pointer (some ⟨w.heap.size, 2, none⟩)), SV.eq (.int .i64 (x.seq)), SV.eq (.bool (inR x.seq 1 400)), SV.eq (.bool (!(inR x.seq 1 400)))] [([(1, none)], none), ([(52, some 0)], none), ([(53, some 1)], none), ([(54, some 2)], none)] 251 4 rfl rfl (by kernel_rfl) NewT.trans (NewT.refl _) (Nat.le_of_ble_eq_true rfl) ⟨?_, ?_, ?_, ?_, trivial⟩ ?_
            · intro a wx hT hF K hK
              obtain ⟨f1, _⟩ := hF
              have f1 : a.tmps.getD 1 undef = .pointer (some ⟨w.heap.size, 0, none⟩) := f1
              refine rely_wp rfl ?_
              exact opr_fldR (by decide) rfl f1 (hK _ _ (NewT.refl _) rfl)
            · intro a wx hT hF K hK
              obtain ⟨f52, _⟩ := hF
              have f52 : a.tmps.getD 52 undef = .pointer (some ⟨w.heap.size, 2, none⟩) := f52
              refine rely_wp rfl ?_
              exact opr_ldI (hT.row R1.out) (by decide) rfl rfl f52 (hK _ _ (NewT.refl _) rfl)
            · intro a wx hT hF K hK
              obtain ⟨f53, _⟩ := hF
              have f53 : a.tmps.getD 53 undef = .int .i64 (x.seq) := f53
              refine rely_wp rfl ?_
              exact opr_cv (refIn_cv x.seq 1 400 wx) rfl Tryd.func30 (by kernel_rfl) (by kernel_rfl) (by simp only [List.map_toArray, List.map_cons, List.map_nil, eval_tmp, eval_const, f53]) hK
            · intro a wx hT hF K hK
              obtain ⟨f54, _⟩ := hF
              have f54 : a.tmps.getD 54 undef = .bool (inR x.seq 1 400) := f54
              refine rely_wp rfl ?_
              exact opr_not rfl f54 (hK _ _ (NewT.refl _) rfl)
            · intro w6 k6
              intro u h; obtain rfl := Eq.symm (h (by simp)); clear h
              intro u h; obtain rfl := Eq.symm (h (by simp)); clear h
              intro u h; obtain rfl := Eq.symm (h (by simp)); clear h
              intro u h; obtain rfl := Eq.symm (h (by simp)); clear h
              refine relyEnd_nil rfl ?_
              refine wpList_end rfl ?_
              simp only [Act.put, List.setIfInBounds_toArray, List.set_cons_zero, List.set_cons_succ]
              go_simp
              cases hb6 : (!(inR x.seq 1 400))
              · refine ?_
                have HB6 := Lib.hid hb6
                clear hb6
                go_wp2
                go_meet
                case rel => exact ⟨k6, Lib.hid (by rw [if_pos HB5.out]; exact HB6.out)⟩
              · have HB6 := Lib.hid hb6
                clear hb6
                go_wp2
                go_ret
                exact ⟨_, rfl, NewT.trans _ _ _ HN.out k6, by unfold refR; rw [if_neg (by rw [HB3.out]; decide)]; rw [if_pos (by rw [if_pos HB5.out]; exact HB6.out)]; rfl⟩
        case rest =>
          obtain ⟨kc, HB6⟩ := hcut
          replace R1 := Lib.hid (kc.row R1.out)
          replace R3 := Lib.hid (kc.row R3.out)
          replace HS := Lib.hid (kc.pairs HS.out)
          replace HD := Lib.hid (kc.rd HD.out)
          replace HN := Lib.hid (NewT.trans _ _ _ HN.out kc)
          clear kc
          go_upto_region 10 with fail
          obtain ⟨q1_10, Q1_10⟩ : ∃ q, ((!(inR x.step 0 5)) || (!(inR x.tr 1 9))) = q := ⟨_, rfl⟩
          obtain ⟨q2_10, Q2_10⟩ : ∃ q, (((x.step != 0) || (x.tr != 0)) || x.back) = q := ⟨_, rfl⟩
          obtain ⟨q3_10, Q3_10⟩ : ∃ q, (((callQ x) && q1_10) || ((!(callQ x)) && q2_10)) = q := ⟨_, rfl⟩
          refine wp_region_steps0 NewT [SV.eq (.bool (callQ x)), SV.eq (.bool (callQ x)), svIf (callQ x) (SV.eq (.pointer (some ⟨w.heap.size, 3, none⟩))), svIf (callQ x) (SV.eq (.int .i64 (x.step))), svIf (callQ x) (SV.eq (.bool (inR x.step 0 5))), svIf (callQ x) (SV.eq (.bool (!(inR x.step 0 5)))), SV.eq (gV (callQ x) (!(inR x.step 0 5))), svIf (callQ x && (!(!(inR x.step 0 5)))) (SV.eq (.pointer (some ⟨w.heap.size, 4, none⟩))), svIf (callQ x && (!(!(inR x.step 0 5)))) (SV.eq (.int .i64 (x.tr))), svIf (callQ x && (!(!(inR x.step 0 5)))) (SV.eq (.bool (inR x.tr 1 9))), svIf (callQ x && (!(!(inR x.step 0 5)))) (SV.eq (.bool (!(inR x.tr 1 9)))), svIf (callQ x) (SV.eq (.bool (q1_10))), SV.eq (.bool ((callQ x) && q1_10)), SV.eq (.bool ((callQ x) && q1_10)), svIf ((!((callQ x) && q1_10))) (SV.eq (.bool (callQ x))), svIf ((!((callQ x) && q1_10))) (SV.eq (.bool (!(callQ x)))), SV.eq (gV ((!((callQ x) && q1_10))) (!(callQ x))), svIf ((!((callQ x) && q1_10)) && !(callQ x)) (SV.eq (.pointer (some ⟨w.heap.size, 3, none⟩))), svIf ((!((callQ x) && q1_10)) && !(callQ x)) (SV.eq (.int .i64 (x.step))), svIf ((!((callQ x) && q1_10)) && !(callQ x)) (SV.eq (.bool (x.step != 0))), SV.eq (gV ((!((callQ x) && q1_10)) && !(callQ x)) (x.step != 0)), svIf (((!((callQ x) && q1_10)) && !(callQ x)) && (!(x.step != 0))) (SV.eq (.pointer (some ⟨w.heap.size, 4, none⟩))), svIf (((!((callQ x) && q1_10)) && !(callQ x)) && (!(x.step != 0))) (SV.eq (.int .i64 (x.tr))), svIf (((!((callQ x) && q1_10)) && !(callQ x)) && (!(x.step != 0))) (SV.eq (.bool (x.tr != 0))), svIf ((!((callQ x) && q1_10)) && !(callQ x)) (SV.eq (.bool ((x.step != 0) || (x.tr != 0)))), SV.eq (gV ((!((callQ x) && q1_10)) && !(callQ x)) ((x.step != 0) || (x.tr != 0))), svIf (((!((callQ x) && q1_10)) && !(callQ x)) && (!((x.step != 0) || (x.tr != 0)))) (SV.eq (.pointer (some ⟨w.heap.size, 5, none⟩))), svIf (((!((callQ x) && q1_10)) && !(callQ x)) && (!((x.step != 0) || (x.tr != 0)))) (SV.eq (.bool (x.back))), svIf ((!((callQ x) && q1_10)) && !(callQ x)) (SV.eq (.bool (q2_10))), svIf ((!((callQ x) && q1_10))) (SV.eq (.bool ((!(callQ x)) && q2_10))), SV.eq (.bool (q3_10))] [([(5, none)], none), ([(59, some 0)], none), ([(1, none), (60, some 1)], some (60, true)), ([(61, some 2), (60, some 1)], some (60, true)), ([(62, some 3), (60, some 1)], some (60, true)), ([(63, some 4), (60, some 1)], some (60, true)), ([(64, some 5), (60, some 1)], some (60, true)), ([(1, none), (65, some 6)], some (65, false)), ([(66, some 7), (65, some 6)], some (65, false)), ([(67, some 8), (65, some 6)], some (65, false)), ([(68, some 9), (65, some 6)], some (65, false)), ([(65, some 6), (69, some 10), (60, some 1)], some (60, true)), ([(60, some 1), (70, some 11)], none), ([(71, some 12)], none), ([(5, none), (72, some 13)], some (72, false)), ([(73, some 14), (72, some 13)], some (72, false)), ([(74, some 15), (72, some 13)], some (72, false)), ([(1, none), (75, some 16)], some (75, true)), ([(76, some 17), (75, some 16)], some (75, true)), ([(77, some 18), (75, some 16)], some (75, true)), ([(78, some 19), (75, some 16)], some (75, true)), ([(1, none), (79, some 20)], some (79, false)), ([(80, some 21), (79, some 20)], some (79, false)), ([(81, some 22), (79, some 20)], some (79, false)), ([(79, some 20), (82, some 23), (75, some 16)], some (75, true)), ([(83, some 24), (75, some 16)], some (75, true)), ([(1, none), (84, some 25)], some (84, false)), ([(85, some 26), (84, some 25)], some (84, false)), ([(84, some 25), (86, some 27), (75, some 16)], some (75, true)), ([(75, some 16), (87, some 28), (72, some 13)], some (72, false)), ([(72, some 13), (88, some 29)], none)] 251 31 rfl rfl (by kernel_rfl) NewT.trans (NewT.refl _) (Nat.le_of_ble_eq_true rfl) ⟨?_, ?_, ?_, ?_, ?_, ?_, ?_, ?_, ?_, ?_, ?_, ?_, ?_, ?_, ?_, ?_, ?_, ?_, ?_, ?_, ?_, ?_, ?_, ?_, ?_, ?_, ?_, ?_, ?_, ?_, ?_, trivial⟩ ?_
          · intro a wx hT hF K hK
            obtain ⟨f5, _⟩ := hF
            have f5 : a.tmps.getD 5 undef = .bool (callQ x) := f5
            refine rely_wp rfl ?_
            exact opr_move (.inl rfl) (hK _ _ (NewT.refl _) f5)
          · intro a wx hT hF K hK
            obtain ⟨f59, _⟩ := hF
            have f59 : a.tmps.getD 59 undef = .bool (callQ x) := f59
            refine rely_wp rfl ?_
            exact opr_move (.inl rfl) (hK _ _ (NewT.refl _) f59)
          · intro a wx hT hF K hK
            obtain ⟨f1, f60, _⟩ := hF
            have f1 : a.tmps.getD 1 undef = .pointer (some ⟨w.heap.size, 0, none⟩) := f1
            have f60 : a.tmps.getD 60 undef = .bool (callQ x) := f60
            refine rely_if (rely_gt f60) (NewT.refl _) hK (fun hE hK => ?_)
            exact opr_fldR (by decide) rfl f1 (hK _ _ (NewT.refl _) rfl)
          · intro a wx hT hF K hK
            obtain ⟨f61, f60, _⟩ := hF
            have f61 : (callQ x) = true → a.tmps.getD 61 undef = .pointer (some ⟨w.heap.size, 3, none⟩) := f61
            have f60 : a.tmps.getD 60 undef = .bool (callQ x) := f60
            refine rely_if (rely_gt f60) (NewT.refl _) hK (fun hE hK => ?_)
            exact opr_ldI (hT.row R1.out) (by decide) rfl rfl (f61 hE) (hK _ _ (NewT.refl _) rfl)
          · intro a wx hT hF K hK
            obtain ⟨f62, f60, _⟩ := hF
            have f62 : (callQ x) = true → a.tmps.getD 62 undef = .int .i64 (x.step) := f62
            have f60 : a.tmps.getD 60 undef = .bool (callQ x) := f60
            refine rely_if (rely_gt f60) (NewT.refl _) hK (fun hE hK => ?_)
            exact opr_cv (refIn_cv x.step 0 5 wx) rfl Tryd.func30 (by kernel_rfl) (by kernel_rfl) (by simp only [List.map_toArray, List.map_cons, List.map_nil, eval_tmp, eval_const, (f62 hE)]) hK
          · intro a wx hT hF K hK
            obtain ⟨f63, f60, _⟩ := hF
            have f63 : (callQ x) = true → a.tmps.getD 63 undef = .bool (inR x.step 0 5) := f63
            have f60 : a.tmps.getD 60 undef = .bool (callQ x) := f60
            refine rely_if (rely_gt f60) (NewT.refl _) hK (fun hE hK => ?_)
            exact opr_not rfl (f63 hE) (hK _ _ (NewT.refl _) rfl)
          · intro a wx hT hF K hK
            obtain ⟨f64, f60, _⟩ := hF
            have f64 : (callQ x) = true → a.tmps.getD 64 undef = .bool (!(inR x.step 0 5)) := f64
            have f60 : a.tmps.getD 60 undef = .bool (callQ x) := f60
            refine rely_ifg (rely_gt f60) (NewT.refl _) hK (fun hE hK => ?_)
            exact opr_move (.inl rfl) (hK _ _ (NewT.refl _) (f64 hE))
          · intro a wx hT hF K hK
            obtain ⟨f1, f65, _⟩ := hF
            have f1 : a.tmps.getD 1 undef = .pointer (some ⟨w.heap.size, 0, none⟩) := f1
            have f65 : a.tmps.getD 65 undef = gV (callQ x) (!(inR x.step 0 5)) := f65
            refine rely_if (rely_ggf f65) (NewT.refl _) hK (fun hE hK => ?_)
            exact opr_fldR (by decide) rfl f1 (hK _ _ (NewT.refl _) rfl)
          · intro a wx hT hF K hK
            obtain ⟨f66, f65, _⟩ := hF
            have f66 : (callQ x && (!(!(inR x.step 0 5)))) = true → a.tmps.getD 66 undef = .pointer (some ⟨w.heap.size, 4, none⟩) := f66
            have f65 : a.tmps.getD 65 undef = gV (callQ x) (!(inR x.step 0 5)) := f65
            refine rely_if (rely_ggf f65) (NewT.refl _) hK (fun hE hK => ?_)
            exact opr_ldI (hT.row R1.out) (by decide) rfl rfl (f66 hE) (hK _ _ (NewT.refl _) rfl)
          · intro a wx hT hF K hK
            obtain ⟨f67, f65, _⟩ := hF
            have f67 : (callQ x && (!(!(inR x.step 0 5)))) = true → a.tmps.getD 67 undef = .int .i64 (x.tr) := f67
            have f65 : a.tmps.getD 65 undef = gV (callQ x) (!(inR x.step 0 5)) := f65
            refine rely_if (rely_ggf f65) (NewT.refl _) hK (fun hE hK => ?_)
            exact opr_cv (refIn_cv x.tr 1 9 wx) rfl Tryd.func30 (by kernel_rfl) (by kernel_rfl) (by simp only [List.map_toArray, List.map_cons, List.map_nil, eval_tmp, eval_const, (f67 hE)]) hK
          · intro a wx hT hF K hK
            obtain ⟨f68, f65, _⟩ := hF
            have f68 : (callQ x && (!(!(inR x.step 0 5)))) = true → a.tmps.getD 68 undef = .bool (inR x.tr 1 9) := f68
            have f65 : a.tmps.getD 65 undef = gV (callQ x) (!(inR x.step 0 5)) := f65
            refine rely_if (rely_ggf f65) (NewT.refl _) hK (fun hE hK => ?_)
            exact opr_not rfl (f68 hE) (hK _ _ (NewT.refl _) rfl)
          · intro a wx hT hF K hK
            obtain ⟨f65, f69, f60, _⟩ := hF
            have f65 : a.tmps.getD 65 undef = gV (callQ x) (!(inR x.step 0 5)) := f65
            have f69 : (callQ x && (!(!(inR x.step 0 5)))) = true → a.tmps.getD 69 undef = .bool (!(inR x.tr 1 9)) := f69
            have f60 : a.tmps.getD 60 undef = .bool (callQ x) := f60
            refine rely_if (rely_gt f60) (NewT.refl _) hK (fun hE hK => ?_)
            exact opr_pick_b rfl (f65.trans (gV_on hE)) (fun hb => hK _ _ (NewT.refl _) (pn_or1 Q1_10 hb)) (fun hb => hK _ _ (NewT.refl _) (pn_or0 Q1_10 (f69 (band hE (bnot hb))) hb))
          · intro a wx hT hF K hK
            obtain ⟨f60, f70, _⟩ := hF
            have f60 : a.tmps.getD 60 undef = .bool (callQ x) := f60
            have f70 : (callQ x) = true → a.tmps.getD 70 undef = .bool (q1_10) := f70
            refine rely_wp rfl ?_
            exact opr_pick_b rfl f60 (fun hb => hK _ _ (NewT.refl _) (pk_and1 (f70 hb) hb)) (fun hb => hK _ _ (NewT.refl _) (pk_and0 hb))
          · intro a wx hT hF K hK
            obtain ⟨f71, _⟩ := hF
            have f71 : a.tmps.getD 71 undef = .bool ((callQ x) && q1_10) := f71
            refine rely_wp rfl ?_
            exact opr_move (.inl rfl) (hK _ _ (NewT.refl _) f71)
          · intro a wx hT hF K hK
            obtain ⟨f5, f72, _⟩ := hF
            have f5 : a.tmps.getD 5 undef = .bool (callQ x) := f5
            have f72 : a.tmps.getD 72 undef = .bool ((callQ x) && q1_10) := f72
            refine rely_if (rely_gf f72) (NewT.refl _) hK (fun hE hK => ?_)
            exact opr_move (.inl rfl) (hK _ _ (NewT.refl _) f5)
          · intro a wx hT hF K hK
            obtain ⟨f73, f72, _⟩ := hF
            have f73 : ((!((callQ x) && q1_10))) = true → a.tmps.getD 73 undef = .bool (callQ x) := f73
            have f72 : a.tmps.getD 72 undef = .bool ((callQ x) && q1_10) := f72
            refine rely_if (rely_gf f72) (NewT.refl _) hK (fun hE hK => ?_)
            exact opr_not rfl (f73 hE) (hK _ _ (NewT.refl _) rfl)
          · intro a wx hT hF K hK
            obtain ⟨f74, f72, _⟩ := hF
            have f74 : ((!((callQ x) && q1_10))) = true → a.tmps.getD 74 undef = .bool (!(callQ x)) := f74
            have f72 : a.tmps.getD 72 undef = .bool ((callQ x) && q1_10) := f72
            refine rely_ifg (rely_gf f72) (NewT.refl _) hK (fun hE hK => ?_)
            exact opr_move (.inl rfl) (hK _ _ (NewT.refl _) (f74 hE))
          · intro a wx hT hF K hK
            obtain ⟨f1, f75, _⟩ := hF
            have f1 : a.tmps.getD 1 undef = .pointer (some ⟨w.heap.size, 0, none⟩) := f1
            have f75 : a.tmps.getD 75 undef = gV ((!((callQ x) && q1_10))) (!(callQ x)) := f75
            refine rely_if (rely_ggt f75) (NewT.refl _) hK (fun hE hK => ?_)
            exact opr_fldR (by decide) rfl f1 (hK _ _ (NewT.refl _) rfl)
          · intro a wx hT hF K hK
            obtain ⟨f76, f75, _⟩ := hF
            have f76 : ((!((callQ x) && q1_10)) && !(callQ x)) = true → a.tmps.getD 76 undef = .pointer (some ⟨w.heap.size, 3, none⟩) := f76
            have f75 : a.tmps.getD 75 undef = gV ((!((callQ x) && q1_10))) (!(callQ x)) := f75
            refine rely_if (rely_ggt f75) (NewT.refl _) hK (fun hE hK => ?_)
            exact opr_ldI (hT.row R1.out) (by decide) rfl rfl (f76 hE) (hK _ _ (NewT.refl _) rfl)
          · intro a wx hT hF K hK
            obtain ⟨f77, f75, _⟩ := hF
            have f77 : ((!((callQ x) && q1_10)) && !(callQ x)) = true → a.tmps.getD 77 undef = .int .i64 (x.step) := f77
            have f75 : a.tmps.getD 75 undef = gV ((!((callQ x) && q1_10))) (!(callQ x)) := f75
            refine rely_if (rely_ggt f75) (NewT.refl _) hK (fun hE hK => ?_)
            exact opr_cmp (b := x.step != 0) (.inr (.inl ⟨rfl, rfl⟩)) Tryd.underlying3 rfl (f77 hE) rfl (hK _ _ (NewT.refl _) rfl)
          · intro a wx hT hF K hK
            obtain ⟨f78, f75, _⟩ := hF
            have f78 : ((!((callQ x) && q1_10)) && !(callQ x)) = true → a.tmps.getD 78 undef = .bool (x.step != 0) := f78
            have f75 : a.tmps.getD 75 undef = gV ((!((callQ x) && q1_10))) (!(callQ x)) := f75
            refine rely_ifg (rely_ggt f75) (NewT.refl _) hK (fun hE hK => ?_)
            exact opr_move (.inl rfl) (hK _ _ (NewT.refl _) (f78 hE))
          · intro a wx hT hF K hK
            obtain ⟨f1, f79, _⟩ := hF
            have f1 : a.tmps.getD 1 undef = .pointer (some ⟨w.heap.size, 0, none⟩) := f1
            have f79 : a.tmps.getD 79 undef = gV ((!((callQ x) && q1_10)) && !(callQ x)) (x.step != 0) := f79
            refine rely_if (rely_ggf f79) (NewT.refl _) hK (fun hE hK => ?_)
            exact opr_fldR (by decide) rfl f1 (hK _ _ (NewT.refl _) rfl)
          · intro a wx hT hF K hK
            obtain ⟨f80, f79, _⟩ := hF
            have f80 : (((!((callQ x) && q1_10)) && !(callQ x)) && (!(x.step != 0))) = true → a.tmps.getD 80 undef = .pointer (some ⟨w.heap.size, 4, none⟩) := f80
            have f79 : a.tmps.getD 79 undef = gV ((!((callQ x) && q1_10)) && !(callQ x)) (x.step != 0) := f79
            refine rely_if (rely_ggf f79) (NewT.refl _) hK (fun hE hK => ?_)
            exact opr_ldI (hT.row R1.out) (by decide) rfl rfl (f80 hE) (hK _ _ (NewT.refl _) rfl)
          · intro a wx hT hF K hK
            obtain ⟨f81, f79, _⟩ := hF
            have f81 : (((!((callQ x) && q1_10)) && !(callQ x)) && (!(x.step != 0))) = true → a.tmps.getD 81 undef = .int .i64 (x.tr) := f81
            have f79 : a.tmps.getD 79 undef = gV ((!((callQ x) && q1_10)) && !(callQ x)) (x.step != 0) := f79
            refine rely_if (rely_ggf f79) (NewT.refl _) hK (fun hE hK => ?_)
            exact opr_cmp (b := x.tr != 0) (.inr (.inl ⟨rfl, rfl⟩)) Tryd.underlying3 rfl (f81 hE) rfl (hK _ _ (NewT.refl _) rfl)
          · intro a wx hT hF K hK
            obtain ⟨f79, f82, f75, _⟩ := hF
            have f79 : a.tmps.getD 79 undef = gV ((!((callQ x) && q1_10)) && !(callQ x)) (x.step != 0) := f79
            have f82 : (((!((callQ x) && q1_10)) && !(callQ x)) && (!(x.step != 0))) = true → a.tmps.getD 82 undef = .bool (x.tr != 0) := f82
            have f75 : a.tmps.getD 75 undef = gV ((!((callQ x) && q1_10))) (!(callQ x)) := f75
            refine rely_if (rely_ggt f75) (NewT.refl _) hK (fun hE hK => ?_)
            exact opr_pick_b rfl (f79.trans (gV_on hE)) (fun hb => hK _ _ (NewT.refl _) (pk_or1 hb)) (fun hb => hK _ _ (NewT.refl _) (pk_or0 (f82 (band hE (bnot hb))) hb))
          · intro a wx hT hF K hK
            obtain ⟨f83, f75, _⟩ := hF
            have f83 : ((!((callQ x) && q1_10)) && !(callQ x)) = true → a.tmps.getD 83 undef = .bool ((x.step != 0) || (x.tr != 0)) := f83
            have f75 : a.tmps.getD 75 undef = gV ((!((callQ x) && q1_10))) (!(callQ x)) := f75
            refine rely_ifg (rely_ggt f75) (NewT.refl _) hK (fun hE hK => ?_)
            exact opr_move (.inl rfl) (hK _ _ (NewT.refl _) (f83 hE))
          · intro a wx hT hF K hK
            obtain ⟨f1, f84, _⟩ := hF
            have f1 : a.tmps.getD 1 undef = .pointer (some ⟨w.heap.size, 0, none⟩) := f1
            have f84 : a.tmps.getD 84 undef = gV ((!((callQ x) && q1_10)) && !(callQ x)) ((x.step != 0) || (x.tr != 0)) := f84
            refine rely_if (rely_ggf f84) (NewT.refl _) hK (fun hE hK => ?_)
            exact opr_fldR (by decide) rfl f1 (hK _ _ (NewT.refl _) rfl)
          · intro a wx hT hF K hK
            obtain ⟨f85, f84, _⟩ := hF
            have f85 : (((!((callQ x) && q1_10)) && !(callQ x)) && (!((x.step != 0) || (x.tr != 0)))) = true → a.tmps.getD 85 undef = .pointer (some ⟨w.heap.size, 5, none⟩) := f85
            have f84 : a.tmps.getD 84 undef = gV ((!((callQ x) && q1_10)) && !(callQ x)) ((x.step != 0) || (x.tr != 0)) := f84
            refine rely_if (rely_ggf f84) (NewT.refl _) hK (fun hE hK => ?_)
            exact opr_ldQ (hT.row R1.out) (by decide) rfl rfl (f85 hE) (hK _ _ (NewT.refl _) rfl)
          · intro a wx hT hF K hK
            obtain ⟨f84, f86, f75, _⟩ := hF
            have f84 : a.tmps.getD 84 undef = gV ((!((callQ x) && q1_10)) && !(callQ x)) ((x.step != 0) || (x.tr != 0)) := f84
            have f86 : (((!((callQ x) && q1_10)) && !(callQ x)) && (!((x.step != 0) || (x.tr != 0)))) = true → a.tmps.getD 86 undef = .bool (x.back) := f86
            have f75 : a.tmps.getD 75 undef = gV ((!((callQ x) && q1_10))) (!(callQ x)) := f75
            refine rely_if (rely_ggt f75) (NewT.refl _) hK (fun hE hK => ?_)
            exact opr_pick_b rfl (f84.trans (gV_on hE)) (fun hb => hK _ _ (NewT.refl _) (pn_or1 Q2_10 hb)) (fun hb => hK _ _ (NewT.refl _) (pn_or0 Q2_10 (f86 (band hE (bnot hb))) hb))
          · intro a wx hT hF K hK
            obtain ⟨f75, f87, f72, _⟩ := hF
            have f75 : a.tmps.getD 75 undef = gV ((!((callQ x) && q1_10))) (!(callQ x)) := f75
            have f87 : ((!((callQ x) && q1_10)) && !(callQ x)) = true → a.tmps.getD 87 undef = .bool (q2_10) := f87
            have f72 : a.tmps.getD 72 undef = .bool ((callQ x) && q1_10) := f72
            refine rely_if (rely_gf f72) (NewT.refl _) hK (fun hE hK => ?_)
            exact opr_pick_b rfl (f75.trans (gV_on hE)) (fun hb => hK _ _ (NewT.refl _) (pk_and1 (f87 (band hE hb)) hb)) (fun hb => hK _ _ (NewT.refl _) (pk_and0 hb))
          · intro a wx hT hF K hK
            obtain ⟨f72, f88, _⟩ := hF
            have f72 : a.tmps.getD 72 undef = .bool ((callQ x) && q1_10) := f72
            have f88 : ((!((callQ x) && q1_10))) = true → a.tmps.getD 88 undef = .bool ((!(callQ x)) && q2_10) := f88
            refine rely_wp rfl ?_
            exact opr_pick_b rfl f72 (fun hb => hK _ _ (NewT.refl _) (pn_or1 Q3_10 hb)) (fun hb => hK _ _ (NewT.refl _) (pn_or0 Q3_10 (f88 (bnot hb)) hb))
          · intro w10 k10
            intro u h; obtain rfl := Eq.symm (h (by simp)); clear h
            intro u h; obtain rfl := Eq.symm (h (by simp)); clear h
            intro _ _
            intro _ _
            intro _ _
            intro _ _
            intro _ _
            intro _ _
            intro _ _
            intro _ _
            intro _ _
            intro _ _
            intro u h; obtain rfl := Eq.symm (h (by simp)); clear h
            intro u h; obtain rfl := Eq.symm (h (by simp)); clear h
            intro _ _
            intro _ _
            intro _ _
            intro _ _
            intro _ _
            intro _ _
            intro _ _
            intro _ _
            intro _ _
            intro _ _
            intro _ _
            intro _ _
            intro _ _
            intro _ _
            intro _ _
            intro _ _
            intro u h; obtain rfl := Eq.symm (h (by simp)); clear h
            subst Q3_10 Q2_10 Q1_10
            refine relyEnd_nil rfl ?_
            refine wpList_end rfl ?_
            simp only [Act.put, List.setIfInBounds_toArray, List.set_cons_zero, List.set_cons_succ]
            go_simp
            replace R1 := Lib.hid (k10.row R1.out)
            replace R3 := Lib.hid (k10.row R3.out)
            replace HS := Lib.hid (k10.pairs HS.out)
            replace HD := Lib.hid (k10.rd HD.out)
            replace HN := Lib.hid (NewT.trans _ _ _ HN.out k10)
            clear k10
            cases hb10 : ((((callQ x) && ((!(inR x.step 0 5)) || (!(inR x.tr 1 9)))) || ((!(callQ x)) && (((x.step != 0) || (x.tr != 0)) || x.back))))
            rotate_left
            · have HB10 := Lib.hid hb10
              clear hb10
              go_wp2
              go_ret
              exact ⟨_, rfl, HN.out, by unfold refR; rw [if_neg (by rw [HB3.out]; decide)]; rw [if_neg (by rw [HB6.out]; decide)]; rw [if_pos HB10.out]; rfl⟩
            have HB10 := Lib.hid hb10
            clear hb10
            go_upto_region 12 with fail
            obtain ⟨q1_12, Q1_12⟩ : ∃ q, (x.good || (!(eqH (x.tag) (fun _ => 0)))) = q := ⟨_, rfl⟩
            obtain ⟨q2_12, Q2_12⟩ : ∃ q, ((x.kind == 5) && (!(inR x.nd 2 4))) = q := ⟨_, rfl⟩
            obtain ⟨q3_12, Q3_12⟩ : ∃ q, (((!(recQ x)) && q1_12) || q2_12) = q := ⟨_, rfl⟩
            obtain ⟨q4_12, Q4_12⟩ : ∃ q, (q3_12 || ((x.kind != 5) && (x.nd != 0))) = q := ⟨_, rfl⟩
            refine wp_region_steps0 NewT [SV.eq (.bool (recQ x)), SV.eq (.bool (!(recQ x))), SV.eq (.bool (!(recQ x))), svIf (!(recQ x)) (SV.eq (.pointer (some ⟨w.heap.size, 6, none⟩))), svIf (!(recQ x)) (SV.eq (.bool (x.good))), SV.eq (gV (!(recQ x)) (x.good)), svIf (!(recQ x) && (!x.good)) (SV.eq (.pointer (some ⟨w.heap.size, 10, none⟩))), svIf (!(recQ x) && (!x.good)) (SV.eq (.agg (rowA 32 (bF (x.tag))))), svIf (!(recQ x) && (!x.good)) (SV.eq (.agg (rowA 32 (bF (fun _ => 0))))), svIf (!(recQ x) && (!x.good)) (SV.eq (.bool (!(eqH (x.tag) (fun _ => 0))))), svIf (!(recQ x)) (SV.eq (.bool (q1_12))), SV.eq (.bool ((!(recQ x)) && q1_12)), SV.eq (.bool ((!(recQ x)) && q1_12)), svIf ((!((!(recQ x)) && q1_12))) (SV.eq (.pointer (some ⟨w.heap.size, 0, none⟩))), svIf ((!((!(recQ x)) && q1_12))) (SV.eq (.int .i64 (x.kind))), svIf ((!((!(recQ x)) && q1_12))) (SV.eq (.bool (x.kind == 5))), SV.eq (gV ((!((!(recQ x)) && q1_12))) (x.kind == 5)), svIf ((!((!(recQ x)) && q1_12)) && x.kind == 5) (SV.eq (.pointer (some ⟨w.heap.size, 7, none⟩))), svIf ((!((!(recQ x)) && q1_12)) && x.kind == 5) (SV.eq (.int .i64 (x.nd))), svIf ((!((!(recQ x)) && q1_12)) && x.kind == 5) (SV.eq (.bool (inR x.nd 2 4))), svIf ((!((!(recQ x)) && q1_12)) && x.kind == 5) (SV.eq (.bool (!(inR x.nd 2 4)))), svIf ((!((!(recQ x)) && q1_12))) (SV.eq (.bool (q2_12))), SV.eq (.bool (q3_12)), SV.eq (.bool (q3_12)), svIf ((!q3_12)) (SV.eq (.pointer (some ⟨w.heap.size, 0, none⟩))), svIf ((!q3_12)) (SV.eq (.int .i64 (x.kind))), svIf ((!q3_12)) (SV.eq (.bool (x.kind != 5))), SV.eq (gV ((!q3_12)) (x.kind != 5)), svIf ((!q3_12) && x.kind != 5) (SV.eq (.pointer (some ⟨w.heap.size, 7, none⟩))), svIf ((!q3_12) && x.kind != 5) (SV.eq (.int .i64 (x.nd))), svIf ((!q3_12) && x.kind != 5) (SV.eq (.bool (x.nd != 0))), svIf ((!q3_12)) (SV.eq (.bool ((x.kind != 5) && (x.nd != 0)))), SV.eq (.bool (q4_12))] [([(6, none)], none), ([(90, some 0)], none), ([(91, some 1)], none), ([(1, none), (92, some 2)], some (92, true)), ([(93, some 3), (92, some 2)], some (92, true)), ([(94, some 4), (92, some 2)], some (92, true)), ([(1, none), (95, some 5)], some (95, false)), ([(96, some 6), (95, some 5)], some (95, false)), ([(3, none), (95, some 5)], some (95, false)), ([(97, some 7), (98, some 8), (95, some 5)], some (95, false)), ([(95, some 5), (99, some 9), (92, some 2)], some (92, true)), ([(92, some 2), (100, some 10)], none), ([(101, some 11)], none), ([(1, none), (102, some 12)], some (102, false)), ([(103, some 13), (102, some 12)], some (102, false)), ([(104, some 14), (102, some 12)], some (102, false)), ([(105, some 15), (102, some 12)], some (102, false)), ([(1, none), (106, some 16)], some (106, true)), ([(107, some 17), (106, some 16)], some (106, true)), ([(108, some 18), (106, some 16)], some (106, true)), ([(109, some 19), (106, some 16)], some (106, true)), ([(106, some 16), (110, some 20), (102, some 12)], some (102, false)), ([(102, some 12), (111, some 21)], none), ([(112, some 22)], none), ([(1, none), (113, some 23)], some (113, false)), ([(114, some 24), (113, some 23)], some (113, false)), ([(115, some 25), (113, some 23)], some (113, false)), ([(116, some 26), (113, some 23)], some (113, false)), ([(1, none), (117, some 27)], some (117, true)), ([(118, some 28), (117, some 27)], some (117, true)), ([(119, some 29), (117, some 27)], some (117, true)), ([(117, some 27), (120, some 30), (113, some 23)], some (113, false)), ([(113, some 23), (121, some 31)], none)] 251 33 rfl rfl (by kernel_rfl) NewT.trans (NewT.refl _) (Nat.le_of_ble_eq_true rfl) ⟨?_, ?_, ?_, ?_, ?_, ?_, ?_, ?_, ?_, ?_, ?_, ?_, ?_, ?_, ?_, ?_, ?_, ?_, ?_, ?_, ?_, ?_, ?_, ?_, ?_, ?_, ?_, ?_, ?_, ?_, ?_, ?_, ?_, trivial⟩ ?_
            · intro a wx hT hF K hK
              obtain ⟨f6, _⟩ := hF
              have f6 : a.tmps.getD 6 undef = .bool (recQ x) := f6
              refine rely_wp rfl ?_
              exact opr_move (.inl rfl) (hK _ _ (NewT.refl _) f6)
            · intro a wx hT hF K hK
              obtain ⟨f90, _⟩ := hF
              have f90 : a.tmps.getD 90 undef = .bool (recQ x) := f90
              refine rely_wp rfl ?_
              exact opr_not rfl f90 (hK _ _ (NewT.refl _) rfl)
            · intro a wx hT hF K hK
              obtain ⟨f91, _⟩ := hF
              have f91 : a.tmps.getD 91 undef = .bool (!(recQ x)) := f91
              refine rely_wp rfl ?_
              exact opr_move (.inl rfl) (hK _ _ (NewT.refl _) f91)
            · intro a wx hT hF K hK
              obtain ⟨f1, f92, _⟩ := hF
              have f1 : a.tmps.getD 1 undef = .pointer (some ⟨w.heap.size, 0, none⟩) := f1
              have f92 : a.tmps.getD 92 undef = .bool (!(recQ x)) := f92
              refine rely_if (rely_gt f92) (NewT.refl _) hK (fun hE hK => ?_)
              exact opr_fldR (by decide) rfl f1 (hK _ _ (NewT.refl _) rfl)
            · intro a wx hT hF K hK
              obtain ⟨f93, f92, _⟩ := hF
              have f93 : (!(recQ x)) = true → a.tmps.getD 93 undef = .pointer (some ⟨w.heap.size, 6, none⟩) := f93
              have f92 : a.tmps.getD 92 undef = .bool (!(recQ x)) := f92
              refine rely_if (rely_gt f92) (NewT.refl _) hK (fun hE hK => ?_)
              exact opr_ldQ (hT.row R1.out) (by decide) rfl rfl (f93 hE) (hK _ _ (NewT.refl _) rfl)
            · intro a wx hT hF K hK
              obtain ⟨f94, f92, _⟩ := hF
              have f94 : (!(recQ x)) = true → a.tmps.getD 94 undef = .bool (x.good) := f94
              have f92 : a.tmps.getD 92 undef = .bool (!(recQ x)) := f92
              refine rely_ifg (rely_gt f92) (NewT.refl _) hK (fun hE hK => ?_)
              exact opr_move (.inl rfl) (hK _ _ (NewT.refl _) (f94 hE))
            · intro a wx hT hF K hK
              obtain ⟨f1, f95, _⟩ := hF
              have f1 : a.tmps.getD 1 undef = .pointer (some ⟨w.heap.size, 0, none⟩) := f1
              have f95 : a.tmps.getD 95 undef = gV (!(recQ x)) (x.good) := f95
              refine rely_if (rely_ggf f95) (NewT.refl _) hK (fun hE hK => ?_)
              exact opr_fldR (by decide) rfl f1 (hK _ _ (NewT.refl _) rfl)
            · intro a wx hT hF K hK
              obtain ⟨f96, f95, _⟩ := hF
              have f96 : (!(recQ x) && (!x.good)) = true → a.tmps.getD 96 undef = .pointer (some ⟨w.heap.size, 10, none⟩) := f96
              have f95 : a.tmps.getD 95 undef = gV (!(recQ x)) (x.good) := f95
              refine rely_if (rely_ggf f95) (NewT.refl _) hK (fun hE hK => ?_)
              exact opr_ldH (hT.row R1.out) (by decide) (recF_tag x _ _) rfl (f96 hE) (hK _ _ (NewT.refl _) rfl)
            · intro a wx hT hF K hK
              obtain ⟨f3, f95, _⟩ := hF
              have f3 : a.tmps.getD 3 undef = .pointer (some ⟨w.heap.size + 1, 0, none⟩) := f3
              have f95 : a.tmps.getD 95 undef = gV (!(recQ x)) (x.good) := f95
              refine rely_if (rely_ggf f95) (NewT.refl _) hK (fun hE hK => ?_)
              exact opr_load_hash rfl f3 (hT.row R3.out) (hK _ _ (NewT.refl _) rfl)
            · intro a wx hT hF K hK
              obtain ⟨f97, f98, f95, _⟩ := hF
              have f97 : (!(recQ x) && (!x.good)) = true → a.tmps.getD 97 undef = .agg (rowA 32 (bF (x.tag))) := f97
              have f98 : (!(recQ x) && (!x.good)) = true → a.tmps.getD 98 undef = .agg (rowA 32 (bF (fun _ => 0))) := f98
              have f95 : a.tmps.getD 95 undef = gV (!(recQ x)) (x.good) := f95
              refine rely_if (rely_ggf f95) (NewT.refl _) hK (fun hE hK => ?_)
              exact opr_neq_hash (b := !(eqH (x.tag) (fun _ => 0))) rfl (f97 hE) (f98 hE) (rfl) (hK _ _ (NewT.refl _) rfl)
            · intro a wx hT hF K hK
              obtain ⟨f95, f99, f92, _⟩ := hF
              have f95 : a.tmps.getD 95 undef = gV (!(recQ x)) (x.good) := f95
              have f99 : (!(recQ x) && (!x.good)) = true → a.tmps.getD 99 undef = .bool (!(eqH (x.tag) (fun _ => 0))) := f99
              have f92 : a.tmps.getD 92 undef = .bool (!(recQ x)) := f92
              refine rely_if (rely_gt f92) (NewT.refl _) hK (fun hE hK => ?_)
              exact opr_pick_b rfl (f95.trans (gV_on hE)) (fun hb => hK _ _ (NewT.refl _) (pn_or1 Q1_12 hb)) (fun hb => hK _ _ (NewT.refl _) (pn_or0 Q1_12 (f99 (band hE (bnot hb))) hb))
            · intro a wx hT hF K hK
              obtain ⟨f92, f100, _⟩ := hF
              have f92 : a.tmps.getD 92 undef = .bool (!(recQ x)) := f92
              have f100 : (!(recQ x)) = true → a.tmps.getD 100 undef = .bool (q1_12) := f100
              refine rely_wp rfl ?_
              exact opr_pick_b rfl f92 (fun hb => hK _ _ (NewT.refl _) (pk_and1 (f100 hb) hb)) (fun hb => hK _ _ (NewT.refl _) (pk_and0 hb))
            · intro a wx hT hF K hK
              obtain ⟨f101, _⟩ := hF
              have f101 : a.tmps.getD 101 undef = .bool ((!(recQ x)) && q1_12) := f101
              refine rely_wp rfl ?_
              exact opr_move (.inl rfl) (hK _ _ (NewT.refl _) f101)
            · intro a wx hT hF K hK
              obtain ⟨f1, f102, _⟩ := hF
              have f1 : a.tmps.getD 1 undef = .pointer (some ⟨w.heap.size, 0, none⟩) := f1
              have f102 : a.tmps.getD 102 undef = .bool ((!(recQ x)) && q1_12) := f102
              refine rely_if (rely_gf f102) (NewT.refl _) hK (fun hE hK => ?_)
              exact opr_fldR (by decide) rfl f1 (hK _ _ (NewT.refl _) rfl)
            · intro a wx hT hF K hK
              obtain ⟨f103, f102, _⟩ := hF
              have f103 : ((!((!(recQ x)) && q1_12))) = true → a.tmps.getD 103 undef = .pointer (some ⟨w.heap.size, 0, none⟩) := f103
              have f102 : a.tmps.getD 102 undef = .bool ((!(recQ x)) && q1_12) := f102
              refine rely_if (rely_gf f102) (NewT.refl _) hK (fun hE hK => ?_)
              exact opr_ldI (hT.row R1.out) (by decide) rfl rfl (f103 hE) (hK _ _ (NewT.refl _) rfl)
            · intro a wx hT hF K hK
              obtain ⟨f104, f102, _⟩ := hF
              have f104 : ((!((!(recQ x)) && q1_12))) = true → a.tmps.getD 104 undef = .int .i64 (x.kind) := f104
              have f102 : a.tmps.getD 102 undef = .bool ((!(recQ x)) && q1_12) := f102
              refine rely_if (rely_gf f102) (NewT.refl _) hK (fun hE hK => ?_)
              exact opr_cmp (b := x.kind == 5) (.inl ⟨rfl, rfl⟩) Tryd.underlying3 rfl (f104 hE) rfl (hK _ _ (NewT.refl _) rfl)
            · intro a wx hT hF K hK
              obtain ⟨f105, f102, _⟩ := hF
              have f105 : ((!((!(recQ x)) && q1_12))) = true → a.tmps.getD 105 undef = .bool (x.kind == 5) := f105
              have f102 : a.tmps.getD 102 undef = .bool ((!(recQ x)) && q1_12) := f102
              refine rely_ifg (rely_gf f102) (NewT.refl _) hK (fun hE hK => ?_)
              exact opr_move (.inl rfl) (hK _ _ (NewT.refl _) (f105 hE))
            · intro a wx hT hF K hK
              obtain ⟨f1, f106, _⟩ := hF
              have f1 : a.tmps.getD 1 undef = .pointer (some ⟨w.heap.size, 0, none⟩) := f1
              have f106 : a.tmps.getD 106 undef = gV ((!((!(recQ x)) && q1_12))) (x.kind == 5) := f106
              refine rely_if (rely_ggt f106) (NewT.refl _) hK (fun hE hK => ?_)
              exact opr_fldR (by decide) rfl f1 (hK _ _ (NewT.refl _) rfl)
            · intro a wx hT hF K hK
              obtain ⟨f107, f106, _⟩ := hF
              have f107 : ((!((!(recQ x)) && q1_12)) && x.kind == 5) = true → a.tmps.getD 107 undef = .pointer (some ⟨w.heap.size, 7, none⟩) := f107
              have f106 : a.tmps.getD 106 undef = gV ((!((!(recQ x)) && q1_12))) (x.kind == 5) := f106
              refine rely_if (rely_ggt f106) (NewT.refl _) hK (fun hE hK => ?_)
              exact opr_ldI (hT.row R1.out) (by decide) rfl rfl (f107 hE) (hK _ _ (NewT.refl _) rfl)
            · intro a wx hT hF K hK
              obtain ⟨f108, f106, _⟩ := hF
              have f108 : ((!((!(recQ x)) && q1_12)) && x.kind == 5) = true → a.tmps.getD 108 undef = .int .i64 (x.nd) := f108
              have f106 : a.tmps.getD 106 undef = gV ((!((!(recQ x)) && q1_12))) (x.kind == 5) := f106
              refine rely_if (rely_ggt f106) (NewT.refl _) hK (fun hE hK => ?_)
              exact opr_cv (refIn_cv x.nd 2 4 wx) rfl Tryd.func30 (by kernel_rfl) (by kernel_rfl) (by simp only [List.map_toArray, List.map_cons, List.map_nil, eval_tmp, eval_const, (f108 hE)]) hK
            · intro a wx hT hF K hK
              obtain ⟨f109, f106, _⟩ := hF
              have f109 : ((!((!(recQ x)) && q1_12)) && x.kind == 5) = true → a.tmps.getD 109 undef = .bool (inR x.nd 2 4) := f109
              have f106 : a.tmps.getD 106 undef = gV ((!((!(recQ x)) && q1_12))) (x.kind == 5) := f106
              refine rely_if (rely_ggt f106) (NewT.refl _) hK (fun hE hK => ?_)
              exact opr_not rfl (f109 hE) (hK _ _ (NewT.refl _) rfl)
            · intro a wx hT hF K hK
              obtain ⟨f106, f110, f102, _⟩ := hF
              have f106 : a.tmps.getD 106 undef = gV ((!((!(recQ x)) && q1_12))) (x.kind == 5) := f106
              have f110 : ((!((!(recQ x)) && q1_12)) && x.kind == 5) = true → a.tmps.getD 110 undef = .bool (!(inR x.nd 2 4)) := f110
              have f102 : a.tmps.getD 102 undef = .bool ((!(recQ x)) && q1_12) := f102
              refine rely_if (rely_gf f102) (NewT.refl _) hK (fun hE hK => ?_)
              exact opr_pick_b rfl (f106.trans (gV_on hE)) (fun hb => hK _ _ (NewT.refl _) (pn_and1 Q2_12 (f110 (band hE hb)) hb)) (fun hb => hK _ _ (NewT.refl _) (pn_and0 Q2_12 hb))
            · intro a wx hT hF K hK
              obtain ⟨f102, f111, _⟩ := hF
              have f102 : a.tmps.getD 102 undef = .bool ((!(recQ x)) && q1_12) := f102
              have f111 : ((!((!(recQ x)) && q1_12))) = true → a.tmps.getD 111 undef = .bool (q2_12) := f111
              refine rely_wp rfl ?_
              exact opr_pick_b rfl f102 (fun hb => hK _ _ (NewT.refl _) (pn_or1 Q3_12 hb)) (fun hb => hK _ _ (NewT.refl _) (pn_or0 Q3_12 (f111 (bnot hb)) hb))
            · intro a wx hT hF K hK
              obtain ⟨f112, _⟩ := hF
              have f112 : a.tmps.getD 112 undef = .bool (q3_12) := f112
              refine rely_wp rfl ?_
              exact opr_move (.inl rfl) (hK _ _ (NewT.refl _) f112)
            · intro a wx hT hF K hK
              obtain ⟨f1, f113, _⟩ := hF
              have f1 : a.tmps.getD 1 undef = .pointer (some ⟨w.heap.size, 0, none⟩) := f1
              have f113 : a.tmps.getD 113 undef = .bool (q3_12) := f113
              refine rely_if (rely_gf f113) (NewT.refl _) hK (fun hE hK => ?_)
              exact opr_fldR (by decide) rfl f1 (hK _ _ (NewT.refl _) rfl)
            · intro a wx hT hF K hK
              obtain ⟨f114, f113, _⟩ := hF
              have f114 : ((!q3_12)) = true → a.tmps.getD 114 undef = .pointer (some ⟨w.heap.size, 0, none⟩) := f114
              have f113 : a.tmps.getD 113 undef = .bool (q3_12) := f113
              refine rely_if (rely_gf f113) (NewT.refl _) hK (fun hE hK => ?_)
              exact opr_ldI (hT.row R1.out) (by decide) rfl rfl (f114 hE) (hK _ _ (NewT.refl _) rfl)
            · intro a wx hT hF K hK
              obtain ⟨f115, f113, _⟩ := hF
              have f115 : ((!q3_12)) = true → a.tmps.getD 115 undef = .int .i64 (x.kind) := f115
              have f113 : a.tmps.getD 113 undef = .bool (q3_12) := f113
              refine rely_if (rely_gf f113) (NewT.refl _) hK (fun hE hK => ?_)
              exact opr_cmp (b := x.kind != 5) (.inr (.inl ⟨rfl, rfl⟩)) Tryd.underlying3 rfl (f115 hE) rfl (hK _ _ (NewT.refl _) rfl)
            · intro a wx hT hF K hK
              obtain ⟨f116, f113, _⟩ := hF
              have f116 : ((!q3_12)) = true → a.tmps.getD 116 undef = .bool (x.kind != 5) := f116
              have f113 : a.tmps.getD 113 undef = .bool (q3_12) := f113
              refine rely_ifg (rely_gf f113) (NewT.refl _) hK (fun hE hK => ?_)
              exact opr_move (.inl rfl) (hK _ _ (NewT.refl _) (f116 hE))
            · intro a wx hT hF K hK
              obtain ⟨f1, f117, _⟩ := hF
              have f1 : a.tmps.getD 1 undef = .pointer (some ⟨w.heap.size, 0, none⟩) := f1
              have f117 : a.tmps.getD 117 undef = gV ((!q3_12)) (x.kind != 5) := f117
              refine rely_if (rely_ggt f117) (NewT.refl _) hK (fun hE hK => ?_)
              exact opr_fldR (by decide) rfl f1 (hK _ _ (NewT.refl _) rfl)
            · intro a wx hT hF K hK
              obtain ⟨f118, f117, _⟩ := hF
              have f118 : ((!q3_12) && x.kind != 5) = true → a.tmps.getD 118 undef = .pointer (some ⟨w.heap.size, 7, none⟩) := f118
              have f117 : a.tmps.getD 117 undef = gV ((!q3_12)) (x.kind != 5) := f117
              refine rely_if (rely_ggt f117) (NewT.refl _) hK (fun hE hK => ?_)
              exact opr_ldI (hT.row R1.out) (by decide) rfl rfl (f118 hE) (hK _ _ (NewT.refl _) rfl)
            · intro a wx hT hF K hK
              obtain ⟨f119, f117, _⟩ := hF
              have f119 : ((!q3_12) && x.kind != 5) = true → a.tmps.getD 119 undef = .int .i64 (x.nd) := f119
              have f117 : a.tmps.getD 117 undef = gV ((!q3_12)) (x.kind != 5) := f117
              refine rely_if (rely_ggt f117) (NewT.refl _) hK (fun hE hK => ?_)
              exact opr_cmp (b := x.nd != 0) (.inr (.inl ⟨rfl, rfl⟩)) Tryd.underlying3 rfl (f119 hE) rfl (hK _ _ (NewT.refl _) rfl)
            · intro a wx hT hF K hK
              obtain ⟨f117, f120, f113, _⟩ := hF
              have f117 : a.tmps.getD 117 undef = gV ((!q3_12)) (x.kind != 5) := f117
              have f120 : ((!q3_12) && x.kind != 5) = true → a.tmps.getD 120 undef = .bool (x.nd != 0) := f120
              have f113 : a.tmps.getD 113 undef = .bool (q3_12) := f113
              refine rely_if (rely_gf f113) (NewT.refl _) hK (fun hE hK => ?_)
              exact opr_pick_b rfl (f117.trans (gV_on hE)) (fun hb => hK _ _ (NewT.refl _) (pk_and1 (f120 (band hE hb)) hb)) (fun hb => hK _ _ (NewT.refl _) (pk_and0 hb))
            · intro a wx hT hF K hK
              obtain ⟨f113, f121, _⟩ := hF
              have f113 : a.tmps.getD 113 undef = .bool (q3_12) := f113
              have f121 : ((!q3_12)) = true → a.tmps.getD 121 undef = .bool ((x.kind != 5) && (x.nd != 0)) := f121
              refine rely_wp rfl ?_
              exact opr_pick_b rfl f113 (fun hb => hK _ _ (NewT.refl _) (pn_or1 Q4_12 hb)) (fun hb => hK _ _ (NewT.refl _) (pn_or0 Q4_12 (f121 (bnot hb)) hb))
            · intro w12 k12
              intro u h; obtain rfl := Eq.symm (h (by simp)); clear h
              intro u h; obtain rfl := Eq.symm (h (by simp)); clear h
              intro u h; obtain rfl := Eq.symm (h (by simp)); clear h
              intro _ _
              intro _ _
              intro _ _
              intro _ _
              intro _ _
              intro _ _
              intro _ _
              intro _ _
              intro u h; obtain rfl := Eq.symm (h (by simp)); clear h
              intro u h; obtain rfl := Eq.symm (h (by simp)); clear h
              intro _ _
              intro _ _
              intro _ _
              intro _ _
              intro _ _
              intro _ _
              intro _ _
              intro _ _
              intro _ _
              intro u h; obtain rfl := Eq.symm (h (by simp)); clear h
              intro u h; obtain rfl := Eq.symm (h (by simp)); clear h
              intro _ _
              intro _ _
              intro _ _
              intro _ _
              intro _ _
              intro _ _
              intro _ _
              intro _ _
              intro u h; obtain rfl := Eq.symm (h (by simp)); clear h
              subst Q4_12 Q3_12 Q2_12 Q1_12
              refine relyEnd_nil rfl ?_
              refine wpList_end rfl ?_
              simp only [Act.put, List.setIfInBounds_toArray, List.set_cons_zero, List.set_cons_succ]
              go_simp
              replace R1 := Lib.hid (k12.row R1.out)
              replace R3 := Lib.hid (k12.row R3.out)
              replace HS := Lib.hid (k12.pairs HS.out)
              replace HD := Lib.hid (k12.rd HD.out)
              replace HN := Lib.hid (NewT.trans _ _ _ HN.out k12)
              clear k12
              cases hb12 : (((((!(recQ x)) && (x.good || (!(eqH (x.tag) (fun _ => 0))))) || ((x.kind == 5) && (!(inR x.nd 2 4)))) || ((x.kind != 5) && (x.nd != 0))))
              rotate_left
              · have HB12 := Lib.hid hb12
                clear hb12
                go_wp2
                go_ret
                exact ⟨_, rfl, HN.out, by unfold refR; rw [if_neg (by rw [HB3.out]; decide)]; rw [if_neg (by rw [HB6.out]; decide)]; rw [if_neg (by rw [HB10.out]; decide)]; rw [if_pos HB12.out]; rfl⟩
              have HB12 := Lib.hid hb12
              clear hb12
              go_upto_region 14 with fail
              obtain ⟨q1_14, Q1_14⟩ : ∃ q, ((!(inR x.part 0 3)) || (!(inR x.epoch 0 400))) = q := ⟨_, rfl⟩
              obtain ⟨q2_14, Q2_14⟩ : ∃ q, ((!(inR x.part 0 3)) || (!(inR x.epoch 1 400))) = q := ⟨_, rfl⟩
              obtain ⟨q3_14, Q3_14⟩ : ∃ q, (((recQ x) && q1_14) || ((x.kind == 6) && q2_14)) = q := ⟨_, rfl⟩
              refine wp_region_steps0 NewT [SV.eq (.bool (recQ x)), SV.eq (.bool (recQ x)), svIf (recQ x) (SV.eq (.pointer (some ⟨w.heap.size, 8, none⟩))), svIf (recQ x) (SV.eq (.int .i64 (x.part))), svIf (recQ x) (SV.eq (.bool (inR x.part 0 3))), svIf (recQ x) (SV.eq (.bool (!(inR x.part 0 3)))), SV.eq (gV (recQ x) (!(inR x.part 0 3))), svIf (recQ x && (!(!(inR x.part 0 3)))) (SV.eq (.pointer (some ⟨w.heap.size, 9, none⟩))), svIf (recQ x && (!(!(inR x.part 0 3)))) (SV.eq (.int .i64 (x.epoch))), svIf (recQ x && (!(!(inR x.part 0 3)))) (SV.eq (.bool (inR x.epoch 0 400))), svIf (recQ x && (!(!(inR x.part 0 3)))) (SV.eq (.bool (!(inR x.epoch 0 400)))), svIf (recQ x) (SV.eq (.bool (q1_14))), SV.eq (.bool ((recQ x) && q1_14)), SV.eq (.bool ((recQ x) && q1_14)), svIf ((!((recQ x) && q1_14))) (SV.eq (.pointer (some ⟨w.heap.size, 0, none⟩))), svIf ((!((recQ x) && q1_14))) (SV.eq (.int .i64 (x.kind))), svIf ((!((recQ x) && q1_14))) (SV.eq (.bool (x.kind == 6))), SV.eq (gV ((!((recQ x) && q1_14))) (x.kind == 6)), svIf ((!((recQ x) && q1_14)) && x.kind == 6) (SV.eq (.pointer (some ⟨w.heap.size, 8, none⟩))), svIf ((!((recQ x) && q1_14)) && x.kind == 6) (SV.eq (.int .i64 (x.part))), svIf ((!((recQ x) && q1_14)) && x.kind == 6) (SV.eq (.bool (inR x.part 0 3))), svIf ((!((recQ x) && q1_14)) && x.kind == 6) (SV.eq (.bool (!(inR x.part 0 3)))), SV.eq (gV ((!((recQ x) && q1_14)) && x.kind == 6) (!(inR x.part 0 3))), svIf (((!((recQ x) && q1_14)) && x.kind == 6) && (!(!(inR x.part 0 3)))) (SV.eq (.pointer (some ⟨w.heap.size, 9, none⟩))), svIf (((!((recQ x) && q1_14)) && x.kind == 6) && (!(!(inR x.part 0 3)))) (SV.eq (.int .i64 (x.epoch))), svIf (((!((recQ x) && q1_14)) && x.kind == 6) && (!(!(inR x.part 0 3)))) (SV.eq (.bool (inR x.epoch 1 400))), svIf (((!((recQ x) && q1_14)) && x.kind == 6) && (!(!(inR x.part 0 3)))) (SV.eq (.bool (!(inR x.epoch 1 400)))), svIf ((!((recQ x) && q1_14)) && x.kind == 6) (SV.eq (.bool (q2_14))), svIf ((!((recQ x) && q1_14))) (SV.eq (.bool ((x.kind == 6) && q2_14))), SV.eq (.bool (q3_14))] [([(6, none)], none), ([(123, some 0)], none), ([(1, none), (124, some 1)], some (124, true)), ([(125, some 2), (124, some 1)], some (124, true)), ([(126, some 3), (124, some 1)], some (124, true)), ([(127, some 4), (124, some 1)], some (124, true)), ([(128, some 5), (124, some 1)], some (124, true)), ([(1, none), (129, some 6)], some (129, false)), ([(130, some 7), (129, some 6)], some (129, false)), ([(131, some 8), (129, some 6)], some (129, false)), ([(132, some 9), (129, some 6)], some (129, false)), ([(129, some 6), (133, some 10), (124, some 1)], some (124, true)), ([(124, some 1), (134, some 11)], none), ([(135, some 12)], none), ([(1, none), (136, some 13)], some (136, false)), ([(137, some 14), (136, some 13)], some (136, false)), ([(138, some 15), (136, some 13)], some (136, false)), ([(139, some 16), (136, some 13)], some (136, false)), ([(1, none), (140, some 17)], some (140, true)), ([(141, some 18), (140, some 17)], some (140, true)), ([(142, some 19), (140, some 17)], some (140, true)), ([(143, some 20), (140, some 17)], some (140, true)), ([(144, some 21), (140, some 17)], some (140, true)), ([(1, none), (145, some 22)], some (145, false)), ([(146, some 23), (145, some 22)], some (145, false)), ([(147, some 24), (145, some 22)], some (145, false)), ([(148, some 25), (145, some 22)], some (145, false)), ([(145, some 22), (149, some 26), (140, some 17)], some (140, true)), ([(140, some 17), (150, some 27), (136, some 13)], some (136, false)), ([(136, some 13), (151, some 28)], none)] 251 30 rfl rfl (by kernel_rfl) NewT.trans (NewT.refl _) (Nat.le_of_ble_eq_true rfl) ⟨?_, ?_, ?_, ?_, ?_, ?_, ?_, ?_, ?_, ?_, ?_, ?_, ?_, ?_, ?_, ?_, ?_, ?_, ?_, ?_, ?_, ?_, ?_, ?_, ?_, ?_, ?_, ?_, ?_, ?_, trivial⟩ ?_
              · intro a wx hT hF K hK
                obtain ⟨f6, _⟩ := hF
                have f6 : a.tmps.getD 6 undef = .bool (recQ x) := f6
                refine rely_wp rfl ?_
                exact opr_move (.inl rfl) (hK _ _ (NewT.refl _) f6)
              · intro a wx hT hF K hK
                obtain ⟨f123, _⟩ := hF
                have f123 : a.tmps.getD 123 undef = .bool (recQ x) := f123
                refine rely_wp rfl ?_
                exact opr_move (.inl rfl) (hK _ _ (NewT.refl _) f123)
              · intro a wx hT hF K hK
                obtain ⟨f1, f124, _⟩ := hF
                have f1 : a.tmps.getD 1 undef = .pointer (some ⟨w.heap.size, 0, none⟩) := f1
                have f124 : a.tmps.getD 124 undef = .bool (recQ x) := f124
                refine rely_if (rely_gt f124) (NewT.refl _) hK (fun hE hK => ?_)
                exact opr_fldR (by decide) rfl f1 (hK _ _ (NewT.refl _) rfl)
              · intro a wx hT hF K hK
                obtain ⟨f125, f124, _⟩ := hF
                have f125 : (recQ x) = true → a.tmps.getD 125 undef = .pointer (some ⟨w.heap.size, 8, none⟩) := f125
                have f124 : a.tmps.getD 124 undef = .bool (recQ x) := f124
                refine rely_if (rely_gt f124) (NewT.refl _) hK (fun hE hK => ?_)
                exact opr_ldI (hT.row R1.out) (by decide) rfl rfl (f125 hE) (hK _ _ (NewT.refl _) rfl)
              · intro a wx hT hF K hK
                obtain ⟨f126, f124, _⟩ := hF
                have f126 : (recQ x) = true → a.tmps.getD 126 undef = .int .i64 (x.part) := f126
                have f124 : a.tmps.getD 124 undef = .bool (recQ x) := f124
                refine rely_if (rely_gt f124) (NewT.refl _) hK (fun hE hK => ?_)
                exact opr_cv (refIn_cv x.part 0 3 wx) rfl Tryd.func30 (by kernel_rfl) (by kernel_rfl) (by simp only [List.map_toArray, List.map_cons, List.map_nil, eval_tmp, eval_const, (f126 hE)]) hK
              · intro a wx hT hF K hK
                obtain ⟨f127, f124, _⟩ := hF
                have f127 : (recQ x) = true → a.tmps.getD 127 undef = .bool (inR x.part 0 3) := f127
                have f124 : a.tmps.getD 124 undef = .bool (recQ x) := f124
                refine rely_if (rely_gt f124) (NewT.refl _) hK (fun hE hK => ?_)
                exact opr_not rfl (f127 hE) (hK _ _ (NewT.refl _) rfl)
              · intro a wx hT hF K hK
                obtain ⟨f128, f124, _⟩ := hF
                have f128 : (recQ x) = true → a.tmps.getD 128 undef = .bool (!(inR x.part 0 3)) := f128
                have f124 : a.tmps.getD 124 undef = .bool (recQ x) := f124
                refine rely_ifg (rely_gt f124) (NewT.refl _) hK (fun hE hK => ?_)
                exact opr_move (.inl rfl) (hK _ _ (NewT.refl _) (f128 hE))
              · intro a wx hT hF K hK
                obtain ⟨f1, f129, _⟩ := hF
                have f1 : a.tmps.getD 1 undef = .pointer (some ⟨w.heap.size, 0, none⟩) := f1
                have f129 : a.tmps.getD 129 undef = gV (recQ x) (!(inR x.part 0 3)) := f129
                refine rely_if (rely_ggf f129) (NewT.refl _) hK (fun hE hK => ?_)
                exact opr_fldR (by decide) rfl f1 (hK _ _ (NewT.refl _) rfl)
              · intro a wx hT hF K hK
                obtain ⟨f130, f129, _⟩ := hF
                have f130 : (recQ x && (!(!(inR x.part 0 3)))) = true → a.tmps.getD 130 undef = .pointer (some ⟨w.heap.size, 9, none⟩) := f130
                have f129 : a.tmps.getD 129 undef = gV (recQ x) (!(inR x.part 0 3)) := f129
                refine rely_if (rely_ggf f129) (NewT.refl _) hK (fun hE hK => ?_)
                exact opr_ldI (hT.row R1.out) (by decide) rfl rfl (f130 hE) (hK _ _ (NewT.refl _) rfl)
              · intro a wx hT hF K hK
                obtain ⟨f131, f129, _⟩ := hF
                have f131 : (recQ x && (!(!(inR x.part 0 3)))) = true → a.tmps.getD 131 undef = .int .i64 (x.epoch) := f131
                have f129 : a.tmps.getD 129 undef = gV (recQ x) (!(inR x.part 0 3)) := f129
                refine rely_if (rely_ggf f129) (NewT.refl _) hK (fun hE hK => ?_)
                exact opr_cv (refIn_cv x.epoch 0 400 wx) rfl Tryd.func30 (by kernel_rfl) (by kernel_rfl) (by simp only [List.map_toArray, List.map_cons, List.map_nil, eval_tmp, eval_const, (f131 hE)]) hK
              · intro a wx hT hF K hK
                obtain ⟨f132, f129, _⟩ := hF
                have f132 : (recQ x && (!(!(inR x.part 0 3)))) = true → a.tmps.getD 132 undef = .bool (inR x.epoch 0 400) := f132
                have f129 : a.tmps.getD 129 undef = gV (recQ x) (!(inR x.part 0 3)) := f129
                refine rely_if (rely_ggf f129) (NewT.refl _) hK (fun hE hK => ?_)
                exact opr_not rfl (f132 hE) (hK _ _ (NewT.refl _) rfl)
              · intro a wx hT hF K hK
                obtain ⟨f129, f133, f124, _⟩ := hF
                have f129 : a.tmps.getD 129 undef = gV (recQ x) (!(inR x.part 0 3)) := f129
                have f133 : (recQ x && (!(!(inR x.part 0 3)))) = true → a.tmps.getD 133 undef = .bool (!(inR x.epoch 0 400)) := f133
                have f124 : a.tmps.getD 124 undef = .bool (recQ x) := f124
                refine rely_if (rely_gt f124) (NewT.refl _) hK (fun hE hK => ?_)
                exact opr_pick_b rfl (f129.trans (gV_on hE)) (fun hb => hK _ _ (NewT.refl _) (pn_or1 Q1_14 hb)) (fun hb => hK _ _ (NewT.refl _) (pn_or0 Q1_14 (f133 (band hE (bnot hb))) hb))
              · intro a wx hT hF K hK
                obtain ⟨f124, f134, _⟩ := hF
                have f124 : a.tmps.getD 124 undef = .bool (recQ x) := f124
                have f134 : (recQ x) = true → a.tmps.getD 134 undef = .bool (q1_14) := f134
                refine rely_wp rfl ?_
                exact opr_pick_b rfl f124 (fun hb => hK _ _ (NewT.refl _) (pk_and1 (f134 hb) hb)) (fun hb => hK _ _ (NewT.refl _) (pk_and0 hb))
              · intro a wx hT hF K hK
                obtain ⟨f135, _⟩ := hF
                have f135 : a.tmps.getD 135 undef = .bool ((recQ x) && q1_14) := f135
                refine rely_wp rfl ?_
                exact opr_move (.inl rfl) (hK _ _ (NewT.refl _) f135)
              · intro a wx hT hF K hK
                obtain ⟨f1, f136, _⟩ := hF
                have f1 : a.tmps.getD 1 undef = .pointer (some ⟨w.heap.size, 0, none⟩) := f1
                have f136 : a.tmps.getD 136 undef = .bool ((recQ x) && q1_14) := f136
                refine rely_if (rely_gf f136) (NewT.refl _) hK (fun hE hK => ?_)
                exact opr_fldR (by decide) rfl f1 (hK _ _ (NewT.refl _) rfl)
              · intro a wx hT hF K hK
                obtain ⟨f137, f136, _⟩ := hF
                have f137 : ((!((recQ x) && q1_14))) = true → a.tmps.getD 137 undef = .pointer (some ⟨w.heap.size, 0, none⟩) := f137
                have f136 : a.tmps.getD 136 undef = .bool ((recQ x) && q1_14) := f136
                refine rely_if (rely_gf f136) (NewT.refl _) hK (fun hE hK => ?_)
                exact opr_ldI (hT.row R1.out) (by decide) rfl rfl (f137 hE) (hK _ _ (NewT.refl _) rfl)
              · intro a wx hT hF K hK
                obtain ⟨f138, f136, _⟩ := hF
                have f138 : ((!((recQ x) && q1_14))) = true → a.tmps.getD 138 undef = .int .i64 (x.kind) := f138
                have f136 : a.tmps.getD 136 undef = .bool ((recQ x) && q1_14) := f136
                refine rely_if (rely_gf f136) (NewT.refl _) hK (fun hE hK => ?_)
                exact opr_cmp (b := x.kind == 6) (.inl ⟨rfl, rfl⟩) Tryd.underlying3 rfl (f138 hE) rfl (hK _ _ (NewT.refl _) rfl)
              · intro a wx hT hF K hK
                obtain ⟨f139, f136, _⟩ := hF
                have f139 : ((!((recQ x) && q1_14))) = true → a.tmps.getD 139 undef = .bool (x.kind == 6) := f139
                have f136 : a.tmps.getD 136 undef = .bool ((recQ x) && q1_14) := f136
                refine rely_ifg (rely_gf f136) (NewT.refl _) hK (fun hE hK => ?_)
                exact opr_move (.inl rfl) (hK _ _ (NewT.refl _) (f139 hE))
              · intro a wx hT hF K hK
                obtain ⟨f1, f140, _⟩ := hF
                have f1 : a.tmps.getD 1 undef = .pointer (some ⟨w.heap.size, 0, none⟩) := f1
                have f140 : a.tmps.getD 140 undef = gV ((!((recQ x) && q1_14))) (x.kind == 6) := f140
                refine rely_if (rely_ggt f140) (NewT.refl _) hK (fun hE hK => ?_)
                exact opr_fldR (by decide) rfl f1 (hK _ _ (NewT.refl _) rfl)
              · intro a wx hT hF K hK
                obtain ⟨f141, f140, _⟩ := hF
                have f141 : ((!((recQ x) && q1_14)) && x.kind == 6) = true → a.tmps.getD 141 undef = .pointer (some ⟨w.heap.size, 8, none⟩) := f141
                have f140 : a.tmps.getD 140 undef = gV ((!((recQ x) && q1_14))) (x.kind == 6) := f140
                refine rely_if (rely_ggt f140) (NewT.refl _) hK (fun hE hK => ?_)
                exact opr_ldI (hT.row R1.out) (by decide) rfl rfl (f141 hE) (hK _ _ (NewT.refl _) rfl)
              · intro a wx hT hF K hK
                obtain ⟨f142, f140, _⟩ := hF
                have f142 : ((!((recQ x) && q1_14)) && x.kind == 6) = true → a.tmps.getD 142 undef = .int .i64 (x.part) := f142
                have f140 : a.tmps.getD 140 undef = gV ((!((recQ x) && q1_14))) (x.kind == 6) := f140
                refine rely_if (rely_ggt f140) (NewT.refl _) hK (fun hE hK => ?_)
                exact opr_cv (refIn_cv x.part 0 3 wx) rfl Tryd.func30 (by kernel_rfl) (by kernel_rfl) (by simp only [List.map_toArray, List.map_cons, List.map_nil, eval_tmp, eval_const, (f142 hE)]) hK
              · intro a wx hT hF K hK
                obtain ⟨f143, f140, _⟩ := hF
                have f143 : ((!((recQ x) && q1_14)) && x.kind == 6) = true → a.tmps.getD 143 undef = .bool (inR x.part 0 3) := f143
                have f140 : a.tmps.getD 140 undef = gV ((!((recQ x) && q1_14))) (x.kind == 6) := f140
                refine rely_if (rely_ggt f140) (NewT.refl _) hK (fun hE hK => ?_)
                exact opr_not rfl (f143 hE) (hK _ _ (NewT.refl _) rfl)
              · intro a wx hT hF K hK
                obtain ⟨f144, f140, _⟩ := hF
                have f144 : ((!((recQ x) && q1_14)) && x.kind == 6) = true → a.tmps.getD 144 undef = .bool (!(inR x.part 0 3)) := f144
                have f140 : a.tmps.getD 140 undef = gV ((!((recQ x) && q1_14))) (x.kind == 6) := f140
                refine rely_ifg (rely_ggt f140) (NewT.refl _) hK (fun hE hK => ?_)
                exact opr_move (.inl rfl) (hK _ _ (NewT.refl _) (f144 hE))
              · intro a wx hT hF K hK
                obtain ⟨f1, f145, _⟩ := hF
                have f1 : a.tmps.getD 1 undef = .pointer (some ⟨w.heap.size, 0, none⟩) := f1
                have f145 : a.tmps.getD 145 undef = gV ((!((recQ x) && q1_14)) && x.kind == 6) (!(inR x.part 0 3)) := f145
                refine rely_if (rely_ggf f145) (NewT.refl _) hK (fun hE hK => ?_)
                exact opr_fldR (by decide) rfl f1 (hK _ _ (NewT.refl _) rfl)
              · intro a wx hT hF K hK
                obtain ⟨f146, f145, _⟩ := hF
                have f146 : (((!((recQ x) && q1_14)) && x.kind == 6) && (!(!(inR x.part 0 3)))) = true → a.tmps.getD 146 undef = .pointer (some ⟨w.heap.size, 9, none⟩) := f146
                have f145 : a.tmps.getD 145 undef = gV ((!((recQ x) && q1_14)) && x.kind == 6) (!(inR x.part 0 3)) := f145
                refine rely_if (rely_ggf f145) (NewT.refl _) hK (fun hE hK => ?_)
                exact opr_ldI (hT.row R1.out) (by decide) rfl rfl (f146 hE) (hK _ _ (NewT.refl _) rfl)
              · intro a wx hT hF K hK
                obtain ⟨f147, f145, _⟩ := hF
                have f147 : (((!((recQ x) && q1_14)) && x.kind == 6) && (!(!(inR x.part 0 3)))) = true → a.tmps.getD 147 undef = .int .i64 (x.epoch) := f147
                have f145 : a.tmps.getD 145 undef = gV ((!((recQ x) && q1_14)) && x.kind == 6) (!(inR x.part 0 3)) := f145
                refine rely_if (rely_ggf f145) (NewT.refl _) hK (fun hE hK => ?_)
                exact opr_cv (refIn_cv x.epoch 1 400 wx) rfl Tryd.func30 (by kernel_rfl) (by kernel_rfl) (by simp only [List.map_toArray, List.map_cons, List.map_nil, eval_tmp, eval_const, (f147 hE)]) hK
              · intro a wx hT hF K hK
                obtain ⟨f148, f145, _⟩ := hF
                have f148 : (((!((recQ x) && q1_14)) && x.kind == 6) && (!(!(inR x.part 0 3)))) = true → a.tmps.getD 148 undef = .bool (inR x.epoch 1 400) := f148
                have f145 : a.tmps.getD 145 undef = gV ((!((recQ x) && q1_14)) && x.kind == 6) (!(inR x.part 0 3)) := f145
                refine rely_if (rely_ggf f145) (NewT.refl _) hK (fun hE hK => ?_)
                exact opr_not rfl (f148 hE) (hK _ _ (NewT.refl _) rfl)
              · intro a wx hT hF K hK
                obtain ⟨f145, f149, f140, _⟩ := hF
                have f145 : a.tmps.getD 145 undef = gV ((!((recQ x) && q1_14)) && x.kind == 6) (!(inR x.part 0 3)) := f145
                have f149 : (((!((recQ x) && q1_14)) && x.kind == 6) && (!(!(inR x.part 0 3)))) = true → a.tmps.getD 149 undef = .bool (!(inR x.epoch 1 400)) := f149
                have f140 : a.tmps.getD 140 undef = gV ((!((recQ x) && q1_14))) (x.kind == 6) := f140
                refine rely_if (rely_ggt f140) (NewT.refl _) hK (fun hE hK => ?_)
                exact opr_pick_b rfl (f145.trans (gV_on hE)) (fun hb => hK _ _ (NewT.refl _) (pn_or1 Q2_14 hb)) (fun hb => hK _ _ (NewT.refl _) (pn_or0 Q2_14 (f149 (band hE (bnot hb))) hb))
              · intro a wx hT hF K hK
                obtain ⟨f140, f150, f136, _⟩ := hF
                have f140 : a.tmps.getD 140 undef = gV ((!((recQ x) && q1_14))) (x.kind == 6) := f140
                have f150 : ((!((recQ x) && q1_14)) && x.kind == 6) = true → a.tmps.getD 150 undef = .bool (q2_14) := f150
                have f136 : a.tmps.getD 136 undef = .bool ((recQ x) && q1_14) := f136
                refine rely_if (rely_gf f136) (NewT.refl _) hK (fun hE hK => ?_)
                exact opr_pick_b rfl (f140.trans (gV_on hE)) (fun hb => hK _ _ (NewT.refl _) (pk_and1 (f150 (band hE hb)) hb)) (fun hb => hK _ _ (NewT.refl _) (pk_and0 hb))
              · intro a wx hT hF K hK
                obtain ⟨f136, f151, _⟩ := hF
                have f136 : a.tmps.getD 136 undef = .bool ((recQ x) && q1_14) := f136
                have f151 : ((!((recQ x) && q1_14))) = true → a.tmps.getD 151 undef = .bool ((x.kind == 6) && q2_14) := f151
                refine rely_wp rfl ?_
                exact opr_pick_b rfl f136 (fun hb => hK _ _ (NewT.refl _) (pn_or1 Q3_14 hb)) (fun hb => hK _ _ (NewT.refl _) (pn_or0 Q3_14 (f151 (bnot hb)) hb))
              · intro w14 k14
                intro u h; obtain rfl := Eq.symm (h (by simp)); clear h
                intro u h; obtain rfl := Eq.symm (h (by simp)); clear h
                intro _ _
                intro _ _
                intro _ _
                intro _ _
                intro _ _
                intro _ _
                intro _ _
                intro _ _
                intro _ _
                intro _ _
                intro u h; obtain rfl := Eq.symm (h (by simp)); clear h
                intro u h; obtain rfl := Eq.symm (h (by simp)); clear h
                intro _ _
                intro _ _
                intro _ _
                intro _ _
                intro _ _
                intro _ _
                intro _ _
                intro _ _
                intro _ _
                intro _ _
                intro _ _
                intro _ _
                intro _ _
                intro _ _
                intro _ _
                intro u h; obtain rfl := Eq.symm (h (by simp)); clear h
                subst Q3_14 Q2_14 Q1_14
                refine relyEnd_nil rfl ?_
                refine wpList_end rfl ?_
                simp only [Act.put, List.setIfInBounds_toArray, List.set_cons_zero, List.set_cons_succ]
                go_simp
                replace R1 := Lib.hid (k14.row R1.out)
                replace R3 := Lib.hid (k14.row R3.out)
                replace HS := Lib.hid (k14.pairs HS.out)
                replace HD := Lib.hid (k14.rd HD.out)
                replace HN := Lib.hid (NewT.trans _ _ _ HN.out k14)
                clear k14
                cases hb14 : ((((recQ x) && ((!(inR x.part 0 3)) || (!(inR x.epoch 0 400)))) || ((x.kind == 6) && ((!(inR x.part 0 3)) || (!(inR x.epoch 1 400))))))
                rotate_left
                · have HB14 := Lib.hid hb14
                  clear hb14
                  go_wp2
                  go_ret
                  exact ⟨_, rfl, HN.out, by unfold refR; rw [if_neg (by rw [HB3.out]; decide)]; rw [if_neg (by rw [HB6.out]; decide)]; rw [if_neg (by rw [HB10.out]; decide)]; rw [if_neg (by rw [HB12.out]; decide)]; rw [if_pos HB14.out]; rfl⟩
                have HB14 := Lib.hid hb14
                clear hb14
                go_upto_region 16 with fail
                obtain ⟨q1_16, Q1_16⟩ : ∃ q, (((!(recQ x)) && (x.kind != 6)) && ((x.part != 0) || (x.epoch != 0))) = q := ⟨_, rfl⟩
                refine wp_region_steps0 NewT [SV.eq (.bool (recQ x)), SV.eq (.bool (!(recQ x))), SV.eq (.bool (!(recQ x))), svIf (!(recQ x)) (SV.eq (.pointer (some ⟨w.heap.size, 0, none⟩))), svIf (!(recQ x)) (SV.eq (.int .i64 (x.kind))), svIf (!(recQ x)) (SV.eq (.bool (x.kind != 6))), SV.eq (.bool ((!(recQ x)) && (x.kind != 6))), SV.eq (.bool ((!(recQ x)) && (x.kind != 6))), svIf ((!(recQ x)) && (x.kind != 6)) (SV.eq (.pointer (some ⟨w.heap.size, 8, none⟩))), svIf ((!(recQ x)) && (x.kind != 6)) (SV.eq (.int .i64 (x.part))), svIf ((!(recQ x)) && (x.kind != 6)) (SV.eq (.bool (x.part != 0))), SV.eq (gV ((!(recQ x)) && (x.kind != 6)) (x.part != 0)), svIf ((!(recQ x)) && (x.kind != 6) && (!(x.part != 0))) (SV.eq (.pointer (some ⟨w.heap.size, 9, none⟩))), svIf ((!(recQ x)) && (x.kind != 6) && (!(x.part != 0))) (SV.eq (.int .i64 (x.epoch))), svIf ((!(recQ x)) && (x.kind != 6) && (!(x.part != 0))) (SV.eq (.bool (x.epoch != 0))), svIf ((!(recQ x)) && (x.kind != 6)) (SV.eq (.bool ((x.part != 0) || (x.epoch != 0)))), SV.eq (.bool (q1_16))] [([(6, none)], none), ([(153, some 0)], none), ([(154, some 1)], none), ([(1, none), (155, some 2)], some (155, true)), ([(156, some 3), (155, some 2)], some (155, true)), ([(157, some 4), (155, some 2)], some (155, true)), ([(155, some 2), (158, some 5)], none), ([(159, some 6)], none), ([(1, none), (160, some 7)], some (160, true)), ([(161, some 8), (160, some 7)], some (160, true)), ([(162, some 9), (160, some 7)], some (160, true)), ([(163, some 10), (160, some 7)], some (160, true)), ([(1, none), (164, some 11)], some (164, false)), ([(165, some 12), (164, some 11)], some (164, false)), ([(166, some 13), (164, some 11)], some (164, false)), ([(164, some 11), (167, some 14), (160, some 7)], some (160, true)), ([(160, some 7), (168, some 15)], none)] 251 17 rfl rfl (by kernel_rfl) NewT.trans (NewT.refl _) (Nat.le_of_ble_eq_true rfl) ⟨?_, ?_, ?_, ?_, ?_, ?_, ?_, ?_, ?_, ?_, ?_, ?_, ?_, ?_, ?_, ?_, ?_, trivial⟩ ?_
                · intro a wx hT hF K hK
                  obtain ⟨f6, _⟩ := hF
                  have f6 : a.tmps.getD 6 undef = .bool (recQ x) := f6
                  refine rely_wp rfl ?_
                  exact opr_move (.inl rfl) (hK _ _ (NewT.refl _) f6)
                · intro a wx hT hF K hK
                  obtain ⟨f153, _⟩ := hF
                  have f153 : a.tmps.getD 153 undef = .bool (recQ x) := f153
                  refine rely_wp rfl ?_
                  exact opr_not rfl f153 (hK _ _ (NewT.refl _) rfl)
                · intro a wx hT hF K hK
                  obtain ⟨f154, _⟩ := hF
                  have f154 : a.tmps.getD 154 undef = .bool (!(recQ x)) := f154
                  refine rely_wp rfl ?_
                  exact opr_move (.inl rfl) (hK _ _ (NewT.refl _) f154)
                · intro a wx hT hF K hK
                  obtain ⟨f1, f155, _⟩ := hF
                  have f1 : a.tmps.getD 1 undef = .pointer (some ⟨w.heap.size, 0, none⟩) := f1
                  have f155 : a.tmps.getD 155 undef = .bool (!(recQ x)) := f155
                  refine rely_if (rely_gt f155) (NewT.refl _) hK (fun hE hK => ?_)
                  exact opr_fldR (by decide) rfl f1 (hK _ _ (NewT.refl _) rfl)
                · intro a wx hT hF K hK
                  obtain ⟨f156, f155, _⟩ := hF
                  have f156 : (!(recQ x)) = true → a.tmps.getD 156 undef = .pointer (some ⟨w.heap.size, 0, none⟩) := f156
                  have f155 : a.tmps.getD 155 undef = .bool (!(recQ x)) := f155
                  refine rely_if (rely_gt f155) (NewT.refl _) hK (fun hE hK => ?_)
                  exact opr_ldI (hT.row R1.out) (by decide) rfl rfl (f156 hE) (hK _ _ (NewT.refl _) rfl)
                · intro a wx hT hF K hK
                  obtain ⟨f157, f155, _⟩ := hF
                  have f157 : (!(recQ x)) = true → a.tmps.getD 157 undef = .int .i64 (x.kind) := f157
                  have f155 : a.tmps.getD 155 undef = .bool (!(recQ x)) := f155
                  refine rely_if (rely_gt f155) (NewT.refl _) hK (fun hE hK => ?_)
                  exact opr_cmp (b := x.kind != 6) (.inr (.inl ⟨rfl, rfl⟩)) Tryd.underlying3 rfl (f157 hE) rfl (hK _ _ (NewT.refl _) rfl)
                · intro a wx hT hF K hK
                  obtain ⟨f155, f158, _⟩ := hF
                  have f155 : a.tmps.getD 155 undef = .bool (!(recQ x)) := f155
                  have f158 : (!(recQ x)) = true → a.tmps.getD 158 undef = .bool (x.kind != 6) := f158
                  refine rely_wp rfl ?_
                  exact opr_pick_b rfl f155 (fun hb => hK _ _ (NewT.refl _) (pk_and1 (f158 hb) hb)) (fun hb => hK _ _ (NewT.refl _) (pk_and0 hb))
                · intro a wx hT hF K hK
                  obtain ⟨f159, _⟩ := hF
                  have f159 : a.tmps.getD 159 undef = .bool ((!(recQ x)) && (x.kind != 6)) := f159
                  refine rely_wp rfl ?_
                  exact opr_move (.inl rfl) (hK _ _ (NewT.refl _) f159)
                · intro a wx hT hF K hK
                  obtain ⟨f1, f160, _⟩ := hF
                  have f1 : a.tmps.getD 1 undef = .pointer (some ⟨w.heap.size, 0, none⟩) := f1
                  have f160 : a.tmps.getD 160 undef = .bool ((!(recQ x)) && (x.kind != 6)) := f160
                  refine rely_if (rely_gt f160) (NewT.refl _) hK (fun hE hK => ?_)
                  exact opr_fldR (by decide) rfl f1 (hK _ _ (NewT.refl _) rfl)
                · intro a wx hT hF K hK
                  obtain ⟨f161, f160, _⟩ := hF
                  have f161 : ((!(recQ x)) && (x.kind != 6)) = true → a.tmps.getD 161 undef = .pointer (some ⟨w.heap.size, 8, none⟩) := f161
                  have f160 : a.tmps.getD 160 undef = .bool ((!(recQ x)) && (x.kind != 6)) := f160
                  refine rely_if (rely_gt f160) (NewT.refl _) hK (fun hE hK => ?_)
                  exact opr_ldI (hT.row R1.out) (by decide) rfl rfl (f161 hE) (hK _ _ (NewT.refl _) rfl)
                · intro a wx hT hF K hK
                  obtain ⟨f162, f160, _⟩ := hF
                  have f162 : ((!(recQ x)) && (x.kind != 6)) = true → a.tmps.getD 162 undef = .int .i64 (x.part) := f162
                  have f160 : a.tmps.getD 160 undef = .bool ((!(recQ x)) && (x.kind != 6)) := f160
                  refine rely_if (rely_gt f160) (NewT.refl _) hK (fun hE hK => ?_)
                  exact opr_cmp (b := x.part != 0) (.inr (.inl ⟨rfl, rfl⟩)) Tryd.underlying3 rfl (f162 hE) rfl (hK _ _ (NewT.refl _) rfl)
                · intro a wx hT hF K hK
                  obtain ⟨f163, f160, _⟩ := hF
                  have f163 : ((!(recQ x)) && (x.kind != 6)) = true → a.tmps.getD 163 undef = .bool (x.part != 0) := f163
                  have f160 : a.tmps.getD 160 undef = .bool ((!(recQ x)) && (x.kind != 6)) := f160
                  refine rely_ifg (rely_gt f160) (NewT.refl _) hK (fun hE hK => ?_)
                  exact opr_move (.inl rfl) (hK _ _ (NewT.refl _) (f163 hE))
                · intro a wx hT hF K hK
                  obtain ⟨f1, f164, _⟩ := hF
                  have f1 : a.tmps.getD 1 undef = .pointer (some ⟨w.heap.size, 0, none⟩) := f1
                  have f164 : a.tmps.getD 164 undef = gV ((!(recQ x)) && (x.kind != 6)) (x.part != 0) := f164
                  refine rely_if (rely_ggf f164) (NewT.refl _) hK (fun hE hK => ?_)
                  exact opr_fldR (by decide) rfl f1 (hK _ _ (NewT.refl _) rfl)
                · intro a wx hT hF K hK
                  obtain ⟨f165, f164, _⟩ := hF
                  have f165 : ((!(recQ x)) && (x.kind != 6) && (!(x.part != 0))) = true → a.tmps.getD 165 undef = .pointer (some ⟨w.heap.size, 9, none⟩) := f165
                  have f164 : a.tmps.getD 164 undef = gV ((!(recQ x)) && (x.kind != 6)) (x.part != 0) := f164
                  refine rely_if (rely_ggf f164) (NewT.refl _) hK (fun hE hK => ?_)
                  exact opr_ldI (hT.row R1.out) (by decide) rfl rfl (f165 hE) (hK _ _ (NewT.refl _) rfl)
                · intro a wx hT hF K hK
                  obtain ⟨f166, f164, _⟩ := hF
                  have f166 : ((!(recQ x)) && (x.kind != 6) && (!(x.part != 0))) = true → a.tmps.getD 166 undef = .int .i64 (x.epoch) := f166
                  have f164 : a.tmps.getD 164 undef = gV ((!(recQ x)) && (x.kind != 6)) (x.part != 0) := f164
                  refine rely_if (rely_ggf f164) (NewT.refl _) hK (fun hE hK => ?_)
                  exact opr_cmp (b := x.epoch != 0) (.inr (.inl ⟨rfl, rfl⟩)) Tryd.underlying3 rfl (f166 hE) rfl (hK _ _ (NewT.refl _) rfl)
                · intro a wx hT hF K hK
                  obtain ⟨f164, f167, f160, _⟩ := hF
                  have f164 : a.tmps.getD 164 undef = gV ((!(recQ x)) && (x.kind != 6)) (x.part != 0) := f164
                  have f167 : ((!(recQ x)) && (x.kind != 6) && (!(x.part != 0))) = true → a.tmps.getD 167 undef = .bool (x.epoch != 0) := f167
                  have f160 : a.tmps.getD 160 undef = .bool ((!(recQ x)) && (x.kind != 6)) := f160
                  refine rely_if (rely_gt f160) (NewT.refl _) hK (fun hE hK => ?_)
                  exact opr_pick_b rfl (f164.trans (gV_on hE)) (fun hb => hK _ _ (NewT.refl _) (pk_or1 hb)) (fun hb => hK _ _ (NewT.refl _) (pk_or0 (f167 (band hE (bnot hb))) hb))
                · intro a wx hT hF K hK
                  obtain ⟨f160, f168, _⟩ := hF
                  have f160 : a.tmps.getD 160 undef = .bool ((!(recQ x)) && (x.kind != 6)) := f160
                  have f168 : ((!(recQ x)) && (x.kind != 6)) = true → a.tmps.getD 168 undef = .bool ((x.part != 0) || (x.epoch != 0)) := f168
                  refine rely_wp rfl ?_
                  exact opr_pick_b rfl f160 (fun hb => hK _ _ (NewT.refl _) (pn_and1 Q1_16 (f168 hb) hb)) (fun hb => hK _ _ (NewT.refl _) (pn_and0 Q1_16 hb))
                · intro w16 k16
                  intro u h; obtain rfl := Eq.symm (h (by simp)); clear h
                  intro u h; obtain rfl := Eq.symm (h (by simp)); clear h
                  intro u h; obtain rfl := Eq.symm (h (by simp)); clear h
                  intro _ _
                  intro _ _
                  intro _ _
                  intro u h; obtain rfl := Eq.symm (h (by simp)); clear h
                  intro u h; obtain rfl := Eq.symm (h (by simp)); clear h
                  intro _ _
                  intro _ _
                  intro _ _
                  intro _ _
                  intro _ _
                  intro _ _
                  intro _ _
                  intro _ _
                  intro u h; obtain rfl := Eq.symm (h (by simp)); clear h
                  subst Q1_16
                  refine relyEnd_nil rfl ?_
                  refine wpList_end rfl ?_
                  simp only [Act.put, List.setIfInBounds_toArray, List.set_cons_zero, List.set_cons_succ]
                  go_simp
                  replace R1 := Lib.hid (k16.row R1.out)
                  replace R3 := Lib.hid (k16.row R3.out)
                  replace HS := Lib.hid (k16.pairs HS.out)
                  replace HD := Lib.hid (k16.rd HD.out)
                  replace HN := Lib.hid (NewT.trans _ _ _ HN.out k16)
                  clear k16
                  cases hb16 : ((((!(recQ x)) && (x.kind != 6)) && ((x.part != 0) || (x.epoch != 0))))
                  rotate_left
                  · have HB16 := Lib.hid hb16
                    clear hb16
                    go_wp2
                    go_ret
                    exact ⟨_, rfl, HN.out, by unfold refR; rw [if_neg (by rw [HB3.out]; decide)]; rw [if_neg (by rw [HB6.out]; decide)]; rw [if_neg (by rw [HB10.out]; decide)]; rw [if_neg (by rw [HB12.out]; decide)]; rw [if_neg (by rw [HB14.out]; decide)]; rw [if_pos HB16.out]; rfl⟩
                  have HB16 := Lib.hid hb16
                  clear hb16
                  go_upto_region 18 with fail
                  refine wp_region_steps0 NewT [SV.eq (.bool (begQ x)), SV.eq (.bool (!(begQ x)))] [([(4, none)], none), ([(170, some 0)], none)] 251 2 rfl rfl (by kernel_rfl) NewT.trans (NewT.refl _) (Nat.le_of_ble_eq_true rfl) ⟨?_, ?_, trivial⟩ ?_
                  · intro a wx hT hF K hK
                    obtain ⟨f4, _⟩ := hF
                    have f4 : a.tmps.getD 4 undef = .bool (begQ x) := f4
                    refine rely_wp rfl ?_
                    exact opr_move (.inl rfl) (hK _ _ (NewT.refl _) f4)
                  · intro a wx hT hF K hK
                    obtain ⟨f170, _⟩ := hF
                    have f170 : a.tmps.getD 170 undef = .bool (begQ x) := f170
                    refine rely_wp rfl ?_
                    exact opr_not rfl f170 (hK _ _ (NewT.refl _) rfl)
                  · intro w18 k18
                    intro u h; obtain rfl := Eq.symm (h (by simp)); clear h
                    intro u h; obtain rfl := Eq.symm (h (by simp)); clear h
                    refine relyEnd_nil rfl ?_
                    refine wpList_end rfl ?_
                    simp only [Act.put, List.setIfInBounds_toArray, List.set_cons_zero, List.set_cons_succ]
                    go_simp
                    replace R1 := Lib.hid (k18.row R1.out)
                    replace R3 := Lib.hid (k18.row R3.out)
                    replace HS := Lib.hid (k18.pairs HS.out)
                    replace HD := Lib.hid (k18.rd HD.out)
                    replace HN := Lib.hid (NewT.trans _ _ _ HN.out k18)
                    clear k18
                    cases hb18 : (!(begQ x))
                    rotate_left
                    · have HB18 := Lib.hid hb18
                      clear hb18
                      go_upto_region 19 with fail
                      obtain ⟨q1_19, Q1_19⟩ : ∃ q, ((((List.length (x.steps) : Int)) == 0) && (((List.length (x.data) : Int)) == 0)) = q := ⟨_, rfl⟩
                      obtain ⟨q2_19, Q2_19⟩ : ∃ q, (q1_19 && (eqH (x.salt) (fun _ => 0))) = q := ⟨_, rfl⟩
                      obtain ⟨q3_19, Q3_19⟩ : ∃ q, ((q2_19 && (!x.gone)) && (eqH (x.com) (fun _ => 0))) = q := ⟨_, rfl⟩
                      refine wp_region_steps0 NewT [SV.eq (.pointer (some ⟨w.heap.size, 42, none⟩)), SV.eq (sv), SV.eq (.int .i64 ((List.length (x.steps) : Int))), SV.eq (.bool (((List.length (x.steps) : Int)) == 0)), SV.eq (.bool (((List.length (x.steps) : Int)) == 0)), svIf (((List.length (x.steps) : Int)) == 0) (SV.eq (.pointer (some ⟨w.heap.size, 43, none⟩))), svIf (((List.length (x.steps) : Int)) == 0) (SV.eq (dv)), svIf (((List.length (x.steps) : Int)) == 0) (SV.eq (.int .i64 ((List.length (x.data) : Int)))), svIf (((List.length (x.steps) : Int)) == 0) (SV.eq (.bool (((List.length (x.data) : Int)) == 0))), SV.eq (.bool (q1_19)), SV.eq (.bool (q1_19)), svIf q1_19 (SV.eq (.pointer (some ⟨w.heap.size, 44, none⟩))), svIf q1_19 (SV.eq (.agg (rowA 32 (bF (x.salt))))), svIf q1_19 (SV.eq (.agg (rowA 32 (bF (fun _ => 0))))), svIf q1_19 (SV.eq (.bool (eqH (x.salt) (fun _ => 0)))), SV.eq (.bool (q2_19)), SV.eq (.bool (q2_19)), svIf q2_19 (SV.eq (.pointer (some ⟨w.heap.size, 76, none⟩))), svIf q2_19 (SV.eq (.bool (x.gone))), svIf q2_19 (SV.eq (.bool (!x.gone))), SV.eq (.bool (q2_19 && (!x.gone))), SV.eq (.bool (q2_19 && (!x.gone))), svIf (q2_19 && (!x.gone)) (SV.eq (.pointer (some ⟨w.heap.size, 77, none⟩))), svIf (q2_19 && (!x.gone)) (SV.eq (.agg (rowA 32 (bF (x.com))))), svIf (q2_19 && (!x.gone)) (SV.eq (.agg (rowA 32 (bF (fun _ => 0))))), svIf (q2_19 && (!x.gone)) (SV.eq (.bool (eqH (x.com) (fun _ => 0)))), SV.eq (.bool (q3_19))] [([(1, none)], none), ([(172, some 0)], none), ([(173, some 1)], none), ([(174, some 2)], none), ([(175, some 3)], none), ([(1, none), (176, some 4)], some (176, true)), ([(177, some 5), (176, some 4)], some (176, true)), ([(178, some 6), (176, some 4)], some (176, true)), ([(179, some 7), (176, some 4)], some (176, true)), ([(176, some 4), (180, some 8)], none), ([(181, some 9)], none), ([(1, none), (182, some 10)], some (182, true)), ([(183, some 11), (182, some 10)], some (182, true)), ([(3, none), (182, some 10)], some (182, true)), ([(184, some 12), (185, some 13), (182, some 10)], some (182, true)), ([(182, some 10), (186, some 14)], none), ([(187, some 15)], none), ([(1, none), (188, some 16)], some (188, true)), ([(189, some 17), (188, some 16)], some (188, true)), ([(190, some 18), (188, some 16)], some (188, true)), ([(188, some 16), (191, some 19)], none), ([(192, some 20)], none), ([(1, none), (193, some 21)], some (193, true)), ([(194, some 22), (193, some 21)], some (193, true)), ([(3, none), (193, some 21)], some (193, true)), ([(195, some 23), (196, some 24), (193, some 21)], some (193, true)), ([(193, some 21), (197, some 25)], none)] 251 27 rfl rfl (by kernel_rfl) NewT.trans (NewT.refl _) (Nat.le_of_ble_eq_true rfl) ⟨?_, ?_, ?_, ?_, ?_, ?_, ?_, ?_, ?_, ?_, ?_, ?_, ?_, ?_, ?_, ?_, ?_, ?_, ?_, ?_, ?_, ?_, ?_, ?_, ?_, ?_, ?_, trivial⟩ ?_
                      · intro a wx hT hF K hK
                        obtain ⟨f1, _⟩ := hF
                        have f1 : a.tmps.getD 1 undef = .pointer (some ⟨w.heap.size, 0, none⟩) := f1
                        refine rely_wp rfl ?_
                        exact opr_fldR (by decide) rfl f1 (hK _ _ (NewT.refl _) rfl)
                      · intro a wx hT hF K hK
                        obtain ⟨f172, _⟩ := hF
                        have f172 : a.tmps.getD 172 undef = .pointer (some ⟨w.heap.size, 42, none⟩) := f172
                        refine rely_wp rfl ?_
                        exact opr_ldS (hT.row R1.out) (by decide) rfl rfl f172 (hK _ _ (NewT.refl _) rfl)
                      · intro a wx hT hF K hK
                        obtain ⟨f173, _⟩ := hF
                        have f173 : a.tmps.getD 173 undef = sv := f173
                        refine rely_wp rfl ?_
                        exact opr_len_pairs rfl (by rw [eval_tmp, f173]; exact (hT.pairs HS.out)) (hK _ _ (NewT.refl _) rfl)
                      · intro a wx hT hF K hK
                        obtain ⟨f174, _⟩ := hF
                        have f174 : a.tmps.getD 174 undef = .int .i64 ((List.length (x.steps) : Int)) := f174
                        refine rely_wp rfl ?_
                        exact opr_cmp (b := ((List.length (x.steps) : Int)) == 0) (.inl ⟨rfl, rfl⟩) Tryd.underlying3 rfl f174 rfl (hK _ _ (NewT.refl _) rfl)
                      · intro a wx hT hF K hK
                        obtain ⟨f175, _⟩ := hF
                        have f175 : a.tmps.getD 175 undef = .bool (((List.length (x.steps) : Int)) == 0) := f175
                        refine rely_wp rfl ?_
                        exact opr_move (.inl rfl) (hK _ _ (NewT.refl _) f175)
                      · intro a wx hT hF K hK
                        obtain ⟨f1, f176, _⟩ := hF
                        have f1 : a.tmps.getD 1 undef = .pointer (some ⟨w.heap.size, 0, none⟩) := f1
                        have f176 : a.tmps.getD 176 undef = .bool (((List.length (x.steps) : Int)) == 0) := f176
                        refine rely_if (rely_gt f176) (NewT.refl _) hK (fun hE hK => ?_)
                        exact opr_fldR (by decide) rfl f1 (hK _ _ (NewT.refl _) rfl)
                      · intro a wx hT hF K hK
                        obtain ⟨f177, f176, _⟩ := hF
                        have f177 : (((List.length (x.steps) : Int)) == 0) = true → a.tmps.getD 177 undef = .pointer (some ⟨w.heap.size, 43, none⟩) := f177
                        have f176 : a.tmps.getD 176 undef = .bool (((List.length (x.steps) : Int)) == 0) := f176
                        refine rely_if (rely_gt f176) (NewT.refl _) hK (fun hE hK => ?_)
                        exact opr_ldB (hT.row R1.out) (by decide) rfl rfl (f177 hE) (hK _ _ (NewT.refl _) rfl)
                      · intro a wx hT hF K hK
                        obtain ⟨f178, f176, _⟩ := hF
                        have f178 : (((List.length (x.steps) : Int)) == 0) = true → a.tmps.getD 178 undef = dv := f178
                        have f176 : a.tmps.getD 176 undef = .bool (((List.length (x.steps) : Int)) == 0) := f176
                        refine rely_if (rely_gt f176) (NewT.refl _) hK (fun hE hK => ?_)
                        exact opr_len_rd rfl (by rw [eval_tmp, (f178 hE)]; exact (hT.rd HD.out)) (hK _ _ (NewT.refl _) rfl)
                      · intro a wx hT hF K hK
                        obtain ⟨f179, f176, _⟩ := hF
                        have f179 : (((List.length (x.steps) : Int)) == 0) = true → a.tmps.getD 179 undef = .int .i64 ((List.length (x.data) : Int)) := f179
                        have f176 : a.tmps.getD 176 undef = .bool (((List.length (x.steps) : Int)) == 0) := f176
                        refine rely_if (rely_gt f176) (NewT.refl _) hK (fun hE hK => ?_)
                        exact opr_cmp (b := ((List.length (x.data) : Int)) == 0) (.inl ⟨rfl, rfl⟩) Tryd.underlying3 rfl (f179 hE) rfl (hK _ _ (NewT.refl _) rfl)
                      · intro a wx hT hF K hK
                        obtain ⟨f176, f180, _⟩ := hF
                        have f176 : a.tmps.getD 176 undef = .bool (((List.length (x.steps) : Int)) == 0) := f176
                        have f180 : (((List.length (x.steps) : Int)) == 0) = true → a.tmps.getD 180 undef = .bool (((List.length (x.data) : Int)) == 0) := f180
                        refine rely_wp rfl ?_
                        exact opr_pick_b rfl f176 (fun hb => hK _ _ (NewT.refl _) (pn_and1 Q1_19 (f180 hb) hb)) (fun hb => hK _ _ (NewT.refl _) (pn_and0 Q1_19 hb))
                      · intro a wx hT hF K hK
                        obtain ⟨f181, _⟩ := hF
                        have f181 : a.tmps.getD 181 undef = .bool (q1_19) := f181
                        refine rely_wp rfl ?_
                        exact opr_move (.inl rfl) (hK _ _ (NewT.refl _) f181)
                      · intro a wx hT hF K hK
                        obtain ⟨f1, f182, _⟩ := hF
                        have f1 : a.tmps.getD 1 undef = .pointer (some ⟨w.heap.size, 0, none⟩) := f1
                        have f182 : a.tmps.getD 182 undef = .bool (q1_19) := f182
                        refine rely_if (rely_gt f182) (NewT.refl _) hK (fun hE hK => ?_)
                        exact opr_fldR (by decide) rfl f1 (hK _ _ (NewT.refl _) rfl)
                      · intro a wx hT hF K hK
                        obtain ⟨f183, f182, _⟩ := hF
                        have f183 : q1_19 = true → a.tmps.getD 183 undef = .pointer (some ⟨w.heap.size, 44, none⟩) := f183
                        have f182 : a.tmps.getD 182 undef = .bool (q1_19) := f182
                        refine rely_if (rely_gt f182) (NewT.refl _) hK (fun hE hK => ?_)
                        exact opr_ldH (hT.row R1.out) (by decide) (recF_salt x _ _) rfl (f183 hE) (hK _ _ (NewT.refl _) rfl)
                      · intro a wx hT hF K hK
                        obtain ⟨f3, f182, _⟩ := hF
                        have f3 : a.tmps.getD 3 undef = .pointer (some ⟨w.heap.size + 1, 0, none⟩) := f3
                        have f182 : a.tmps.getD 182 undef = .bool (q1_19) := f182
                        refine rely_if (rely_gt f182) (NewT.refl _) hK (fun hE hK => ?_)
                        exact opr_load_hash rfl f3 (hT.row R3.out) (hK _ _ (NewT.refl _) rfl)
                      · intro a wx hT hF K hK
                        obtain ⟨f184, f185, f182, _⟩ := hF
                        have f184 : q1_19 = true → a.tmps.getD 184 undef = .agg (rowA 32 (bF (x.salt))) := f184
                        have f185 : q1_19 = true → a.tmps.getD 185 undef = .agg (rowA 32 (bF (fun _ => 0))) := f185
                        have f182 : a.tmps.getD 182 undef = .bool (q1_19) := f182
                        refine rely_if (rely_gt f182) (NewT.refl _) hK (fun hE hK => ?_)
                        exact opr_eql_hash (b := eqH (x.salt) (fun _ => 0)) rfl (f184 hE) (f185 hE) (rfl) (hK _ _ (NewT.refl _) rfl)
                      · intro a wx hT hF K hK
                        obtain ⟨f182, f186, _⟩ := hF
                        have f182 : a.tmps.getD 182 undef = .bool (q1_19) := f182
                        have f186 : q1_19 = true → a.tmps.getD 186 undef = .bool (eqH (x.salt) (fun _ => 0)) := f186
                        refine rely_wp rfl ?_
                        exact opr_pick_b rfl f182 (fun hb => hK _ _ (NewT.refl _) (pn_and1 Q2_19 (f186 hb) hb)) (fun hb => hK _ _ (NewT.refl _) (pn_and0 Q2_19 hb))
                      · intro a wx hT hF K hK
                        obtain ⟨f187, _⟩ := hF
                        have f187 : a.tmps.getD 187 undef = .bool (q2_19) := f187
                        refine rely_wp rfl ?_
                        exact opr_move (.inl rfl) (hK _ _ (NewT.refl _) f187)
                      · intro a wx hT hF K hK
                        obtain ⟨f1, f188, _⟩ := hF
                        have f1 : a.tmps.getD 1 undef = .pointer (some ⟨w.heap.size, 0, none⟩) := f1
                        have f188 : a.tmps.getD 188 undef = .bool (q2_19) := f188
                        refine rely_if (rely_gt f188) (NewT.refl _) hK (fun hE hK => ?_)
                        exact opr_fldR (by decide) rfl f1 (hK _ _ (NewT.refl _) rfl)
                      · intro a wx hT hF K hK
                        obtain ⟨f189, f188, _⟩ := hF
                        have f189 : q2_19 = true → a.tmps.getD 189 undef = .pointer (some ⟨w.heap.size, 76, none⟩) := f189
                        have f188 : a.tmps.getD 188 undef = .bool (q2_19) := f188
                        refine rely_if (rely_gt f188) (NewT.refl _) hK (fun hE hK => ?_)
                        exact opr_ldQ (hT.row R1.out) (by decide) rfl rfl (f189 hE) (hK _ _ (NewT.refl _) rfl)
                      · intro a wx hT hF K hK
                        obtain ⟨f190, f188, _⟩ := hF
                        have f190 : q2_19 = true → a.tmps.getD 190 undef = .bool (x.gone) := f190
                        have f188 : a.tmps.getD 188 undef = .bool (q2_19) := f188
                        refine rely_if (rely_gt f188) (NewT.refl _) hK (fun hE hK => ?_)
                        exact opr_not rfl (f190 hE) (hK _ _ (NewT.refl _) rfl)
                      · intro a wx hT hF K hK
                        obtain ⟨f188, f191, _⟩ := hF
                        have f188 : a.tmps.getD 188 undef = .bool (q2_19) := f188
                        have f191 : q2_19 = true → a.tmps.getD 191 undef = .bool (!x.gone) := f191
                        refine rely_wp rfl ?_
                        exact opr_pick_b rfl f188 (fun hb => hK _ _ (NewT.refl _) (pk_and1 (f191 hb) hb)) (fun hb => hK _ _ (NewT.refl _) (pk_and0 hb))
                      · intro a wx hT hF K hK
                        obtain ⟨f192, _⟩ := hF
                        have f192 : a.tmps.getD 192 undef = .bool (q2_19 && (!x.gone)) := f192
                        refine rely_wp rfl ?_
                        exact opr_move (.inl rfl) (hK _ _ (NewT.refl _) f192)
                      · intro a wx hT hF K hK
                        obtain ⟨f1, f193, _⟩ := hF
                        have f1 : a.tmps.getD 1 undef = .pointer (some ⟨w.heap.size, 0, none⟩) := f1
                        have f193 : a.tmps.getD 193 undef = .bool (q2_19 && (!x.gone)) := f193
                        refine rely_if (rely_gt f193) (NewT.refl _) hK (fun hE hK => ?_)
                        exact opr_fldR (by decide) rfl f1 (hK _ _ (NewT.refl _) rfl)
                      · intro a wx hT hF K hK
                        obtain ⟨f194, f193, _⟩ := hF
                        have f194 : (q2_19 && (!x.gone)) = true → a.tmps.getD 194 undef = .pointer (some ⟨w.heap.size, 77, none⟩) := f194
                        have f193 : a.tmps.getD 193 undef = .bool (q2_19 && (!x.gone)) := f193
                        refine rely_if (rely_gt f193) (NewT.refl _) hK (fun hE hK => ?_)
                        exact opr_ldH (hT.row R1.out) (by decide) (recF_com x _ _) rfl (f194 hE) (hK _ _ (NewT.refl _) rfl)
                      · intro a wx hT hF K hK
                        obtain ⟨f3, f193, _⟩ := hF
                        have f3 : a.tmps.getD 3 undef = .pointer (some ⟨w.heap.size + 1, 0, none⟩) := f3
                        have f193 : a.tmps.getD 193 undef = .bool (q2_19 && (!x.gone)) := f193
                        refine rely_if (rely_gt f193) (NewT.refl _) hK (fun hE hK => ?_)
                        exact opr_load_hash rfl f3 (hT.row R3.out) (hK _ _ (NewT.refl _) rfl)
                      · intro a wx hT hF K hK
                        obtain ⟨f195, f196, f193, _⟩ := hF
                        have f195 : (q2_19 && (!x.gone)) = true → a.tmps.getD 195 undef = .agg (rowA 32 (bF (x.com))) := f195
                        have f196 : (q2_19 && (!x.gone)) = true → a.tmps.getD 196 undef = .agg (rowA 32 (bF (fun _ => 0))) := f196
                        have f193 : a.tmps.getD 193 undef = .bool (q2_19 && (!x.gone)) := f193
                        refine rely_if (rely_gt f193) (NewT.refl _) hK (fun hE hK => ?_)
                        exact opr_eql_hash (b := eqH (x.com) (fun _ => 0)) rfl (f195 hE) (f196 hE) (rfl) (hK _ _ (NewT.refl _) rfl)
                      · intro a wx hT hF K hK
                        obtain ⟨f193, f197, _⟩ := hF
                        have f193 : a.tmps.getD 193 undef = .bool (q2_19 && (!x.gone)) := f193
                        have f197 : (q2_19 && (!x.gone)) = true → a.tmps.getD 197 undef = .bool (eqH (x.com) (fun _ => 0)) := f197
                        refine rely_wp rfl ?_
                        exact opr_pick_b rfl f193 (fun hb => hK _ _ (NewT.refl _) (pn_and1 Q3_19 (f197 hb) hb)) (fun hb => hK _ _ (NewT.refl _) (pn_and0 Q3_19 hb))
                      · intro w19 k19
                        intro u h; obtain rfl := Eq.symm (h (by simp)); clear h
                        intro u h; obtain rfl := Eq.symm (h (by simp)); clear h
                        intro u h; obtain rfl := Eq.symm (h (by simp)); clear h
                        intro u h; obtain rfl := Eq.symm (h (by simp)); clear h
                        intro u h; obtain rfl := Eq.symm (h (by simp)); clear h
                        intro _ _
                        intro _ _
                        intro _ _
                        intro _ _
                        intro u h; obtain rfl := Eq.symm (h (by simp)); clear h
                        intro u h; obtain rfl := Eq.symm (h (by simp)); clear h
                        intro _ _
                        intro _ _
                        intro _ _
                        intro _ _
                        intro u h; obtain rfl := Eq.symm (h (by simp)); clear h
                        intro u h; obtain rfl := Eq.symm (h (by simp)); clear h
                        intro _ _
                        intro _ _
                        intro _ _
                        intro u h; obtain rfl := Eq.symm (h (by simp)); clear h
                        intro u h; obtain rfl := Eq.symm (h (by simp)); clear h
                        intro _ _
                        intro _ _
                        intro _ _
                        intro _ _
                        intro u h; obtain rfl := Eq.symm (h (by simp)); clear h
                        subst Q3_19 Q2_19 Q1_19
                        refine relyEnd_nil rfl ?_
                        simp only [Act.put, List.setIfInBounds_toArray, List.set_cons_zero, List.set_cons_succ]
                        refine wpList_plain rfl (fun K hK => ?_)
                        refine opr_move (.inr rfl) (hK _ _ ?_)
                        refine wpList_end rfl ?_
                        go_simp
                        replace R1 := Lib.hid (k19.row R1.out)
                        replace R3 := Lib.hid (k19.row R3.out)
                        replace HS := Lib.hid (k19.pairs HS.out)
                        replace HD := Lib.hid (k19.rd HD.out)
                        replace HN := Lib.hid (NewT.trans _ _ _ HN.out k19)
                        clear k19
                        go_wp2
                        go_ret
                        exact ⟨_, rfl, HN.out, by unfold refR; rw [if_neg (by rw [HB3.out]; decide)]; rw [if_neg (by rw [HB6.out]; decide)]; rw [if_neg (by rw [HB10.out]; decide)]; rw [if_neg (by rw [HB12.out]; decide)]; rw [if_neg (by rw [HB14.out]; decide)]; rw [if_neg (by rw [HB16.out]; decide)]; rw [if_pos HB18.out]; rfl⟩
                    have HB18 := Lib.hid hb18
                    clear hb18
                    obtain ⟨A0, cap, rfl, p1, p2, p3⟩ := HS.out
                    have P3 := Lib.hid p3
                    have HSo := HS
                    unfold maxLen at p2
                    clear p3
                    have c42 : w18.cell? ⟨w.heap.size, 42, none⟩ = some (.slice A0 x.steps.length cap) := R1.out.cell (i := 42) (by omega)
                    go_wp2
                    go_loopw [7] (fun i wr => ∃ k : Nat, k ≤ x.steps.length ∧ i = .int .i64 k ∧ Hid ((x.steps.take k).all stepOk = true) ∧ NewT w18 wr) (fun i _ => x.steps.length - (intOf i).toNat)
                    case atStart => exact ⟨0, by omega, rfl, Lib.hid (by simp), NewT.refl _⟩
                    case round =>
                      obtain ⟨k, hk, rfl, Hs, qN⟩ := hrel
                      replace c42 := (qN.out.cell (p := ⟨w.heap.size, 42, none⟩) (World.block_lt_of_cell? _ _ c42)).trans c42
                      replace R1 := Lib.hid (qN.row R1.out)
                      replace R3 := Lib.hid (qN.row R3.out)
                      replace HD := Lib.hid (qN.rd HD.out)
                      replace HSo := Lib.hid (qN.pairs HSo.out)
                      by_cases hlt : k < x.steps.length
                      · obtain ⟨b, o, rfl, hcell⟩ := P3.out (by omega)
                        obtain ⟨j0, j1⟩ := hcell k hlt
                        have k0 := (qN.out.cell (p := ⟨b, o + 2 * k, none⟩) (World.block_lt_of_cell? _ _ j0)).trans j0
                        have k1 := (qN.out.cell (p := ⟨b, o + 2 * k + 1, none⟩) (World.block_lt_of_cell? _ _ j1)).trans j1
                        have Hal := Lib.hid (all_next x.steps k hlt)
                        have Hno := Lib.hid (all_not x.steps k hlt)
                        clear hcell j0 j1
                        generalize x.steps.getD k (0, 0) = s at k0 k1 Hal Hno
                        have it : (k : Int) < (x.steps.length : Int) := by omega
                        go_upto_region 23 with fail
                        obtain ⟨q1_23, Q1_23⟩ : ∃ q, ((!(inR s.1 0 3)) || (!(inR s.2 1 3))) = q := ⟨_, rfl⟩
                        refine wp_region_steps0 NewT [SV.eq (.pointer (some ⟨w.heap.size, 42, none⟩)), SV.eq ((.slice (some ⟨b, o, none⟩) x.steps.length cap)), SV.eq (.int .i64 ((k : Int))), SV.eq (.pointer (some ⟨b, o + 2 * k, none⟩)), SV.eq (.pointer (some ⟨b, o + 2 * k + 0, none⟩)), SV.eq (.int .i64 (s.1)), SV.eq (.bool (inR s.1 0 3)), SV.eq (.bool (!(inR s.1 0 3))), SV.eq (.bool (!(inR s.1 0 3))), svIf ((!(!(inR s.1 0 3)))) (SV.eq (.pointer (some ⟨w.heap.size, 42, none⟩))), svIf ((!(!(inR s.1 0 3)))) (SV.eq ((.slice (some ⟨b, o, none⟩) x.steps.length cap))), svIf ((!(!(inR s.1 0 3)))) (SV.eq (.int .i64 ((k : Int)))), svIf ((!(!(inR s.1 0 3)))) (SV.eq (.pointer (some ⟨b, o + 2 * k, none⟩))), svIf ((!(!(inR s.1 0 3)))) (SV.eq (.pointer (some ⟨b, o + 2 * k + 1, none⟩))), svIf ((!(!(inR s.1 0 3)))) (SV.eq (.int .i64 (s.2))), svIf ((!(!(inR s.1 0 3)))) (SV.eq (.bool (inR s.2 1 3))), svIf ((!(!(inR s.1 0 3)))) (SV.eq (.bool (!(inR s.2 1 3)))), SV.eq (.bool (q1_23))] [([(1, none)], none), ([(206, some 0)], none), ([(7, none)], none), ([(207, some 1), (208, some 2)], none), ([(209, some 3)], none), ([(210, some 4)], none), ([(211, some 5)], none), ([(212, some 6)], none), ([(213, some 7)], none), ([(1, none), (214, some 8)], some (214, false)), ([(215, some 9), (214, some 8)], some (214, false)), ([(7, none), (214, some 8)], some (214, false)), ([(216, some 10), (217, some 11), (214, some 8)], some (214, false)), ([(218, some 12), (214, some 8)], some (214, false)), ([(219, some 13), (214, some 8)], some (214, false)), ([(220, some 14), (214, some 8)], some (214, false)), ([(221, some 15), (214, some 8)], some (214, false)), ([(214, some 8), (222, some 16)], none)] 251 18 rfl rfl (by kernel_rfl) NewT.trans (NewT.refl _) (Nat.le_of_ble_eq_true rfl) ⟨?_, ?_, ?_, ?_, ?_, ?_, ?_, ?_, ?_, ?_, ?_, ?_, ?_, ?_, ?_, ?_, ?_, ?_, trivial⟩ ?_
                        · intro a wx hT hF K hK
                          obtain ⟨f1, _⟩ := hF
                          have f1 : a.tmps.getD 1 undef = .pointer (some ⟨w.heap.size, 0, none⟩) := f1
                          refine rely_wp rfl ?_
                          exact opr_fldR (by decide) rfl f1 (hK _ _ (NewT.refl _) rfl)
                        · intro a wx hT hF K hK
                          obtain ⟨f206, _⟩ := hF
                          have f206 : a.tmps.getD 206 undef = .pointer (some ⟨w.heap.size, 42, none⟩) := f206
                          refine rely_wp rfl ?_
                          exact opr_ldS (hT.row R1.out) (by decide) rfl rfl f206 (hK _ _ (NewT.refl _) rfl)
                        · intro a wx hT hF K hK
                          obtain ⟨f7, _⟩ := hF
                          have f7 : a.tmps.getD 7 undef = .int .i64 ((k : Int)) := f7
                          refine rely_wp rfl ?_
                          exact opr_move (.inl rfl) (hK _ _ (NewT.refl _) f7)
                        · intro a wx hT hF K hK
                          obtain ⟨f207, f208, _⟩ := hF
                          have f207 : a.tmps.getD 207 undef = (.slice (some ⟨b, o, none⟩) x.steps.length cap) := f207
                          have f208 : a.tmps.getD 208 undef = .int .i64 ((k : Int)) := f208
                          refine rely_wp rfl ?_
                          exact opr_idxS hlt rfl f207 f208 (hK _ _ (NewT.refl _) rfl)
                        · intro a wx hT hF K hK
                          obtain ⟨f209, _⟩ := hF
                          have f209 : a.tmps.getD 209 undef = .pointer (some ⟨b, o + 2 * k, none⟩) := f209
                          refine rely_wp rfl ?_
                          exact opr_fldS (by decide) rfl f209 (hK _ _ (NewT.refl _) rfl)
                        · intro a wx hT hF K hK
                          obtain ⟨f210, _⟩ := hF
                          have f210 : a.tmps.getD 210 undef = .pointer (some ⟨b, o + 2 * k + 0, none⟩) := f210
                          refine rely_wp rfl ?_
                          exact opr_ld1 Tryd.underlying3 rfl rfl f210 (show wx.cell? ⟨b, o + 2 * k + 0, none⟩ = _ from (hT.out.cell (World.block_lt_of_cell? _ _ k0)).trans k0) (hK _ _ (NewT.refl _) rfl)
                        · intro a wx hT hF K hK
                          obtain ⟨f211, _⟩ := hF
                          have f211 : a.tmps.getD 211 undef = .int .i64 (s.1) := f211
                          refine rely_wp rfl ?_
                          exact opr_cv (refIn_cv s.1 0 3 wx) rfl Tryd.func30 (by kernel_rfl) (by kernel_rfl) (by simp only [List.map_toArray, List.map_cons, List.map_nil, eval_tmp, eval_const, f211]) hK
                        · intro a wx hT hF K hK
                          obtain ⟨f212, _⟩ := hF
                          have f212 : a.tmps.getD 212 undef = .bool (inR s.1 0 3) := f212
                          refine rely_wp rfl ?_
                          exact opr_not rfl f212 (hK _ _ (NewT.refl _) rfl)
                        · intro a wx hT hF K hK
                          obtain ⟨f213, _⟩ := hF
                          have f213 : a.tmps.getD 213 undef = .bool (!(inR s.1 0 3)) := f213
                          refine rely_wp rfl ?_
                          exact opr_move (.inl rfl) (hK _ _ (NewT.refl _) f213)
                        · intro a wx hT hF K hK
                          obtain ⟨f1, f214, _⟩ := hF
                          have f1 : a.tmps.getD 1 undef = .pointer (some ⟨w.heap.size, 0, none⟩) := f1
                          have f214 : a.tmps.getD 214 undef = .bool (!(inR s.1 0 3)) := f214
                          refine rely_if (rely_gf f214) (NewT.refl _) hK (fun hE hK => ?_)
                          exact opr_fldR (by decide) rfl f1 (hK _ _ (NewT.refl _) rfl)
                        · intro a wx hT hF K hK
                          obtain ⟨f215, f214, _⟩ := hF
                          have f215 : ((!(!(inR s.1 0 3)))) = true → a.tmps.getD 215 undef = .pointer (some ⟨w.heap.size, 42, none⟩) := f215
                          have f214 : a.tmps.getD 214 undef = .bool (!(inR s.1 0 3)) := f214
                          refine rely_if (rely_gf f214) (NewT.refl _) hK (fun hE hK => ?_)
                          exact opr_ldS (hT.row R1.out) (by decide) rfl rfl (f215 hE) (hK _ _ (NewT.refl _) rfl)
                        · intro a wx hT hF K hK
                          obtain ⟨f7, f214, _⟩ := hF
                          have f7 : a.tmps.getD 7 undef = .int .i64 ((k : Int)) := f7
                          have f214 : a.tmps.getD 214 undef = .bool (!(inR s.1 0 3)) := f214
                          refine rely_if (rely_gf f214) (NewT.refl _) hK (fun hE hK => ?_)
                          exact opr_move (.inl rfl) (hK _ _ (NewT.refl _) f7)
                        · intro a wx hT hF K hK
                          obtain ⟨f216, f217, f214, _⟩ := hF
                          have f216 : ((!(!(inR s.1 0 3)))) = true → a.tmps.getD 216 undef = (.slice (some ⟨b, o, none⟩) x.steps.length cap) := f216
                          have f217 : ((!(!(inR s.1 0 3)))) = true → a.tmps.getD 217 undef = .int .i64 ((k : Int)) := f217
                          have f214 : a.tmps.getD 214 undef = .bool (!(inR s.1 0 3)) := f214
                          refine rely_if (rely_gf f214) (NewT.refl _) hK (fun hE hK => ?_)
                          exact opr_idxS hlt rfl (f216 hE) (f217 hE) (hK _ _ (NewT.refl _) rfl)
                        · intro a wx hT hF K hK
                          obtain ⟨f218, f214, _⟩ := hF
                          have f218 : ((!(!(inR s.1 0 3)))) = true → a.tmps.getD 218 undef = .pointer (some ⟨b, o + 2 * k, none⟩) := f218
                          have f214 : a.tmps.getD 214 undef = .bool (!(inR s.1 0 3)) := f214
                          refine rely_if (rely_gf f214) (NewT.refl _) hK (fun hE hK => ?_)
                          exact opr_fldS (by decide) rfl (f218 hE) (hK _ _ (NewT.refl _) rfl)
                        · intro a wx hT hF K hK
                          obtain ⟨f219, f214, _⟩ := hF
                          have f219 : ((!(!(inR s.1 0 3)))) = true → a.tmps.getD 219 undef = .pointer (some ⟨b, o + 2 * k + 1, none⟩) := f219
                          have f214 : a.tmps.getD 214 undef = .bool (!(inR s.1 0 3)) := f214
                          refine rely_if (rely_gf f214) (NewT.refl _) hK (fun hE hK => ?_)
                          exact opr_ld1 Tryd.underlying3 rfl rfl (f219 hE) (show wx.cell? ⟨b, o + 2 * k + 1, none⟩ = _ from (hT.out.cell (World.block_lt_of_cell? _ _ k1)).trans k1) (hK _ _ (NewT.refl _) rfl)
                        · intro a wx hT hF K hK
                          obtain ⟨f220, f214, _⟩ := hF
                          have f220 : ((!(!(inR s.1 0 3)))) = true → a.tmps.getD 220 undef = .int .i64 (s.2) := f220
                          have f214 : a.tmps.getD 214 undef = .bool (!(inR s.1 0 3)) := f214
                          refine rely_if (rely_gf f214) (NewT.refl _) hK (fun hE hK => ?_)
                          exact opr_cv (refIn_cv s.2 1 3 wx) rfl Tryd.func30 (by kernel_rfl) (by kernel_rfl) (by simp only [List.map_toArray, List.map_cons, List.map_nil, eval_tmp, eval_const, (f220 hE)]) hK
                        · intro a wx hT hF K hK
                          obtain ⟨f221, f214, _⟩ := hF
                          have f221 : ((!(!(inR s.1 0 3)))) = true → a.tmps.getD 221 undef = .bool (inR s.2 1 3) := f221
                          have f214 : a.tmps.getD 214 undef = .bool (!(inR s.1 0 3)) := f214
                          refine rely_if (rely_gf f214) (NewT.refl _) hK (fun hE hK => ?_)
                          exact opr_not rfl (f221 hE) (hK _ _ (NewT.refl _) rfl)
                        · intro a wx hT hF K hK
                          obtain ⟨f214, f222, _⟩ := hF
                          have f214 : a.tmps.getD 214 undef = .bool (!(inR s.1 0 3)) := f214
                          have f222 : ((!(!(inR s.1 0 3)))) = true → a.tmps.getD 222 undef = .bool (!(inR s.2 1 3)) := f222
                          refine rely_wp rfl ?_
                          exact opr_pick_b rfl f214 (fun hb => hK _ _ (NewT.refl _) (pn_or1 Q1_23 hb)) (fun hb => hK _ _ (NewT.refl _) (pn_or0 Q1_23 (f222 (bnot hb)) hb))
                        · intro w23 k23
                          intro u h; obtain rfl := Eq.symm (h (by simp)); clear h
                          intro u h; obtain rfl := Eq.symm (h (by simp)); clear h
                          intro u h; obtain rfl := Eq.symm (h (by simp)); clear h
                          intro u h; obtain rfl := Eq.symm (h (by simp)); clear h
                          intro u h; obtain rfl := Eq.symm (h (by simp)); clear h
                          intro u h; obtain rfl := Eq.symm (h (by simp)); clear h
                          intro u h; obtain rfl := Eq.symm (h (by simp)); clear h
                          intro u h; obtain rfl := Eq.symm (h (by simp)); clear h
                          intro u h; obtain rfl := Eq.symm (h (by simp)); clear h
                          intro _ _
                          intro _ _
                          intro _ _
                          intro _ _
                          intro _ _
                          intro _ _
                          intro _ _
                          intro _ _
                          intro u h; obtain rfl := Eq.symm (h (by simp)); clear h
                          subst Q1_23
                          refine relyEnd_nil rfl ?_
                          refine wpList_end rfl ?_
                          simp only [Act.put, List.setIfInBounds_toArray, List.set_cons_zero, List.set_cons_succ]
                          go_simp
                          have hst : (((!(inR s.1 0 3)) || (!(inR s.2 1 3)))) = !stepOk s := by unfold stepOk; cases inR s.1 0 3 <;> rfl
                          have HST := Lib.hid hst
                          clear hst
                          cases hq : (((!(inR s.1 0 3)) || (!(inR s.2 1 3))))
                          · have Hq : Hid (stepOk s = true) := Lib.hid (by have := HST.out; rw [hq] at this; simpa using this.symm)
                            clear hq
                            go_wp2
                            go_roundw
                            case rel => exact ⟨k + 1, by omega, by go_num, Lib.hid (by rw [Hal.out, Hs.out, Hq.out]; rfl), NewT.trans _ _ _ qN k23⟩
                            case measure => simp [intOf]; omega
                          · have Hq : Hid (stepOk s = false) := Lib.hid (by have := HST.out; rw [hq] at this; simpa using this.symm)
                            have HBs : Hid (x.steps.all stepOk = false) := Lib.hid (Hno.out Hq.out)
                            clear hq
                            go_wp2
                            go_ret
                            exact ⟨_, rfl, NewT.trans _ _ _ HN.out (NewT.trans _ _ _ qN k23), by unfold refR; rw [if_neg (by rw [HB3.out]; decide)]; rw [if_neg (by rw [HB6.out]; decide)]; rw [if_neg (by rw [HB10.out]; decide)]; rw [if_neg (by rw [HB12.out]; decide)]; rw [if_neg (by rw [HB14.out]; decide)]; rw [if_neg (by rw [HB16.out]; decide)]; rw [if_neg (by rw [HB18.out]; decide)]; rw [if_pos HBs.out]; rfl⟩
                      · obtain rfl : k = x.steps.length := by omega
                        have HBs : Hid (x.steps.all stepOk = true) := Lib.hid (by have := Hs.out; rw [List.take_length] at this; exact this)
                        replace HN := Lib.hid (NewT.trans _ _ _ HN.out qN)
                        replace HS := HSo
                        clear HSo Hs
                        generalize wr = w20 at *
                        clear qN
                        go_upto_region 25 with fail
                        obtain ⟨q1_25, Q1_25⟩ : ∃ q, ((!(inR ((List.length (x.steps) : Int)) 1 6)) || (decide (60 < ((List.length (x.data) : Int))))) = q := ⟨_, rfl⟩
                        refine wp_region_steps0 NewT [SV.eq (.pointer (some ⟨w.heap.size, 42, none⟩)), SV.eq ((.slice A0 x.steps.length cap)), SV.eq (.int .i64 ((List.length (x.steps) : Int))), SV.eq (.bool (inR ((List.length (x.steps) : Int)) 1 6)), SV.eq (.bool (!(inR ((List.length (x.steps) : Int)) 1 6))), SV.eq (.bool (!(inR ((List.length (x.steps) : Int)) 1 6))), svIf ((!(!(inR ((List.length (x.steps) : Int)) 1 6)))) (SV.eq (.pointer (some ⟨w.heap.size, 43, none⟩))), svIf ((!(!(inR ((List.length (x.steps) : Int)) 1 6)))) (SV.eq (dv)), svIf ((!(!(inR ((List.length (x.steps) : Int)) 1 6)))) (SV.eq (.int .i64 ((List.length (x.data) : Int)))), svIf ((!(!(inR ((List.length (x.steps) : Int)) 1 6)))) (SV.eq (.bool (decide (60 < ((List.length (x.data) : Int)))))), SV.eq (.bool (q1_25))] [([(1, none)], none), ([(224, some 0)], none), ([(225, some 1)], none), ([(226, some 2)], none), ([(227, some 3)], none), ([(228, some 4)], none), ([(1, none), (229, some 5)], some (229, false)), ([(230, some 6), (229, some 5)], some (229, false)), ([(231, some 7), (229, some 5)], some (229, false)), ([(232, some 8), (229, some 5)], some (229, false)), ([(229, some 5), (233, some 9)], none)] 251 11 rfl rfl (by kernel_rfl) NewT.trans (NewT.refl _) (Nat.le_of_ble_eq_true rfl) ⟨?_, ?_, ?_, ?_, ?_, ?_, ?_, ?_, ?_, ?_, ?_, trivial⟩ ?_
                        · intro a wx hT hF K hK
                          obtain ⟨f1, _⟩ := hF
                          have f1 : a.tmps.getD 1 undef = .pointer (some ⟨w.heap.size, 0, none⟩) := f1
                          refine rely_wp rfl ?_
                          exact opr_fldR (by decide) rfl f1 (hK _ _ (NewT.refl _) rfl)
                        · intro a wx hT hF K hK
                          obtain ⟨f224, _⟩ := hF
                          have f224 : a.tmps.getD 224 undef = .pointer (some ⟨w.heap.size, 42, none⟩) := f224
                          refine rely_wp rfl ?_
                          exact opr_ldS (hT.row R1.out) (by decide) rfl rfl f224 (hK _ _ (NewT.refl _) rfl)
                        · intro a wx hT hF K hK
                          obtain ⟨f225, _⟩ := hF
                          have f225 : a.tmps.getD 225 undef = (.slice A0 x.steps.length cap) := f225
                          refine rely_wp rfl ?_
                          exact opr_len_pairs rfl (by rw [eval_tmp, f225]; exact (hT.pairs HS.out)) (hK _ _ (NewT.refl _) rfl)
                        · intro a wx hT hF K hK
                          obtain ⟨f226, _⟩ := hF
                          have f226 : a.tmps.getD 226 undef = .int .i64 ((List.length (x.steps) : Int)) := f226
                          refine rely_wp rfl ?_
                          exact opr_cv (refIn_cv ((List.length (x.steps) : Int)) 1 6 wx) rfl Tryd.func30 (by kernel_rfl) (by kernel_rfl) (by simp only [List.map_toArray, List.map_cons, List.map_nil, eval_tmp, eval_const, f226]) hK
                        · intro a wx hT hF K hK
                          obtain ⟨f227, _⟩ := hF
                          have f227 : a.tmps.getD 227 undef = .bool (inR ((List.length (x.steps) : Int)) 1 6) := f227
                          refine rely_wp rfl ?_
                          exact opr_not rfl f227 (hK _ _ (NewT.refl _) rfl)
                        · intro a wx hT hF K hK
                          obtain ⟨f228, _⟩ := hF
                          have f228 : a.tmps.getD 228 undef = .bool (!(inR ((List.length (x.steps) : Int)) 1 6)) := f228
                          refine rely_wp rfl ?_
                          exact opr_move (.inl rfl) (hK _ _ (NewT.refl _) f228)
                        · intro a wx hT hF K hK
                          obtain ⟨f1, f229, _⟩ := hF
                          have f1 : a.tmps.getD 1 undef = .pointer (some ⟨w.heap.size, 0, none⟩) := f1
                          have f229 : a.tmps.getD 229 undef = .bool (!(inR ((List.length (x.steps) : Int)) 1 6)) := f229
                          refine rely_if (rely_gf f229) (NewT.refl _) hK (fun hE hK => ?_)
                          exact opr_fldR (by decide) rfl f1 (hK _ _ (NewT.refl _) rfl)
                        · intro a wx hT hF K hK
                          obtain ⟨f230, f229, _⟩ := hF
                          have f230 : ((!(!(inR ((List.length (x.steps) : Int)) 1 6)))) = true → a.tmps.getD 230 undef = .pointer (some ⟨w.heap.size, 43, none⟩) := f230
                          have f229 : a.tmps.getD 229 undef = .bool (!(inR ((List.length (x.steps) : Int)) 1 6)) := f229
                          refine rely_if (rely_gf f229) (NewT.refl _) hK (fun hE hK => ?_)
                          exact opr_ldB (hT.row R1.out) (by decide) rfl rfl (f230 hE) (hK _ _ (NewT.refl _) rfl)
                        · intro a wx hT hF K hK
                          obtain ⟨f231, f229, _⟩ := hF
                          have f231 : ((!(!(inR ((List.length (x.steps) : Int)) 1 6)))) = true → a.tmps.getD 231 undef = dv := f231
                          have f229 : a.tmps.getD 229 undef = .bool (!(inR ((List.length (x.steps) : Int)) 1 6)) := f229
                          refine rely_if (rely_gf f229) (NewT.refl _) hK (fun hE hK => ?_)
                          exact opr_len_rd rfl (by rw [eval_tmp, (f231 hE)]; exact (hT.rd HD.out)) (hK _ _ (NewT.refl _) rfl)
                        · intro a wx hT hF K hK
                          obtain ⟨f232, f229, _⟩ := hF
                          have f232 : ((!(!(inR ((List.length (x.steps) : Int)) 1 6)))) = true → a.tmps.getD 232 undef = .int .i64 ((List.length (x.data) : Int)) := f232
                          have f229 : a.tmps.getD 229 undef = .bool (!(inR ((List.length (x.steps) : Int)) 1 6)) := f229
                          refine rely_if (rely_gf f229) (NewT.refl _) hK (fun hE hK => ?_)
                          exact opr_cmp (b := decide (60 < ((List.length (x.data) : Int)))) (.inr (.inr (.inr (.inr (.inl ⟨rfl, rfl⟩))))) Tryd.underlying3 rfl (f232 hE) rfl (hK _ _ (NewT.refl _) rfl)
                        · intro a wx hT hF K hK
                          obtain ⟨f229, f233, _⟩ := hF
                          have f229 : a.tmps.getD 229 undef = .bool (!(inR ((List.length (x.steps) : Int)) 1 6)) := f229
                          have f233 : ((!(!(inR ((List.length (x.steps) : Int)) 1 6)))) = true → a.tmps.getD 233 undef = .bool (decide (60 < ((List.length (x.data) : Int)))) := f233
                          refine rely_wp rfl ?_
                          exact opr_pick_b rfl f229 (fun hb => hK _ _ (NewT.refl _) (pn_or1 Q1_25 hb)) (fun hb => hK _ _ (NewT.refl _) (pn_or0 Q1_25 (f233 (bnot hb)) hb))
                        · intro w25 k25
                          intro u h; obtain rfl := Eq.symm (h (by simp)); clear h
                          intro u h; obtain rfl := Eq.symm (h (by simp)); clear h
                          intro u h; obtain rfl := Eq.symm (h (by simp)); clear h
                          intro u h; obtain rfl := Eq.symm (h (by simp)); clear h
                          intro u h; obtain rfl := Eq.symm (h (by simp)); clear h
                          intro u h; obtain rfl := Eq.symm (h (by simp)); clear h
                          intro _ _
                          intro _ _
                          intro _ _
                          intro _ _
                          intro u h; obtain rfl := Eq.symm (h (by simp)); clear h
                          subst Q1_25
                          refine relyEnd_nil rfl ?_
                          refine wpList_end rfl ?_
                          simp only [Act.put, List.setIfInBounds_toArray, List.set_cons_zero, List.set_cons_succ]
                          go_simp
                          replace R1 := Lib.hid (k25.row R1.out)
                          replace R3 := Lib.hid (k25.row R3.out)
                          replace HS := Lib.hid (k25.pairs HS.out)
                          replace HD := Lib.hid (k25.rd HD.out)
                          replace HN := Lib.hid (NewT.trans _ _ _ HN.out k25)
                          clear k25
                          cases hb25 : (((!(inR ((List.length (x.steps) : Int)) 1 6)) || (decide (60 < ((List.length (x.data) : Int))))))
                          rotate_left
                          · have HB25 := Lib.hid hb25
                            clear hb25
                            go_wp2
                            go_ret
                            exact ⟨_, rfl, HN.out, by unfold refR; rw [if_neg (by rw [HB3.out]; decide)]; rw [if_neg (by rw [HB6.out]; decide)]; rw [if_neg (by rw [HB10.out]; decide)]; rw [if_neg (by rw [HB12.out]; decide)]; rw [if_neg (by rw [HB14.out]; decide)]; rw [if_neg (by rw [HB16.out]; decide)]; rw [if_neg (by rw [HB18.out]; decide)]; rw [if_neg (by rw [HBs.out]; decide)]; rw [if_pos HB25.out]; rfl⟩
                          have HB25 := Lib.hid hb25
                          clear hb25
                          have c76 : w25.cell? ⟨w.heap.size, 76, none⟩ = some (.bool x.gone) := R1.out.cell (i := 76) (by omega)
                          cases hg : x.gone
                          · rw [hg] at c76
                            have HG : Hid (x.gone = false) := Lib.hid hg
                            clear hg
                            go_upto_region 29 with fail
                            clear c76
                            refine wp_region_steps0 NewT [SV.eq (.pointer (some ⟨w.heap.size, 77, none⟩)), SV.eq (.agg (rowA 32 (bF (x.com)))), SV.eq (.agg (rowA 32 (bF (fun _ => 0)))), SV.eq (.bool (eqH (x.com) (fun _ => 0)))] [([(1, none)], none), ([(247, some 0)], none), ([(3, none)], none), ([(248, some 1), (249, some 2)], none)] 251 4 rfl rfl (by kernel_rfl) NewT.trans (NewT.refl _) (Nat.le_of_ble_eq_true rfl) ⟨?_, ?_, ?_, ?_, trivial⟩ ?_
                            · intro a wx hT hF K hK
                              obtain ⟨f1, _⟩ := hF
                              have f1 : a.tmps.getD 1 undef = .pointer (some ⟨w.heap.size, 0, none⟩) := f1
                              refine rely_wp rfl ?_
                              exact opr_fldR (by decide) rfl f1 (hK _ _ (NewT.refl _) rfl)
                            · intro a wx hT hF K hK
                              obtain ⟨f247, _⟩ := hF
                              have f247 : a.tmps.getD 247 undef = .pointer (some ⟨w.heap.size, 77, none⟩) := f247
                              refine rely_wp rfl ?_
                              exact opr_ldH (hT.row R1.out) (by decide) (recF_com x _ _) rfl f247 (hK _ _ (NewT.refl _) rfl)
                            · intro a wx hT hF K hK
                              obtain ⟨f3, _⟩ := hF
                              have f3 : a.tmps.getD 3 undef = .pointer (some ⟨w.heap.size + 1, 0, none⟩) := f3
                              refine rely_wp rfl ?_
                              exact opr_load_hash rfl f3 (hT.row R3.out) (hK _ _ (NewT.refl _) rfl)
                            · intro a wx hT hF K hK
                              obtain ⟨f248, f249, _⟩ := hF
                              have f248 : a.tmps.getD 248 undef = .agg (rowA 32 (bF (x.com))) := f248
                              have f249 : a.tmps.getD 249 undef = .agg (rowA 32 (bF (fun _ => 0))) := f249
                              refine rely_wp rfl ?_
                              exact opr_eql_hash (b := eqH (x.com) (fun _ => 0)) rfl f248 f249 (rfl) (hK _ _ (NewT.refl _) rfl)
                            · intro w29 k29
                              intro u h; obtain rfl := Eq.symm (h (by simp)); clear h
                              intro u h; obtain rfl := Eq.symm (h (by simp)); clear h
                              intro u h; obtain rfl := Eq.symm (h (by simp)); clear h
                              intro u h; obtain rfl := Eq.symm (h (by simp)); clear h
                              refine relyEnd_nil rfl ?_
                              simp only [Act.put, List.setIfInBounds_toArray, List.set_cons_zero, List.set_cons_succ]
                              refine wpList_plain rfl (fun K hK => ?_)
                              refine opr_move (.inr rfl) (hK _ _ ?_)
                              refine wpList_end rfl ?_
                              go_simp
                              go_wp2
                              go_ret
                              exact ⟨_, rfl, NewT.trans _ _ _ HN.out k29, by unfold refR; rw [if_neg (by rw [HB3.out]; decide)]; rw [if_neg (by rw [HB6.out]; decide)]; rw [if_neg (by rw [HB10.out]; decide)]; rw [if_neg (by rw [HB12.out]; decide)]; rw [if_neg (by rw [HB14.out]; decide)]; rw [if_neg (by rw [HB16.out]; decide)]; rw [if_neg (by rw [HB18.out]; decide)]; rw [if_neg (by rw [HBs.out]; decide)]; rw [if_neg (by rw [HB25.out]; decide)]; rw [if_neg (by rw [HG.out]; decide)]; rfl⟩
                          · rw [hg] at c76
                            have HG : Hid (x.gone = true) := Lib.hid hg
                            clear hg
                            go_upto_region 28 with fail
                            clear c76
                            obtain ⟨q1_28, Q1_28⟩ : ∃ q, ((((List.length (x.data) : Int)) == 0) && (eqH (x.salt) (fun _ => 0))) = q := ⟨_, rfl⟩
                            refine wp_region_steps0 NewT [SV.eq (.pointer (some ⟨w.heap.size, 43, none⟩)), SV.eq (dv), SV.eq (.int .i64 ((List.length (x.data) : Int))), SV.eq (.bool (((List.length (x.data) : Int)) == 0)), SV.eq (.bool (((List.length (x.data) : Int)) == 0)), svIf (((List.length (x.data) : Int)) == 0) (SV.eq (.pointer (some ⟨w.heap.size, 44, none⟩))), svIf (((List.length (x.data) : Int)) == 0) (SV.eq (.agg (rowA 32 (bF (x.salt))))), svIf (((List.length (x.data) : Int)) == 0) (SV.eq (.agg (rowA 32 (bF (fun _ => 0))))), svIf (((List.length (x.data) : Int)) == 0) (SV.eq (.bool (eqH (x.salt) (fun _ => 0)))), SV.eq (.bool (q1_28))] [([(1, none)], none), ([(237, some 0)], none), ([(238, some 1)], none), ([(239, some 2)], none), ([(240, some 3)], none), ([(1, none), (241, some 4)], some (241, true)), ([(242, some 5), (241, some 4)], some (241, true)), ([(3, none), (241, some 4)], some (241, true)), ([(243, some 6), (244, some 7), (241, some 4)], some (241, true)), ([(241, some 4), (245, some 8)], none)] 251 10 rfl rfl (by kernel_rfl) NewT.trans (NewT.refl _) (Nat.le_of_ble_eq_true rfl) ⟨?_, ?_, ?_, ?_, ?_, ?_, ?_, ?_, ?_, ?_, trivial⟩ ?_
                            · intro a wx hT hF K hK
                              obtain ⟨f1, _⟩ := hF
                              have f1 : a.tmps.getD 1 undef = .pointer (some ⟨w.heap.size, 0, none⟩) := f1
                              refine rely_wp rfl ?_
                              exact opr_fldR (by decide) rfl f1 (hK _ _ (NewT.refl _) rfl)
                            · intro a wx hT hF K hK
                              obtain ⟨f237, _⟩ := hF
                              have f237 : a.tmps.getD 237 undef = .pointer (some ⟨w.heap.size, 43, none⟩) := f237
                              refine rely_wp rfl ?_
                              exact opr_ldB (hT.row R1.out) (by decide) rfl rfl f237 (hK _ _ (NewT.refl _) rfl)
                            · intro a wx hT hF K hK
                              obtain ⟨f238, _⟩ := hF
                              have f238 : a.tmps.getD 238 undef = dv := f238
                              refine rely_wp rfl ?_
                              exact opr_len_rd rfl (by rw [eval_tmp, f238]; exact (hT.rd HD.out)) (hK _ _ (NewT.refl _) rfl)
                            · intro a wx hT hF K hK
                              obtain ⟨f239, _⟩ := hF
                              have f239 : a.tmps.getD 239 undef = .int .i64 ((List.length (x.data) : Int)) := f239
                              refine rely_wp rfl ?_
                              exact opr_cmp (b := ((List.length (x.data) : Int)) == 0) (.inl ⟨rfl, rfl⟩) Tryd.underlying3 rfl f239 rfl (hK _ _ (NewT.refl _) rfl)
                            · intro a wx hT hF K hK
                              obtain ⟨f240, _⟩ := hF
                              have f240 : a.tmps.getD 240 undef = .bool (((List.length (x.data) : Int)) == 0) := f240
                              refine rely_wp rfl ?_
                              exact opr_move (.inl rfl) (hK _ _ (NewT.refl _) f240)
                            · intro a wx hT hF K hK
                              obtain ⟨f1, f241, _⟩ := hF
                              have f1 : a.tmps.getD 1 undef = .pointer (some ⟨w.heap.size, 0, none⟩) := f1
                              have f241 : a.tmps.getD 241 undef = .bool (((List.length (x.data) : Int)) == 0) := f241
                              refine rely_if (rely_gt f241) (NewT.refl _) hK (fun hE hK => ?_)
                              exact opr_fldR (by decide) rfl f1 (hK _ _ (NewT.refl _) rfl)
                            · intro a wx hT hF K hK
                              obtain ⟨f242, f241, _⟩ := hF
                              have f242 : (((List.length (x.data) : Int)) == 0) = true → a.tmps.getD 242 undef = .pointer (some ⟨w.heap.size, 44, none⟩) := f242
                              have f241 : a.tmps.getD 241 undef = .bool (((List.length (x.data) : Int)) == 0) := f241
                              refine rely_if (rely_gt f241) (NewT.refl _) hK (fun hE hK => ?_)
                              exact opr_ldH (hT.row R1.out) (by decide) (recF_salt x _ _) rfl (f242 hE) (hK _ _ (NewT.refl _) rfl)
                            · intro a wx hT hF K hK
                              obtain ⟨f3, f241, _⟩ := hF
                              have f3 : a.tmps.getD 3 undef = .pointer (some ⟨w.heap.size + 1, 0, none⟩) := f3
                              have f241 : a.tmps.getD 241 undef = .bool (((List.length (x.data) : Int)) == 0) := f241
                              refine rely_if (rely_gt f241) (NewT.refl _) hK (fun hE hK => ?_)
                              exact opr_load_hash rfl f3 (hT.row R3.out) (hK _ _ (NewT.refl _) rfl)
                            · intro a wx hT hF K hK
                              obtain ⟨f243, f244, f241, _⟩ := hF
                              have f243 : (((List.length (x.data) : Int)) == 0) = true → a.tmps.getD 243 undef = .agg (rowA 32 (bF (x.salt))) := f243
                              have f244 : (((List.length (x.data) : Int)) == 0) = true → a.tmps.getD 244 undef = .agg (rowA 32 (bF (fun _ => 0))) := f244
                              have f241 : a.tmps.getD 241 undef = .bool (((List.length (x.data) : Int)) == 0) := f241
                              refine rely_if (rely_gt f241) (NewT.refl _) hK (fun hE hK => ?_)
                              exact opr_eql_hash (b := eqH (x.salt) (fun _ => 0)) rfl (f243 hE) (f244 hE) (rfl) (hK _ _ (NewT.refl _) rfl)
                            · intro a wx hT hF K hK
                              obtain ⟨f241, f245, _⟩ := hF
                              have f241 : a.tmps.getD 241 undef = .bool (((List.length (x.data) : Int)) == 0) := f241
                              have f245 : (((List.length (x.data) : Int)) == 0) = true → a.tmps.getD 245 undef = .bool (eqH (x.salt) (fun _ => 0)) := f245
                              refine rely_wp rfl ?_
                              exact opr_pick_b rfl f241 (fun hb => hK _ _ (NewT.refl _) (pn_and1 Q1_28 (f245 hb) hb)) (fun hb => hK _ _ (NewT.refl _) (pn_and0 Q1_28 hb))
                            · intro w28 k28
                              intro u h; obtain rfl := Eq.symm (h (by simp)); clear h
                              intro u h; obtain rfl := Eq.symm (h (by simp)); clear h
                              intro u h; obtain rfl := Eq.symm (h (by simp)); clear h
                              intro u h; obtain rfl := Eq.symm (h (by simp)); clear h
                              intro u h; obtain rfl := Eq.symm (h (by simp)); clear h
                              intro _ _
                              intro _ _
                              intro _ _
                              intro _ _
                              intro u h; obtain rfl := Eq.symm (h (by simp)); clear h
                              subst Q1_28
                              refine relyEnd_nil rfl ?_
                              simp only [Act.put, List.setIfInBounds_toArray, List.set_cons_zero, List.set_cons_succ]
                              refine wpList_plain rfl (fun K hK => ?_)
                              refine opr_move (.inr rfl) (hK _ _ ?_)
                              refine wpList_end rfl ?_
                              go_simp
                              go_wp2
                              go_ret
                              exact ⟨_, rfl, NewT.trans _ _ _ HN.out k28, by unfold refR; rw [if_neg (by rw [HB3.out]; decide)]; rw [if_neg (by rw [HB6.out]; decide)]; rw [if_neg (by rw [HB10.out]; decide)]; rw [if_neg (by rw [HB12.out]; decide)]; rw [if_neg (by rw [HB14.out]; decide)]; rw [if_neg (by rw [HB16.out]; decide)]; rw [if_neg (by rw [HB18.out]; decide)]; rw [if_neg (by rw [HBs.out]; decide)]; rw [if_neg (by rw [HB25.out]; decide)]; rw [if_pos HG.out]; rfl⟩
end Go.Proofs.YthgblcpekhiphaaDoor
/- What the reference's Right says is what a right record is. -/
namespace Go.Proofs.YthgblcpekhiphaaDoor
open Go Go.RowKit
set_option maxRecDepth 8000
theorem eqH_Z (d : Nat → UInt8) : eqH d (fun _ => 0) = hZ d := by rw [Bool.eq_iff_iff, eqH_hL, hZ_iff]
theorem len_empty {α : Type} (l : List α) : ((l.length : Int) == 0) = l.isEmpty := by cases l <;> simp; omega
theorem ite_no (c r : Bool) : (if c = true then false else r) = (!c && r) := by cases c <;> rfl
theorem ite_no2 (c r : Bool) : (if c = false then false else r) = (c && r) := by cases c <;> rfl
theorem dec60 (n : Nat) : decide ((60 : Int) < (n : Int)) = !decide (n ≤ 60) := by
  by_cases h : n ≤ 60 <;> simp [h] <;> omega
set_option maxHeartbeats 2000000 in
theorem ref_right (x : Rc) : refR x = rightB x := by
  unfold refR rightB begQ callQ recQ noCall noReceipt noBegin isCall
  simp only [eqH_Z, len_empty, bne, ite_no, ite_no2, dec60]
  by_cases k1 : x.kind = 1
  · rw [Bool.eq_iff_iff]
    simp [k1]
    cases x.gone <;> simp <;> constructor <;> intro h <;> simp_all
  by_cases k2 : x.kind = 2 ∨ x.kind = 4
  · rw [Bool.eq_iff_iff]
    rcases k2 with k | k <;> simp [k] <;> constructor <;> intro h <;> simp_all
  by_cases k3 : x.kind = 3
  · rw [Bool.eq_iff_iff]
    simp [k3]
    constructor <;> intro h <;> simp_all
  by_cases k5 : x.kind = 5
  · rw [Bool.eq_iff_iff]
    simp [k5]
    constructor <;> intro h <;> simp_all
  by_cases k6 : x.kind = 6
  · rw [Bool.eq_iff_iff]
    simp [k6]
    constructor
    · intro h; simp_all
    · intro h; simp_all; decide
  · have hb : (decide (x.kind < 1) || decide (6 < x.kind)) = true := by simp; omega
    rw [hb]
    simp [k1, k2, k3, k5, k6]
theorem RRight_cv (v : Value) (x : Rc) (w : World) (h : RecV w v x) : Cv 12 #[v] w (.eq (.bool (rightB x))) := by rw [← ref_right]; exact RRightR_cv v x w h
end Go.Proofs.YthgblcpekhiphaaDoor
/- A row of bytes of a call's own, and appends to it. -/
namespace Go.Proofs.YthgblcpekhiphaaDoor
open Go Go.RowKit
set_option maxRecDepth 8000
/-- A row of bytes of a call's own, from W on. -/
def svOwn (W : World) (l : List UInt8) : SV NewT := ⟨fun v w => w.ownsRow W.heap.size 5 1 v l.length (l.map fun b => .int .u8 (bN b)), fun v w w' h hT => by
  obtain ⟨a, b⟩ := h
  refine ⟨a, ?_⟩
  rcases b with b | ⟨g, cap, cur, rfl, hb, hg, r⟩
  · exact .inl b
  · have hlt : g < w.heap.size := by
      rcases Nat.lt_or_ge g w.heap.size with h | h
      · exact h
      · rw [Array.getElem?_eq_none h] at hg; cases hg
    exact .inr ⟨g, cap, cur, rfl, hb, (hT.out.block g hlt).trans hg, r⟩⟩
/-- Bytes put behind a row of the call's own: the row reads as both, and nothing below turns. -/
theorem run_append_two {W W0 : World} {v u : Value} {l m : List UInt8} (ho : (svOwn W0 l).pred v W) (hW : W0.heap.size ≤ W.heap.size) (hr : RdV W [] u m) (hn : l.length + m.length ≤ 900000) (ty : TypeId) :
    ∃ v' w', (Builtin.append_ #[25, 25] ty #[v, u]).run Tryd.prog W = .ok v' w' ∧ (svOwn W0 (l ++ m)).pred v' w' ∧ RdV w' [] v' (l ++ m) ∧ Below W0.heap.size W w' := by
  obtain ⟨i0, hi, hz0, hz1, hz2⟩ := info_parts info5
  obtain ⟨v', w', h1, h2, h3⟩ := run_append_rd (P := Tryd.prog) (ty := ty) Tryd.underlying25 hi hz0 hz1 hz2 ho hr (by omega) hW
  have e : l.map (fun b => Value.int .u8 (bN b)) ++ m.map (fun b => Value.int .u8 (bN b)) = (l ++ m).map fun b => Value.int .u8 (bN b) := by simp
  rw [e] at h2
  refine ⟨v', w', h1, ?_, rdV_own h2 (by simp) (by simp), (Below.refl _ W).grown h3 hW (fun k hk => (World.ownsRow.lt ho k hk).1)⟩
  show w'.ownsRow W0.heap.size 5 1 v' (l ++ m).length _
  rw [List.length_append]; exact h2
theorem own_one (b : UInt8) (w : World) : (svOwn w [b]).pred (.slice (some ⟨w.heap.size, 0, none⟩) 1 1) (w.alloc (.cells #[.int .u8 (bN b)] 5)) :=
  ⟨rfl, .inr ⟨w.heap.size, 1, #[.int .u8 (bN b)], rfl, Nat.le_refl _, World.alloc_heap_new _ _, Nat.le_refl _, by unfold maxLen; omega, rfl, rfl⟩⟩
end Go.Proofs.YthgblcpekhiphaaDoor
/- The reference's Number: a number's low bytes, so many, the highest first. -/
namespace Go.Proofs.YthgblcpekhiphaaDoor
open Go Go.RowKit
set_option maxRecDepth 8000

/-- From place q on the bytes stand. -/
def lowTo (f : Nat → UInt8) (q p : Nat) : UInt8 := if q ≤ p then f p else 0
theorem lowTo_set (f : Nat → UInt8) (q p : Nat) (z : Int) (hz : z = bN (f q)) : (if p = q then Value.int .u8 z else bF (lowTo f (q + 1)) p) = bF (lowTo f q) p := by
  subst hz
  simp only [bF, lowTo]
  by_cases h : p = q
  · subst h; simp
  · by_cases h2 : q ≤ p
    · rw [if_neg h, if_pos (by omega), if_pos h2]
    · rw [if_neg h, if_neg (by omega), if_neg h2]
theorem hiB_low (n s q : Nat) (hq : q < s) : ((n / 2 ^ (8 * (s - (q + 1))) : Nat) : Int) % 256 = bN (hiB n s q) := by
  rw [hiB, bN, UInt8.toNat_ofNat', show s - (q + 1) = s - 1 - q by omega]
  omega
theorem div_next (n s q : Nat) (hq : q < s) : ((n / 2 ^ (8 * (s - (q + 1))) : Nat) : Int) / 256 = ((n / 2 ^ (8 * (s - q)) : Nat) : Int) := by
  rw [show 8 * (s - q) = 8 * (s - (q + 1)) + 8 by omega, Nat.pow_add, ← Nat.div_div_eq_div_mul]
  omega
set_option maxHeartbeats 1000000 in
theorem RNumber_any (n : Int) (s : Nat) (hs : 1 ≤ s) (hs2 : s ≤ 8) (w : World) :
    Cv 74 #[.int .i64 n, .int .i64 (s : Int)] w (svRdN w (hiL (wN n) s)) := by
  unfold Cv
  obtain ⟨i0, hi, hz0, hz1, hz2⟩ := info_parts info5
  have hmk : ∀ W : World, (Instr.makeSlice 25 (.int .i64 (s : Int)) (.int .i64 (s : Int))).run Tryd.prog W = .ok (.slice (some ⟨W.heap.size, 0, none⟩) s s) (W.alloc (.cells (rowA s (bF fun _ => 0)) 5)) := make_bytes i0 hi hz0 hz1 hz2 s (by omega)
  have hw : IntKind.u64.wrap n = (wN n : Int) := wN_eq n
  have hwl : wN n < 18446744073709551616 := by unfold wN; omega
  obtain ⟨M, hM⟩ : ∃ M, wN n = M := ⟨_, rfl⟩
  rw [hM] at hw hwl
  rw [hM]
  clear hi hz0 hz1 hz2 hM
  go_enter Tryd.func74, Tryd.ntmps74
  go_wp2
  clear hw
  have r0 := rowIs_box w 5 s (bF fun _ => 0)
  have hB : Below w.heap.size w (w.alloc (.cells (rowA s (bF fun _ => 0)) 5)) := (Below.refl _ w).alloc (Nat.le_refl _) _
  generalize w.alloc (.cells (rowA s (bF fun _ => 0)) 5) = W0 at r0 hB ⊢
  clear hmk
  go_loopw [6, 7] (fun u i wr => ∃ q : Nat, q ≤ s ∧ u = .int .u64 ((M / 2 ^ (8 * (s - q)) : Nat) : Int) ∧ i = .int .i64 ((q : Int) - 1) ∧ wr.rowIs w.heap.size 5 s (bF (lowTo (hiB M s) q)) ∧ Below w.heap.size w wr) (fun _ i _ => (intOf i + 1).toNat)
  case atStart => exact ⟨s, Nat.le_refl _, by simp, rfl, r0.congr fun p hp => by simp only [bF, lowTo]; rw [if_neg (by omega)], hB⟩
  case round =>
    obtain ⟨q, hq, rfl, rfl, q0, qB⟩ := hrel
    clear r0 hB
    cases q with
    | succ q =>
      rw [show ((q + 1 : Nat) : Int) - 1 = (q : Int) by omega]
      have hb1 := hiB_low M s q (by omega)
      have hb2 := div_next M s q (by omega)
      have hle : M / 2 ^ (8 * (s - (q + 1))) < 18446744073709551616 := Nat.lt_of_le_of_lt (Nat.div_le_self _ _) hwl
      generalize M / 2 ^ (8 * (s - (q + 1))) = m1 at hb1 hb2 hle
      generalize hm2 : M / 2 ^ (8 * (s - q)) = m2 at hb2
      have Hb1 := Lib.hid hb1
      have Hb2 := Lib.hid hb2
      have Hm2 := Lib.hid hm2
      clear hb1 hb2 hm2
      have c0 := q0.cell (i := q) (by omega)
      have f0 := q0.frozen q
      go_wp2
      go_roundw
      case rel =>
        refine ⟨q, by omega, ?_, by go_num, (q0.set q _).congr fun p _ => lowTo_set _ q p _ ?_, qB.setCell (by simp) _⟩
        · rw [Hm2.out, ← Hb2.out]
        · exact Hb1.out
      case measure => simp [intOf]
    | zero =>
      go_wp2
      go_ret
      refine ⟨_, rfl, qB, fun L hL => ?_⟩
      have := rd_row (L := L) q0 (fun hm => by have := hL _ hm; omega) (by omega)
      have e : (List.range s).map (lowTo (hiB M s) 0) = hiL M s := List.map_congr_left fun i hi => by simp [lowTo]
      rw [e] at this
      exact this
theorem RNumber_4 (n : Int) (w : World) : Cv 74 #[.int .i64 n, .int .i64 4] w (svRdN w (hiL (wN n) 4)) := RNumber_any n 4 (by omega) (by omega) w
end Go.Proofs.YthgblcpekhiphaaDoor
/- The reference's Text: a domain's byte, and of each part how many bytes it has, and these. -/
namespace Go.Proofs.YthgblcpekhiphaaDoor
open Go Go.RowKit
set_option maxRecDepth 8000
theorem take_flat (ls : List (List UInt8)) (k : Nat) : (ls.take k).flatten.length ≤ ls.flatten.length := by
  have h1 : ls.flatten = (ls.take k).flatten ++ (ls.drop k).flatten := by rw [← List.flatten_append, List.take_append_drop]
  have h2 := congrArg List.length h1
  rw [List.length_append] at h2
  omega
theorem tk (ls : List (List UInt8)) (k : Nat) (x : List UInt8) (h : ls[k]? = some x) : ls.take (k + 1) = ls.take k ++ [x] := by rw [List.take_add_one, h]; rfl
set_option maxHeartbeats 1000000 in
theorem RText_any (n : Int) (pv : Value) (ls : List (List UInt8)) (w : World) (hp : Parts w pv ls) (hlen : ls.length ≤ 1000) (htot : ls.flatten.length ≤ 1000) :
    Cv 54 #[.int .i64 n, pv] w (svOwn w (ofL n ls)) := by
  unfold Cv
  obtain ⟨ps, ⟨A, cap, rfl, hpc, hpm, hA, hR⟩, rfl⟩ := hp
  obtain ⟨ls, hls⟩ : ∃ ls, ls = ps.map (·.2) := ⟨_, rfl⟩
  rw [← hls] at hlen htot ⊢
  unfold maxLen at hpm
  obtain ⟨m, hm⟩ : ∃ m, m = ps.length := ⟨_, rfl⟩
  have hml : m = ls.length := by rw [hls, hm]; simp
  rw [← hm] at hpc
  have HA := Lib.hid (show 0 < m → ∃ b o, A = some ⟨b, o, none⟩ ∧ ∀ i x, ps[i]? = some x → w.cell? ⟨b, o + i, none⟩ = some x.1 from fun h => by
    obtain ⟨b, o, h1, _, h2⟩ := hA (by omega)
    exact ⟨b, o, h1, h2⟩)
  have HR := Lib.hid hR
  have Hls := Lib.hid hls
  have Hml := Lib.hid hml
  have hm1 : m ≤ 1000 := by omega
  have hdb := dB_eq n
  rw [← hm]
  have Hm := Lib.hid hm
  clear hA hR hls hml hm
  go_enter Tryd.func54, Tryd.ntmps54
  go_wp2
  clear hdb
  have o0 := own_one (dB n) w
  have hB : Below w.heap.size w (w.alloc (.cells #[.int .u8 (bN (dB n))] 5)) := (Below.refl _ w).alloc (Nat.le_refl _) _
  generalize w.alloc (.cells #[.int .u8 (bN (dB n))] 5) = W0 at o0 hB ⊢
  go_loopw [5, 6] (fun v i wr => ∃ k : Nat, k ≤ m ∧ i = .int .i64 k ∧ (svOwn w (ofL n (ls.take k))).pred v wr ∧ Below w.heap.size w wr) (fun _ i _ => m - (intOf i).toNat)
  case atStart => exact ⟨0, by omega, rfl, by simpa [ofL] using o0, hB⟩
  case round =>
    obtain ⟨k, hk, rfl, hown, qB⟩ := hrel
    clear o0 hB
    by_cases hlt : k < m
    · obtain ⟨b, o, rfl, hcells⟩ := HA.out (by omega)
      have hkl : k < ps.length := by rw [← Hm.out]; exact hlt
      have hx : ps[k]? = some ps[k] := List.getElem?_eq_getElem hkl
      generalize ps[k] = x at hx
      have hlt0 : b < w.heap.size := World.block_lt_of_cell? _ _ (hcells k x hx)
      have hcell := (qB.cell (p := ⟨b, o + k, none⟩) hlt0).trans (hcells k x hx)
      have hrd0 := HR.out x (List.mem_of_getElem? hx)
      have hlx : ls[k]? = some x.2 := by rw [Hls.out, List.getElem?_map, hx]; rfl
      have htk := tk ls k x.2 hlx
      have hle1 := take_flat ls (k + 1)
      have hle2 : (ls.take (k + 1)).length ≤ 1000 := by rw [List.length_take]; omega
      have hol := ofL_length n (ls.take (k + 1))
      have Hof : Hid (ofL n (ls.take (k + 1)) = ofL n (ls.take k) ++ hiL x.2.length 4 ++ x.2) := Lib.hid (by
        rw [htk]; simp [ofL, cntP])
      rw [Hof.out, List.length_append, List.length_append, hiL_length] at hol
      obtain ⟨A', c', hv', hlc, hcm, hr0⟩ := hrd0
      have Hrd : Hid (RdV w [] (.slice A' x.2.length c') x.2) := Lib.hid ⟨A', c', rfl, hlc, hcm, hr0⟩
      rw [hv'] at hcell
      have hwn : wN (x.2.length : Int) = x.2.length := wN_nat _ (by unfold maxLen at hcm; omega)
      have hxl : (ofL n (ls.take k)).length + 4 + x.2.length ≤ 900000 := by omega
      clear hol hkl hx hcells hr0 hv' hlx htk hle1 hle2 hlc hcm
      have hnum := RNumber_4 (x.2.length : Int) wr
      rw [hwn] at hnum
      have Hnum := Lib.hid hnum
      clear hnum hwn
      go_upto_region 5 with fail
      refine wp_region_lit ?_
      iterate 6 (refine wpList_plain rfl (fun K hK => ?_); go_simp; refine hK _ _ ?_; clear hK K)
      refine wpList_plain rfl (fun K hK => ?_)
      refine opr_cv Hnum.out rfl Tryd.func74 (by kernel_rfl) (by kernel_rfl) (by simp only [List.map_toArray, List.map_cons, List.map_nil]; rfl) ?_
      intro v22 wa hNa h22
      refine hK _ _ ?_
      clear hK K Hnum
      have owna := (svOwn w (ofL n (ls.take k))).stable _ _ _ hown hNa
      have hBa := qB.trans (hNa.out.mono qB.size)
      obtain ⟨v23, wb, hrun, ownb, _, hBb⟩ := run_append_two owna hBa.size (h22 [] (by simp)) (by rw [hiL_length]; omega) 25
      have hBB := hBa.trans hBb
      have hcellb := (hBb.cell (p := ⟨b, o + k, none⟩) hlt0).trans ((hNa.out.cell (p := ⟨b, o + k, none⟩) (Nat.lt_of_lt_of_le hlt0 qB.size)).trans hcell)
      clear owna hBa h22 hown hcell hNa hBb
      refine wpList_plain rfl (fun K hK => ?_)
      refine opr_append rfl rfl rfl hrun (hK _ _ ?_)
      clear hrun hK K
      refine wpList_plain rfl (fun K hK => ?_)
      refine opr_move (.inr rfl) (hK _ _ ?_)
      clear hK K
      refine wpList_nil ?_
      go_simp
      obtain ⟨v29, wc, hrun, ownc, _, hBc⟩ := run_append_two ownb hBB.size (Hrd.out.keep (KeepBut.below hBB)) (by rw [List.length_append, hiL_length]; omega) 25
      have Hown := Lib.hid ownc
      have HBc := Lib.hid (hBB.trans hBc)
      clear ownb ownc hBc
      go_upto_region 6 with fail
      refine wp_region_lit ?_
      iterate 5 (refine wpList_plain rfl (fun K hK => ?_); go_simp; refine hK _ _ ?_; clear hK K)
      refine wpList_plain rfl (fun K hK => ?_)
      refine opr_append rfl rfl rfl hrun (hK _ _ ?_)
      clear hrun hK K
      refine wpList_plain rfl (fun K hK => ?_)
      refine opr_move (.inr rfl) (hK _ _ ?_)
      clear hK K
      refine wpList_nil ?_
      go_simp
      go_wp2
      go_roundw
      case rel => exact ⟨k + 1, by omega, by go_num, by rw [Hof.out]; exact Hown.out, HBc.out⟩
      case measure => simp [intOf]; omega
    · obtain rfl : k = m := by omega
      go_wp2
      go_ret
      refine ⟨_, rfl, qB, ?_⟩
      rw [Hml.out, List.take_length] at hown
      exact hown
theorem RText_cv (n : Int) (pv : Value) (ls : List (List UInt8)) (w : World) (hp : Parts w pv ls) (hlen : ls.length ≤ 1000) (htot : ls.flatten.length ≤ 1000) :
    Cv 54 #[.int .i64 n, pv] w (svRd (ofL n ls)) :=
  Calls.mono (RText_any n pv ls w hp hlen htot) fun _ _ ⟨v, he, hN, h⟩ => ⟨v, he, hN, rdV_own h rfl (by simp)⟩
end Go.Proofs.YthgblcpekhiphaaDoor
/- Package sha, more: blocks of a text, one by one. -/
namespace Go.Proofs.YthgblcpekhiphaaDoor
open Go.RowKit
set_option maxRecDepth 8000
attribute [local go_sem] uF_at
theorem slice_blk (b o n cap j : Nat) (h : j + 64 ≤ cap) (w : World) : (Instr.slice 25 (.slice (some ⟨b, o, none⟩) n cap) (some (.int .i64 (j : Int))) (some (.int .i64 ((j : Int) + 64))) none).run Tryd.prog w = .ok (.slice (some ⟨b, o + j, none⟩) 64 (cap - j)) w := by
  have hsz : (sizeOf 5).run Tryd.prog w = .ok 1 w := by
    obtain ⟨i0, hi, _, hz1, _⟩ := info_parts info5
    simp [sizeOf, typeInfo, hi, hz1]
  have h3 : (0 : Int) ≤ (j : Int) + 64 ∧ (j : Int) + 64 ≤ (cap : Int) := by omega
  have h4 : j ≤ ((j : Int) + 64).toNat := by omega
  have h6 : ((j : Int) + 64).toNat - j = 64 := by omega
  have h5 : cap ≠ j := by omega
  simp [Instr.slice, run_underlying Tryd.underlying25, Instr.sliceBounds, Instr.sliceBound, asIntOf, hsz, h3, h4, h5, h6, Addr.add_mid]
/-- A text's block. -/
def blk (c : List UInt8) (i : Nat) : List UInt8 := (c.drop (64 * i)).take 64
/-- The state behind the first blocks. -/
def sB (c : List UInt8) : Nat → Nat → BitVec 32
  | 0 => Fc
  | k + 1 => turnF Kc (sB c k) (blk c k)
theorem bAt_blk (c : List UInt8) (k i : Nat) (h : i < 64) : bAt (blk c k) i = bAt c (64 * k + i) := by
  simp [bAt, blk, h, List.getElem?_drop]
theorem sB_fold (c : List UInt8) (k : Nat) : ((List.range k).map (blk c)).foldl (turnF Kc) Fc = sB c k := by
  induction k with
  | zero => rfl
  | succ k ih => rw [List.range_succ, List.map_append, List.foldl_append, ih]; rfl
end Go.Proofs.YthgblcpekhiphaaDoor
