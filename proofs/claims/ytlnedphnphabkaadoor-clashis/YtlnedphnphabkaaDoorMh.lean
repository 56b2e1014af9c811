/- The law ClashIs, walked: lists of one length and one root are the same, or there is a clash. -/
import Derived.Test.YtlnedphnphabkaaDoorMg
set_option linter.all false
namespace Go.Proofs.YtlnedphnphabkaaDoor
open Go Go.RowKit
set_option maxRecDepth 8000
set_option linter.all false
set_option maxHeartbeats 2000000 in
theorem ClashIs_walk (va vb : Value) (x y : List Tx) (w : World) (hT : Tables w) (ha : Parts w va x) (hb : Parts w vb y) : Calls Tryd.prog 5 #[va, vb] w fun e w' => e = .returned (.bool true) ∧ Below w.heap.size w w' := by
  obtain ⟨node, z, lf, sm, hC⟩ := clash_ex
  have HT := Lib.hid hT
  have HA := Lib.hid ha
  have HB := Lib.hid hb
  have HN := Lib.hid (NewT.refl w)
  clear hT ha hb
  go_enter Tryd.func5, Tryd.ntmps5
  go_upto_region 3 with (go_at_call 9; refine (alive7_any _ HT.out).mono ?_; rintro _ w1 ⟨rfl, hA1⟩)
  have hn1 := NewT.of hA1
  replace HA := Lib.hid (hn1.partsL HA.out)
  replace HB := Lib.hid (hn1.partsL HB.out)
  replace HT := Lib.hid (hn1.tables HT.out)
  replace HN := Lib.hid (NewT.trans _ _ _ HN.out hn1)
  clear hn1
  clear hA1
  refine wp_region_steps0 NewT [SV.eq (va), SV.eq (.bool (greatB x)), SV.eq (.bool (greatB x)), svIf ((!(greatB x))) (SV.eq (vb)), svIf ((!(greatB x))) (SV.eq (.bool (greatB y))), SV.eq (.bool ((greatB x) || (greatB y)))] [([(0, none)], none), ([(10, some 0)], none), ([(11, some 1)], none), ([(1, none), (12, some 2)], some (12, false)), ([(13, some 3), (12, some 2)], some (12, false)), ([(12, some 2), (14, some 4)], none)] 64 6 rfl rfl (by kernel_rfl) NewT.trans (NewT.refl _) (Nat.le_of_ble_eq_true rfl) ⟨?_, ?_, ?_, ?_, ?_, ?_, trivial⟩ ?_
  · intro a wx hT hF K hK
    obtain ⟨f0, _⟩ := hF
    have f0 : a.tmps.getD 0 undef = va := f0
    refine rely_wp rfl ?_
    exact opr_move (.inl rfl) (hK _ _ (NewT.refl _) f0)
  · intro a wx hT hF K hK
    obtain ⟨f10, _⟩ := hF
    have f10 : a.tmps.getD 10 undef = va := f10
    refine rely_wp rfl ?_
    exact opr_cv (great_cv _ x wx (hT.partsL HA.out)) rfl Tryd.func10 (by kernel_rfl) (by kernel_rfl) (by simp only [List.map_toArray, List.map_cons, List.map_nil, eval_tmp, f10]) hK
  · intro a wx hT hF K hK
    obtain ⟨f11, _⟩ := hF
    have f11 : a.tmps.getD 11 undef = .bool (greatB x) := f11
    refine rely_wp rfl ?_
    exact opr_move (.inl rfl) (hK _ _ (NewT.refl _) f11)
  · intro a wx hT hF K hK
    obtain ⟨f1, f12, _⟩ := hF
    have f1 : a.tmps.getD 1 undef = vb := f1
    have f12 : a.tmps.getD 12 undef = .bool (greatB x) := f12
    refine rely_if (rely_gf f12) (NewT.refl _) hK (fun hE hK => ?_)
    exact opr_move (.inl rfl) (hK _ _ (NewT.refl _) f1)
  · intro a wx hT hF K hK
    obtain ⟨f13, f12, _⟩ := hF
    have f13 : ((!(greatB x))) = true → a.tmps.getD 13 undef = vb := f13
    have f12 : a.tmps.getD 12 undef = .bool (greatB x) := f12
    refine rely_if (rely_gf f12) (NewT.refl _) hK (fun hE hK => ?_)
    exact opr_cv (great_cv _ y wx (hT.partsL HB.out)) rfl Tryd.func10 (by kernel_rfl) (by kernel_rfl) (by simp only [List.map_toArray, List.map_cons, List.map_nil, eval_tmp, (f13 hE)]) hK
  · intro a wx hT hF K hK
    obtain ⟨f12, f14, _⟩ := hF
    have f12 : a.tmps.getD 12 undef = .bool (greatB x) := f12
    have f14 : ((!(greatB x))) = true → a.tmps.getD 14 undef = .bool (greatB y) := f14
    refine rely_wp rfl ?_
    exact opr_pick_b rfl f12 (fun hb => hK _ _ (NewT.refl _) (pk_or1 hb)) (fun hb => hK _ _ (NewT.refl _) (pk_or0 (f14 (bnot hb)) hb))
  · intro w2 k2
    intro u h; obtain rfl := Eq.symm (h (by simp)); clear h
    intro u h; obtain rfl := Eq.symm (h (by simp)); clear h
    intro u h; obtain rfl := Eq.symm (h (by simp)); clear h
    intro _ _
    intro _ _
    intro u h; obtain rfl := Eq.symm (h (by simp)); clear h
    refine relyEnd_nil rfl ?_
    refine wpList_end rfl ?_
    simp only [Act.put, List.setIfInBounds_toArray, List.set_cons_zero, List.set_cons_succ]
    go_simp
    replace HA := Lib.hid (k2.partsL HA.out)
    replace HB := Lib.hid (k2.partsL HB.out)
    replace HT := Lib.hid (k2.tables HT.out)
    replace HN := Lib.hid (NewT.trans _ _ _ HN.out k2)
    clear k2
    obtain ⟨q, hq⟩ : ∃ q, ((greatB x) || (greatB y)) = q := ⟨_, rfl⟩
    rw [hq]
    cases q
    rotate_left
    · clear hq
      go_wp2
      go_ret
      exact ⟨rfl, HN.out.out⟩
    · have hg : greatB x = false ∧ greatB y = false := by
        revert hq; cases greatB x <;> cases greatB y <;> simp
      have HFx := Lib.hid (great_Fine hg.1)
      have HFy := Lib.hid (great_Fine hg.2)
      clear hq hg
      cases he : extM sm x y with
      | some c =>
        obtain ⟨s, t⟩ := c
        have HEX : Hid (∀ w, Tables w → ∀ va vb, Parts w va x → Parts w vb y → Cv 11 #[va, vb] w (svT2 s t true)) := Lib.hid fun w hT va vb h1 h2 => by
          have h := Extract_cv hC w hT va vb x y h1 h2 HFx.out HFy.out
          rw [he] at h; exact h
        have HIS : Hid (isB sm s t = true) := Lib.hid ((isB_iff _ _ _).2 (extM_clash hC.len _ x y s t (Nat.le_refl _) he))
        have HLEN := Lib.hid (extM_len hC.len _ x y s t (Nat.le_refl _) HFx.out HFy.out he)
        have hno : ¬ (x.length ≠ y.length ∨ x = y ∨ rootS sm x ≠ rootS sm y) := fun h => by rw [ext_none h] at he; cases he
        simp only [not_or, ne_eq, Decidable.not_not] at hno
        have HXY := Lib.hid hno.1
        have HRR : Hid (eqH (rootM node z (List.map lf x)) (rootM node z (List.map lf y)) = true) := Lib.hid (by rw [hC.eqRoot, decide_eq_true hno.2.2])
        clear he hno
        go_upto_region 5 with fail
        refine wp_region_steps0 NewT [SV.eq (va), SV.eq (vb), svT2 s t true, svT2 s t true, svRd (s), svRd (t), SV.eq (.bool true), svRd (s), svRd (t), SV.eq (.bool true)] [([(0, none)], none), ([(1, none)], none), ([(17, some 0), (18, some 1)], none), ([(19, some 2)], none), ([(16, some 3)], none), ([(16, some 3)], none), ([(16, some 3)], none), ([(20, some 4)], none), ([(21, some 5)], none), ([(22, some 6)], none)] 64 10 rfl rfl (by kernel_rfl) NewT.trans (NewT.refl _) (Nat.le_of_ble_eq_true rfl) ⟨?_, ?_, ?_, ?_, ?_, ?_, ?_, ?_, ?_, ?_, trivial⟩ ?_
        · intro a wx hT hF K hK
          obtain ⟨f0, _⟩ := hF
          have f0 : a.tmps.getD 0 undef = va := f0
          refine rely_wp rfl ?_
          exact opr_move (.inl rfl) (hK _ _ (NewT.refl _) f0)
        · intro a wx hT hF K hK
          obtain ⟨f1, _⟩ := hF
          have f1 : a.tmps.getD 1 undef = vb := f1
          refine rely_wp rfl ?_
          exact opr_move (.inl rfl) (hK _ _ (NewT.refl _) f1)
        · intro a wx hT hF K hK
          obtain ⟨f17, f18, _⟩ := hF
          have f17 : a.tmps.getD 17 undef = va := f17
          have f18 : a.tmps.getD 18 undef = vb := f18
          refine rely_wp rfl ?_
          exact opr_cv (HEX.out wx (hT.tables HT.out) va vb (hT.partsL HA.out) (hT.partsL HB.out)) rfl Tryd.func11 (by kernel_rfl) (by kernel_rfl) (by simp only [List.map_toArray, List.map_cons, List.map_nil, eval_tmp, f17, f18]) hK
        · intro a wx hT hF K hK
          obtain ⟨f19, _⟩ := hF
          replace f19 := show (svT2 s t true).pred (a.tmps.getD 19 undef) wx from f19
          refine rely_wp rfl ?_
          exact opr_move (.inl rfl) (hK _ _ (NewT.refl _) f19)
        · intro a wx hT hF K hK
          obtain ⟨f16, _⟩ := hF
          replace f16 := show (svT2 s t true).pred (a.tmps.getD 16 undef) wx from f16
          refine rely_wp rfl ?_
          exact opr_extT0 rfl f16 (fun u hu => hK u _ (NewT.refl _) hu)
        · intro a wx hT hF K hK
          obtain ⟨f16, _⟩ := hF
          replace f16 := show (svT2 s t true).pred (a.tmps.getD 16 undef) wx from f16
          refine rely_wp rfl ?_
          exact opr_extT1 rfl f16 (fun u hu => hK u _ (NewT.refl _) hu)
        · intro a wx hT hF K hK
          obtain ⟨f16, _⟩ := hF
          replace f16 := show (svT2 s t true).pred (a.tmps.getD 16 undef) wx from f16
          refine rely_wp rfl ?_
          exact opr_extT2 rfl f16 (hK _ _ (NewT.refl _) rfl)
        · intro a wx hT hF K hK
          obtain ⟨f20, _⟩ := hF
          replace f20 := show (svRd (s)).pred (a.tmps.getD 20 undef) wx from f20
          refine rely_wp rfl ?_
          exact opr_move (.inr rfl) (hK _ _ (NewT.refl _) f20)
        · intro a wx hT hF K hK
          obtain ⟨f21, _⟩ := hF
          replace f21 := show (svRd (t)).pred (a.tmps.getD 21 undef) wx from f21
          refine rely_wp rfl ?_
          exact opr_move (.inr rfl) (hK _ _ (NewT.refl _) f21)
        · intro a wx hT hF K hK
          obtain ⟨f22, _⟩ := hF
          have f22 : a.tmps.getD 22 undef = .bool true := f22
          refine rely_wp rfl ?_
          exact opr_move (.inr rfl) (hK _ _ (NewT.refl _) f22)
        · intro w3 k3
          intro u h; obtain rfl := Eq.symm (h (by simp)); clear h
          intro u h; obtain rfl := Eq.symm (h (by simp)); clear h
          intro _ _
          intro _ _
          intro _ _
          intro _ _
          intro u h; obtain rfl := Eq.symm (h (by simp)); clear h
          intro u5 h; have g5 := h (by simp); clear h; replace g5 := show (svRd (s)).pred u5 w3 from g5
          intro u6 h; have g6 := h (by simp); clear h; replace g6 := show (svRd (t)).pred u6 w3 from g6
          intro u h; obtain rfl := Eq.symm (h (by simp)); clear h
          refine relyEnd_nil rfl ?_
          refine wpList_end rfl ?_
          simp only [Act.put, List.setIfInBounds_toArray, List.set_cons_zero, List.set_cons_succ]
          go_simp
          have HS := Lib.hid g5
          have HTT := Lib.hid g6
          clear g5 g6
          replace HA := Lib.hid (k3.partsL HA.out)
          replace HB := Lib.hid (k3.partsL HB.out)
          replace HT := Lib.hid (k3.tables HT.out)
          replace HN := Lib.hid (NewT.trans _ _ _ HN.out k3)
          clear k3
          go_upto_region 7 with fail
          refine wp_region_steps0 NewT [SV.eq (u5), SV.eq (u6), SV.eq (.bool true), SV.eq (.bool true), SV.eq (va), SV.eq (.int .i64 ((List.length (x) : Int))), SV.eq (vb), SV.eq (.int .i64 ((List.length (y) : Int))), SV.eq (.bool true), SV.eq (.bool true), SV.eq (.bool true), SV.eq (va), SV.eq (.agg (rowA 32 (bF (rootM node z (List.map lf x))))), SV.eq (vb), SV.eq (.agg (rowA 32 (bF (rootM node z (List.map lf y))))), SV.eq (.bool true), SV.eq (.bool true), SV.eq (.bool true)] [([(5, none)], none), ([(6, none)], none), ([(24, some 0), (25, some 1)], none), ([(26, some 2)], none), ([(0, none), (27, some 3)], some (27, true)), ([(28, some 4), (27, some 3)], some (27, true)), ([(1, none), (27, some 3)], some (27, true)), ([(30, some 6), (27, some 3)], some (27, true)), ([(29, some 5), (31, some 7), (27, some 3)], some (27, true)), ([(27, some 3), (32, some 8)], none), ([(33, some 9)], none), ([(0, none), (34, some 10)], some (34, true)), ([(35, some 11), (34, some 10)], some (34, true)), ([(1, none), (34, some 10)], some (34, true)), ([(37, some 13), (34, some 10)], some (34, true)), ([(36, some 12), (38, some 14), (34, some 10)], some (34, true)), ([(34, some 10), (39, some 15)], none), ([(40, some 16)], none)] 64 18 rfl rfl (by kernel_rfl) NewT.trans (NewT.refl _) (Nat.le_of_ble_eq_true rfl) ⟨?_, ?_, ?_, ?_, ?_, ?_, ?_, ?_, ?_, ?_, ?_, ?_, ?_, ?_, ?_, ?_, ?_, ?_, trivial⟩ ?_
          · intro a wx hT hF K hK
            obtain ⟨f5, _⟩ := hF
            have f5 : a.tmps.getD 5 undef = u5 := f5
            refine rely_wp rfl ?_
            exact opr_move (.inl rfl) (hK _ _ (NewT.refl _) f5)
          · intro a wx hT hF K hK
            obtain ⟨f6, _⟩ := hF
            have f6 : a.tmps.getD 6 undef = u6 := f6
            refine rely_wp rfl ?_
            exact opr_move (.inl rfl) (hK _ _ (NewT.refl _) f6)
          · intro a wx hT hF K hK
            obtain ⟨f24, f25, _⟩ := hF
            have f24 : a.tmps.getD 24 undef = u5 := f24
            have f25 : a.tmps.getD 25 undef = u6 := f25
            refine rely_wp rfl ?_
            exact opr_cv (by rw [← HIS.out]; exact Is_cv hC _ _ s t wx (hT.tables HT.out) (hT.rd HS.out) (hT.rd HTT.out) (by have := HLEN.out.1; omega) (by have := HLEN.out.2; omega)) rfl Tryd.func16 (by kernel_rfl) (by kernel_rfl) (by simp only [List.map_toArray, List.map_cons, List.map_nil, eval_tmp, f24, f25]) hK
          · intro a wx hT hF K hK
            obtain ⟨f26, _⟩ := hF
            have f26 : a.tmps.getD 26 undef = .bool true := f26
            refine rely_wp rfl ?_
            exact opr_move (.inl rfl) (hK _ _ (NewT.refl _) f26)
          · intro a wx hT hF K hK
            obtain ⟨f0, f27, _⟩ := hF
            have f0 : a.tmps.getD 0 undef = va := f0
            have f27 : a.tmps.getD 27 undef = .bool true := f27
            refine rely_wp (rely_guard f27) ?_
            exact opr_move (.inl rfl) (hK _ _ (NewT.refl _) f0)
          · intro a wx hT hF K hK
            obtain ⟨f28, f27, _⟩ := hF
            have f28 : a.tmps.getD 28 undef = va := f28
            have f27 : a.tmps.getD 27 undef = .bool true := f27
            refine rely_wp (rely_guard f27) ?_
            exact opr_len_parts rfl (by rw [eval_tmp, f28]; exact (hT.partsL HA.out)) (hK _ _ (NewT.refl _) rfl)
          · intro a wx hT hF K hK
            obtain ⟨f1, f27, _⟩ := hF
            have f1 : a.tmps.getD 1 undef = vb := f1
            have f27 : a.tmps.getD 27 undef = .bool true := f27
            refine rely_wp (rely_guard f27) ?_
            exact opr_move (.inl rfl) (hK _ _ (NewT.refl _) f1)
          · intro a wx hT hF K hK
            obtain ⟨f30, f27, _⟩ := hF
            have f30 : a.tmps.getD 30 undef = vb := f30
            have f27 : a.tmps.getD 27 undef = .bool true := f27
            refine rely_wp (rely_guard f27) ?_
            exact opr_len_parts rfl (by rw [eval_tmp, f30]; exact (hT.partsL HB.out)) (hK _ _ (NewT.refl _) rfl)
          · intro a wx hT hF K hK
            obtain ⟨f29, f31, f27, _⟩ := hF
            have f29 : a.tmps.getD 29 undef = .int .i64 ((List.length (x) : Int)) := f29
            have f31 : a.tmps.getD 31 undef = .int .i64 ((List.length (y) : Int)) := f31
            have f27 : a.tmps.getD 27 undef = .bool true := f27
            refine rely_wp (rely_guard f27) ?_
            exact opr_cmp (b := true) (.inl ⟨rfl, (by rw [HXY.out]; exact beq_self_eq_true _)⟩) Tryd.underlying3 rfl f29 f31 (hK _ _ (NewT.refl _) rfl)
          · intro a wx hT hF K hK
            obtain ⟨f27, f32, _⟩ := hF
            have f27 : a.tmps.getD 27 undef = .bool true := f27
            have f32 : a.tmps.getD 32 undef = .bool true := f32
            refine rely_wp rfl ?_
            exact opr_pick_true rfl f27 (hK _ _ (NewT.refl _) f32)
          · intro a wx hT hF K hK
            obtain ⟨f33, _⟩ := hF
            have f33 : a.tmps.getD 33 undef = .bool true := f33
            refine rely_wp rfl ?_
            exact opr_move (.inl rfl) (hK _ _ (NewT.refl _) f33)
          · intro a wx hT hF K hK
            obtain ⟨f0, f34, _⟩ := hF
            have f0 : a.tmps.getD 0 undef = va := f0
            have f34 : a.tmps.getD 34 undef = .bool true := f34
            refine rely_wp (rely_guard f34) ?_
            exact opr_move (.inl rfl) (hK _ _ (NewT.refl _) f0)
          · intro a wx hT hF K hK
            obtain ⟨f35, f34, _⟩ := hF
            have f35 : a.tmps.getD 35 undef = va := f35
            have f34 : a.tmps.getD 34 undef = .bool true := f34
            refine rely_wp (rely_guard f34) ?_
            exact opr_cv (Roots_cv hC _ x wx (hT.tables HT.out) (hT.partsL HA.out) (HFx.out)) rfl Tryd.func14 (by kernel_rfl) (by kernel_rfl) (by simp only [List.map_toArray, List.map_cons, List.map_nil, eval_tmp, f35]) hK
          · intro a wx hT hF K hK
            obtain ⟨f1, f34, _⟩ := hF
            have f1 : a.tmps.getD 1 undef = vb := f1
            have f34 : a.tmps.getD 34 undef = .bool true := f34
            refine rely_wp (rely_guard f34) ?_
            exact opr_move (.inl rfl) (hK _ _ (NewT.refl _) f1)
          · intro a wx hT hF K hK
            obtain ⟨f37, f34, _⟩ := hF
            have f37 : a.tmps.getD 37 undef = vb := f37
            have f34 : a.tmps.getD 34 undef = .bool true := f34
            refine rely_wp (rely_guard f34) ?_
            exact opr_cv (Roots_cv hC _ y wx (hT.tables HT.out) (hT.partsL HB.out) (HFy.out)) rfl Tryd.func14 (by kernel_rfl) (by kernel_rfl) (by simp only [List.map_toArray, List.map_cons, List.map_nil, eval_tmp, f37]) hK
          · intro a wx hT hF K hK
            obtain ⟨f36, f38, f34, _⟩ := hF
            have f36 : a.tmps.getD 36 undef = .agg (rowA 32 (bF (rootM node z (List.map lf x)))) := f36
            have f38 : a.tmps.getD 38 undef = .agg (rowA 32 (bF (rootM node z (List.map lf y)))) := f38
            have f34 : a.tmps.getD 34 undef = .bool true := f34
            refine rely_wp (rely_guard f34) ?_
            exact opr_eql_hash (b := true) rfl f36 f38 (HRR.out) (hK _ _ (NewT.refl _) rfl)
          · intro a wx hT hF K hK
            obtain ⟨f34, f39, _⟩ := hF
            have f34 : a.tmps.getD 34 undef = .bool true := f34
            have f39 : a.tmps.getD 39 undef = .bool true := f39
            refine rely_wp rfl ?_
            exact opr_pick_true rfl f34 (hK _ _ (NewT.refl _) f39)
          · intro a wx hT hF K hK
            obtain ⟨f40, _⟩ := hF
            have f40 : a.tmps.getD 40 undef = .bool true := f40
            refine rely_wp rfl ?_
            exact opr_move (.inr rfl) (hK _ _ (NewT.refl _) f40)
          · intro w4 k4
            intro u h; obtain rfl := Eq.symm (h (by simp)); clear h
            intro u h; obtain rfl := Eq.symm (h (by simp)); clear h
            intro u h; obtain rfl := Eq.symm (h (by simp)); clear h
            intro u h; obtain rfl := Eq.symm (h (by simp)); clear h
            intro u h; obtain rfl := Eq.symm (h (by simp)); clear h
            intro u h; obtain rfl := Eq.symm (h (by simp)); clear h
            intro u h; obtain rfl := Eq.symm (h (by simp)); clear h
            intro u h; obtain rfl := Eq.symm (h (by simp)); clear h
            intro u h; obtain rfl := Eq.symm (h (by simp)); clear h
            intro u h; obtain rfl := Eq.symm (h (by simp)); clear h
            intro u h; obtain rfl := Eq.symm (h (by simp)); clear h
            intro u h; obtain rfl := Eq.symm (h (by simp)); clear h
            intro u h; obtain rfl := Eq.symm (h (by simp)); clear h
            intro u h; obtain rfl := Eq.symm (h (by simp)); clear h
            intro u h; obtain rfl := Eq.symm (h (by simp)); clear h
            intro u h; obtain rfl := Eq.symm (h (by simp)); clear h
            intro u h; obtain rfl := Eq.symm (h (by simp)); clear h
            intro u h; obtain rfl := Eq.symm (h (by simp)); clear h
            refine relyEnd_nil rfl ?_
            refine wpList_end rfl ?_
            simp only [Act.put, List.setIfInBounds_toArray, List.set_cons_zero, List.set_cons_succ]
            go_simp
            go_wp2
            go_ret
            exact ⟨rfl, (NewT.trans _ _ _ HN.out k4).out⟩
      | none =>
        have HEX : Hid (∀ w, Tables w → ∀ va vb, Parts w va x → Parts w vb y → Cv 11 #[va, vb] w (svT2 ([] : List UInt8) ([] : List UInt8) false)) := Lib.hid fun w hT va vb h1 h2 => by
          have h := Extract_cv hC w hT va vb x y h1 h2 HFx.out HFy.out
          rw [he] at h; exact h
        have hor := extM_none _ x y (Nat.le_refl _) he
        have HOR : Hid ((((((List.length (x) : Int)) != ((List.length (y) : Int))) || (!(eqH (rootM node z (List.map lf x)) (rootM node z (List.map lf y))))) || (decide (x = y))) = true) := Lib.hid (by
          rw [hC.eqRoot]
          rcases hor with h | h | h
          · rw [show ((x.length : Int) != (y.length : Int)) = true from by simp; omega]; rfl
          · rw [decide_eq_false h]; simp
          · rw [decide_eq_true h]; simp)
        clear he hor
        go_upto_region 5 with fail
        refine wp_region_steps0 NewT [SV.eq (va), SV.eq (vb), svT2 (([] : List UInt8)) (([] : List UInt8)) false, svT2 (([] : List UInt8)) (([] : List UInt8)) false, svRd (([] : List UInt8)), svRd (([] : List UInt8)), SV.eq (.bool false), svRd (([] : List UInt8)), svRd (([] : List UInt8)), SV.eq (.bool false)] [([(0, none)], none), ([(1, none)], none), ([(17, some 0), (18, some 1)], none), ([(19, some 2)], none), ([(16, some 3)], none), ([(16, some 3)], none), ([(16, some 3)], none), ([(20, some 4)], none), ([(21, some 5)], none), ([(22, some 6)], none)] 64 10 rfl rfl (by kernel_rfl) NewT.trans (NewT.refl _) (Nat.le_of_ble_eq_true rfl) ⟨?_, ?_, ?_, ?_, ?_, ?_, ?_, ?_, ?_, ?_, trivial⟩ ?_
        · intro a wx hT hF K hK
          obtain ⟨f0, _⟩ := hF
          have f0 : a.tmps.getD 0 undef = va := f0
          refine rely_wp rfl ?_
          exact opr_move (.inl rfl) (hK _ _ (NewT.refl _) f0)
        · intro a wx hT hF K hK
          obtain ⟨f1, _⟩ := hF
          have f1 : a.tmps.getD 1 undef = vb := f1
          refine rely_wp rfl ?_
          exact opr_move (.inl rfl) (hK _ _ (NewT.refl _) f1)
        · intro a wx hT hF K hK
          obtain ⟨f17, f18, _⟩ := hF
          have f17 : a.tmps.getD 17 undef = va := f17
          have f18 : a.tmps.getD 18 undef = vb := f18
          refine rely_wp rfl ?_
          exact opr_cv (HEX.out wx (hT.tables HT.out) va vb (hT.partsL HA.out) (hT.partsL HB.out)) rfl Tryd.func11 (by kernel_rfl) (by kernel_rfl) (by simp only [List.map_toArray, List.map_cons, List.map_nil, eval_tmp, f17, f18]) hK
        · intro a wx hT hF K hK
          obtain ⟨f19, _⟩ := hF
          replace f19 := show (svT2 (([] : List UInt8)) (([] : List UInt8)) false).pred (a.tmps.getD 19 undef) wx from f19
          refine rely_wp rfl ?_
          exact opr_move (.inl rfl) (hK _ _ (NewT.refl _) f19)
        · intro a wx hT hF K hK
          obtain ⟨f16, _⟩ := hF
          replace f16 := show (svT2 (([] : List UInt8)) (([] : List UInt8)) false).pred (a.tmps.getD 16 undef) wx from f16
          refine rely_wp rfl ?_
          exact opr_extT0 rfl f16 (fun u hu => hK u _ (NewT.refl _) hu)
        · intro a wx hT hF K hK
          obtain ⟨f16, _⟩ := hF
          replace f16 := show (svT2 (([] : List UInt8)) (([] : List UInt8)) false).pred (a.tmps.getD 16 undef) wx from f16
          refine rely_wp rfl ?_
          exact opr_extT1 rfl f16 (fun u hu => hK u _ (NewT.refl _) hu)
        · intro a wx hT hF K hK
          obtain ⟨f16, _⟩ := hF
          replace f16 := show (svT2 (([] : List UInt8)) (([] : List UInt8)) false).pred (a.tmps.getD 16 undef) wx from f16
          refine rely_wp rfl ?_
          exact opr_extT2 rfl f16 (hK _ _ (NewT.refl _) rfl)
        · intro a wx hT hF K hK
          obtain ⟨f20, _⟩ := hF
          replace f20 := show (svRd (([] : List UInt8))).pred (a.tmps.getD 20 undef) wx from f20
          refine rely_wp rfl ?_
          exact opr_move (.inr rfl) (hK _ _ (NewT.refl _) f20)
        · intro a wx hT hF K hK
          obtain ⟨f21, _⟩ := hF
          replace f21 := show (svRd (([] : List UInt8))).pred (a.tmps.getD 21 undef) wx from f21
          refine rely_wp rfl ?_
          exact opr_move (.inr rfl) (hK _ _ (NewT.refl _) f21)
        · intro a wx hT hF K hK
          obtain ⟨f22, _⟩ := hF
          have f22 : a.tmps.getD 22 undef = .bool false := f22
          refine rely_wp rfl ?_
          exact opr_move (.inr rfl) (hK _ _ (NewT.refl _) f22)
        · intro w3 k3
          intro u h; obtain rfl := Eq.symm (h (by simp)); clear h
          intro u h; obtain rfl := Eq.symm (h (by simp)); clear h
          intro _ _
          intro _ _
          intro _ _
          intro _ _
          intro u h; obtain rfl := Eq.symm (h (by simp)); clear h
          intro u5 h; have g5 := h (by simp); clear h; replace g5 := show (svRd (([] : List UInt8))).pred u5 w3 from g5
          intro u6 h; have g6 := h (by simp); clear h; replace g6 := show (svRd (([] : List UInt8))).pred u6 w3 from g6
          intro u h; obtain rfl := Eq.symm (h (by simp)); clear h
          refine relyEnd_nil rfl ?_
          refine wpList_end rfl ?_
          simp only [Act.put, List.setIfInBounds_toArray, List.set_cons_zero, List.set_cons_succ]
          go_simp
          have HS := Lib.hid g5
          have HTT := Lib.hid g6
          clear g5 g6
          replace HA := Lib.hid (k3.partsL HA.out)
          replace HB := Lib.hid (k3.partsL HB.out)
          replace HT := Lib.hid (k3.tables HT.out)
          replace HN := Lib.hid (NewT.trans _ _ _ HN.out k3)
          clear k3
          go_upto_region 8 with fail
          refine wp_region_steps0 NewT [SV.eq (u5), SV.eq (.int .i64 ((List.length (([] : List UInt8)) : Int))), SV.eq (u6), SV.eq (.int .i64 ((List.length (([] : List UInt8)) : Int))), SV.eq (.int .i64 (0)), SV.eq (.bool false)] [([(5, none)], none), ([(41, some 0)], none), ([(6, none)], none), ([(43, some 2)], none), ([(42, some 1), (44, some 3)], none), ([(45, some 4)], none)] 64 6 rfl rfl (by kernel_rfl) NewT.trans (NewT.refl _) (Nat.le_of_ble_eq_true rfl) ⟨?_, ?_, ?_, ?_, ?_, ?_, trivial⟩ ?_
          · intro a wx hT hF K hK
            obtain ⟨f5, _⟩ := hF
            have f5 : a.tmps.getD 5 undef = u5 := f5
            refine rely_wp rfl ?_
            exact opr_move (.inl rfl) (hK _ _ (NewT.refl _) f5)
          · intro a wx hT hF K hK
            obtain ⟨f41, _⟩ := hF
            have f41 : a.tmps.getD 41 undef = u5 := f41
            refine rely_wp rfl ?_
            exact opr_len_rd rfl (by rw [eval_tmp, f41]; exact (hT.rd HS.out)) (hK _ _ (NewT.refl _) rfl)
          · intro a wx hT hF K hK
            obtain ⟨f6, _⟩ := hF
            have f6 : a.tmps.getD 6 undef = u6 := f6
            refine rely_wp rfl ?_
            exact opr_move (.inl rfl) (hK _ _ (NewT.refl _) f6)
          · intro a wx hT hF K hK
            obtain ⟨f43, _⟩ := hF
            have f43 : a.tmps.getD 43 undef = u6 := f43
            refine rely_wp rfl ?_
            exact opr_len_rd rfl (by rw [eval_tmp, f43]; exact (hT.rd HTT.out)) (hK _ _ (NewT.refl _) rfl)
          · intro a wx hT hF K hK
            obtain ⟨f42, f44, _⟩ := hF
            have f42 : a.tmps.getD 42 undef = .int .i64 ((List.length (([] : List UInt8)) : Int)) := f42
            have f44 : a.tmps.getD 44 undef = .int .i64 ((List.length (([] : List UInt8)) : Int)) := f44
            refine rely_wp rfl ?_
            exact opr_add (r := 0) Tryd.underlying3 (by simp [wrap64]) rfl f42 f44 (hK _ _ (NewT.refl _) rfl)
          · intro a wx hT hF K hK
            obtain ⟨f45, _⟩ := hF
            have f45 : a.tmps.getD 45 undef = .int .i64 (0) := f45
            refine rely_wp rfl ?_
            exact opr_cmp (b := false) (.inr (.inl ⟨rfl, (by rfl)⟩)) Tryd.underlying3 rfl f45 rfl (hK _ _ (NewT.refl _) rfl)
          · intro w4 k4
            intro u h; obtain rfl := Eq.symm (h (by simp)); clear h
            intro u h; obtain rfl := Eq.symm (h (by simp)); clear h
            intro u h; obtain rfl := Eq.symm (h (by simp)); clear h
            intro u h; obtain rfl := Eq.symm (h (by simp)); clear h
            intro u h; obtain rfl := Eq.symm (h (by simp)); clear h
            intro u h; obtain rfl := Eq.symm (h (by simp)); clear h
            refine relyEnd_nil rfl ?_
            refine wpList_end rfl ?_
            simp only [Act.put, List.setIfInBounds_toArray, List.set_cons_zero, List.set_cons_succ]
            go_simp
            replace HA := Lib.hid (k4.partsL HA.out)
            replace HB := Lib.hid (k4.partsL HB.out)
            replace HT := Lib.hid (k4.tables HT.out)
            replace HN := Lib.hid (NewT.trans _ _ _ HN.out k4)
            clear k4
            go_upto_region 10 with fail
            obtain ⟨q1_10, Q1_10⟩ : ∃ bq_, ((((List.length (x) : Int)) != ((List.length (y) : Int))) || (!(eqH (rootM node z (List.map lf x)) (rootM node z (List.map lf y))))) = bq_ := ⟨_, rfl⟩
            refine wp_region_steps0 NewT [SV.eq (va), SV.eq (.int .i64 ((List.length (x) : Int))), SV.eq (vb), SV.eq (.int .i64 ((List.length (y) : Int))), SV.eq (.bool (((List.length (x) : Int)) != ((List.length (y) : Int)))), SV.eq (.bool (((List.length (x) : Int)) != ((List.length (y) : Int)))), svIf ((!(((List.length (x) : Int)) != ((List.length (y) : Int))))) (SV.eq (va)), svIf ((!(((List.length (x) : Int)) != ((List.length (y) : Int))))) (SV.eq (.agg (rowA 32 (bF (rootM node z (List.map lf x)))))), svIf ((!(((List.length (x) : Int)) != ((List.length (y) : Int))))) (SV.eq (vb)), svIf ((!(((List.length (x) : Int)) != ((List.length (y) : Int))))) (SV.eq (.agg (rowA 32 (bF (rootM node z (List.map lf y)))))), svIf ((!(((List.length (x) : Int)) != ((List.length (y) : Int))))) (SV.eq (.bool (!(eqH (rootM node z (List.map lf x)) (rootM node z (List.map lf y)))))), SV.eq (.bool (q1_10)), SV.eq (.bool (q1_10)), svIf ((!q1_10)) (SV.eq (va)), svIf ((!q1_10)) (SV.eq (vb)), svIf ((!q1_10)) (SV.eq (.bool (decide (x = y)))), SV.eq (.bool (q1_10 || (decide (x = y)))), SV.eq (.bool (q1_10 || (decide (x = y))))] [([(0, none)], none), ([(47, some 0)], none), ([(1, none)], none), ([(49, some 2)], none), ([(48, some 1), (50, some 3)], none), ([(51, some 4)], none), ([(0, none), (52, some 5)], some (52, false)), ([(53, some 6), (52, some 5)], some (52, false)), ([(1, none), (52, some 5)], some (52, false)), ([(55, some 8), (52, some 5)], some (52, false)), ([(54, some 7), (56, some 9), (52, some 5)], some (52, false)), ([(52, some 5), (57, some 10)], none), ([(58, some 11)], none), ([(0, none), (59, some 12)], some (59, false)), ([(1, none), (59, some 12)], some (59, false)), ([(60, some 13), (61, some 14), (59, some 12)], some (59, false)), ([(59, some 12), (62, some 15)], none), ([(63, some 16)], none)] 64 18 rfl rfl (by kernel_rfl) NewT.trans (NewT.refl _) (Nat.le_of_ble_eq_true rfl) ⟨?_, ?_, ?_, ?_, ?_, ?_, ?_, ?_, ?_, ?_, ?_, ?_, ?_, ?_, ?_, ?_, ?_, ?_, trivial⟩ ?_
            · intro a wx hT hF K hK
              obtain ⟨f0, _⟩ := hF
              have f0 : a.tmps.getD 0 undef = va := f0
              refine rely_wp rfl ?_
              exact opr_move (.inl rfl) (hK _ _ (NewT.refl _) f0)
            · intro a wx hT hF K hK
              obtain ⟨f47, _⟩ := hF
              have f47 : a.tmps.getD 47 undef = va := f47
              refine rely_wp rfl ?_
              exact opr_len_parts rfl (by rw [eval_tmp, f47]; exact (hT.partsL HA.out)) (hK _ _ (NewT.refl _) rfl)
            · intro a wx hT hF K hK
              obtain ⟨f1, _⟩ := hF
              have f1 : a.tmps.getD 1 undef = vb := f1
              refine rely_wp rfl ?_
              exact opr_move (.inl rfl) (hK _ _ (NewT.refl _) f1)
            · intro a wx hT hF K hK
              obtain ⟨f49, _⟩ := hF
              have f49 : a.tmps.getD 49 undef = vb := f49
              refine rely_wp rfl ?_
              exact opr_len_parts rfl (by rw [eval_tmp, f49]; exact (hT.partsL HB.out)) (hK _ _ (NewT.refl _) rfl)
            · intro a wx hT hF K hK
              obtain ⟨f48, f50, _⟩ := hF
              have f48 : a.tmps.getD 48 undef = .int .i64 ((List.length (x) : Int)) := f48
              have f50 : a.tmps.getD 50 undef = .int .i64 ((List.length (y) : Int)) := f50
              refine rely_wp rfl ?_
              exact opr_cmp (b := ((List.length (x) : Int)) != ((List.length (y) : Int))) (.inr (.inl ⟨rfl, rfl⟩)) Tryd.underlying3 rfl f48 f50 (hK _ _ (NewT.refl _) rfl)
            · intro a wx hT hF K hK
              obtain ⟨f51, _⟩ := hF
              have f51 : a.tmps.getD 51 undef = .bool (((List.length (x) : Int)) != ((List.length (y) : Int))) := f51
              refine rely_wp rfl ?_
              exact opr_move (.inl rfl) (hK _ _ (NewT.refl _) f51)
            · intro a wx hT hF K hK
              obtain ⟨f0, f52, _⟩ := hF
              have f0 : a.tmps.getD 0 undef = va := f0
              have f52 : a.tmps.getD 52 undef = .bool (((List.length (x) : Int)) != ((List.length (y) : Int))) := f52
              refine rely_if (rely_gf f52) (NewT.refl _) hK (fun hE hK => ?_)
              exact opr_move (.inl rfl) (hK _ _ (NewT.refl _) f0)
            · intro a wx hT hF K hK
              obtain ⟨f53, f52, _⟩ := hF
              have f53 : ((!(((List.length (x) : Int)) != ((List.length (y) : Int))))) = true → a.tmps.getD 53 undef = va := f53
              have f52 : a.tmps.getD 52 undef = .bool (((List.length (x) : Int)) != ((List.length (y) : Int))) := f52
              refine rely_if (rely_gf f52) (NewT.refl _) hK (fun hE hK => ?_)
              exact opr_cv (Roots_cv hC _ x wx (hT.tables HT.out) (hT.partsL HA.out) (HFx.out)) rfl Tryd.func14 (by kernel_rfl) (by kernel_rfl) (by simp only [List.map_toArray, List.map_cons, List.map_nil, eval_tmp, (f53 hE)]) hK
            · intro a wx hT hF K hK
              obtain ⟨f1, f52, _⟩ := hF
              have f1 : a.tmps.getD 1 undef = vb := f1
              have f52 : a.tmps.getD 52 undef = .bool (((List.length (x) : Int)) != ((List.length (y) : Int))) := f52
              refine rely_if (rely_gf f52) (NewT.refl _) hK (fun hE hK => ?_)
              exact opr_move (.inl rfl) (hK _ _ (NewT.refl _) f1)
            · intro a wx hT hF K hK
              obtain ⟨f55, f52, _⟩ := hF
              have f55 : ((!(((List.length (x) : Int)) != ((List.length (y) : Int))))) = true → a.tmps.getD 55 undef = vb := f55
              have f52 : a.tmps.getD 52 undef = .bool (((List.length (x) : Int)) != ((List.length (y) : Int))) := f52
              refine rely_if (rely_gf f52) (NewT.refl _) hK (fun hE hK => ?_)
              exact opr_cv (Roots_cv hC _ y wx (hT.tables HT.out) (hT.partsL HB.out) (HFy.out)) rfl Tryd.func14 (by kernel_rfl) (by kernel_rfl) (by simp only [List.map_toArray, List.map_cons, List.map_nil, eval_tmp, (f55 hE)]) hK
            · intro a wx hT hF K hK
              obtain ⟨f54, f56, f52, _⟩ := hF
              have f54 : ((!(((List.length (x) : Int)) != ((List.length (y) : Int))))) = true → a.tmps.getD 54 undef = .agg (rowA 32 (bF (rootM node z (List.map lf x)))) := f54
              have f56 : ((!(((List.length (x) : Int)) != ((List.length (y) : Int))))) = true → a.tmps.getD 56 undef = .agg (rowA 32 (bF (rootM node z (List.map lf y)))) := f56
              have f52 : a.tmps.getD 52 undef = .bool (((List.length (x) : Int)) != ((List.length (y) : Int))) := f52
              refine rely_if (rely_gf f52) (NewT.refl _) hK (fun hE hK => ?_)
              exact opr_neq_hash (b := !(eqH (rootM node z (List.map lf x)) (rootM node z (List.map lf y)))) rfl (f54 hE) (f56 hE) (rfl) (hK _ _ (NewT.refl _) rfl)
            · intro a wx hT hF K hK
              obtain ⟨f52, f57, _⟩ := hF
              have f52 : a.tmps.getD 52 undef = .bool (((List.length (x) : Int)) != ((List.length (y) : Int))) := f52
              have f57 : ((!(((List.length (x) : Int)) != ((List.length (y) : Int))))) = true → a.tmps.getD 57 undef = .bool (!(eqH (rootM node z (List.map lf x)) (rootM node z (List.map lf y)))) := f57
              refine rely_wp rfl ?_
              exact opr_pick_b rfl f52 (fun hb => hK _ _ (NewT.refl _) (pn_or1 Q1_10 hb)) (fun hb => hK _ _ (NewT.refl _) (pn_or0 Q1_10 (f57 (bnot hb)) hb))
            · intro a wx hT hF K hK
              obtain ⟨f58, _⟩ := hF
              have f58 : a.tmps.getD 58 undef = .bool (q1_10) := f58
              refine rely_wp rfl ?_
              exact opr_move (.inl rfl) (hK _ _ (NewT.refl _) f58)
            · intro a wx hT hF K hK
              obtain ⟨f0, f59, _⟩ := hF
              have f0 : a.tmps.getD 0 undef = va := f0
              have f59 : a.tmps.getD 59 undef = .bool (q1_10) := f59
              refine rely_if (rely_gf f59) (NewT.refl _) hK (fun hE hK => ?_)
              exact opr_move (.inl rfl) (hK _ _ (NewT.refl _) f0)
            · intro a wx hT hF K hK
              obtain ⟨f1, f59, _⟩ := hF
              have f1 : a.tmps.getD 1 undef = vb := f1
              have f59 : a.tmps.getD 59 undef = .bool (q1_10) := f59
              refine rely_if (rely_gf f59) (NewT.refl _) hK (fun hE hK => ?_)
              exact opr_move (.inl rfl) (hK _ _ (NewT.refl _) f1)
            · intro a wx hT hF K hK
              obtain ⟨f60, f61, f59, _⟩ := hF
              have f60 : ((!q1_10)) = true → a.tmps.getD 60 undef = va := f60
              have f61 : ((!q1_10)) = true → a.tmps.getD 61 undef = vb := f61
              have f59 : a.tmps.getD 59 undef = .bool (q1_10) := f59
              refine rely_if (rely_gf f59) (NewT.refl _) hK (fun hE hK => ?_)
              exact opr_cv (RSame7_cv _ _ x y wx (hT.partsL HA.out) (hT.partsL HB.out) (HFx.out) (HFy.out)) rfl Tryd.func20 (by kernel_rfl) (by kernel_rfl) (by simp only [List.map_toArray, List.map_cons, List.map_nil, eval_tmp, (f60 hE), (f61 hE)]) hK
            · intro a wx hT hF K hK
              obtain ⟨f59, f62, _⟩ := hF
              have f59 : a.tmps.getD 59 undef = .bool (q1_10) := f59
              have f62 : ((!q1_10)) = true → a.tmps.getD 62 undef = .bool (decide (x = y)) := f62
              refine rely_wp rfl ?_
              exact opr_pick_b rfl f59 (fun hb => hK _ _ (NewT.refl _) (pk_or1 hb)) (fun hb => hK _ _ (NewT.refl _) (pk_or0 (f62 (bnot hb)) hb))
            · intro a wx hT hF K hK
              obtain ⟨f63, _⟩ := hF
              have f63 : a.tmps.getD 63 undef = .bool (q1_10 || (decide (x = y))) := f63
              refine rely_wp rfl ?_
              exact opr_move (.inr rfl) (hK _ _ (NewT.refl _) f63)
            · intro w5 k5
              intro u h; obtain rfl := Eq.symm (h (by simp)); clear h
              intro u h; obtain rfl := Eq.symm (h (by simp)); clear h
              intro u h; obtain rfl := Eq.symm (h (by simp)); clear h
              intro u h; obtain rfl := Eq.symm (h (by simp)); clear h
              intro u h; obtain rfl := Eq.symm (h (by simp)); clear h
              intro u h; obtain rfl := Eq.symm (h (by simp)); clear h
              intro _ _
              intro _ _
              intro _ _
              intro _ _
              intro _ _
              intro u h; obtain rfl := Eq.symm (h (by simp)); clear h
              intro u h; obtain rfl := Eq.symm (h (by simp)); clear h
              intro _ _
              intro _ _
              intro _ _
              intro u h; obtain rfl := Eq.symm (h (by simp)); clear h
              intro u h; obtain rfl := Eq.symm (h (by simp)); clear h
              subst Q1_10
              refine relyEnd_nil rfl ?_
              refine wpList_end rfl ?_
              simp only [Act.put, List.setIfInBounds_toArray, List.set_cons_zero, List.set_cons_succ]
              go_simp
              rw [HOR.out]
              go_wp2
              go_ret
              exact ⟨rfl, (NewT.trans _ _ _ HN.out k5).out⟩
end Go.Proofs.YtlnedphnphabkaaDoor
