/- Two things are gone down as long as their texts are the same: clash.firstApart, of lists and of ways. -/
import Derived.Test.YtlnedphnphabkaaDoorMd
import Derived.Test.YtlnedphnphabkaaDoorMc
import Derived.Test.YtlnedphnphabkaaDoorMb
set_option linter.all false
namespace Go.Proofs.YtlnedphnphabkaaDoor
open Go Go.RowKit
set_option maxRecDepth 8000
set_option linter.all false
/-- Two texts and a flag. -/
def svT2 (t t' : List UInt8) (q : Bool) : SV NewT := ⟨fun v w => ∃ a b, v = .tuple #[a, b, .bool q] ∧ RdV w [] a t ∧ RdV w [] b t', fun _ _ _ ⟨a, b, h1, h2, h3⟩ hT => ⟨a, b, h1, hT.rd h2, hT.rd h3⟩⟩
/-- Two structs of which more is known, and true. -/
def svDn (n : Nat) (X : (Nat → Value) → (Nat → Value) → Prop) : SV NewT := ⟨fun v _ => ∃ F G, v = .tuple #[.agg (rowA n F), .agg (rowA n G), .bool true] ∧ X F G, fun _ _ _ h _ => h⟩
set_option maxHeartbeats 1000000 in
theorem Text_L (w : World) (F : Nat → Value) (b : Nat) (t : List UInt8) (hb : w.rowIs b 42 1 (fun _ => (.func (.func 24) #[] #[]))) (hx : ∀ w', NewT w w' → Cv 46 #[.agg (rowA 2 F), .func (.func 24) #[] #[]] w' (svRd t)) : Cv 45 #[.agg (rowA 2 F), .pointer (some ⟨b, 0, none⟩)] w (svRd t) := by
  unfold Cv
  have HX := Lib.hid hx
  have hb0 := hb
  clear hx hb
  go_enter Tryd.func45, Tryd.ntmps45
  go_upto_region 1 with fail
  have r4 := rowIs_box w 64 2 F
  have hN : NewT w (w.alloc (.cells (rowA 2 F) 64)) := (NewT.alloc _ _)
  change Code.wp _ _ _ _ (w.alloc (.cells (rowA 2 F) 64))
  generalize (w.alloc (.cells (rowA 2 F) 64)) = W0 at r4 hN ⊢
  have RB := Lib.hid (hN.row hb0)
  have R4 := Lib.hid r4
  have HN := Lib.hid hN
  clear r4 hN hb0
  refine wp_region_steps0 NewT [SV.eq (.agg (rowA 2 (F))), SV.eq ((.func (.func 24) #[] #[])), svRd (t), svRd (t)] [([(2, none)], none), ([(1, none)], none), ([(4, some 0), (5, some 1)], none), ([(6, some 2)], none)] 7 4 rfl rfl (by kernel_rfl) NewT.trans (NewT.refl _) (Nat.le_of_ble_eq_true rfl) ⟨?_, ?_, ?_, ?_, trivial⟩ ?_
  · intro a wx hT hF K hK
    obtain ⟨f2, _⟩ := hF
    have f2 : a.tmps.getD 2 undef = .pointer (some ⟨w.heap.size, 0, none⟩) := f2
    refine rely_wp rfl ?_
    exact opr_ldLs (hT.row R4.out) rfl f2 (hK _ _ (NewT.refl _) rfl)
  · intro a wx hT hF K hK
    obtain ⟨f1, _⟩ := hF
    have f1 : a.tmps.getD 1 undef = .pointer (some ⟨b, 0, none⟩) := f1
    refine rely_wp rfl ?_
    exact opr_ldFR (hT.row RB.out) (by decide) rfl rfl f1 (hK _ _ (NewT.refl _) rfl)
  · intro a wx hT hF K hK
    obtain ⟨f4, f5, _⟩ := hF
    have f4 : a.tmps.getD 4 undef = .agg (rowA 2 (F)) := f4
    have f5 : a.tmps.getD 5 undef = (.func (.func 24) #[] #[]) := f5
    refine rely_wp rfl ?_
    exact opr_cv (HX.out wx (NewT.trans _ _ _ HN.out hT)) rfl Tryd.func46 (by kernel_rfl) (by kernel_rfl) (by simp only [List.map_toArray, List.map_cons, List.map_nil, eval_tmp, f4, f5]) hK
  · intro a wx hT hF K hK
    obtain ⟨f6, _⟩ := hF
    replace f6 := show (svRd (t)).pred (a.tmps.getD 6 undef) wx from f6
    refine rely_wp rfl ?_
    exact opr_move (.inr rfl) (hK _ _ (NewT.refl _) f6)
  · intro wa ka
    intro u h; obtain rfl := Eq.symm (h (by simp)); clear h
    intro u h; obtain rfl := Eq.symm (h (by simp)); clear h
    intro _ _
    intro u3 h; have g3 := h (by simp); clear h; replace g3 := show (svRd (t)).pred u3 wa from g3
    refine relyEnd_nil rfl ?_
    refine wpList_end rfl ?_
    simp only [Act.put, List.setIfInBounds_toArray, List.set_cons_zero, List.set_cons_succ]
    go_simp
    go_wp2
    go_ret
    exact ⟨_, rfl, NewT.trans _ _ _ HN.out ka, g3⟩
set_option maxHeartbeats 1000000 in
theorem Text_W (w : World) (F : Nat → Value) (b : Nat) (t : List UInt8) (hb : w.rowIs b 78 1 (fun _ => (.func (.func 23) #[] #[]))) (hx : ∀ w', NewT w w' → Cv 56 #[.agg (rowA 36 F), .func (.func 23) #[] #[]] w' (svRd t)) : Cv 55 #[.agg (rowA 36 F), .pointer (some ⟨b, 0, none⟩)] w (svRd t) := by
  unfold Cv
  have HX := Lib.hid hx
  have hb0 := hb
  clear hx hb
  go_enter Tryd.func55, Tryd.ntmps55
  go_upto_region 1 with fail
  have r4 := rowIs_box w 54 36 F
  have hN : NewT w (w.alloc (.cells (rowA 36 F) 54)) := (NewT.alloc _ _)
  change Code.wp _ _ _ _ (w.alloc (.cells (rowA 36 F) 54))
  generalize (w.alloc (.cells (rowA 36 F) 54)) = W0 at r4 hN ⊢
  have RB := Lib.hid (hN.row hb0)
  have R4 := Lib.hid r4
  have HN := Lib.hid hN
  clear r4 hN hb0
  refine wp_region_steps0 NewT [SV.eq (.agg (rowA 36 (F))), SV.eq ((.func (.func 23) #[] #[])), svRd (t), svRd (t)] [([(2, none)], none), ([(1, none)], none), ([(4, some 0), (5, some 1)], none), ([(6, some 2)], none)] 7 4 rfl rfl (by kernel_rfl) NewT.trans (NewT.refl _) (Nat.le_of_ble_eq_true rfl) ⟨?_, ?_, ?_, ?_, trivial⟩ ?_
  · intro a wx hT hF K hK
    obtain ⟨f2, _⟩ := hF
    have f2 : a.tmps.getD 2 undef = .pointer (some ⟨w.heap.size, 0, none⟩) := f2
    refine rely_wp rfl ?_
    exact opr_ldWy (hT.row R4.out) rfl f2 (hK _ _ (NewT.refl _) rfl)
  · intro a wx hT hF K hK
    obtain ⟨f1, _⟩ := hF
    have f1 : a.tmps.getD 1 undef = .pointer (some ⟨b, 0, none⟩) := f1
    refine rely_wp rfl ?_
    exact opr_ldFC (hT.row RB.out) (by decide) rfl rfl f1 (hK _ _ (NewT.refl _) rfl)
  · intro a wx hT hF K hK
    obtain ⟨f4, f5, _⟩ := hF
    have f4 : a.tmps.getD 4 undef = .agg (rowA 36 (F)) := f4
    have f5 : a.tmps.getD 5 undef = (.func (.func 23) #[] #[]) := f5
    refine rely_wp rfl ?_
    exact opr_cv (HX.out wx (NewT.trans _ _ _ HN.out hT)) rfl Tryd.func56 (by kernel_rfl) (by kernel_rfl) (by simp only [List.map_toArray, List.map_cons, List.map_nil, eval_tmp, f4, f5]) hK
  · intro a wx hT hF K hK
    obtain ⟨f6, _⟩ := hF
    replace f6 := show (svRd (t)).pred (a.tmps.getD 6 undef) wx from f6
    refine rely_wp rfl ?_
    exact opr_move (.inr rfl) (hK _ _ (NewT.refl _) f6)
  · intro wa ka
    intro u h; obtain rfl := Eq.symm (h (by simp)); clear h
    intro u h; obtain rfl := Eq.symm (h (by simp)); clear h
    intro _ _
    intro u3 h; have g3 := h (by simp); clear h; replace g3 := show (svRd (t)).pred u3 wa from g3
    refine relyEnd_nil rfl ?_
    refine wpList_end rfl ?_
    simp only [Act.put, List.setIfInBounds_toArray, List.set_cons_zero, List.set_cons_succ]
    go_simp
    go_wp2
    go_ret
    exact ⟨_, rfl, NewT.trans _ _ _ HN.out ka, g3⟩
set_option maxHeartbeats 2000000 in
theorem FA_L {St : Type} (R : St → (Nat → Value) → (Nat → Value) → Prop) (tx ty : St → List UInt8) (E : St → List UInt8 × List UInt8) (M : Option Value → Nat) (w : World) (c : Value)
    (hone : ∀ s F G, R s F G → (∀ i, (F i).oneCell' = true) ∧ ∀ i, (G i).oneCell' = true)
    (hx : ∀ s F G w', R s F G → NewT w w' → Cv 45 #[.agg (rowA 2 F), c] w' (svRd (tx s)))
    (hy : ∀ s F G w', R s F G → NewT w w' → Cv 45 #[.agg (rowA 2 G), c] w' (svRd (ty s)))
    (hb : ∀ s F G w', R s F G → NewT w w' → tx s = ty s → Cv 48 #[.agg (rowA 2 F), .agg (rowA 2 G)] w' (svDn 2 (fun F' G' => ∃ s', R s' F' G' ∧ E s' = E s ∧ M (some (F' 0)) < M (some (F 0)))))
    (he : ∀ s F G, R s F G → tx s ≠ ty s → E s = (tx s, ty s))
    (s0 : St) (F0 G0 : Nat → Value) (h0 : R s0 F0 G0) : Cv 47 #[.agg (rowA 2 F0), .agg (rowA 2 G0), .func (.func 45) #[] #[c], .func (.func 48) #[] #[]] w (svT2 (E s0).1 (E s0).2 true) := by
  unfold Cv
  have HO := Lib.hid hone
  have HX := Lib.hid hx
  have HY := Lib.hid hy
  have HB := Lib.hid hb
  have HE0 := Lib.hid he
  have H0 := Lib.hid h0
  clear hone hx hy hb he h0
  go_enter Tryd.func47, Tryd.ntmps47
  go_upto_region 1 with fail
  have r4 := (rowIs_box w 64 2 F0).alloc (.cells (rowA 2 G0) 64)
  have r5 := rowIs_box (w.alloc (.cells (rowA 2 F0) 64)) 64 2 G0
  rw [World.size_alloc] at r5
  have hN : NewT w ((w.alloc (.cells (rowA 2 F0) 64)).alloc (.cells (rowA 2 G0) 64)) := (NewT.trans _ _ _ (NewT.alloc _ _) (NewT.alloc _ _))
  change Code.wp _ _ _ _ ((w.alloc (.cells (rowA 2 F0) 64)).alloc (.cells (rowA 2 G0) 64))
  generalize ((w.alloc (.cells (rowA 2 F0) 64)).alloc (.cells (rowA 2 G0) 64)) = W0 at r4 r5 hN ⊢
  go_wp2
  go_loopw [11] (fun q wr => q = .bool true ∧ ∃ s F G, Hid (R s F G) ∧ Hid (E s = E s0) ∧ Hid (wr.rowIs w.heap.size 64 2 F) ∧ Hid (wr.rowIs (w.heap.size + 1) 64 2 G) ∧ NewT w wr) (fun _ wr => M (wr.cell? ⟨w.heap.size, 0, none⟩))
  case atStart => exact ⟨rfl, s0, F0, G0, H0, Lib.hid rfl, Lib.hid r4, Lib.hid r5, hN⟩
  case round =>
    clear r4 r5 hN
    obtain ⟨rfl, s, F, G, HR, HE, R4, R5, hN⟩ := hrel
    have HN := Lib.hid hN
    have HM0 : Hid (M (wr.cell? ⟨w.heap.size, 0, none⟩) = M (some (F 0))) := Lib.hid (by rw [R4.out.cell (i := 0) (by decide)])
    clear hN
    obtain ⟨b, hq⟩ : ∃ b, decide (tx s = ty s) = b := ⟨_, rfl⟩
    have HQ := Lib.hid hq
    clear hq
    go_upto_region 4 with fail
    refine wp_region_rely (NewT) [SV.eq ((.func (.func 45) #[] #[c])), SV.eq (.agg (rowA 2 (F))), svRd (tx s), SV.eq ((.func (.func 45) #[] #[c])), SV.eq (.agg (rowA 2 (G))), svRd (ty s), svRd (tx s)] [([(2, none)], none), ([(4, none)], none), ([(23, some 0), (24, some 1)], none), ([(2, none)], none), ([(5, none)], none), ([(26, some 3), (27, some 4)], none), ([(25, some 2)], none)] 35 rfl (by kernel_rfl) rfl (by kernel_rfl) (by kernel_rfl) rfl NewT.trans (NewT.drew _) (Nat.le_of_ble_eq_true rfl) ⟨?_, ?_, ?_, ?_, ?_, ?_, ?_, trivial⟩ ?_
    · intro a wx hT hF K hK
      obtain ⟨f2, _⟩ := hF
      have f2 : a.tmps.getD 2 undef = (.func (.func 45) #[] #[c]) := f2
      refine rely_wp rfl ?_
      exact opr_move (.inl rfl) (hK _ _ (NewT.refl _) f2)
    · intro a wx hT hF K hK
      obtain ⟨f4, _⟩ := hF
      have f4 : a.tmps.getD 4 undef = .pointer (some ⟨w.heap.size, 0, none⟩) := f4
      refine rely_wp rfl ?_
      exact opr_ldLs (hT.row R4.out) rfl f4 (hK _ _ (NewT.refl _) rfl)
    · intro a wx hT hF K hK
      obtain ⟨f23, f24, _⟩ := hF
      have f23 : a.tmps.getD 23 undef = (.func (.func 45) #[] #[c]) := f23
      have f24 : a.tmps.getD 24 undef = .agg (rowA 2 (F)) := f24
      refine rely_wp rfl ?_
      exact opr_cvv (cap := #[c]) (HX.out s F G wx HR.out (NewT.trans _ _ _ HN.out hT)) rfl f23 Tryd.func45 (by kernel_rfl) (by kernel_rfl) (by simp only [List.map_toArray, List.map_cons, List.map_nil, List.append_toArray, List.cons_append, List.nil_append, List.append_nil, eval_tmp, eval_const, f24]) hK
    · intro a wx hT hF K hK
      obtain ⟨f2, _⟩ := hF
      have f2 : a.tmps.getD 2 undef = (.func (.func 45) #[] #[c]) := f2
      refine rely_wp rfl ?_
      exact opr_move (.inl rfl) (hK _ _ (NewT.refl _) f2)
    · intro a wx hT hF K hK
      obtain ⟨f5, _⟩ := hF
      have f5 : a.tmps.getD 5 undef = .pointer (some ⟨w.heap.size + 1, 0, none⟩) := f5
      refine rely_wp rfl ?_
      exact opr_ldLs (hT.row R5.out) rfl f5 (hK _ _ (NewT.refl _) rfl)
    · intro a wx hT hF K hK
      obtain ⟨f26, f27, _⟩ := hF
      have f26 : a.tmps.getD 26 undef = (.func (.func 45) #[] #[c]) := f26
      have f27 : a.tmps.getD 27 undef = .agg (rowA 2 (G)) := f27
      refine rely_wp rfl ?_
      exact opr_cvv (cap := #[c]) (HY.out s F G wx HR.out (NewT.trans _ _ _ HN.out hT)) rfl f26 Tryd.func45 (by kernel_rfl) (by kernel_rfl) (by simp only [List.map_toArray, List.map_cons, List.map_nil, List.append_toArray, List.cons_append, List.nil_append, List.append_nil, eval_tmp, eval_const, f27]) hK
    · intro a wx hT hF K hK
      obtain ⟨f25, _⟩ := hF
      replace f25 := show (svRd (tx s)).pred (a.tmps.getD 25 undef) wx from f25
      refine rely_wp rfl ?_
      exact opr_move (.inr rfl) (hK _ _ (NewT.refl _) f25)
    · intro wa ka
      intro u h; obtain rfl := Eq.symm (h (by simp)); clear h
      intro u h; obtain rfl := Eq.symm (h (by simp)); clear h
      intro _ _
      intro u h; obtain rfl := Eq.symm (h (by simp)); clear h
      intro u h; obtain rfl := Eq.symm (h (by simp)); clear h
      intro u28 h; have g28 := h (by simp); clear h; replace g28 := show (svRd (ty s)).pred u28 wa from g28
      intro u12 h; have g12 := h (by simp); clear h; replace g12 := show (svRd (tx s)).pred u12 wa from g12
      refine relyEnd_nil rfl ?_
      simp only [Act.put, List.setIfInBounds_toArray, List.set_cons_zero, List.set_cons_succ]
      refine opr_move (.inr rfl) ?_
      go_simp
      have G12 := Lib.hid g12
      have G28 := Lib.hid g28
      replace HN := Lib.hid (NewT.trans _ _ _ HN.out ka)
      replace R4 := Lib.hid (ka.row R4.out)
      replace R5 := Lib.hid (ka.row R5.out)
      clear g12 g28 ka
      go_upto_region 5 with fail
      refine wp_region_steps0 NewT [SV.eq (u12), SV.eq (u28), SV.eq (.bool (b)), SV.eq (.bool (!b))] [([(12, none)], none), ([(13, none)], none), ([(29, some 0), (30, some 1)], none), ([(31, some 2)], none)] 35 4 rfl rfl (by kernel_rfl) NewT.trans (NewT.refl _) (Nat.le_of_ble_eq_true rfl) ⟨?_, ?_, ?_, ?_, trivial⟩ ?_
      · intro a wx hT hF K hK
        obtain ⟨f12, _⟩ := hF
        have f12 : a.tmps.getD 12 undef = u12 := f12
        refine rely_wp rfl ?_
        exact opr_move (.inl rfl) (hK _ _ (NewT.refl _) f12)
      · intro a wx hT hF K hK
        obtain ⟨f13, _⟩ := hF
        have f13 : a.tmps.getD 13 undef = u28 := f13
        refine rely_wp rfl ?_
        exact opr_move (.inl rfl) (hK _ _ (NewT.refl _) f13)
      · intro a wx hT hF K hK
        obtain ⟨f29, f30, _⟩ := hF
        have f29 : a.tmps.getD 29 undef = u12 := f29
        have f30 : a.tmps.getD 30 undef = u28 := f30
        refine rely_wp rfl ?_
        exact opr_cv (by rw [← HQ.out]; exact BEqualK u12 u28 (tx s) (ty s) wx (hT.rd G12.out) (hT.rd G28.out)) rfl Tryd.func33 (by kernel_rfl) (by kernel_rfl) (by simp only [List.map_toArray, List.map_cons, List.map_nil, eval_tmp, f29, f30]) hK
      · intro a wx hT hF K hK
        obtain ⟨f31, _⟩ := hF
        have f31 : a.tmps.getD 31 undef = .bool (b) := f31
        refine rely_wp rfl ?_
        exact opr_not rfl f31 (hK _ _ (NewT.refl _) rfl)
      · intro wb kb
        intro u h; obtain rfl := Eq.symm (h (by simp)); clear h
        intro u h; obtain rfl := Eq.symm (h (by simp)); clear h
        intro u h; obtain rfl := Eq.symm (h (by simp)); clear h
        intro u h; obtain rfl := Eq.symm (h (by simp)); clear h
        refine relyEnd_nil rfl ?_
        refine wpList_end rfl ?_
        simp only [Act.put, List.setIfInBounds_toArray, List.set_cons_zero, List.set_cons_succ]
        go_simp
        replace HN := Lib.hid (NewT.trans _ _ _ HN.out kb)
        replace R4 := Lib.hid (kb.row R4.out)
        replace R5 := Lib.hid (kb.row R5.out)
        replace G12 := Lib.hid (kb.rd G12.out)
        replace G28 := Lib.hid (kb.rd G28.out)
        clear kb
        cases b
        · go_wp2
          have he := HE0.out s F G HR.out (of_decide_eq_false HQ.out)
          rw [HE.out] at he
          exact bodyPost_ret (results_ttt rfl rfl rfl rfl) rfl ⟨_, rfl, HN.out, u12, u28, rfl, by rw [he]; exact G12.out, by rw [he]; exact G28.out⟩
        · clear G12 G28
          go_upto_region 3 with fail
          refine wp_region_steps0 NewT [SV.eq ((.func (.func 48) #[] #[])), SV.eq (.agg (rowA 2 (F))), SV.eq (.agg (rowA 2 (G))), svDn 2 (fun F' G' => ∃ s', R s' F' G' ∧ E s' = E s ∧ M (some (F' 0)) < M (some (F 0))), svDn 2 (fun F' G' => ∃ s', R s' F' G' ∧ E s' = E s ∧ M (some (F' 0)) < M (some (F 0)))] [([(3, none)], none), ([(4, none)], none), ([(5, none)], none), ([(16, some 0), (17, some 1), (18, some 2)], none), ([(19, some 3)], none)] 35 5 rfl rfl (by kernel_rfl) NewT.trans (NewT.refl _) (Nat.le_of_ble_eq_true rfl) ⟨?_, ?_, ?_, ?_, ?_, trivial⟩ ?_
          · intro a wx hT hF K hK
            obtain ⟨f3, _⟩ := hF
            have f3 : a.tmps.getD 3 undef = (.func (.func 48) #[] #[]) := f3
            refine rely_wp rfl ?_
            exact opr_move (.inl rfl) (hK _ _ (NewT.refl _) f3)
          · intro a wx hT hF K hK
            obtain ⟨f4, _⟩ := hF
            have f4 : a.tmps.getD 4 undef = .pointer (some ⟨w.heap.size, 0, none⟩) := f4
            refine rely_wp rfl ?_
            exact opr_ldLs (hT.row R4.out) rfl f4 (hK _ _ (NewT.refl _) rfl)
          · intro a wx hT hF K hK
            obtain ⟨f5, _⟩ := hF
            have f5 : a.tmps.getD 5 undef = .pointer (some ⟨w.heap.size + 1, 0, none⟩) := f5
            refine rely_wp rfl ?_
            exact opr_ldLs (hT.row R5.out) rfl f5 (hK _ _ (NewT.refl _) rfl)
          · intro a wx hT hF K hK
            obtain ⟨f16, f17, f18, _⟩ := hF
            have f16 : a.tmps.getD 16 undef = (.func (.func 48) #[] #[]) := f16
            have f17 : a.tmps.getD 17 undef = .agg (rowA 2 (F)) := f17
            have f18 : a.tmps.getD 18 undef = .agg (rowA 2 (G)) := f18
            refine rely_wp rfl ?_
            exact opr_cvv (cap := #[]) (HB.out s F G wx HR.out (NewT.trans _ _ _ HN.out hT) (of_decide_eq_true HQ.out)) rfl f16 Tryd.func48 (by kernel_rfl) (by kernel_rfl) (by simp only [List.map_toArray, List.map_cons, List.map_nil, List.append_toArray, List.cons_append, List.nil_append, List.append_nil, eval_tmp, eval_const, f17, f18]) hK
          · intro a wx hT hF K hK
            obtain ⟨f19, _⟩ := hF
            replace f19 := show (svDn 2 (fun F' G' => ∃ s', R s' F' G' ∧ E s' = E s ∧ M (some (F' 0)) < M (some (F 0)))).pred (a.tmps.getD 19 undef) wx from f19
            refine rely_wp rfl ?_
            exact opr_move (.inl rfl) (hK _ _ (NewT.refl _) f19)
          · intro wc kc
            intro u h; obtain rfl := Eq.symm (h (by simp)); clear h
            intro u h; obtain rfl := Eq.symm (h (by simp)); clear h
            intro u h; obtain rfl := Eq.symm (h (by simp)); clear h
            intro _ _
            intro u15 h; have g15 := h (by simp); clear h; replace g15 := show (svDn 2 (fun F' G' => ∃ s', R s' F' G' ∧ E s' = E s ∧ M (some (F' 0)) < M (some (F 0)))).pred u15 wc from g15
            refine relyEnd_nil rfl ?_
            simp only [Act.put, List.setIfInBounds_toArray, List.set_cons_zero, List.set_cons_succ]
            obtain ⟨F1, G1, rfl, s1, hR1, hE1, hM1⟩ := g15
            have o1 := HO.out s1 F1 G1 hR1
            refine wpList_plain rfl (fun K hK => ?_)
            refine opr_ext rfl rfl rfl (hK _ _ ?_)
            clear hK K
            refine wpList_plain rfl (fun K hK => ?_)
            refine opr_ext rfl rfl rfl (hK _ _ ?_)
            clear hK K
            refine wpList_plain rfl (fun K hK => ?_)
            refine opr_ext rfl rfl rfl (hK _ _ ?_)
            clear hK K
            simp only [Act.put, List.setIfInBounds_toArray, List.set_cons_zero, List.set_cons_succ]
            refine wpList_plain rfl (fun K hK => ?_)
            refine opr_putm (F := F1) rfl rfl rfl (kc.row R4.out) (by decide) infoL o1.1 (fun i hi => by rw [if_pos (by omega), Nat.sub_zero]) ?_
            intro w7 hR7 r4
            refine hK _ _ ?_
            clear hK K
            simp only [Act.put, List.setIfInBounds_toArray, List.set_cons_zero, List.set_cons_succ]
            refine wpList_plain rfl (fun K hK => ?_)
            refine opr_putm (F := G1) rfl rfl rfl (hR7.row (by omega) (kc.row R5.out)) (by decide) infoL o1.2 (fun i hi => by rw [if_pos (by omega), Nat.sub_zero]) ?_
            intro w8 hR8 r5
            refine hK _ _ ?_
            clear hK K
            simp only [Act.put, List.setIfInBounds_toArray, List.set_cons_zero, List.set_cons_succ]
            refine wpList_plain rfl (fun K hK => ?_)
            refine opr_move (.inr rfl) (hK _ _ ?_)
            refine wpList_end rfl ?_
            simp only [Act.put, List.setIfInBounds_toArray, List.set_cons_zero, List.set_cons_succ]
            go_simp
            replace r4 := hR8.row (by omega) r4
            have HN9 := Lib.hid (NewT.rt (NewT.rt (NewT.trans _ _ _ HN.out kc) hR7 (Nat.le_refl _)) hR8 (by omega))
            have HR4 := Lib.hid r4
            have HR5 := Lib.hid r5
            have HR1 := Lib.hid hR1
            have HE1 := Lib.hid hE1
            have HM1 := Lib.hid hM1
            clear r4 r5 hR7 hR8 kc o1 R4 R5 HN hR1 hE1 hM1
            go_wp2
            go_roundw
            case rel => exact ⟨rfl, s1, F1, G1, HR1, Lib.hid (HE1.out.trans HE.out), HR4, HR5, HN9.out⟩
            case measure =>
              rw [HR4.out.cell (i := 0) (by decide), HM0.out]
              exact HM1.out
set_option maxHeartbeats 2000000 in
theorem FA_W {St : Type} (R : St → (Nat → Value) → (Nat → Value) → Prop) (tx ty : St → List UInt8) (E : St → List UInt8 × List UInt8) (M : Option Value → Nat) (w : World) (c : Value)
    (hone : ∀ s F G, R s F G → (∀ i, (F i).oneCell' = true) ∧ ∀ i, (G i).oneCell' = true)
    (hx : ∀ s F G w', R s F G → NewT w w' → Cv 55 #[.agg (rowA 36 F), c] w' (svRd (tx s)))
    (hy : ∀ s F G w', R s F G → NewT w w' → Cv 55 #[.agg (rowA 36 G), c] w' (svRd (ty s)))
    (hb : ∀ s F G w', R s F G → NewT w w' → tx s = ty s → Cv 58 #[.agg (rowA 36 F), .agg (rowA 36 G)] w' (svDn 36 (fun F' G' => ∃ s', R s' F' G' ∧ E s' = E s ∧ M (some (F' 34)) < M (some (F 34)))))
    (he : ∀ s F G, R s F G → tx s ≠ ty s → E s = (tx s, ty s))
    (s0 : St) (F0 G0 : Nat → Value) (h0 : R s0 F0 G0) : Cv 57 #[.agg (rowA 36 F0), .agg (rowA 36 G0), .func (.func 55) #[] #[c], .func (.func 58) #[] #[]] w (svT2 (E s0).1 (E s0).2 true) := by
  unfold Cv
  have HO := Lib.hid hone
  have HX := Lib.hid hx
  have HY := Lib.hid hy
  have HB := Lib.hid hb
  have HE0 := Lib.hid he
  have H0 := Lib.hid h0
  clear hone hx hy hb he h0
  go_enter Tryd.func57, Tryd.ntmps57
  go_upto_region 1 with fail
  have r4 := (rowIs_box w 54 36 F0).alloc (.cells (rowA 36 G0) 54)
  have r5 := rowIs_box (w.alloc (.cells (rowA 36 F0) 54)) 54 36 G0
  rw [World.size_alloc] at r5
  have hN : NewT w ((w.alloc (.cells (rowA 36 F0) 54)).alloc (.cells (rowA 36 G0) 54)) := (NewT.trans _ _ _ (NewT.alloc _ _) (NewT.alloc _ _))
  change Code.wp _ _ _ _ ((w.alloc (.cells (rowA 36 F0) 54)).alloc (.cells (rowA 36 G0) 54))
  generalize ((w.alloc (.cells (rowA 36 F0) 54)).alloc (.cells (rowA 36 G0) 54)) = W0 at r4 r5 hN ⊢
  go_wp2
  go_loopw [11] (fun q wr => q = .bool true ∧ ∃ s F G, Hid (R s F G) ∧ Hid (E s = E s0) ∧ Hid (wr.rowIs w.heap.size 54 36 F) ∧ Hid (wr.rowIs (w.heap.size + 1) 54 36 G) ∧ NewT w wr) (fun _ wr => M (wr.cell? ⟨w.heap.size, 34, none⟩))
  case atStart => exact ⟨rfl, s0, F0, G0, H0, Lib.hid rfl, Lib.hid r4, Lib.hid r5, hN⟩
  case round =>
    clear r4 r5 hN
    obtain ⟨rfl, s, F, G, HR, HE, R4, R5, hN⟩ := hrel
    have HN := Lib.hid hN
    have HM0 : Hid (M (wr.cell? ⟨w.heap.size, 34, none⟩) = M (some (F 34))) := Lib.hid (by rw [R4.out.cell (i := 34) (by decide)])
    clear hN
    obtain ⟨b, hq⟩ : ∃ b, decide (tx s = ty s) = b := ⟨_, rfl⟩
    have HQ := Lib.hid hq
    clear hq
    go_upto_region 4 with fail
    refine wp_region_rely (NewT) [SV.eq ((.func (.func 55) #[] #[c])), SV.eq (.agg (rowA 36 (F))), svRd (tx s), SV.eq ((.func (.func 55) #[] #[c])), SV.eq (.agg (rowA 36 (G))), svRd (ty s), svRd (tx s)] [([(2, none)], none), ([(4, none)], none), ([(23, some 0), (24, some 1)], none), ([(2, none)], none), ([(5, none)], none), ([(26, some 3), (27, some 4)], none), ([(25, some 2)], none)] 35 rfl (by kernel_rfl) rfl (by kernel_rfl) (by kernel_rfl) rfl NewT.trans (NewT.drew _) (Nat.le_of_ble_eq_true rfl) ⟨?_, ?_, ?_, ?_, ?_, ?_, ?_, trivial⟩ ?_
    · intro a wx hT hF K hK
      obtain ⟨f2, _⟩ := hF
      have f2 : a.tmps.getD 2 undef = (.func (.func 55) #[] #[c]) := f2
      refine rely_wp rfl ?_
      exact opr_move (.inl rfl) (hK _ _ (NewT.refl _) f2)
    · intro a wx hT hF K hK
      obtain ⟨f4, _⟩ := hF
      have f4 : a.tmps.getD 4 undef = .pointer (some ⟨w.heap.size, 0, none⟩) := f4
      refine rely_wp rfl ?_
      exact opr_ldWy (hT.row R4.out) rfl f4 (hK _ _ (NewT.refl _) rfl)
    · intro a wx hT hF K hK
      obtain ⟨f23, f24, _⟩ := hF
      have f23 : a.tmps.getD 23 undef = (.func (.func 55) #[] #[c]) := f23
      have f24 : a.tmps.getD 24 undef = .agg (rowA 36 (F)) := f24
      refine rely_wp rfl ?_
      exact opr_cvv (cap := #[c]) (HX.out s F G wx HR.out (NewT.trans _ _ _ HN.out hT)) rfl f23 Tryd.func55 (by kernel_rfl) (by kernel_rfl) (by simp only [List.map_toArray, List.map_cons, List.map_nil, List.append_toArray, List.cons_append, List.nil_append, List.append_nil, eval_tmp, eval_const, f24]) hK
    · intro a wx hT hF K hK
      obtain ⟨f2, _⟩ := hF
      have f2 : a.tmps.getD 2 undef = (.func (.func 55) #[] #[c]) := f2
      refine rely_wp rfl ?_
      exact opr_move (.inl rfl) (hK _ _ (NewT.refl _) f2)
    · intro a wx hT hF K hK
      obtain ⟨f5, _⟩ := hF
      have f5 : a.tmps.getD 5 undef = .pointer (some ⟨w.heap.size + 1, 0, none⟩) := f5
      refine rely_wp rfl ?_
      exact opr_ldWy (hT.row R5.out) rfl f5 (hK _ _ (NewT.refl _) rfl)
    · intro a wx hT hF K hK
      obtain ⟨f26, f27, _⟩ := hF
      have f26 : a.tmps.getD 26 undef = (.func (.func 55) #[] #[c]) := f26
      have f27 : a.tmps.getD 27 undef = .agg (rowA 36 (G)) := f27
      refine rely_wp rfl ?_
      exact opr_cvv (cap := #[c]) (HY.out s F G wx HR.out (NewT.trans _ _ _ HN.out hT)) rfl f26 Tryd.func55 (by kernel_rfl) (by kernel_rfl) (by simp only [List.map_toArray, List.map_cons, List.map_nil, List.append_toArray, List.cons_append, List.nil_append, List.append_nil, eval_tmp, eval_const, f27]) hK
    · intro a wx hT hF K hK
      obtain ⟨f25, _⟩ := hF
      replace f25 := show (svRd (tx s)).pred (a.tmps.getD 25 undef) wx from f25
      refine rely_wp rfl ?_
      exact opr_move (.inr rfl) (hK _ _ (NewT.refl _) f25)
    · intro wa ka
      intro u h; obtain rfl := Eq.symm (h (by simp)); clear h
      intro u h; obtain rfl := Eq.symm (h (by simp)); clear h
      intro _ _
      intro u h; obtain rfl := Eq.symm (h (by simp)); clear h
      intro u h; obtain rfl := Eq.symm (h (by simp)); clear h
      intro u28 h; have g28 := h (by simp); clear h; replace g28 := show (svRd (ty s)).pred u28 wa from g28
      intro u12 h; have g12 := h (by simp); clear h; replace g12 := show (svRd (tx s)).pred u12 wa from g12
      refine relyEnd_nil rfl ?_
      simp only [Act.put, List.setIfInBounds_toArray, List.set_cons_zero, List.set_cons_succ]
      refine opr_move (.inr rfl) ?_
      go_simp
      have G12 := Lib.hid g12
      have G28 := Lib.hid g28
      replace HN := Lib.hid (NewT.trans _ _ _ HN.out ka)
      replace R4 := Lib.hid (ka.row R4.out)
      replace R5 := Lib.hid (ka.row R5.out)
      clear g12 g28 ka
      go_upto_region 5 with fail
      refine wp_region_steps0 NewT [SV.eq (u12), SV.eq (u28), SV.eq (.bool (b)), SV.eq (.bool (!b))] [([(12, none)], none), ([(13, none)], none), ([(29, some 0), (30, some 1)], none), ([(31, some 2)], none)] 35 4 rfl rfl (by kernel_rfl) NewT.trans (NewT.refl _) (Nat.le_of_ble_eq_true rfl) ⟨?_, ?_, ?_, ?_, trivial⟩ ?_
      · intro a wx hT hF K hK
        obtain ⟨f12, _⟩ := hF
        have f12 : a.tmps.getD 12 undef = u12 := f12
        refine rely_wp rfl ?_
        exact opr_move (.inl rfl) (hK _ _ (NewT.refl _) f12)
      · intro a wx hT hF K hK
        obtain ⟨f13, _⟩ := hF
        have f13 : a.tmps.getD 13 undef = u28 := f13
        refine rely_wp rfl ?_
        exact opr_move (.inl rfl) (hK _ _ (NewT.refl _) f13)
      · intro a wx hT hF K hK
        obtain ⟨f29, f30, _⟩ := hF
        have f29 : a.tmps.getD 29 undef = u12 := f29
        have f30 : a.tmps.getD 30 undef = u28 := f30
        refine rely_wp rfl ?_
        exact opr_cv (by rw [← HQ.out]; exact BEqualK u12 u28 (tx s) (ty s) wx (hT.rd G12.out) (hT.rd G28.out)) rfl Tryd.func33 (by kernel_rfl) (by kernel_rfl) (by simp only [List.map_toArray, List.map_cons, List.map_nil, eval_tmp, f29, f30]) hK
      · intro a wx hT hF K hK
        obtain ⟨f31, _⟩ := hF
        have f31 : a.tmps.getD 31 undef = .bool (b) := f31
        refine rely_wp rfl ?_
        exact opr_not rfl f31 (hK _ _ (NewT.refl _) rfl)
      · intro wb kb
        intro u h; obtain rfl := Eq.symm (h (by simp)); clear h
        intro u h; obtain rfl := Eq.symm (h (by simp)); clear h
        intro u h; obtain rfl := Eq.symm (h (by simp)); clear h
        intro u h; obtain rfl := Eq.symm (h (by simp)); clear h
        refine relyEnd_nil rfl ?_
        refine wpList_end rfl ?_
        simp only [Act.put, List.setIfInBounds_toArray, List.set_cons_zero, List.set_cons_succ]
        go_simp
        replace HN := Lib.hid (NewT.trans _ _ _ HN.out kb)
        replace R4 := Lib.hid (kb.row R4.out)
        replace R5 := Lib.hid (kb.row R5.out)
        replace G12 := Lib.hid (kb.rd G12.out)
        replace G28 := Lib.hid (kb.rd G28.out)
        clear kb
        cases b
        · go_wp2
          have he := HE0.out s F G HR.out (of_decide_eq_false HQ.out)
          rw [HE.out] at he
          exact bodyPost_ret (results_ttt rfl rfl rfl rfl) rfl ⟨_, rfl, HN.out, u12, u28, rfl, by rw [he]; exact G12.out, by rw [he]; exact G28.out⟩
        · clear G12 G28
          go_upto_region 3 with fail
          refine wp_region_steps0 NewT [SV.eq ((.func (.func 58) #[] #[])), SV.eq (.agg (rowA 36 (F))), SV.eq (.agg (rowA 36 (G))), svDn 36 (fun F' G' => ∃ s', R s' F' G' ∧ E s' = E s ∧ M (some (F' 34)) < M (some (F 34))), svDn 36 (fun F' G' => ∃ s', R s' F' G' ∧ E s' = E s ∧ M (some (F' 34)) < M (some (F 34)))] [([(3, none)], none), ([(4, none)], none), ([(5, none)], none), ([(16, some 0), (17, some 1), (18, some 2)], none), ([(19, some 3)], none)] 35 5 rfl rfl (by kernel_rfl) NewT.trans (NewT.refl _) (Nat.le_of_ble_eq_true rfl) ⟨?_, ?_, ?_, ?_, ?_, trivial⟩ ?_
          · intro a wx hT hF K hK
            obtain ⟨f3, _⟩ := hF
            have f3 : a.tmps.getD 3 undef = (.func (.func 58) #[] #[]) := f3
            refine rely_wp rfl ?_
            exact opr_move (.inl rfl) (hK _ _ (NewT.refl _) f3)
          · intro a wx hT hF K hK
            obtain ⟨f4, _⟩ := hF
            have f4 : a.tmps.getD 4 undef = .pointer (some ⟨w.heap.size, 0, none⟩) := f4
            refine rely_wp rfl ?_
            exact opr_ldWy (hT.row R4.out) rfl f4 (hK _ _ (NewT.refl _) rfl)
          · intro a wx hT hF K hK
            obtain ⟨f5, _⟩ := hF
            have f5 : a.tmps.getD 5 undef = .pointer (some ⟨w.heap.size + 1, 0, none⟩) := f5
            refine rely_wp rfl ?_
            exact opr_ldWy (hT.row R5.out) rfl f5 (hK _ _ (NewT.refl _) rfl)
          · intro a wx hT hF K hK
            obtain ⟨f16, f17, f18, _⟩ := hF
            have f16 : a.tmps.getD 16 undef = (.func (.func 58) #[] #[]) := f16
            have f17 : a.tmps.getD 17 undef = .agg (rowA 36 (F)) := f17
            have f18 : a.tmps.getD 18 undef = .agg (rowA 36 (G)) := f18
            refine rely_wp rfl ?_
            exact opr_cvv (cap := #[]) (HB.out s F G wx HR.out (NewT.trans _ _ _ HN.out hT) (of_decide_eq_true HQ.out)) rfl f16 Tryd.func58 (by kernel_rfl) (by kernel_rfl) (by simp only [List.map_toArray, List.map_cons, List.map_nil, List.append_toArray, List.cons_append, List.nil_append, List.append_nil, eval_tmp, eval_const, f17, f18]) hK
          · intro a wx hT hF K hK
            obtain ⟨f19, _⟩ := hF
            replace f19 := show (svDn 36 (fun F' G' => ∃ s', R s' F' G' ∧ E s' = E s ∧ M (some (F' 34)) < M (some (F 34)))).pred (a.tmps.getD 19 undef) wx from f19
            refine rely_wp rfl ?_
            exact opr_move (.inl rfl) (hK _ _ (NewT.refl _) f19)
          · intro wc kc
            intro u h; obtain rfl := Eq.symm (h (by simp)); clear h
            intro u h; obtain rfl := Eq.symm (h (by simp)); clear h
            intro u h; obtain rfl := Eq.symm (h (by simp)); clear h
            intro _ _
            intro u15 h; have g15 := h (by simp); clear h; replace g15 := show (svDn 36 (fun F' G' => ∃ s', R s' F' G' ∧ E s' = E s ∧ M (some (F' 34)) < M (some (F 34)))).pred u15 wc from g15
            refine relyEnd_nil rfl ?_
            simp only [Act.put, List.setIfInBounds_toArray, List.set_cons_zero, List.set_cons_succ]
            obtain ⟨F1, G1, rfl, s1, hR1, hE1, hM1⟩ := g15
            have o1 := HO.out s1 F1 G1 hR1
            refine wpList_plain rfl (fun K hK => ?_)
            refine opr_ext rfl rfl rfl (hK _ _ ?_)
            clear hK K
            refine wpList_plain rfl (fun K hK => ?_)
            refine opr_ext rfl rfl rfl (hK _ _ ?_)
            clear hK K
            refine wpList_plain rfl (fun K hK => ?_)
            refine opr_ext rfl rfl rfl (hK _ _ ?_)
            clear hK K
            simp only [Act.put, List.setIfInBounds_toArray, List.set_cons_zero, List.set_cons_succ]
            refine wpList_plain rfl (fun K hK => ?_)
            refine opr_putm (F := F1) rfl rfl rfl (kc.row R4.out) (by decide) infoW o1.1 (fun i hi => by rw [if_pos (by omega), Nat.sub_zero]) ?_
            intro w7 hR7 r4
            refine hK _ _ ?_
            clear hK K
            simp only [Act.put, List.setIfInBounds_toArray, List.set_cons_zero, List.set_cons_succ]
            refine wpList_plain rfl (fun K hK => ?_)
            refine opr_putm (F := G1) rfl rfl rfl (hR7.row (by omega) (kc.row R5.out)) (by decide) infoW o1.2 (fun i hi => by rw [if_pos (by omega), Nat.sub_zero]) ?_
            intro w8 hR8 r5
            refine hK _ _ ?_
            clear hK K
            simp only [Act.put, List.setIfInBounds_toArray, List.set_cons_zero, List.set_cons_succ]
            refine wpList_plain rfl (fun K hK => ?_)
            refine opr_move (.inr rfl) (hK _ _ ?_)
            refine wpList_end rfl ?_
            simp only [Act.put, List.setIfInBounds_toArray, List.set_cons_zero, List.set_cons_succ]
            go_simp
            replace r4 := hR8.row (by omega) r4
            have HN9 := Lib.hid (NewT.rt (NewT.rt (NewT.trans _ _ _ HN.out kc) hR7 (Nat.le_refl _)) hR8 (by omega))
            have HR4 := Lib.hid r4
            have HR5 := Lib.hid r5
            have HR1 := Lib.hid hR1
            have HE1 := Lib.hid hE1
            have HM1 := Lib.hid hM1
            clear r4 r5 hR7 hR8 kc o1 R4 R5 HN hR1 hE1 hM1
            go_wp2
            go_roundw
            case rel => exact ⟨rfl, s1, F1, G1, HR1, Lib.hid (HE1.out.trans HE.out), HR4, HR5, HN9.out⟩
            case measure =>
              rw [HR4.out.cell (i := 34) (by decide), HM0.out]
              exact HM1.out
end Go.Proofs.YtlnedphnphabkaaDoor
/- Clashes on lists, whatever the digest is (of 32 bytes): two lists of one length and one root are the same, or two texts are found that differ with one digest; likewise two leaves' paths. No program is named. -/
namespace Go.Proofs.YtlnedphnphabkaaDoor
set_option maxRecDepth 8000
set_option linter.all false
section
variable {H G : Type} {node : H → H → H} {z : H} {node' : G → G → G}
/-- A root in other words. -/
theorem rootM_hom (f : H → G) (hf : ∀ a b, f (node a b) = node' (f a) (f b)) (n : Nat) : ∀ l : List H, l.length ≤ n → f (rootM node z l) = rootM node' (f z) (l.map f) := by
  induction n with
  | zero => intro l h; obtain rfl : l = [] := List.eq_nil_of_length_eq_zero (by omega)
            rw [List.map_nil, rootM_nil, rootM_nil]
  | succ n ih =>
    intro l h
    match l, h with
    | [], _ => rw [List.map_nil, rootM_nil, rootM_nil]
    | [x], _ => rw [List.map_cons, List.map_nil, rootM_one, rootM_one]
    | x :: y :: l, h =>
      have h2 : 2 ≤ (x :: y :: l).length := by simp
      generalize x :: y :: l = m at h h2 ⊢
      have hs := splitN_lt m.length h2
      rw [rootM_split node z m h2, rootM_split node' (f z) (m.map f) (by rw [List.length_map]; exact h2), List.length_map, hf, ih _ (by rw [List.length_take]; omega), ih _ (by rw [List.length_drop]; omega), List.map_take, List.map_drop]
end
abbrev Tx := List UInt8
section
variable (sum : Tx → Tx)
def leafS (x : Tx) : Tx := sum (0 :: x)
def nodeS (a b : Tx) : Tx := sum (1 :: (a ++ b))
/-- The root of leaves. -/
def rootS (l : List Tx) : Tx := rootM (nodeS sum) (sum []) (l.map (leafS sum))
theorem rootS_split (l : List Tx) (h : 2 ≤ l.length) : rootS sum l = nodeS sum (rootS sum (l.take (splitN l.length))) (rootS sum (l.drop (splitN l.length))) := by
  unfold rootS
  rw [rootM_split _ _ (l.map (leafS sum)) (by rw [List.length_map]; exact h), List.length_map, List.map_take, List.map_drop]
theorem rootS_one (x : Tx) : rootS sum [x] = leafS sum x := by unfold rootS; rw [List.map_cons, List.map_nil, rootM_one]
/-- The clash of two lists. -/
def extM (a b : List Tx) : Option (Tx × Tx) :=
  if a.length ≠ b.length ∨ a = b ∨ rootS sum a ≠ rootS sum b then none
  else if h : a.length < 2 then some (0 :: a.headD [], 0 :: b.headD [])
  else if rootS sum (a.take (splitN a.length)) ≠ rootS sum (b.take (splitN a.length)) ∨ rootS sum (a.drop (splitN a.length)) ≠ rootS sum (b.drop (splitN a.length)) then
    some (1 :: (rootS sum (a.take (splitN a.length)) ++ rootS sum (a.drop (splitN a.length))), 1 :: (rootS sum (b.take (splitN a.length)) ++ rootS sum (b.drop (splitN a.length))))
  else if a.take (splitN a.length) ≠ b.take (splitN a.length) then extM (a.take (splitN a.length)) (b.take (splitN a.length)) else extM (a.drop (splitN a.length)) (b.drop (splitN a.length))
termination_by a.length
decreasing_by
  · have := splitN_lt a.length (by omega); simp; omega
  · have := splitN_lt a.length (by omega); simp; omega
variable {sum}
theorem rootS_len (h32 : ∀ t, (sum t).length = 32) (l : List Tx) : (rootS sum l).length = 32 := by
  match l with
  | [] => unfold rootS; rw [List.map_nil, rootM_nil]; exact h32 _
  | [x] => rw [rootS_one]; exact h32 _
  | x :: y :: l => rw [rootS_split sum _ (by simp)]; exact h32 _
theorem extM_clash (h32 : ∀ t, (sum t).length = 32) (n : Nat) : ∀ (a b : List Tx) (x y : Tx), a.length ≤ n → extM sum a b = some (x, y) → x ≠ y ∧ sum x = sum y := by
  induction n with
  | zero =>
    intro a b x y hn he
    obtain rfl : a = [] := List.eq_nil_of_length_eq_zero (by omega)
    rw [extM] at he
    by_cases hb : b = []
    · subst hb; simp at he
    · rw [if_pos (.inl (by have := List.length_pos_iff.2 hb; simp; omega))] at he; cases he
  | succ n ih =>
    intro a b x y hn he
    rw [extM] at he
    by_cases h1 : a.length ≠ b.length ∨ a = b ∨ rootS sum a ≠ rootS sum b
    · rw [if_pos h1] at he; cases he
    rw [if_neg h1] at he
    simp only [not_or, ne_eq, Decidable.not_not] at h1
    obtain ⟨hl, hne, hr⟩ := h1
    by_cases h2 : a.length < 2
    · rw [dif_pos h2] at he
      simp only [Option.some.injEq, Prod.mk.injEq] at he
      obtain ⟨rfl, rfl⟩ := he
      match a, b, hl, h2 with
      | [], [], _, _ => exact absurd rfl hne
      | [p], [q], _, _ =>
        rw [rootS_one, rootS_one] at hr
        exact ⟨fun e => hne (by simp at e; rw [e]), hr⟩
    rw [dif_neg h2] at he
    have hs := splitN_lt a.length (by omega)
    have ra := rootS_split sum a (by omega)
    have rb := rootS_split sum b (by omega)
    rw [← hl] at rb
    by_cases h3 : rootS sum (a.take (splitN a.length)) ≠ rootS sum (b.take (splitN a.length)) ∨ rootS sum (a.drop (splitN a.length)) ≠ rootS sum (b.drop (splitN a.length))
    · rw [if_pos h3] at he
      simp only [Option.some.injEq, Prod.mk.injEq] at he
      obtain ⟨rfl, rfl⟩ := he
      refine ⟨fun e => ?_, ?_⟩
      · have e2 := List.append_inj (List.cons_inj_right 1 |>.1 e) (by rw [rootS_len h32, rootS_len h32])
        rcases h3 with h3 | h3
        · exact h3 e2.1
        · exact h3 e2.2
      · rw [ra, rb] at hr; exact hr
    rw [if_neg h3] at he
    by_cases h4 : a.take (splitN a.length) ≠ b.take (splitN a.length)
    · rw [if_pos h4] at he
      exact ih _ _ _ _ (by rw [List.length_take]; omega) he
    · rw [if_neg h4] at he
      exact ih _ _ _ _ (by rw [List.length_drop]; omega) he
theorem extM_none (n : Nat) : ∀ (a b : List Tx), a.length ≤ n → extM sum a b = none → a.length ≠ b.length ∨ rootS sum a ≠ rootS sum b ∨ a = b := by
  induction n with
  | zero =>
    intro a b hn he
    obtain rfl : a = [] := List.eq_nil_of_length_eq_zero (by omega)
    by_cases hb : b = []
    · exact .inr (.inr hb.symm)
    · exact .inl (by have := List.length_pos_iff.2 hb; simp; omega)
  | succ n ih =>
    intro a b hn he
    rw [extM] at he
    by_cases h1 : a.length ≠ b.length ∨ a = b ∨ rootS sum a ≠ rootS sum b
    · rcases h1 with h | h | h
      · exact .inl h
      · exact .inr (.inr h)
      · exact .inr (.inl h)
    exfalso
    rw [if_neg h1] at he
    simp only [not_or, ne_eq, Decidable.not_not] at h1
    obtain ⟨hl, hne, hr⟩ := h1
    by_cases h2 : a.length < 2
    · rw [dif_pos h2] at he; cases he
    rw [dif_neg h2] at he
    have hs := splitN_lt a.length (by omega)
    by_cases h3 : rootS sum (a.take (splitN a.length)) ≠ rootS sum (b.take (splitN a.length)) ∨ rootS sum (a.drop (splitN a.length)) ≠ rootS sum (b.drop (splitN a.length))
    · rw [if_pos h3] at he; cases he
    rw [if_neg h3] at he
    simp only [not_or, ne_eq, Decidable.not_not] at h3
    by_cases h4 : a.take (splitN a.length) ≠ b.take (splitN a.length)
    · rw [if_pos h4] at he
      rcases ih _ _ (by rw [List.length_take]; omega) he with h | h | h
      · rw [List.length_take, List.length_take, hl] at h; exact h rfl
      · exact h h3.1
      · exact h4 h
    · rw [if_neg h4] at he
      simp only [ne_eq, Decidable.not_not] at h4
      rcases ih _ _ (by rw [List.length_drop]; omega) he with h | h | h
      · rw [List.length_drop, List.length_drop, hl] at h; exact h rfl
      · exact h h3.2
      · exact hne (by rw [← List.take_append_drop (splitN a.length) a, ← List.take_append_drop (splitN a.length) b, h4, h])
variable (sum)
/-- The text that stands above another one by a path's next hash. -/
def upT (t : Tx) (b : Bool) (p : Tx) : Tx := if b then 1 :: (sum t ++ p) else 1 :: (p ++ sum t)
/-- The text at a path's end. -/
def textP : Tx → List Bool → List Tx → Tx
  | t, b :: bs, p :: ps => textP (upT sum t b p) bs ps
  | t, _, _ => t
theorem textP_fold (bs : List Bool) : ∀ (t : Tx) (ps : List Tx), bs.length = ps.length → foldP (nodeS sum) (sum t) bs ps = sum (textP sum t bs ps) := by
  induction bs with
  | nil => intro t ps h; cases ps <;> rfl
  | cons b bs ih =>
    intro t ps h
    match ps, h with
    | p :: ps, h =>
      simp only [foldP, textP]
      rw [← ih _ _ (by simpa using h)]
      cases b <;> rfl
/-- The first pair of texts from the root down that differ, though their digests are the same. -/
def findP : Tx → Tx → List Bool → List Tx → List Tx → Option (Tx × Tx)
  | t, u, b :: bs, p :: ps, q :: qs => (findP (upT sum t b p) (upT sum u b q) bs ps qs).or (if t ≠ u ∧ sum t = sum u then some (t, u) else none)
  | t, u, _, _, _ => if t ≠ u ∧ sum t = sum u then some (t, u) else none
theorem findP_clash (bs : List Bool) : ∀ (t u : Tx) (ps qs : List Tx) (x y : Tx), findP sum t u bs ps qs = some (x, y) → x ≠ y ∧ sum x = sum y := by
  have one : ∀ (t u x y : Tx), (if t ≠ u ∧ sum t = sum u then some (t, u) else none) = some (x, y) → x ≠ y ∧ sum x = sum y := by
    intro t u x y h
    by_cases hc : t ≠ u ∧ sum t = sum u
    · rw [if_pos hc] at h; cases h; exact hc
    · rw [if_neg hc] at h; cases h
  induction bs with
  | nil => intro t u ps qs x y h; exact one _ _ _ _ h
  | cons b bs ih =>
    intro t u ps qs x y h
    match ps, qs with
    | [], _ => exact one _ _ _ _ h
    | _ :: _, [] => exact one _ _ _ _ h
    | p :: ps, q :: qs =>
      simp only [findP, Option.or_eq_some_iff] at h
      rcases h with h | ⟨_, h⟩
      · exact ih _ _ _ _ _ _ h
      · exact one _ _ _ _ h
variable {sum}
theorem upT_inj (h32 : ∀ t, (sum t).length = 32) {t u : Tx} {b : Bool} {p q : Tx} (hp : p.length = 32) (hq : q.length = 32) (h : upT sum t b p = upT sum u b q) : sum t = sum u ∧ p = q := by
  unfold upT at h
  cases b
  · simp only [Bool.false_eq_true, if_false, List.cons.injEq, true_and] at h
    have := List.append_inj h (by rw [hp, hq])
    exact ⟨this.2, this.1⟩
  · simp only [if_true, List.cons.injEq, true_and] at h
    exact List.append_inj h (by rw [h32, h32])
/-- Two leaves whose paths come to one root are the same, or there is a clash. -/
theorem findP_ex (h32 : ∀ t, (sum t).length = 32) (bs : List Bool) : ∀ (t u : Tx) (ps qs : List Tx), bs.length = ps.length → bs.length = qs.length → (∀ p ∈ ps, p.length = 32) → (∀ q ∈ qs, q.length = 32) → sum (textP sum t bs ps) = sum (textP sum u bs qs) → t ≠ u → findP sum t u bs ps qs ≠ none := by
  induction bs with
  | nil =>
    intro t u ps qs h1 h2 _ _ h hne
    obtain rfl : ps = [] := List.eq_nil_of_length_eq_zero (by simpa using h1.symm)
    obtain rfl : qs = [] := List.eq_nil_of_length_eq_zero (by simpa using h2.symm)
    simp only [textP] at h
    simp [findP, hne, h]
  | cons b bs ih =>
    intro t u ps qs h1 h2 hp hq h hne
    match ps, qs, h1, h2 with
    | p :: ps, q :: qs, h1, h2 =>
      simp only [textP] at h
      simp only [findP]
      by_cases hu : upT sum t b p = upT sum u b q
      · have := (upT_inj h32 (hp p (by simp)) (hq q (by simp)) hu).1
        rw [if_pos ⟨hne, this⟩]
        cases findP sum (upT sum t b p) (upT sum u b q) bs ps qs <;> simp
      · have := ih _ _ ps qs (by simpa using h1) (by simpa using h2) (fun p hp' => hp p (by simp [hp'])) (fun q hq' => hq q (by simp [hq'])) h hu
        cases hf : findP sum (upT sum t b p) (upT sum u b q) bs ps qs with
        | none => exact absurd hf this
        | some c => simp
end
end Go.Proofs.YtlnedphnphabkaaDoor
/- Are two hashes the same: as lists of bytes, and both ways. -/
namespace Go.Proofs.YtlnedphnphabkaaDoor
open Go Go.RowKit
set_option maxRecDepth 8000
set_option linter.all false
theorem eqH_comm (d e : Hs) : eqH d e = eqH e d := by
  unfold eqH
  congr 1; funext i
  exact Bool.eq_iff_iff.2 ⟨fun h => by simpa using (by simpa using h : bN (d i) = bN (e i)).symm, fun h => by simpa using (by simpa using h : bN (e i) = bN (d i)).symm⟩
theorem eqH_dig (d e : Hs) : eqH d e = true ↔ digL d = digL e := by
  rw [eqH_iff]
  unfold digL
  constructor
  · intro h; exact List.map_congr_left fun i hi => h i (List.mem_range.1 hi)
  · intro h i hi
    have := congrArg (fun l => l[i]?) h
    simpa [hi] using this
end Go.Proofs.YtlnedphnphabkaaDoor
/- The clash of two lists, gone down by texts: what is the same, whatever the digest is. No program is named but for a hash's digits. -/
namespace Go.Proofs.YtlnedphnphabkaaDoor
set_option maxRecDepth 8000
set_option linter.all false
/-- Hashes as lists of bytes: nodes, leaves, none. -/
structure ClashH (node : Hs → Hs → Hs) (z : Hs) (lf : List UInt8 → Hs) (sm : Tx → Tx) : Prop where
  sum : ∀ t, digL (shaL Kc Fc t) = sm t
  tree : TreeH node z
  leaf : ∀ x, shaL Kc Fc (0 :: x) = lf x
theorem clash_ex : ∃ node z lf sm, ClashH node z lf sm := ⟨_, _, _, _, fun _ => rfl, ⟨fun _ _ => rfl, rfl⟩, fun _ => rfl⟩
section
variable {node : Hs → Hs → Hs} {z : Hs} {lf : List UInt8 → Hs} {sm : Tx → Tx}
theorem ClashH.len (h : ClashH node z lf sm) (t : Tx) : (sm t).length = 32 := by rw [← h.sum, digL_length]
theorem ClashH.digNode (h : ClashH node z lf sm) (a b : Hs) : digL (node a b) = nodeS sm (digL a) (digL b) := by
  unfold nodeS
  rw [← h.sum, ← h.tree.node]; simp
theorem ClashH.digZero (h : ClashH node z lf sm) : digL z = sm [] := by rw [← h.sum, h.tree.zero]
theorem ClashH.digLeaf (h : ClashH node z lf sm) (x : Tx) : digL (lf x) = leafS sm x := by
  unfold leafS
  rw [← h.sum, h.leaf]
theorem ClashH.digRoot (h : ClashH node z lf sm) (l : List Tx) : digL (rootM node z (l.map lf)) = rootS sm l := by
  rw [rootM_hom (node' := nodeS sm) digL h.digNode _ _ (Nat.le_refl _), h.digZero, List.map_map]
  unfold rootS
  rw [show digL ∘ lf = leafS sm from funext h.digLeaf]
theorem ClashH.eqRoot (h : ClashH node z lf sm) (x y : List Tx) : eqH (rootM node z (x.map lf)) (rootM node z (y.map lf)) = decide (rootS sm x = rootS sm y) := by
  rw [← h.digRoot, ← h.digRoot]
  by_cases e : eqH (rootM node z (x.map lf)) (rootM node z (y.map lf)) = true
  · rw [e, decide_eq_true ((eqH_dig _ _).1 e)]
  · rw [decide_eq_false (fun e' => e ((eqH_dig _ _).2 e'))]
    exact Bool.eq_false_iff.2 e
end
section
variable (sm : Tx → Tx)
/-- The text that a list's root is the digest of. -/
def txL (x : List Tx) : Tx := if x.length < 2 then 0 :: x.headD [] else 1 :: (rootS sm (x.take (splitN x.length)) ++ rootS sm (x.drop (splitN x.length)))
/-- Two lists of one length and one root that aren't the same. -/
structure Apart (x y : List Tx) : Prop where
  len : x.length = y.length
  pos : 1 ≤ x.length
  ne : x ≠ y
  root : rootS sm x = rootS sm y
variable {sm}
theorem ext_apart {x y : List Tx} (h : Apart sm x y) : ¬ (x.length ≠ y.length ∨ x = y ∨ rootS sm x ≠ rootS sm y) := by
  rintro (h1 | h1 | h1)
  · exact h1 h.len
  · exact h.ne h1
  · exact h1 h.root
theorem ext_none {x y : List Tx} (h : x.length ≠ y.length ∨ x = y ∨ rootS sm x ≠ rootS sm y) : extM sm x y = none := by rw [extM, if_pos h]
theorem apart_one {x y : List Tx} (h : Apart sm x y) (h2 : x.length < 2) : ∃ s t, x = [s] ∧ y = [t] ∧ s ≠ t := by
  have hl := h.len
  have hp := h.pos
  have hne := h.ne
  match x, y with
  | [s], [t] => exact ⟨s, t, rfl, rfl, fun e => hne (by rw [e])⟩
  | [s], [] => simp at hl
  | [s], _ :: _ :: _ => simp at hl
  | [], _ => simp at hp
  | _ :: _ :: _, _ => simp at h2; omega
theorem apart_end {x y : List Tx} (h : Apart sm x y) (hne : txL sm x ≠ txL sm y) : extM sm x y = some (txL sm x, txL sm y) := by
  rw [extM, if_neg (ext_apart h)]
  unfold txL at hne ⊢
  rw [← h.len] at hne ⊢
  by_cases h2 : x.length < 2
  · rw [dif_pos h2, if_pos h2, if_pos h2]
  · rw [if_neg h2, if_neg h2] at hne
    rw [dif_neg h2, if_neg h2, if_neg h2, if_pos]
    refine Decidable.byContradiction fun hc => hne ?_
    simp only [not_or, ne_eq, Decidable.not_not] at hc
    rw [hc.1, hc.2]
theorem apart_same (h32 : ∀ t, (sm t).length = 32) {x y : List Tx} (h : Apart sm x y) (he : txL sm x = txL sm y) : 2 ≤ x.length ∧ rootS sm (x.take (splitN x.length)) = rootS sm (y.take (splitN x.length)) ∧ rootS sm (x.drop (splitN x.length)) = rootS sm (y.drop (splitN x.length)) := by
  by_cases h2 : x.length < 2
  · obtain ⟨s, t, rfl, rfl, hne⟩ := apart_one h h2
    simp [txL] at he
    exact absurd he hne
  · unfold txL at he
    rw [← h.len, if_neg h2, if_neg h2] at he
    have e := List.append_inj (List.cons_inj_right 1 |>.1 he) (by rw [rootS_len h32, rootS_len h32])
    exact ⟨by omega, e.1, e.2⟩
theorem apart_take (h32 : ∀ t, (sm t).length = 32) {x y : List Tx} (h : Apart sm x y) (he : txL sm x = txL sm y) (hne : x.take (splitN x.length) ≠ y.take (splitN x.length)) : Apart sm (x.take (splitN x.length)) (y.take (splitN x.length)) ∧ extM sm (x.take (splitN x.length)) (y.take (splitN x.length)) = extM sm x y := by
  obtain ⟨h2, r1, r2⟩ := apart_same h32 h he
  have hs := splitN_lt x.length h2
  have hl := h.len
  refine ⟨⟨by simp; omega, by simp; omega, hne, r1⟩, ?_⟩
  conv => rhs; rw [extM]
  rw [if_neg (ext_apart h), dif_neg (by omega), if_neg (by simp [r1, r2]), if_pos hne]
theorem apart_drop (h32 : ∀ t, (sm t).length = 32) {x y : List Tx} (h : Apart sm x y) (he : txL sm x = txL sm y) (hq : x.take (splitN x.length) = y.take (splitN x.length)) : Apart sm (x.drop (splitN x.length)) (y.drop (splitN x.length)) ∧ extM sm (x.drop (splitN x.length)) (y.drop (splitN x.length)) = extM sm x y := by
  obtain ⟨h2, r1, r2⟩ := apart_same h32 h he
  have hs := splitN_lt x.length h2
  have hl := h.len
  refine ⟨⟨by simp; omega, by simp; omega, fun e => h.ne ?_, r2⟩, ?_⟩
  · rw [← List.take_append_drop (splitN x.length) x, ← List.take_append_drop (splitN x.length) y, hq, e]
  · conv => rhs; rw [extM]
    rw [if_neg (ext_apart h), dif_neg (by omega), if_neg (by simp [r1, r2]), if_neg (by simp [hq])]
/-- The two texts, or none. -/
def e1 (o : Option (Tx × Tx)) : Tx := (o.getD ([], [])).1
def e2 (o : Option (Tx × Tx)) : Tx := (o.getD ([], [])).2
end
end Go.Proofs.YtlnedphnphabkaaDoor
/- Where two lists are gone down to: the closure of clash.ofLists. -/
namespace Go.Proofs.YtlnedphnphabkaaDoor
open Go Go.RowKit
set_option maxRecDepth 8000
set_option linter.all false
def LsP (W : World) (F : Nat → Value) (x : List (List UInt8)) (h : List Hs) : Prop := ∃ u p, F = lsF u p ∧ Parts W u x ∧ RdH W p h
set_option maxHeartbeats 2000000 in
theorem Down_drop (W w : World) (hNW : NewT W w) (u p u' p' : Value) (x y : List (List UInt8)) (h h' : List Hs) (hu : Parts W u x) (hp : RdH W p h) (hv : Parts W u' y) (hq : RdH W p' h') (h2 : 2 ≤ x.length) (hxy : x.length = y.length) (hh : h.length = x.length) (hh' : h'.length = y.length) (hn : x.length ≤ 1000) (k : Nat) (hk : k = splitN x.length) (hb : decide (List.take k x = List.take k y) = true) :
    Cv 48 #[.agg (rowA 2 (lsF u p)), .agg (rowA 2 (lsF u' p'))] w (svDn 2 (fun F G => LsP W F (List.drop k x) (List.drop k h) ∧ LsP W G (List.drop k y) (List.drop k h'))) := by
  unfold Cv
  obtain ⟨b, eb⟩ : ∃ b, true = b := ⟨_, rfl⟩
  rw [eb] at hb
  have HEB := Lib.hid eb
  clear eb
  have HQB := Lib.hid hb
  have HU := Lib.hid hu
  have HP := Lib.hid hp
  have HV := Lib.hid hv
  have HQ := Lib.hid hq
  have HH := Lib.hid hh
  have HHY := Lib.hid hh'
  have HL1 : Hid (((x.length : Int) == 1) = false) := Lib.hid (beq_eq_false_iff_ne.2 (by omega))
  have HS : Hid (∀ w, Cv 43 #[.int .i64 (x.length : Int)] w (.eq (.int .i64 (k : Int)))) := Lib.hid (fun w => by rw [hk]; exact Split_cv (x.length : Int) (by omega) (by omega) w)
  have HK : Hid (k ≤ x.length) := Lib.hid (by rw [hk]; exact Nat.le_of_lt (splitN_lt x.length h2).1)
  have HKY : Hid (k ≤ y.length) := Lib.hid (by rw [← hxy]; exact HK.out)
  clear hb hu hp hv hq hh hh' h2 hxy hn hk
  go_enter Tryd.func48, Tryd.ntmps48
  go_upto_region 1 with fail
  have r2 := (((rowIs_box w 64 2 (lsF u p)).alloc (.cells (rowA 2 (lsF u' p')) 64)).alloc (.cells (rowA 2 (lsF (.slice none 0 0) (.slice none 0 0))) 64)).alloc (.cells (rowA 2 (lsF (.slice none 0 0) (.slice none 0 0))) 64)
  have r3 := ((rowIs_box (w.alloc (.cells (rowA 2 (lsF u p)) 64)) 64 2 (lsF u' p')).alloc (.cells (rowA 2 (lsF (.slice none 0 0) (.slice none 0 0))) 64)).alloc (.cells (rowA 2 (lsF (.slice none 0 0) (.slice none 0 0))) 64)
  rw [World.size_alloc] at r3
  have r4 := (rowIs_box ((w.alloc (.cells (rowA 2 (lsF u p)) 64)).alloc (.cells (rowA 2 (lsF u' p')) 64)) 64 2 (lsF (.slice none 0 0) (.slice none 0 0))).alloc (.cells (rowA 2 (lsF (.slice none 0 0) (.slice none 0 0))) 64)
  rw [World.size_alloc, World.size_alloc] at r4
  have r5 := rowIs_box (((w.alloc (.cells (rowA 2 (lsF u p)) 64)).alloc (.cells (rowA 2 (lsF u' p')) 64)).alloc (.cells (rowA 2 (lsF (.slice none 0 0) (.slice none 0 0))) 64)) 64 2 (lsF (.slice none 0 0) (.slice none 0 0))
  rw [World.size_alloc, World.size_alloc, World.size_alloc] at r5
  have hN : NewT w ((((w.alloc (.cells (rowA 2 (lsF u p)) 64)).alloc (.cells (rowA 2 (lsF u' p')) 64)).alloc (.cells (rowA 2 (lsF (.slice none 0 0) (.slice none 0 0))) 64)).alloc (.cells (rowA 2 (lsF (.slice none 0 0) (.slice none 0 0))) 64)) := (NewT.trans _ _ _ (NewT.trans _ _ _ (NewT.trans _ _ _ (NewT.alloc _ _) (NewT.alloc _ _)) (NewT.alloc _ _)) (NewT.alloc _ _))
  change Code.wp _ _ _ _ ((((w.alloc (.cells (rowA 2 (lsF u p)) 64)).alloc (.cells (rowA 2 (lsF u' p')) 64)).alloc (.cells (rowA 2 (lsF (.slice none 0 0) (.slice none 0 0))) 64)).alloc (.cells (rowA 2 (lsF (.slice none 0 0) (.slice none 0 0))) 64))
  generalize ((((w.alloc (.cells (rowA 2 (lsF u p)) 64)).alloc (.cells (rowA 2 (lsF u' p')) 64)).alloc (.cells (rowA 2 (lsF (.slice none 0 0) (.slice none 0 0))) 64)).alloc (.cells (rowA 2 (lsF (.slice none 0 0) (.slice none 0 0))) 64)) = W0 at r2 r3 r4 r5 hN ⊢
  have R2 := Lib.hid r2
  have R3 := Lib.hid r3
  have R4 := Lib.hid r4
  have R5 := Lib.hid r5
  have HN0 := Lib.hid hN
  have HN := Lib.hid (NewT.trans _ _ _ hNW hN)
  clear r2 r3 r4 r5 hN hNW
  refine wp_region_steps0 NewT [SV.eq (.pointer (some ⟨w.heap.size, 0, none⟩)), SV.eq (u), SV.eq (.int .i64 ((List.length (x) : Int))), SV.eq (.bool false)] [([(2, none)], none), ([(8, some 0)], none), ([(9, some 1)], none), ([(10, some 2)], none)] 45 4 rfl rfl (by kernel_rfl) NewT.trans (NewT.refl _) (Nat.le_of_ble_eq_true rfl) ⟨?_, ?_, ?_, ?_, trivial⟩ ?_
  · intro a wx hT hF K hK
    obtain ⟨f2, _⟩ := hF
    have f2 : a.tmps.getD 2 undef = .pointer (some ⟨w.heap.size, 0, none⟩) := f2
    refine rely_wp rfl ?_
    exact opr_fldL0 rfl f2 (hK _ _ (NewT.refl _) rfl)
  · intro a wx hT hF K hK
    obtain ⟨f8, _⟩ := hF
    have f8 : a.tmps.getD 8 undef = .pointer (some ⟨w.heap.size, 0, none⟩) := f8
    refine rely_wp rfl ?_
    exact opr_ldTs (hT.row R2.out) (by decide) rfl rfl f8 (hK _ _ (NewT.refl _) rfl)
  · intro a wx hT hF K hK
    obtain ⟨f9, _⟩ := hF
    have f9 : a.tmps.getD 9 undef = u := f9
    refine rely_wp rfl ?_
    exact opr_len_parts rfl (by rw [eval_tmp, f9]; exact ((NewT.trans _ _ _ HN.out hT).partsL HU.out)) (hK _ _ (NewT.refl _) rfl)
  · intro a wx hT hF K hK
    obtain ⟨f10, _⟩ := hF
    have f10 : a.tmps.getD 10 undef = .int .i64 ((List.length (x) : Int)) := f10
    refine rely_wp rfl ?_
    exact opr_cmp (b := false) (.inl ⟨rfl, (by exact HL1.out)⟩) Tryd.underlying3 rfl f10 rfl (hK _ _ (NewT.refl _) rfl)
  · intro wa ka
    intro u h; obtain rfl := Eq.symm (h (by simp)); clear h
    intro u h; obtain rfl := Eq.symm (h (by simp)); clear h
    intro u h; obtain rfl := Eq.symm (h (by simp)); clear h
    intro u h; obtain rfl := Eq.symm (h (by simp)); clear h
    refine relyEnd_nil rfl ?_
    refine wpList_end rfl ?_
    simp only [Act.put, List.setIfInBounds_toArray, List.set_cons_zero, List.set_cons_succ]
    go_simp
    replace R2 := Lib.hid (ka.row R2.out)
    replace R3 := Lib.hid (ka.row R3.out)
    replace R4 := Lib.hid (ka.row R4.out)
    replace R5 := Lib.hid (ka.row R5.out)
    replace HN := Lib.hid (NewT.trans _ _ _ HN.out ka)
    replace HN0 := Lib.hid (NewT.trans _ _ _ HN0.out ka)
    clear ka
    go_upto_region 3 with fail
    refine wp_region_steps0 NewT [SV.eq (.pointer (some ⟨w.heap.size, 0, none⟩)), SV.eq (u), SV.eq (.int .i64 ((List.length (x) : Int))), SV.eq (.int .i64 ((k : Int))), SV.eq (.int .i64 ((k : Int)))] [([(2, none)], none), ([(14, some 0)], none), ([(15, some 1)], none), ([(16, some 2)], none), ([(17, some 3)], none)] 45 5 rfl rfl (by kernel_rfl) NewT.trans (NewT.refl _) (Nat.le_of_ble_eq_true rfl) ⟨?_, ?_, ?_, ?_, ?_, trivial⟩ ?_
    · intro a wx hT hF K hK
      obtain ⟨f2, _⟩ := hF
      have f2 : a.tmps.getD 2 undef = .pointer (some ⟨w.heap.size, 0, none⟩) := f2
      refine rely_wp rfl ?_
      exact opr_fldL0 rfl f2 (hK _ _ (NewT.refl _) rfl)
    · intro a wx hT hF K hK
      obtain ⟨f14, _⟩ := hF
      have f14 : a.tmps.getD 14 undef = .pointer (some ⟨w.heap.size, 0, none⟩) := f14
      refine rely_wp rfl ?_
      exact opr_ldTs (hT.row R2.out) (by decide) rfl rfl f14 (hK _ _ (NewT.refl _) rfl)
    · intro a wx hT hF K hK
      obtain ⟨f15, _⟩ := hF
      have f15 : a.tmps.getD 15 undef = u := f15
      refine rely_wp rfl ?_
      exact opr_len_parts rfl (by rw [eval_tmp, f15]; exact ((NewT.trans _ _ _ HN.out hT).partsL HU.out)) (hK _ _ (NewT.refl _) rfl)
    · intro a wx hT hF K hK
      obtain ⟨f16, _⟩ := hF
      have f16 : a.tmps.getD 16 undef = .int .i64 ((List.length (x) : Int)) := f16
      refine rely_wp rfl ?_
      exact opr_cv (HS.out wx) rfl Tryd.func43 (by kernel_rfl) (by kernel_rfl) (by simp only [List.map_toArray, List.map_cons, List.map_nil, eval_tmp, f16]) hK
    · intro a wx hT hF K hK
      obtain ⟨f17, _⟩ := hF
      have f17 : a.tmps.getD 17 undef = .int .i64 ((k : Int)) := f17
      refine rely_wp rfl ?_
      exact opr_move (.inr rfl) (hK _ _ (NewT.refl _) f17)
    · intro wb kb
      intro u h; obtain rfl := Eq.symm (h (by simp)); clear h
      intro u h; obtain rfl := Eq.symm (h (by simp)); clear h
      intro u h; obtain rfl := Eq.symm (h (by simp)); clear h
      intro u h; obtain rfl := Eq.symm (h (by simp)); clear h
      intro u h; obtain rfl := Eq.symm (h (by simp)); clear h
      refine relyEnd_nil rfl ?_
      refine wpList_end rfl ?_
      simp only [Act.put, List.setIfInBounds_toArray, List.set_cons_zero, List.set_cons_succ]
      go_simp
      replace R2 := Lib.hid (kb.row R2.out)
      replace R3 := Lib.hid (kb.row R3.out)
      replace R4 := Lib.hid (kb.row R4.out)
      replace R5 := Lib.hid (kb.row R5.out)
      replace HN := Lib.hid (NewT.trans _ _ _ HN.out kb)
      replace HN0 := Lib.hid (NewT.trans _ _ _ HN0.out kb)
      clear kb
      go_upto_region 4 with fail
      refine wp_region_rely (NewT) [SV.eq (.pointer (some ⟨w.heap.size, 0, none⟩)), SV.eq (u), SV.eq (.int .i64 ((k : Int))), svParts (List.take k x), SV.eq (.pointer (some ⟨w.heap.size + 1, 0, none⟩)), SV.eq (u'), SV.eq (.int .i64 ((k : Int))), svParts (List.take k y)] [([(2, none)], none), ([(18, some 0)], none), ([(7, none)], none), ([(19, some 1), (20, some 2)], none), ([(3, none)], none), ([(22, some 4)], none), ([(7, none)], none), ([(23, some 5), (24, some 6)], none)] 45 rfl (by kernel_rfl) rfl (by kernel_rfl) (by kernel_rfl) rfl NewT.trans (NewT.drew _) (Nat.le_of_ble_eq_true rfl) ⟨?_, ?_, ?_, ?_, ?_, ?_, ?_, ?_, trivial⟩ ?_
      · intro a wx hT hF K hK
        obtain ⟨f2, _⟩ := hF
        have f2 : a.tmps.getD 2 undef = .pointer (some ⟨w.heap.size, 0, none⟩) := f2
        refine rely_wp rfl ?_
        exact opr_fldL0 rfl f2 (hK _ _ (NewT.refl _) rfl)
      · intro a wx hT hF K hK
        obtain ⟨f18, _⟩ := hF
        have f18 : a.tmps.getD 18 undef = .pointer (some ⟨w.heap.size, 0, none⟩) := f18
        refine rely_wp rfl ?_
        exact opr_ldTs (hT.row R2.out) (by decide) rfl rfl f18 (hK _ _ (NewT.refl _) rfl)
      · intro a wx hT hF K hK
        obtain ⟨f7, _⟩ := hF
        have f7 : a.tmps.getD 7 undef = .int .i64 ((k : Int)) := f7
        refine rely_wp rfl ?_
        exact opr_move (.inl rfl) (hK _ _ (NewT.refl _) f7)
      · intro a wx hT hF K hK
        obtain ⟨f19, f20, _⟩ := hF
        have f19 : a.tmps.getD 19 undef = u := f19
        have f20 : a.tmps.getD 20 undef = .int .i64 ((k : Int)) := f20
        refine rely_wp rfl ?_
        exact opr_toT (k := k) (HK.out) (rfl) rfl (by rw [eval_tmp, f19]; exact ((NewT.trans _ _ _ HN.out hT).partsL HU.out)) f20 (fun v hv => hK v _ (NewT.refl _) hv)
      · intro a wx hT hF K hK
        obtain ⟨f3, _⟩ := hF
        have f3 : a.tmps.getD 3 undef = .pointer (some ⟨w.heap.size + 1, 0, none⟩) := f3
        refine rely_wp rfl ?_
        exact opr_fldL0 rfl f3 (hK _ _ (NewT.refl _) rfl)
      · intro a wx hT hF K hK
        obtain ⟨f22, _⟩ := hF
        have f22 : a.tmps.getD 22 undef = .pointer (some ⟨w.heap.size + 1, 0, none⟩) := f22
        refine rely_wp rfl ?_
        exact opr_ldTs (hT.row R3.out) (by decide) rfl rfl f22 (hK _ _ (NewT.refl _) rfl)
      · intro a wx hT hF K hK
        obtain ⟨f7, _⟩ := hF
        have f7 : a.tmps.getD 7 undef = .int .i64 ((k : Int)) := f7
        refine rely_wp rfl ?_
        exact opr_move (.inl rfl) (hK _ _ (NewT.refl _) f7)
      · intro a wx hT hF K hK
        obtain ⟨f23, f24, _⟩ := hF
        have f23 : a.tmps.getD 23 undef = u' := f23
        have f24 : a.tmps.getD 24 undef = .int .i64 ((k : Int)) := f24
        refine rely_wp rfl ?_
        exact opr_toT (k := k) (HKY.out) (rfl) rfl (by rw [eval_tmp, f23]; exact ((NewT.trans _ _ _ HN.out hT).partsL HV.out)) f24 (fun v hv => hK v _ (NewT.refl _) hv)
      · intro wc kc
        intro u h; obtain rfl := Eq.symm (h (by simp)); clear h
        intro u h; obtain rfl := Eq.symm (h (by simp)); clear h
        intro u h; obtain rfl := Eq.symm (h (by simp)); clear h
        intro u21 h; have g21 := h (by simp); clear h; replace g21 := show (svParts (List.take k x)).pred u21 wc from g21
        intro u h; obtain rfl := Eq.symm (h (by simp)); clear h
        intro u h; obtain rfl := Eq.symm (h (by simp)); clear h
        intro u h; obtain rfl := Eq.symm (h (by simp)); clear h
        intro u25 h; have g25 := h (by simp); clear h; replace g25 := show (svParts (List.take k y)).pred u25 wc from g25
        refine relyEnd_nil rfl ?_
        simp only [Act.put, List.setIfInBounds_toArray, List.set_cons_zero, List.set_cons_succ]
        refine opr_cv (Same_cv _ _ (List.take k x) (List.take k y) wc g21 g25) rfl Tryd.func44 (by kernel_rfl) (by kernel_rfl) (by simp only [List.map_toArray, List.map_cons, List.map_nil, eval_tmp]; rfl) ?_
        intro v9 wd kd e9
        obtain rfl : v9 = .bool b := by rw [← HQB.out]; exact e9
        go_simp
        replace kc := NewT.trans _ _ _ kc kd
        replace R2 := Lib.hid (kc.row R2.out)
        replace R3 := Lib.hid (kc.row R3.out)
        replace R4 := Lib.hid (kc.row R4.out)
        replace R5 := Lib.hid (kc.row R5.out)
        replace HN := Lib.hid (NewT.trans _ _ _ HN.out kc)
        replace HN0 := Lib.hid (NewT.trans _ _ _ HN0.out kc)
        clear kc
        clear kd e9
        obtain rfl := HEB.out
        go_upto_region 5 with fail
        refine wp_region_rely_tail (NewT) [SV.eq (.agg (rowA 2 (lsF u p))), SV.eq (.int .i64 ((k : Int))), SV.eq (.pointer (some ⟨w.heap.size, 0, none⟩)), SV.eq (u), SV.eq (.int .i64 ((List.length (x) : Int))), svLs W (List.drop k x) (List.drop k h), SV.eq (.agg (rowA 2 (lsF u' p'))), SV.eq (.int .i64 ((k : Int))), SV.eq (.pointer (some ⟨w.heap.size + 1, 0, none⟩)), SV.eq (u'), SV.eq (.int .i64 ((List.length (y) : Int))), svLs W (List.drop k y) (List.drop k h')] [([(2, none)], none), ([(7, none)], none), ([(2, none)], none), ([(29, some 2)], none), ([(30, some 3)], none), ([(27, some 0), (28, some 1), (31, some 4)], none), ([(3, none)], none), ([(7, none)], none), ([(3, none)], none), ([(35, some 8)], none), ([(36, some 9)], none), ([(33, some 6), (34, some 7), (37, some 10)], none)] 45 12 (by kernel_rfl) rfl rfl (Nat.zero_lt_succ _) (by kernel_rfl) (by kernel_rfl) (by kernel_rfl) NewT.trans (NewT.drew _) (Nat.le_of_ble_eq_true rfl) ⟨?_, ?_, ?_, ?_, ?_, ?_, ?_, ?_, ?_, ?_, ?_, ?_, trivial⟩ ?_
        · intro a wx hT hF K hK
          obtain ⟨f2, _⟩ := hF
          have f2 : a.tmps.getD 2 undef = .pointer (some ⟨w.heap.size, 0, none⟩) := f2
          refine rely_wp rfl ?_
          exact opr_ldLs (hT.row R2.out) rfl f2 (hK _ _ (NewT.refl _) rfl)
        · intro a wx hT hF K hK
          obtain ⟨f7, _⟩ := hF
          have f7 : a.tmps.getD 7 undef = .int .i64 ((k : Int)) := f7
          refine rely_wp rfl ?_
          exact opr_move (.inl rfl) (hK _ _ (NewT.refl _) f7)
        · intro a wx hT hF K hK
          obtain ⟨f2, _⟩ := hF
          have f2 : a.tmps.getD 2 undef = .pointer (some ⟨w.heap.size, 0, none⟩) := f2
          refine rely_wp rfl ?_
          exact opr_fldL0 rfl f2 (hK _ _ (NewT.refl _) rfl)
        · intro a wx hT hF K hK
          obtain ⟨f29, _⟩ := hF
          have f29 : a.tmps.getD 29 undef = .pointer (some ⟨w.heap.size, 0, none⟩) := f29
          refine rely_wp rfl ?_
          exact opr_ldTs (hT.row R2.out) (by decide) rfl rfl f29 (hK _ _ (NewT.refl _) rfl)
        · intro a wx hT hF K hK
          obtain ⟨f30, _⟩ := hF
          have f30 : a.tmps.getD 30 undef = u := f30
          refine rely_wp rfl ?_
          exact opr_len_parts rfl (by rw [eval_tmp, f30]; exact ((NewT.trans _ _ _ HN.out hT).partsL HU.out)) (hK _ _ (NewT.refl _) rfl)
        · intro a wx hT hF K hK
          obtain ⟨f27, f28, f31, _⟩ := hF
          have f27 : a.tmps.getD 27 undef = .agg (rowA 2 (lsF u p)) := f27
          have f28 : a.tmps.getD 28 undef = .int .i64 ((k : Int)) := f28
          have f31 : a.tmps.getD 31 undef = .int .i64 ((List.length (x) : Int)) := f31
          refine rely_wp rfl ?_
          exact opr_cv (Part_from W wx (NewT.trans _ _ _ HN.out hT) u p x h HU.out HP.out HH.out k HK.out) rfl Tryd.func49 (by kernel_rfl) (by kernel_rfl) (by simp only [List.map_toArray, List.map_cons, List.map_nil, eval_tmp, f27, f28, f31]) hK
        · intro a wx hT hF K hK
          obtain ⟨f3, _⟩ := hF
          have f3 : a.tmps.getD 3 undef = .pointer (some ⟨w.heap.size + 1, 0, none⟩) := f3
          refine rely_wp rfl ?_
          exact opr_ldLs (hT.row R3.out) rfl f3 (hK _ _ (NewT.refl _) rfl)
        · intro a wx hT hF K hK
          obtain ⟨f7, _⟩ := hF
          have f7 : a.tmps.getD 7 undef = .int .i64 ((k : Int)) := f7
          refine rely_wp rfl ?_
          exact opr_move (.inl rfl) (hK _ _ (NewT.refl _) f7)
        · intro a wx hT hF K hK
          obtain ⟨f3, _⟩ := hF
          have f3 : a.tmps.getD 3 undef = .pointer (some ⟨w.heap.size + 1, 0, none⟩) := f3
          refine rely_wp rfl ?_
          exact opr_fldL0 rfl f3 (hK _ _ (NewT.refl _) rfl)
        · intro a wx hT hF K hK
          obtain ⟨f35, _⟩ := hF
          have f35 : a.tmps.getD 35 undef = .pointer (some ⟨w.heap.size + 1, 0, none⟩) := f35
          refine rely_wp rfl ?_
          exact opr_ldTs (hT.row R3.out) (by decide) rfl rfl f35 (hK _ _ (NewT.refl _) rfl)
        · intro a wx hT hF K hK
          obtain ⟨f36, _⟩ := hF
          have f36 : a.tmps.getD 36 undef = u' := f36
          refine rely_wp rfl ?_
          exact opr_len_parts rfl (by rw [eval_tmp, f36]; exact ((NewT.trans _ _ _ HN.out hT).partsL HV.out)) (hK _ _ (NewT.refl _) rfl)
        · intro a wx hT hF K hK
          obtain ⟨f33, f34, f37, _⟩ := hF
          have f33 : a.tmps.getD 33 undef = .agg (rowA 2 (lsF u' p')) := f33
          have f34 : a.tmps.getD 34 undef = .int .i64 ((k : Int)) := f34
          have f37 : a.tmps.getD 37 undef = .int .i64 ((List.length (y) : Int)) := f37
          refine rely_wp rfl ?_
          exact opr_cv (Part_from W wx (NewT.trans _ _ _ HN.out hT) u' p' y h' HV.out HQ.out HHY.out k HKY.out) rfl Tryd.func49 (by kernel_rfl) (by kernel_rfl) (by simp only [List.map_toArray, List.map_cons, List.map_nil, eval_tmp, f33, f34, f37]) hK
        · intro we ke
          intro u h; obtain rfl := Eq.symm (h (by simp)); clear h
          intro u h; obtain rfl := Eq.symm (h (by simp)); clear h
          intro u h; obtain rfl := Eq.symm (h (by simp)); clear h
          intro u h; obtain rfl := Eq.symm (h (by simp)); clear h
          intro u h; obtain rfl := Eq.symm (h (by simp)); clear h
          intro u32 h; have g32 := h (by simp); clear h; replace g32 := show (svLs W (List.drop k x) (List.drop k h)).pred u32 we from g32
          intro u h; obtain rfl := Eq.symm (h (by simp)); clear h
          intro u h; obtain rfl := Eq.symm (h (by simp)); clear h
          intro u h; obtain rfl := Eq.symm (h (by simp)); clear h
          intro u h; obtain rfl := Eq.symm (h (by simp)); clear h
          intro u h; obtain rfl := Eq.symm (h (by simp)); clear h
          intro u38 h; have g38 := h (by simp); clear h; replace g38 := show (svLs W (List.drop k y) (List.drop k h')).pred u38 we from g38
          refine relyEnd_nil rfl ?_
          simp only [Act.put, List.setIfInBounds_toArray, List.set_cons_zero, List.set_cons_succ]
          obtain ⟨u1, p1, rfl, hu1, hp1⟩ := g32
          obtain ⟨u2, p2, rfl, hu2, hp2⟩ := g38
          refine wpList_plain rfl (fun K hK => ?_)
          refine opr_putm (F := lsF u1 p1) rfl rfl rfl (ke.row R4.out) (by decide) infoL (lsF_one (sl_one (parts_sl hu1)) (sl_one (rdH_sl hp1))) (fun i hi => by rw [if_pos (by omega), Nat.sub_zero]) ?_
          intro w7 hR7 r4
          refine hK _ _ ?_
          clear hK K
          simp only [Act.put, List.setIfInBounds_toArray, List.set_cons_zero, List.set_cons_succ]
          refine wpList_plain rfl (fun K hK => ?_)
          refine opr_putm (F := lsF u2 p2) rfl rfl rfl (hR7.row (by omega) (ke.row R5.out)) (by decide) infoL (lsF_one (sl_one (parts_sl hu2)) (sl_one (rdH_sl hp2))) (fun i hi => by rw [if_pos (by omega), Nat.sub_zero]) ?_
          intro w8 hR8 r5
          refine hK _ _ ?_
          clear hK K
          simp only [Act.put, List.setIfInBounds_toArray, List.set_cons_zero, List.set_cons_succ]
          refine wpList_plain rfl (fun K hK => ?_)
          refine opr_move (.inr rfl) (hK _ _ ?_)
          refine wpList_end rfl ?_
          simp only [Act.put, List.setIfInBounds_toArray, List.set_cons_zero, List.set_cons_succ]
          go_simp
          go_wp2
          exact bodyPost_ret (results_rrt rfl rfl rfl rfl (hR8.row (by omega) r4) r5 Tryd.underlying64 rfl infoL) rfl ⟨_, rfl, NewT.rt (NewT.rt (NewT.trans _ _ _ HN0.out ke) hR7 (by omega)) hR8 (by omega), _, _, rfl, ⟨u1, p1, rfl, hu1, hp1⟩, ⟨u2, p2, rfl, hu2, hp2⟩⟩
set_option maxHeartbeats 2000000 in
theorem Down_take (W w : World) (hNW : NewT W w) (u p u' p' : Value) (x y : List (List UInt8)) (h h' : List Hs) (hu : Parts W u x) (hp : RdH W p h) (hv : Parts W u' y) (hq : RdH W p' h') (h2 : 2 ≤ x.length) (hxy : x.length = y.length) (hh : h.length = x.length) (hh' : h'.length = y.length) (hn : x.length ≤ 1000) (k : Nat) (hk : k = splitN x.length) (hb : decide (List.take k x = List.take k y) = false) :
    Cv 48 #[.agg (rowA 2 (lsF u p)), .agg (rowA 2 (lsF u' p'))] w (svDn 2 (fun F G => LsP W F (List.take k x) (List.take k h) ∧ LsP W G (List.take k y) (List.take k h'))) := by
  unfold Cv
  obtain ⟨b, eb⟩ : ∃ b, false = b := ⟨_, rfl⟩
  rw [eb] at hb
  have HEB := Lib.hid eb
  clear eb
  have HQB := Lib.hid hb
  have HU := Lib.hid hu
  have HP := Lib.hid hp
  have HV := Lib.hid hv
  have HQ := Lib.hid hq
  have HH := Lib.hid hh
  have HHY := Lib.hid hh'
  have HL1 : Hid (((x.length : Int) == 1) = false) := Lib.hid (beq_eq_false_iff_ne.2 (by omega))
  have HS : Hid (∀ w, Cv 43 #[.int .i64 (x.length : Int)] w (.eq (.int .i64 (k : Int)))) := Lib.hid (fun w => by rw [hk]; exact Split_cv (x.length : Int) (by omega) (by omega) w)
  have HK : Hid (k ≤ x.length) := Lib.hid (by rw [hk]; exact Nat.le_of_lt (splitN_lt x.length h2).1)
  have HKY : Hid (k ≤ y.length) := Lib.hid (by rw [← hxy]; exact HK.out)
  clear hb hu hp hv hq hh hh' h2 hxy hn hk
  go_enter Tryd.func48, Tryd.ntmps48
  go_upto_region 1 with fail
  have r2 := (((rowIs_box w 64 2 (lsF u p)).alloc (.cells (rowA 2 (lsF u' p')) 64)).alloc (.cells (rowA 2 (lsF (.slice none 0 0) (.slice none 0 0))) 64)).alloc (.cells (rowA 2 (lsF (.slice none 0 0) (.slice none 0 0))) 64)
  have r3 := ((rowIs_box (w.alloc (.cells (rowA 2 (lsF u p)) 64)) 64 2 (lsF u' p')).alloc (.cells (rowA 2 (lsF (.slice none 0 0) (.slice none 0 0))) 64)).alloc (.cells (rowA 2 (lsF (.slice none 0 0) (.slice none 0 0))) 64)
  rw [World.size_alloc] at r3
  have r4 := (rowIs_box ((w.alloc (.cells (rowA 2 (lsF u p)) 64)).alloc (.cells (rowA 2 (lsF u' p')) 64)) 64 2 (lsF (.slice none 0 0) (.slice none 0 0))).alloc (.cells (rowA 2 (lsF (.slice none 0 0) (.slice none 0 0))) 64)
  rw [World.size_alloc, World.size_alloc] at r4
  have r5 := rowIs_box (((w.alloc (.cells (rowA 2 (lsF u p)) 64)).alloc (.cells (rowA 2 (lsF u' p')) 64)).alloc (.cells (rowA 2 (lsF (.slice none 0 0) (.slice none 0 0))) 64)) 64 2 (lsF (.slice none 0 0) (.slice none 0 0))
  rw [World.size_alloc, World.size_alloc, World.size_alloc] at r5
  have hN : NewT w ((((w.alloc (.cells (rowA 2 (lsF u p)) 64)).alloc (.cells (rowA 2 (lsF u' p')) 64)).alloc (.cells (rowA 2 (lsF (.slice none 0 0) (.slice none 0 0))) 64)).alloc (.cells (rowA 2 (lsF (.slice none 0 0) (.slice none 0 0))) 64)) := (NewT.trans _ _ _ (NewT.trans _ _ _ (NewT.trans _ _ _ (NewT.alloc _ _) (NewT.alloc _ _)) (NewT.alloc _ _)) (NewT.alloc _ _))
  change Code.wp _ _ _ _ ((((w.alloc (.cells (rowA 2 (lsF u p)) 64)).alloc (.cells (rowA 2 (lsF u' p')) 64)).alloc (.cells (rowA 2 (lsF (.slice none 0 0) (.slice none 0 0))) 64)).alloc (.cells (rowA 2 (lsF (.slice none 0 0) (.slice none 0 0))) 64))
  generalize ((((w.alloc (.cells (rowA 2 (lsF u p)) 64)).alloc (.cells (rowA 2 (lsF u' p')) 64)).alloc (.cells (rowA 2 (lsF (.slice none 0 0) (.slice none 0 0))) 64)).alloc (.cells (rowA 2 (lsF (.slice none 0 0) (.slice none 0 0))) 64)) = W0 at r2 r3 r4 r5 hN ⊢
  have R2 := Lib.hid r2
  have R3 := Lib.hid r3
  have R4 := Lib.hid r4
  have R5 := Lib.hid r5
  have HN0 := Lib.hid hN
  have HN := Lib.hid (NewT.trans _ _ _ hNW hN)
  clear r2 r3 r4 r5 hN hNW
  refine wp_region_steps0 NewT [SV.eq (.pointer (some ⟨w.heap.size, 0, none⟩)), SV.eq (u), SV.eq (.int .i64 ((List.length (x) : Int))), SV.eq (.bool false)] [([(2, none)], none), ([(8, some 0)], none), ([(9, some 1)], none), ([(10, some 2)], none)] 45 4 rfl rfl (by kernel_rfl) NewT.trans (NewT.refl _) (Nat.le_of_ble_eq_true rfl) ⟨?_, ?_, ?_, ?_, trivial⟩ ?_
  · intro a wx hT hF K hK
    obtain ⟨f2, _⟩ := hF
    have f2 : a.tmps.getD 2 undef = .pointer (some ⟨w.heap.size, 0, none⟩) := f2
    refine rely_wp rfl ?_
    exact opr_fldL0 rfl f2 (hK _ _ (NewT.refl _) rfl)
  · intro a wx hT hF K hK
    obtain ⟨f8, _⟩ := hF
    have f8 : a.tmps.getD 8 undef = .pointer (some ⟨w.heap.size, 0, none⟩) := f8
    refine rely_wp rfl ?_
    exact opr_ldTs (hT.row R2.out) (by decide) rfl rfl f8 (hK _ _ (NewT.refl _) rfl)
  · intro a wx hT hF K hK
    obtain ⟨f9, _⟩ := hF
    have f9 : a.tmps.getD 9 undef = u := f9
    refine rely_wp rfl ?_
    exact opr_len_parts rfl (by rw [eval_tmp, f9]; exact ((NewT.trans _ _ _ HN.out hT).partsL HU.out)) (hK _ _ (NewT.refl _) rfl)
  · intro a wx hT hF K hK
    obtain ⟨f10, _⟩ := hF
    have f10 : a.tmps.getD 10 undef = .int .i64 ((List.length (x) : Int)) := f10
    refine rely_wp rfl ?_
    exact opr_cmp (b := false) (.inl ⟨rfl, (by exact HL1.out)⟩) Tryd.underlying3 rfl f10 rfl (hK _ _ (NewT.refl _) rfl)
  · intro wa ka
    intro u h; obtain rfl := Eq.symm (h (by simp)); clear h
    intro u h; obtain rfl := Eq.symm (h (by simp)); clear h
    intro u h; obtain rfl := Eq.symm (h (by simp)); clear h
    intro u h; obtain rfl := Eq.symm (h (by simp)); clear h
    refine relyEnd_nil rfl ?_
    refine wpList_end rfl ?_
    simp only [Act.put, List.setIfInBounds_toArray, List.set_cons_zero, List.set_cons_succ]
    go_simp
    replace R2 := Lib.hid (ka.row R2.out)
    replace R3 := Lib.hid (ka.row R3.out)
    replace R4 := Lib.hid (ka.row R4.out)
    replace R5 := Lib.hid (ka.row R5.out)
    replace HN := Lib.hid (NewT.trans _ _ _ HN.out ka)
    replace HN0 := Lib.hid (NewT.trans _ _ _ HN0.out ka)
    clear ka
    go_upto_region 3 with fail
    refine wp_region_steps0 NewT [SV.eq (.pointer (some ⟨w.heap.size, 0, none⟩)), SV.eq (u), SV.eq (.int .i64 ((List.length (x) : Int))), SV.eq (.int .i64 ((k : Int))), SV.eq (.int .i64 ((k : Int)))] [([(2, none)], none), ([(14, some 0)], none), ([(15, some 1)], none), ([(16, some 2)], none), ([(17, some 3)], none)] 45 5 rfl rfl (by kernel_rfl) NewT.trans (NewT.refl _) (Nat.le_of_ble_eq_true rfl) ⟨?_, ?_, ?_, ?_, ?_, trivial⟩ ?_
    · intro a wx hT hF K hK
      obtain ⟨f2, _⟩ := hF
      have f2 : a.tmps.getD 2 undef = .pointer (some ⟨w.heap.size, 0, none⟩) := f2
      refine rely_wp rfl ?_
      exact opr_fldL0 rfl f2 (hK _ _ (NewT.refl _) rfl)
    · intro a wx hT hF K hK
      obtain ⟨f14, _⟩ := hF
      have f14 : a.tmps.getD 14 undef = .pointer (some ⟨w.heap.size, 0, none⟩) := f14
      refine rely_wp rfl ?_
      exact opr_ldTs (hT.row R2.out) (by decide) rfl rfl f14 (hK _ _ (NewT.refl _) rfl)
    · intro a wx hT hF K hK
      obtain ⟨f15, _⟩ := hF
      have f15 : a.tmps.getD 15 undef = u := f15
      refine rely_wp rfl ?_
      exact opr_len_parts rfl (by rw [eval_tmp, f15]; exact ((NewT.trans _ _ _ HN.out hT).partsL HU.out)) (hK _ _ (NewT.refl _) rfl)
    · intro a wx hT hF K hK
      obtain ⟨f16, _⟩ := hF
      have f16 : a.tmps.getD 16 undef = .int .i64 ((List.length (x) : Int)) := f16
      refine rely_wp rfl ?_
      exact opr_cv (HS.out wx) rfl Tryd.func43 (by kernel_rfl) (by kernel_rfl) (by simp only [List.map_toArray, List.map_cons, List.map_nil, eval_tmp, f16]) hK
    · intro a wx hT hF K hK
      obtain ⟨f17, _⟩ := hF
      have f17 : a.tmps.getD 17 undef = .int .i64 ((k : Int)) := f17
      refine rely_wp rfl ?_
      exact opr_move (.inr rfl) (hK _ _ (NewT.refl _) f17)
    · intro wb kb
      intro u h; obtain rfl := Eq.symm (h (by simp)); clear h
      intro u h; obtain rfl := Eq.symm (h (by simp)); clear h
      intro u h; obtain rfl := Eq.symm (h (by simp)); clear h
      intro u h; obtain rfl := Eq.symm (h (by simp)); clear h
      intro u h; obtain rfl := Eq.symm (h (by simp)); clear h
      refine relyEnd_nil rfl ?_
      refine wpList_end rfl ?_
      simp only [Act.put, List.setIfInBounds_toArray, List.set_cons_zero, List.set_cons_succ]
      go_simp
      replace R2 := Lib.hid (kb.row R2.out)
      replace R3 := Lib.hid (kb.row R3.out)
      replace R4 := Lib.hid (kb.row R4.out)
      replace R5 := Lib.hid (kb.row R5.out)
      replace HN := Lib.hid (NewT.trans _ _ _ HN.out kb)
      replace HN0 := Lib.hid (NewT.trans _ _ _ HN0.out kb)
      clear kb
      go_upto_region 4 with fail
      refine wp_region_rely (NewT) [SV.eq (.pointer (some ⟨w.heap.size, 0, none⟩)), SV.eq (u), SV.eq (.int .i64 ((k : Int))), svParts (List.take k x), SV.eq (.pointer (some ⟨w.heap.size + 1, 0, none⟩)), SV.eq (u'), SV.eq (.int .i64 ((k : Int))), svParts (List.take k y)] [([(2, none)], none), ([(18, some 0)], none), ([(7, none)], none), ([(19, some 1), (20, some 2)], none), ([(3, none)], none), ([(22, some 4)], none), ([(7, none)], none), ([(23, some 5), (24, some 6)], none)] 45 rfl (by kernel_rfl) rfl (by kernel_rfl) (by kernel_rfl) rfl NewT.trans (NewT.drew _) (Nat.le_of_ble_eq_true rfl) ⟨?_, ?_, ?_, ?_, ?_, ?_, ?_, ?_, trivial⟩ ?_
      · intro a wx hT hF K hK
        obtain ⟨f2, _⟩ := hF
        have f2 : a.tmps.getD 2 undef = .pointer (some ⟨w.heap.size, 0, none⟩) := f2
        refine rely_wp rfl ?_
        exact opr_fldL0 rfl f2 (hK _ _ (NewT.refl _) rfl)
      · intro a wx hT hF K hK
        obtain ⟨f18, _⟩ := hF
        have f18 : a.tmps.getD 18 undef = .pointer (some ⟨w.heap.size, 0, none⟩) := f18
        refine rely_wp rfl ?_
        exact opr_ldTs (hT.row R2.out) (by decide) rfl rfl f18 (hK _ _ (NewT.refl _) rfl)
      · intro a wx hT hF K hK
        obtain ⟨f7, _⟩ := hF
        have f7 : a.tmps.getD 7 undef = .int .i64 ((k : Int)) := f7
        refine rely_wp rfl ?_
        exact opr_move (.inl rfl) (hK _ _ (NewT.refl _) f7)
      · intro a wx hT hF K hK
        obtain ⟨f19, f20, _⟩ := hF
        have f19 : a.tmps.getD 19 undef = u := f19
        have f20 : a.tmps.getD 20 undef = .int .i64 ((k : Int)) := f20
        refine rely_wp rfl ?_
        exact opr_toT (k := k) (HK.out) (rfl) rfl (by rw [eval_tmp, f19]; exact ((NewT.trans _ _ _ HN.out hT).partsL HU.out)) f20 (fun v hv => hK v _ (NewT.refl _) hv)
      · intro a wx hT hF K hK
        obtain ⟨f3, _⟩ := hF
        have f3 : a.tmps.getD 3 undef = .pointer (some ⟨w.heap.size + 1, 0, none⟩) := f3
        refine rely_wp rfl ?_
        exact opr_fldL0 rfl f3 (hK _ _ (NewT.refl _) rfl)
      · intro a wx hT hF K hK
        obtain ⟨f22, _⟩ := hF
        have f22 : a.tmps.getD 22 undef = .pointer (some ⟨w.heap.size + 1, 0, none⟩) := f22
        refine rely_wp rfl ?_
        exact opr_ldTs (hT.row R3.out) (by decide) rfl rfl f22 (hK _ _ (NewT.refl _) rfl)
      · intro a wx hT hF K hK
        obtain ⟨f7, _⟩ := hF
        have f7 : a.tmps.getD 7 undef = .int .i64 ((k : Int)) := f7
        refine rely_wp rfl ?_
        exact opr_move (.inl rfl) (hK _ _ (NewT.refl _) f7)
      · intro a wx hT hF K hK
        obtain ⟨f23, f24, _⟩ := hF
        have f23 : a.tmps.getD 23 undef = u' := f23
        have f24 : a.tmps.getD 24 undef = .int .i64 ((k : Int)) := f24
        refine rely_wp rfl ?_
        exact opr_toT (k := k) (HKY.out) (rfl) rfl (by rw [eval_tmp, f23]; exact ((NewT.trans _ _ _ HN.out hT).partsL HV.out)) f24 (fun v hv => hK v _ (NewT.refl _) hv)
      · intro wc kc
        intro u h; obtain rfl := Eq.symm (h (by simp)); clear h
        intro u h; obtain rfl := Eq.symm (h (by simp)); clear h
        intro u h; obtain rfl := Eq.symm (h (by simp)); clear h
        intro u21 h; have g21 := h (by simp); clear h; replace g21 := show (svParts (List.take k x)).pred u21 wc from g21
        intro u h; obtain rfl := Eq.symm (h (by simp)); clear h
        intro u h; obtain rfl := Eq.symm (h (by simp)); clear h
        intro u h; obtain rfl := Eq.symm (h (by simp)); clear h
        intro u25 h; have g25 := h (by simp); clear h; replace g25 := show (svParts (List.take k y)).pred u25 wc from g25
        refine relyEnd_nil rfl ?_
        simp only [Act.put, List.setIfInBounds_toArray, List.set_cons_zero, List.set_cons_succ]
        refine opr_cv (Same_cv _ _ (List.take k x) (List.take k y) wc g21 g25) rfl Tryd.func44 (by kernel_rfl) (by kernel_rfl) (by simp only [List.map_toArray, List.map_cons, List.map_nil, eval_tmp]; rfl) ?_
        intro v9 wd kd e9
        obtain rfl : v9 = .bool b := by rw [← HQB.out]; exact e9
        go_simp
        replace kc := NewT.trans _ _ _ kc kd
        replace R2 := Lib.hid (kc.row R2.out)
        replace R3 := Lib.hid (kc.row R3.out)
        replace R4 := Lib.hid (kc.row R4.out)
        replace R5 := Lib.hid (kc.row R5.out)
        replace HN := Lib.hid (NewT.trans _ _ _ HN.out kc)
        replace HN0 := Lib.hid (NewT.trans _ _ _ HN0.out kc)
        clear kc
        clear kd e9
        obtain rfl := HEB.out
        go_upto_region 6 with fail
        refine wp_region_rely_tail (NewT) [SV.eq (.agg (rowA 2 (lsF u p))), SV.eq (.int .i64 ((k : Int))), svLs W (List.take k x) (List.take k h), SV.eq (.agg (rowA 2 (lsF u' p'))), SV.eq (.int .i64 ((k : Int))), svLs W (List.take k y) (List.take k h')] [([(2, none)], none), ([(7, none)], none), ([(39, some 0), (40, some 1)], none), ([(3, none)], none), ([(7, none)], none), ([(42, some 3), (43, some 4)], none)] 45 6 (by kernel_rfl) rfl rfl (Nat.zero_lt_succ _) (by kernel_rfl) (by kernel_rfl) (by kernel_rfl) NewT.trans (NewT.drew _) (Nat.le_of_ble_eq_true rfl) ⟨?_, ?_, ?_, ?_, ?_, ?_, trivial⟩ ?_
        · intro a wx hT hF K hK
          obtain ⟨f2, _⟩ := hF
          have f2 : a.tmps.getD 2 undef = .pointer (some ⟨w.heap.size, 0, none⟩) := f2
          refine rely_wp rfl ?_
          exact opr_ldLs (hT.row R2.out) rfl f2 (hK _ _ (NewT.refl _) rfl)
        · intro a wx hT hF K hK
          obtain ⟨f7, _⟩ := hF
          have f7 : a.tmps.getD 7 undef = .int .i64 ((k : Int)) := f7
          refine rely_wp rfl ?_
          exact opr_move (.inl rfl) (hK _ _ (NewT.refl _) f7)
        · intro a wx hT hF K hK
          obtain ⟨f39, f40, _⟩ := hF
          have f39 : a.tmps.getD 39 undef = .agg (rowA 2 (lsF u p)) := f39
          have f40 : a.tmps.getD 40 undef = .int .i64 ((k : Int)) := f40
          refine rely_wp rfl ?_
          exact opr_cv (Part_to W wx (NewT.trans _ _ _ HN.out hT) u p x h HU.out HP.out HH.out k HK.out) rfl Tryd.func49 (by kernel_rfl) (by kernel_rfl) (by simp only [List.map_toArray, List.map_cons, List.map_nil, eval_tmp, eval_const, f39, f40]) hK
        · intro a wx hT hF K hK
          obtain ⟨f3, _⟩ := hF
          have f3 : a.tmps.getD 3 undef = .pointer (some ⟨w.heap.size + 1, 0, none⟩) := f3
          refine rely_wp rfl ?_
          exact opr_ldLs (hT.row R3.out) rfl f3 (hK _ _ (NewT.refl _) rfl)
        · intro a wx hT hF K hK
          obtain ⟨f7, _⟩ := hF
          have f7 : a.tmps.getD 7 undef = .int .i64 ((k : Int)) := f7
          refine rely_wp rfl ?_
          exact opr_move (.inl rfl) (hK _ _ (NewT.refl _) f7)
        · intro a wx hT hF K hK
          obtain ⟨f42, f43, _⟩ := hF
          have f42 : a.tmps.getD 42 undef = .agg (rowA 2 (lsF u' p')) := f42
          have f43 : a.tmps.getD 43 undef = .int .i64 ((k : Int)) := f43
          refine rely_wp rfl ?_
          exact opr_cv (Part_to W wx (NewT.trans _ _ _ HN.out hT) u' p' y h' HV.out HQ.out HHY.out k HKY.out) rfl Tryd.func49 (by kernel_rfl) (by kernel_rfl) (by simp only [List.map_toArray, List.map_cons, List.map_nil, eval_tmp, eval_const, f42, f43]) hK
        · intro we ke
          intro u h; obtain rfl := Eq.symm (h (by simp)); clear h
          intro u h; obtain rfl := Eq.symm (h (by simp)); clear h
          intro u41 h; have g41 := h (by simp); clear h; replace g41 := show (svLs W (List.take k x) (List.take k h)).pred u41 we from g41
          intro u h; obtain rfl := Eq.symm (h (by simp)); clear h
          intro u h; obtain rfl := Eq.symm (h (by simp)); clear h
          intro u44 h; have g44 := h (by simp); clear h; replace g44 := show (svLs W (List.take k y) (List.take k h')).pred u44 we from g44
          refine relyEnd_nil rfl ?_
          simp only [Act.put, List.setIfInBounds_toArray, List.set_cons_zero, List.set_cons_succ]
          obtain ⟨u1, p1, rfl, hu1, hp1⟩ := g41
          obtain ⟨u2, p2, rfl, hu2, hp2⟩ := g44
          refine wpList_plain rfl (fun K hK => ?_)
          refine opr_putm (F := lsF u1 p1) rfl rfl rfl (ke.row R4.out) (by decide) infoL (lsF_one (sl_one (parts_sl hu1)) (sl_one (rdH_sl hp1))) (fun i hi => by rw [if_pos (by omega), Nat.sub_zero]) ?_
          intro w7 hR7 r4
          refine hK _ _ ?_
          clear hK K
          simp only [Act.put, List.setIfInBounds_toArray, List.set_cons_zero, List.set_cons_succ]
          refine wpList_plain rfl (fun K hK => ?_)
          refine opr_putm (F := lsF u2 p2) rfl rfl rfl (hR7.row (by omega) (ke.row R5.out)) (by decide) infoL (lsF_one (sl_one (parts_sl hu2)) (sl_one (rdH_sl hp2))) (fun i hi => by rw [if_pos (by omega), Nat.sub_zero]) ?_
          intro w8 hR8 r5
          refine hK _ _ ?_
          clear hK K
          simp only [Act.put, List.setIfInBounds_toArray, List.set_cons_zero, List.set_cons_succ]
          refine wpList_plain rfl (fun K hK => ?_)
          refine opr_move (.inr rfl) (hK _ _ ?_)
          refine wpList_end rfl ?_
          simp only [Act.put, List.setIfInBounds_toArray, List.set_cons_zero, List.set_cons_succ]
          go_simp
          go_wp2
          exact bodyPost_ret (results_rrt rfl rfl rfl rfl (hR8.row (by omega) r4) r5 Tryd.underlying64 rfl infoL) rfl ⟨_, rfl, NewT.rt (NewT.rt (NewT.trans _ _ _ HN0.out ke) hR7 (by omega)) hR8 (by omega), _, _, rfl, ⟨u1, p1, rfl, hu1, hp1⟩, ⟨u2, p2, rfl, hu2, hp2⟩⟩
end Go.Proofs.YtlnedphnphabkaaDoor
/- The clash of two lists: clash.ofLists, clash.Extract. -/
namespace Go.Proofs.YtlnedphnphabkaaDoor
open Go Go.RowKit
set_option maxRecDepth 8000
set_option linter.all false
theorem rd_nil (w : World) : RdV w [] (.slice none 0 0) [] := ⟨none, 0, rfl, by simp, by unfold maxLen; omega, fun h => absurd h (by simp)⟩
theorem Cv_imp {f : Nat} {vs : Array Value} {w : World} {c c' : SV NewT} (h : Cv f vs w c) (hm : ∀ v w', c.pred v w' → c'.pred v w') : Cv f vs w c' := by
  refine Calls.mono h ?_
  rintro e w' ⟨v, h1, h2, h3⟩
  exact ⟨v, h1, h2, hm v w' h3⟩
def svLn (x : List (List UInt8)) (h : List Hs) : SV NewT := ⟨fun v w => ∃ u p, v = .agg (rowA 2 (lsF u p)) ∧ Parts w u x ∧ RdH w p h, fun _ _ _ ⟨u, p, h1, h2, h3⟩ hT => ⟨u, p, h1, hT.partsL h2, hT.hs h3⟩⟩
structure Fine (x : List Tx) : Prop where
  len : x.length ≤ 1000
  each : ∀ t ∈ x, t.length ≤ 10000
theorem Fine.take {x : List Tx} (h : Fine x) (k : Nat) : Fine (x.take k) := ⟨by have := h.len; rw [List.length_take]; omega, fun t ht => h.each t (List.mem_of_mem_take ht)⟩
theorem Fine.drop {x : List Tx} (h : Fine x) (k : Nat) : Fine (x.drop k) := ⟨by have := h.len; rw [List.length_drop]; omega, fun t ht => h.each t (List.mem_of_mem_drop ht)⟩
theorem TextL {node : Hs → Hs → Hs} {z : Hs} {lf : List UInt8 → Hs} {sm : Tx → Tx} (hC : ClashH node z lf sm) (W w : World) (hNW : NewT W w) (hT : Tables W) (u p : Value) (x : List Tx) (hu : Parts W u x) (hp : RdH W p (x.map lf)) (h1 : 1 ≤ x.length) (hf : Fine x) : Cv 46 #[.agg (rowA 2 (lsF u p)), .func (.func 24) #[] #[]] w (svRd (txL sm x)) := by
  unfold txL
  by_cases h2 : x.length < 2
  · rw [if_pos h2]
    match x, h1, h2, hu, hp, hf with
    | [t], _, _, hu, hp, hf => exact LText_1 W w hNW u p [t] t _ hu hp rfl rfl (hf.each t (by simp)) _
    | _ :: _ :: _, _, h2, _, _, _ => simp at h2; omega
    | [], h1, _, _, _, _ => simp at h1
  · rw [if_neg h2]
    have h := LText_2 hC.tree W w hNW hT u p x (x.map lf) hu hp (by omega) (by rw [List.length_map]) hf.len _ rfl
    rw [← List.map_take, ← List.map_drop, hC.digRoot, hC.digRoot] at h
    exact h
def LsR (W : World) (lf : List UInt8 → Hs) (sm : Tx → Tx) (s : List Tx × List Tx) (F G : Nat → Value) : Prop :=
  LsP W F s.1 (s.1.map lf) ∧ LsP W G s.2 (s.2.map lf) ∧ Apart sm s.1 s.2 ∧ Fine s.1 ∧ Fine s.2
def mSl : Option Value → Nat
  | some (.slice _ n _) => n
  | _ => 0
theorem LsP.meas {W : World} {F : Nat → Value} {x : List Tx} {h : List Hs} (hp : LsP W F x h) : mSl (some (F 0)) = x.length := by
  obtain ⟨u, p, rfl, hu, _⟩ := hp
  obtain ⟨A, c, e, _⟩ := parts_form hu
  show mSl (some u) = _
  rw [e]; rfl
theorem LsP.one {W : World} {F : Nat → Value} {x : List Tx} {h : List Hs} (hp : LsP W F x h) (i : Nat) : (F i).oneCell' = true := by
  obtain ⟨u, p, rfl, hu, h2⟩ := hp
  exact lsF_one (sl_one (parts_sl hu)) (sl_one (rdH_sl h2)) i
theorem FAList {node : Hs → Hs → Hs} {z : Hs} {lf : List UInt8 → Hs} {sm : Tx → Tx} (hC : ClashH node z lf sm) (w : World) (hT : Tables w) (b : Nat) (hb : w.rowIs b 42 1 (fun _ => (.func (.func 24) #[] #[]))) (x y : List Tx) (F G : Nat → Value) (h0 : LsR w lf sm (x, y) F G) :
    Cv 47 #[.agg (rowA 2 F), .agg (rowA 2 G), .func (.func 45) #[] #[.pointer (some ⟨b, 0, none⟩)], .func (.func 48) #[] #[]] w (svT2 (e1 (extM sm x y)) (e2 (extM sm x y)) true) := by
  refine FA_L (LsR w lf sm) (fun s => txL sm s.1) (fun s => txL sm s.2) (fun s => (extM sm s.1 s.2).getD ([], [])) mSl w (.pointer (some ⟨b, 0, none⟩)) ?_ ?_ ?_ ?_ ?_ (x, y) F G h0
  · intro s F G h
    exact ⟨h.1.one, h.2.1.one⟩
  · rintro s F G w' ⟨⟨u, p, rfl, hu, hp⟩, _, ha, f1, f2⟩ hN
    exact Text_L w' _ b _ (hN.row hb) fun w2 hN2 => TextL hC w w2 (NewT.trans _ _ _ hN hN2) hT u p s.1 hu hp ha.pos f1
  · rintro s F G w' ⟨_, ⟨u, p, rfl, hu, hp⟩, ha, f1, f2⟩ hN
    exact Text_L w' _ b _ (hN.row hb) fun w2 hN2 => TextL hC w w2 (NewT.trans _ _ _ hN hN2) hT u p s.2 hu hp (by rw [← ha.len]; exact ha.pos) f2
  · rintro s F G w' ⟨l1, l2, ha, f1, f2⟩ hN he
    have hme := l1.meas
    obtain ⟨u, p, rfl, hu, hp⟩ := l1
    obtain ⟨u', p', rfl, hu', hp'⟩ := l2
    obtain ⟨h2, _, _⟩ := apart_same hC.len ha he
    have hs := splitN_lt s.1.length h2
    by_cases hq : s.1.take (splitN s.1.length) = s.2.take (splitN s.1.length)
    · obtain ⟨a1, a2⟩ := apart_drop hC.len ha he hq
      refine Cv_imp (Down_drop w w' hN u p u' p' s.1 s.2 _ _ hu hp hu' hp' h2 ha.len (by rw [List.length_map]) (by rw [List.length_map]) f1.len _ rfl (decide_eq_true hq)) ?_
      rintro v w2 ⟨F1, G1, rfl, g1, g2⟩
      rw [← List.map_drop] at g1 g2
      refine ⟨F1, G1, rfl, (s.1.drop (splitN s.1.length), s.2.drop (splitN s.1.length)), ⟨g1, g2, a1, f1.drop _, f2.drop _⟩, by simp only [a2], ?_⟩
      rw [g1.meas, hme, List.length_drop]; omega
    · obtain ⟨a1, a2⟩ := apart_take hC.len ha he hq
      refine Cv_imp (Down_take w w' hN u p u' p' s.1 s.2 _ _ hu hp hu' hp' h2 ha.len (by rw [List.length_map]) (by rw [List.length_map]) f1.len _ rfl (decide_eq_false hq)) ?_
      rintro v w2 ⟨F1, G1, rfl, g1, g2⟩
      rw [← List.map_take] at g1 g2
      refine ⟨F1, G1, rfl, (s.1.take (splitN s.1.length), s.2.take (splitN s.1.length)), ⟨g1, g2, a1, f1.take _, f2.take _⟩, by simp only [a2], ?_⟩
      rw [g1.meas, hme, List.length_take]; omega
  · rintro s F G ⟨_, _, ha, _, _⟩ hne
    show (extM sm s.1 s.2).getD ([], []) = _
    rw [apart_end ha hne]; rfl
set_option maxHeartbeats 2000000 in
theorem OfLists_cv {node : Hs → Hs → Hs} {z : Hs} {lf : List UInt8 → Hs} {sm : Tx → Tx} (hC : ClashH node z lf sm) (w : World) (hT : Tables w) (va vb : Value) (x y : List Tx) (ha : Parts w va x) (hb : Parts w vb y) (hx : Fine x) (hy : Fine y) : Cv 27 #[va, vb, .func (.func 21) #[] #[], .func (.func 24) #[] #[]] w (svT2 (e1 (extM sm x y)) (e2 (extM sm x y)) (extM sm x y).isSome) := by
  unfold Cv
  have hY : LeafH lf := hC.leaf
  have hX : TreeH node z := hC.tree
  have HA := Lib.hid ha
  have HB := Lib.hid hb
  have HT := Lib.hid hT
  have HFx := Lib.hid hx
  have HFy := Lib.hid hy
  clear ha hb hT hx hy
  go_enter Tryd.func27, Tryd.ntmps27
  go_upto_region 1 with fail
  have r7 := rowIs_one w 42 (.func (.func 24) #[] #[])
  have hN : NewT w (w.alloc (.cells #[(.func (.func 24) #[] #[])] 42)) := (NewT.alloc _ _)
  change Code.wp _ _ _ _ (w.alloc (.cells #[(.func (.func 24) #[] #[])] 42))
  generalize (w.alloc (.cells #[(.func (.func 24) #[] #[])] 42)) = W0 at r7 hN ⊢
  have R7 := Lib.hid r7
  have HN := Lib.hid hN
  replace HT := Lib.hid (hN.tables HT.out)
  replace HA := Lib.hid (hN.partsL HA.out)
  replace HB := Lib.hid (hN.partsL HB.out)
  clear r7 hN
  obtain ⟨q1_1, Q1_1⟩ : ∃ bq_, ((((List.length (x) : Int)) != ((List.length (y) : Int))) || (decide (x = y))) = bq_ := ⟨_, rfl⟩
  refine wp_region_steps0 NewT [SV.eq (va), SV.eq (.int .i64 ((List.length (x) : Int))), SV.eq (vb), SV.eq (.int .i64 ((List.length (y) : Int))), SV.eq (.bool (((List.length (x) : Int)) != ((List.length (y) : Int)))), SV.eq (.bool (((List.length (x) : Int)) != ((List.length (y) : Int)))), svIf ((!(((List.length (x) : Int)) != ((List.length (y) : Int))))) (SV.eq (va)), svIf ((!(((List.length (x) : Int)) != ((List.length (y) : Int))))) (SV.eq (vb)), svIf ((!(((List.length (x) : Int)) != ((List.length (y) : Int))))) (SV.eq (.bool (decide (x = y)))), SV.eq (.bool (q1_1))] [([(0, none)], none), ([(14, some 0)], none), ([(1, none)], none), ([(16, some 2)], none), ([(15, some 1), (17, some 3)], none), ([(18, some 4)], none), ([(0, none), (19, some 5)], some (19, false)), ([(1, none), (19, some 5)], some (19, false)), ([(20, some 6), (21, some 7), (19, some 5)], some (19, false)), ([(19, some 5), (22, some 8)], none)] 51 10 rfl rfl (by kernel_rfl) NewT.trans (NewT.refl _) (Nat.le_of_ble_eq_true rfl) ⟨?_, ?_, ?_, ?_, ?_, ?_, ?_, ?_, ?_, ?_, trivial⟩ ?_
  · intro a wx hT hF K hK
    obtain ⟨f0, _⟩ := hF
    have f0 : a.tmps.getD 0 undef = va := f0
    refine rely_wp rfl ?_
    exact opr_move (.inl rfl) (hK _ _ (NewT.refl _) f0)
  · intro a wx hT hF K hK
    obtain ⟨f14, _⟩ := hF
    have f14 : a.tmps.getD 14 undef = va := f14
    refine rely_wp rfl ?_
    exact opr_len_parts rfl (by rw [eval_tmp, f14]; exact (hT.partsL HA.out)) (hK _ _ (NewT.refl _) rfl)
  · intro a wx hT hF K hK
    obtain ⟨f1, _⟩ := hF
    have f1 : a.tmps.getD 1 undef = vb := f1
    refine rely_wp rfl ?_
    exact opr_move (.inl rfl) (hK _ _ (NewT.refl _) f1)
  · intro a wx hT hF K hK
    obtain ⟨f16, _⟩ := hF
    have f16 : a.tmps.getD 16 undef = vb := f16
    refine rely_wp rfl ?_
    exact opr_len_parts rfl (by rw [eval_tmp, f16]; exact (hT.partsL HB.out)) (hK _ _ (NewT.refl _) rfl)
  · intro a wx hT hF K hK
    obtain ⟨f15, f17, _⟩ := hF
    have f15 : a.tmps.getD 15 undef = .int .i64 ((List.length (x) : Int)) := f15
    have f17 : a.tmps.getD 17 undef = .int .i64 ((List.length (y) : Int)) := f17
    refine rely_wp rfl ?_
    exact opr_cmp (b := ((List.length (x) : Int)) != ((List.length (y) : Int))) (.inr (.inl ⟨rfl, rfl⟩)) Tryd.underlying3 rfl f15 f17 (hK _ _ (NewT.refl _) rfl)
  · intro a wx hT hF K hK
    obtain ⟨f18, _⟩ := hF
    have f18 : a.tmps.getD 18 undef = .bool (((List.length (x) : Int)) != ((List.length (y) : Int))) := f18
    refine rely_wp rfl ?_
    exact opr_move (.inl rfl) (hK _ _ (NewT.refl _) f18)
  · intro a wx hT hF K hK
    obtain ⟨f0, f19, _⟩ := hF
    have f0 : a.tmps.getD 0 undef = va := f0
    have f19 : a.tmps.getD 19 undef = .bool (((List.length (x) : Int)) != ((List.length (y) : Int))) := f19
    refine rely_if (rely_gf f19) (NewT.refl _) hK (fun hE hK => ?_)
    exact opr_move (.inl rfl) (hK _ _ (NewT.refl _) f0)
  · intro a wx hT hF K hK
    obtain ⟨f1, f19, _⟩ := hF
    have f1 : a.tmps.getD 1 undef = vb := f1
    have f19 : a.tmps.getD 19 undef = .bool (((List.length (x) : Int)) != ((List.length (y) : Int))) := f19
    refine rely_if (rely_gf f19) (NewT.refl _) hK (fun hE hK => ?_)
    exact opr_move (.inl rfl) (hK _ _ (NewT.refl _) f1)
  · intro a wx hT hF K hK
    obtain ⟨f20, f21, f19, _⟩ := hF
    have f20 : ((!(((List.length (x) : Int)) != ((List.length (y) : Int))))) = true → a.tmps.getD 20 undef = va := f20
    have f21 : ((!(((List.length (x) : Int)) != ((List.length (y) : Int))))) = true → a.tmps.getD 21 undef = vb := f21
    have f19 : a.tmps.getD 19 undef = .bool (((List.length (x) : Int)) != ((List.length (y) : Int))) := f19
    refine rely_if (rely_gf f19) (NewT.refl _) hK (fun hE hK => ?_)
    exact opr_cv (Same_cv _ _ x y wx (hT.partsL HA.out) (hT.partsL HB.out)) rfl Tryd.func44 (by kernel_rfl) (by kernel_rfl) (by simp only [List.map_toArray, List.map_cons, List.map_nil, eval_tmp, (f20 hE), (f21 hE)]) hK
  · intro a wx hT hF K hK
    obtain ⟨f19, f22, _⟩ := hF
    have f19 : a.tmps.getD 19 undef = .bool (((List.length (x) : Int)) != ((List.length (y) : Int))) := f19
    have f22 : ((!(((List.length (x) : Int)) != ((List.length (y) : Int))))) = true → a.tmps.getD 22 undef = .bool (decide (x = y)) := f22
    refine rely_wp rfl ?_
    exact opr_pick_b rfl f19 (fun hb => hK _ _ (NewT.refl _) (pn_or1 Q1_1 hb)) (fun hb => hK _ _ (NewT.refl _) (pn_or0 Q1_1 (f22 (bnot hb)) hb))
  · intro wa ka
    intro u h; obtain rfl := Eq.symm (h (by simp)); clear h
    intro u h; obtain rfl := Eq.symm (h (by simp)); clear h
    intro u h; obtain rfl := Eq.symm (h (by simp)); clear h
    intro u h; obtain rfl := Eq.symm (h (by simp)); clear h
    intro u h; obtain rfl := Eq.symm (h (by simp)); clear h
    intro u h; obtain rfl := Eq.symm (h (by simp)); clear h
    intro _ _
    intro _ _
    intro _ _
    intro u h; obtain rfl := Eq.symm (h (by simp)); clear h
    subst Q1_1
    refine relyEnd_nil rfl ?_
    refine wpList_end rfl ?_
    simp only [Act.put, List.setIfInBounds_toArray, List.set_cons_zero, List.set_cons_succ]
    go_simp
    replace R7 := Lib.hid (ka.row R7.out)
    replace HT := Lib.hid (ka.tables HT.out)
    replace HA := Lib.hid (ka.partsL HA.out)
    replace HB := Lib.hid (ka.partsL HB.out)
    replace HN := Lib.hid (NewT.trans _ _ _ HN.out ka)
    clear ka
    obtain ⟨q1, hq1⟩ : ∃ q, (((((List.length (x) : Int)) != ((List.length (y) : Int))) || (decide (x = y)))) = q := ⟨_, rfl⟩
    rw [hq1]
    have HQ1 := Lib.hid hq1
    clear hq1
    cases q1
    · have hlen : x.length = y.length := by have := HQ1.out; simp at this; omega
      have hne : x ≠ y := by have := HQ1.out; simp at this; exact this.2
      have HLN := Lib.hid hlen
      have HNE := Lib.hid hne
      clear hlen hne
      go_upto_region 3 with fail
      refine wp_region_steps0 NewT [SV.eq (va), SV.eq (va), SV.eq ((.func (.func 21) #[] #[])), svH (List.map lf x), svLn x (List.map lf x), SV.eq (vb), SV.eq (vb), SV.eq ((.func (.func 21) #[] #[])), svH (List.map lf y), svLn y (List.map lf y)] [([(0, none)], none), ([(0, none)], none), ([(2, none)], none), ([(25, some 1), (26, some 2)], none), ([(24, some 0), (27, some 3)], none), ([(1, none)], none), ([(1, none)], none), ([(2, none)], none), ([(30, some 6), (31, some 7)], none), ([(29, some 5), (32, some 8)], none)] 51 10 rfl rfl (by kernel_rfl) NewT.trans (NewT.refl _) (Nat.le_of_ble_eq_true rfl) ⟨?_, ?_, ?_, ?_, ?_, ?_, ?_, ?_, ?_, ?_, trivial⟩ ?_
      · intro a wx hT hF K hK
        obtain ⟨f0, _⟩ := hF
        have f0 : a.tmps.getD 0 undef = va := f0
        refine rely_wp rfl ?_
        exact opr_move (.inl rfl) (hK _ _ (NewT.refl _) f0)
      · intro a wx hT hF K hK
        obtain ⟨f0, _⟩ := hF
        have f0 : a.tmps.getD 0 undef = va := f0
        refine rely_wp rfl ?_
        exact opr_move (.inl rfl) (hK _ _ (NewT.refl _) f0)
      · intro a wx hT hF K hK
        obtain ⟨f2, _⟩ := hF
        have f2 : a.tmps.getD 2 undef = (.func (.func 21) #[] #[]) := f2
        refine rely_wp rfl ?_
        exact opr_move (.inl rfl) (hK _ _ (NewT.refl _) f2)
      · intro a wx hT hF K hK
        obtain ⟨f25, f26, _⟩ := hF
        have f25 : a.tmps.getD 25 undef = va := f25
        have f26 : a.tmps.getD 26 undef = (.func (.func 21) #[] #[]) := f26
        refine rely_wp rfl ?_
        exact opr_cv (Hashes_cv hY _ x wx (hT.tables HT.out) (hT.partsL HA.out) (HFx.out.len) (HFx.out.each)) rfl Tryd.func30 (by kernel_rfl) (by kernel_rfl) (by simp only [List.map_toArray, List.map_cons, List.map_nil, eval_tmp, f25, f26]) hK
      · intro a wx hT hF K hK
        obtain ⟨f24, f27, _⟩ := hF
        have f24 : a.tmps.getD 24 undef = va := f24
        replace f27 := show (svH (List.map lf x)).pred (a.tmps.getD 27 undef) wx from f27
        refine rely_wp rfl ?_
        exact opr_bldL (parts_sl HA.out) (rdH_sl f27) rfl f24 rfl (hK _ _ (NewT.refl _) ⟨_, _, rfl, hT.partsL HA.out, f27⟩)
      · intro a wx hT hF K hK
        obtain ⟨f1, _⟩ := hF
        have f1 : a.tmps.getD 1 undef = vb := f1
        refine rely_wp rfl ?_
        exact opr_move (.inl rfl) (hK _ _ (NewT.refl _) f1)
      · intro a wx hT hF K hK
        obtain ⟨f1, _⟩ := hF
        have f1 : a.tmps.getD 1 undef = vb := f1
        refine rely_wp rfl ?_
        exact opr_move (.inl rfl) (hK _ _ (NewT.refl _) f1)
      · intro a wx hT hF K hK
        obtain ⟨f2, _⟩ := hF
        have f2 : a.tmps.getD 2 undef = (.func (.func 21) #[] #[]) := f2
        refine rely_wp rfl ?_
        exact opr_move (.inl rfl) (hK _ _ (NewT.refl _) f2)
      · intro a wx hT hF K hK
        obtain ⟨f30, f31, _⟩ := hF
        have f30 : a.tmps.getD 30 undef = vb := f30
        have f31 : a.tmps.getD 31 undef = (.func (.func 21) #[] #[]) := f31
        refine rely_wp rfl ?_
        exact opr_cv (Hashes_cv hY _ y wx (hT.tables HT.out) (hT.partsL HB.out) (HFy.out.len) (HFy.out.each)) rfl Tryd.func30 (by kernel_rfl) (by kernel_rfl) (by simp only [List.map_toArray, List.map_cons, List.map_nil, eval_tmp, f30, f31]) hK
      · intro a wx hT hF K hK
        obtain ⟨f29, f32, _⟩ := hF
        have f29 : a.tmps.getD 29 undef = vb := f29
        replace f32 := show (svH (List.map lf y)).pred (a.tmps.getD 32 undef) wx from f32
        refine rely_wp rfl ?_
        exact opr_bldL (parts_sl HB.out) (rdH_sl f32) rfl f29 rfl (hK _ _ (NewT.refl _) ⟨_, _, rfl, hT.partsL HB.out, f32⟩)
      · intro wb kb
        intro u h; obtain rfl := Eq.symm (h (by simp)); clear h
        intro u h; obtain rfl := Eq.symm (h (by simp)); clear h
        intro u h; obtain rfl := Eq.symm (h (by simp)); clear h
        intro _ _
        intro u28 h; have g28 := h (by simp); clear h; replace g28 := show (svLn x (List.map lf x)).pred u28 wb from g28
        intro u h; obtain rfl := Eq.symm (h (by simp)); clear h
        intro u h; obtain rfl := Eq.symm (h (by simp)); clear h
        intro u h; obtain rfl := Eq.symm (h (by simp)); clear h
        intro _ _
        intro u33 h; have g33 := h (by simp); clear h; replace g33 := show (svLn y (List.map lf y)).pred u33 wb from g33
        refine relyEnd_nil rfl ?_
        simp only [Act.put, List.setIfInBounds_toArray, List.set_cons_zero, List.set_cons_succ]
        obtain ⟨ux, px, rfl, hux, hpx⟩ := g28
        obtain ⟨uy, py, rfl, huy, hpy⟩ := g33
        refine wpList_plain rfl (fun K hK => ?_)
        refine opr_val (s := Instr.alloc 64 true (.tuple #[])) rfl (run_alloc_ls _) (hK _ _ ?_)
        clear hK K
        simp only [Act.put, List.setIfInBounds_toArray, List.set_cons_zero, List.set_cons_succ]
        refine wpList_plain rfl (fun K hK => ?_)
        refine opr_val (s := Instr.alloc 64 true (.tuple #[])) rfl (run_alloc_ls _) (hK _ _ ?_)
        clear hK K
        simp only [Act.put, List.setIfInBounds_toArray, List.set_cons_zero, List.set_cons_succ]
        have r11 := (rowIs_box wb 64 2 (lsF (.slice none 0 0) (.slice none 0 0))).alloc (.cells (rowA 2 (lsF (.slice none 0 0) (.slice none 0 0))) 64)
        have r12 := rowIs_box (wb.alloc (.cells (rowA 2 (lsF (.slice none 0 0) (.slice none 0 0))) 64)) 64 2 (lsF (.slice none 0 0) (.slice none 0 0))
        have hN2 : NewT wb ((wb.alloc (.cells (rowA 2 (lsF (.slice none 0 0) (.slice none 0 0))) 64)).alloc (.cells (rowA 2 (lsF (.slice none 0 0) (.slice none 0 0))) 64)) := NewT.trans _ _ _ (NewT.alloc _ _) (NewT.alloc _ _)
        rw [World.size_alloc] at r12 ⊢
        generalize (wb.alloc (.cells (rowA 2 (lsF (.slice none 0 0) (.slice none 0 0))) 64)).alloc (.cells (rowA 2 (lsF (.slice none 0 0) (.slice none 0 0))) 64) = W2 at r11 r12 hN2 ⊢
        refine wpList_plain rfl (fun K hK => ?_)
        refine opr_putm (F := lsF ux px) rfl rfl rfl r11 (by decide) infoL (lsF_one (sl_one (parts_sl hux)) (sl_one (rdH_sl hpx))) (fun i hi => by rw [if_pos (by omega), Nat.sub_zero]) ?_
        intro w7 hR7 s11
        refine hK _ _ ?_
        clear hK K
        simp only [Act.put, List.setIfInBounds_toArray, List.set_cons_zero, List.set_cons_succ]
        refine wpList_plain rfl (fun K hK => ?_)
        refine opr_putm (F := lsF uy py) rfl rfl rfl (hR7.row (by omega) r12) (by decide) infoL (lsF_one (sl_one (parts_sl huy)) (sl_one (rdH_sl hpy))) (fun i hi => by rw [if_pos (by omega), Nat.sub_zero]) ?_
        intro w8 hR8 s12
        refine hK _ _ ?_
        refine wpList_end rfl ?_
        simp only [Act.put, List.setIfInBounds_toArray, List.set_cons_zero, List.set_cons_succ]
        go_simp
        have k8 : NewT wb w8 := NewT.rt (NewT.rt hN2 hR7 (Nat.le_refl _)) hR8 (by omega)
        have R11 := Lib.hid (hR8.row (by omega) s11)
        have R12 := Lib.hid s12
        have HUX := Lib.hid (k8.partsL hux)
        have HPX := Lib.hid (k8.hs hpx)
        have HUY := Lib.hid (k8.partsL huy)
        have HPY := Lib.hid (k8.hs hpy)
        replace k8 := NewT.trans _ _ _ kb k8
        replace R7 := Lib.hid (k8.row R7.out)
        replace HT := Lib.hid (k8.tables HT.out)
        replace HN := Lib.hid (NewT.trans _ _ _ HN.out k8)
        clear k8 kb hN2 hR7 hR8 s11 s12 r11 r12 hux hpx huy hpy HA HB
        obtain ⟨p11, e11⟩ : ∃ q, wb.heap.size = q := ⟨_, rfl⟩
        rw [e11] at R11 R12 ⊢
        clear e11
        obtain ⟨q, hrq⟩ : ∃ q, decide (rootS sm x = rootS sm y) = q := ⟨_, rfl⟩
        have HRQ := Lib.hid hrq
        clear hrq
        go_upto_region 4 with fail
        refine wp_region_rely (NewT) [SV.eq ((.func (.func 24) #[] #[])), SV.eq (.pointer (some ⟨p11, 1, none⟩)), SV.eq (px), SV.eq (.agg (rowA 32 (bF (rootM node z (List.map lf x))))), SV.eq ((.func (.func 24) #[] #[])), SV.eq (.pointer (some ⟨p11 + 1, 1, none⟩)), SV.eq (py), SV.eq (.agg (rowA 32 (bF (rootM node z (List.map lf y)))))] [([(7, none)], none), ([(11, none)], none), ([(35, some 1)], none), ([(34, some 0), (36, some 2)], none), ([(7, none)], none), ([(12, none)], none), ([(39, some 5)], none), ([(38, some 4), (40, some 6)], none)] 51 rfl (by kernel_rfl) rfl (by kernel_rfl) (by kernel_rfl) rfl NewT.trans (NewT.drew _) (Nat.le_of_ble_eq_true rfl) ⟨?_, ?_, ?_, ?_, ?_, ?_, ?_, ?_, trivial⟩ ?_
        · intro a wx hT hF K hK
          obtain ⟨f7, _⟩ := hF
          have f7 : a.tmps.getD 7 undef = .pointer (some ⟨w.heap.size, 0, none⟩) := f7
          refine rely_wp rfl ?_
          exact opr_ldFR (hT.row R7.out) (by decide) rfl rfl f7 (hK _ _ (NewT.refl _) rfl)
        · intro a wx hT hF K hK
          obtain ⟨f11, _⟩ := hF
          have f11 : a.tmps.getD 11 undef = .pointer (some ⟨p11, 0, none⟩) := f11
          refine rely_wp rfl ?_
          exact opr_fldL1 rfl f11 (hK _ _ (NewT.refl _) rfl)
        · intro a wx hT hF K hK
          obtain ⟨f35, _⟩ := hF
          have f35 : a.tmps.getD 35 undef = .pointer (some ⟨p11, 1, none⟩) := f35
          refine rely_wp rfl ?_
          exact opr_ldHs (hT.row R11.out) (by decide) rfl rfl f35 (hK _ _ (NewT.refl _) rfl)
        · intro a wx hT hF K hK
          obtain ⟨f34, f36, _⟩ := hF
          have f34 : a.tmps.getD 34 undef = (.func (.func 24) #[] #[]) := f34
          have f36 : a.tmps.getD 36 undef = px := f36
          refine rely_wp rfl ?_
          exact opr_cvv (cap := #[]) (Root_cv hX _ _ (List.map lf x) wx (hT.tables HT.out) ((hT.hs HPX.out)) (Nat.le_refl _) (by rw [List.length_map]; have := HFx.out.len; have := HFy.out.len; omega)) rfl f34 Tryd.func24 (by kernel_rfl) (by kernel_rfl) (by simp only [List.map_toArray, List.map_cons, List.map_nil, List.append_toArray, List.cons_append, List.nil_append, List.append_nil, eval_tmp, eval_const, f36]) hK
        · intro a wx hT hF K hK
          obtain ⟨f7, _⟩ := hF
          have f7 : a.tmps.getD 7 undef = .pointer (some ⟨w.heap.size, 0, none⟩) := f7
          refine rely_wp rfl ?_
          exact opr_ldFR (hT.row R7.out) (by decide) rfl rfl f7 (hK _ _ (NewT.refl _) rfl)
        · intro a wx hT hF K hK
          obtain ⟨f12, _⟩ := hF
          have f12 : a.tmps.getD 12 undef = .pointer (some ⟨p11 + 1, 0, none⟩) := f12
          refine rely_wp rfl ?_
          exact opr_fldL1 rfl f12 (hK _ _ (NewT.refl _) rfl)
        · intro a wx hT hF K hK
          obtain ⟨f39, _⟩ := hF
          have f39 : a.tmps.getD 39 undef = .pointer (some ⟨p11 + 1, 1, none⟩) := f39
          refine rely_wp rfl ?_
          exact opr_ldHs (hT.row R12.out) (by decide) rfl rfl f39 (hK _ _ (NewT.refl _) rfl)
        · intro a wx hT hF K hK
          obtain ⟨f38, f40, _⟩ := hF
          have f38 : a.tmps.getD 38 undef = (.func (.func 24) #[] #[]) := f38
          have f40 : a.tmps.getD 40 undef = py := f40
          refine rely_wp rfl ?_
          exact opr_cvv (cap := #[]) (Root_cv hX _ _ (List.map lf y) wx (hT.tables HT.out) ((hT.hs HPY.out)) (Nat.le_refl _) (by rw [List.length_map]; have := HFx.out.len; have := HFy.out.len; omega)) rfl f38 Tryd.func24 (by kernel_rfl) (by kernel_rfl) (by simp only [List.map_toArray, List.map_cons, List.map_nil, List.append_toArray, List.cons_append, List.nil_append, List.append_nil, eval_tmp, eval_const, f40]) hK
        · intro wc kc
          intro u h; obtain rfl := Eq.symm (h (by simp)); clear h
          intro u h; obtain rfl := Eq.symm (h (by simp)); clear h
          intro u h; obtain rfl := Eq.symm (h (by simp)); clear h
          intro u h; obtain rfl := Eq.symm (h (by simp)); clear h
          intro u h; obtain rfl := Eq.symm (h (by simp)); clear h
          intro u h; obtain rfl := Eq.symm (h (by simp)); clear h
          intro u h; obtain rfl := Eq.symm (h (by simp)); clear h
          intro u h; obtain rfl := Eq.symm (h (by simp)); clear h
          refine relyEnd_nil rfl ?_
          simp only [Act.put, List.setIfInBounds_toArray, List.set_cons_zero, List.set_cons_succ]
          refine opr_neq_hash (b := !q) rfl rfl rfl (by rw [hC.eqRoot, HRQ.out]) ?_
          go_simp
          replace R7 := Lib.hid (kc.row R7.out)
          replace R11 := Lib.hid (kc.row R11.out)
          replace R12 := Lib.hid (kc.row R12.out)
          replace HUX := Lib.hid (kc.partsL HUX.out)
          replace HPX := Lib.hid (kc.hs HPX.out)
          replace HUY := Lib.hid (kc.partsL HUY.out)
          replace HPY := Lib.hid (kc.hs HPY.out)
          replace HT := Lib.hid (kc.tables HT.out)
          replace HN := Lib.hid (NewT.trans _ _ _ HN.out kc)
          clear kc
          cases q
          · have hno : extM sm x y = none := ext_none (.inr (.inr (of_decide_eq_false HRQ.out)))
            have HNO := Lib.hid hno
            clear hno
            go_wp2
            exact bodyPost_ret (results_ttt rfl rfl rfl rfl) rfl ⟨_, rfl, HN.out, _, _, by rw [HNO.out]; rfl, by rw [HNO.out]; exact rd_nil _, by rw [HNO.out]; exact rd_nil _⟩
          · have HAP : Hid (Apart sm x y) := Lib.hid ⟨HLN.out, by
              have h1 := HNE.out
              have h2 := HLN.out
              rcases Nat.eq_zero_or_pos x.length with h0 | h0
              · exact absurd (by rw [List.eq_nil_of_length_eq_zero h0, List.eq_nil_of_length_eq_zero (h2.symm.trans h0)]) h1
              · exact h0, HNE.out, of_decide_eq_true HRQ.out⟩
            have HSO : Hid ((extM sm x y).isSome = true) := Lib.hid (by
              cases he : extM sm x y with
              | some c => rfl
              | none =>
                rcases extM_none _ x y (Nat.le_refl _) he with h | h | h
                · exact absurd HLN.out h
                · exact absurd (of_decide_eq_true HRQ.out) h
                · exact absurd h HNE.out)
            go_upto_region 6 with fail
            refine wp_region_lit ?_
            refine wpList_plain rfl (fun K hK => ?_)
            refine opr_mkf (cap := #[.pointer (some ⟨w.heap.size, 0, none⟩)]) rfl (by simp only [List.map_toArray, List.map_cons, List.map_nil]; rfl) (hK _ _ ?_)
            clear hK K
            refine wpList_plain rfl (fun K hK => ?_)
            refine opr_move (.inr rfl) (hK _ _ ?_)
            refine wpList_end rfl ?_
            simp only [Act.put, List.setIfInBounds_toArray, List.set_cons_zero, List.set_cons_succ]
            go_simp
            go_upto_region 7 with fail
            refine wp_region_steps0 NewT [SV.eq (.agg (rowA 2 (lsF ux px))), SV.eq (.agg (rowA 2 (lsF uy py))), SV.eq ((.func (.func 45) #[] #[.pointer (some ⟨w.heap.size, 0, none⟩)])), svT2 (e1 (extM sm x y)) (e2 (extM sm x y)) true] [([(11, none)], none), ([(12, none)], none), ([(13, none)], none), ([(44, some 0), (45, some 1), (46, some 2)], none)] 51 4 rfl rfl (by kernel_rfl) NewT.trans (NewT.refl _) (Nat.le_of_ble_eq_true rfl) ⟨?_, ?_, ?_, ?_, trivial⟩ ?_
            · intro a wx hT hF K hK
              obtain ⟨f11, _⟩ := hF
              have f11 : a.tmps.getD 11 undef = .pointer (some ⟨p11, 0, none⟩) := f11
              refine rely_wp rfl ?_
              exact opr_ldLs (hT.row R11.out) rfl f11 (hK _ _ (NewT.refl _) rfl)
            · intro a wx hT hF K hK
              obtain ⟨f12, _⟩ := hF
              have f12 : a.tmps.getD 12 undef = .pointer (some ⟨p11 + 1, 0, none⟩) := f12
              refine rely_wp rfl ?_
              exact opr_ldLs (hT.row R12.out) rfl f12 (hK _ _ (NewT.refl _) rfl)
            · intro a wx hT hF K hK
              obtain ⟨f13, _⟩ := hF
              have f13 : a.tmps.getD 13 undef = (.func (.func 45) #[] #[.pointer (some ⟨w.heap.size, 0, none⟩)]) := f13
              refine rely_wp rfl ?_
              exact opr_move (.inl rfl) (hK _ _ (NewT.refl _) f13)
            · intro a wx hT hF K hK
              obtain ⟨f44, f45, f46, _⟩ := hF
              have f44 : a.tmps.getD 44 undef = .agg (rowA 2 (lsF ux px)) := f44
              have f45 : a.tmps.getD 45 undef = .agg (rowA 2 (lsF uy py)) := f45
              have f46 : a.tmps.getD 46 undef = (.func (.func 45) #[] #[.pointer (some ⟨w.heap.size, 0, none⟩)]) := f46
              refine rely_wp rfl ?_
              exact opr_cv (FAList hC wx (hT.tables HT.out) _ (hT.row R7.out) x y _ _ ⟨⟨ux, px, rfl, hT.partsL HUX.out, hT.hs HPX.out⟩, ⟨uy, py, rfl, hT.partsL HUY.out, hT.hs HPY.out⟩, HAP.out, HFx.out, HFy.out⟩) rfl Tryd.func47 (by kernel_rfl) (by kernel_rfl) (by simp only [List.map_toArray, List.map_cons, List.map_nil, eval_tmp, eval_func, f44, f45, f46]) hK
            · intro we ke
              intro u h; obtain rfl := Eq.symm (h (by simp)); clear h
              intro u h; obtain rfl := Eq.symm (h (by simp)); clear h
              intro u h; obtain rfl := Eq.symm (h (by simp)); clear h
              intro u47 h; have g47 := h (by simp); clear h; replace g47 := show (svT2 (e1 (extM sm x y)) (e2 (extM sm x y)) true).pred u47 we from g47
              refine relyEnd_nil rfl ?_
              simp only [Act.put, List.setIfInBounds_toArray, List.set_cons_zero, List.set_cons_succ]
              obtain ⟨a1, a2, rfl, q1, q2⟩ := g47
              refine wpList_plain rfl (fun K hK => ?_)
              refine opr_ext rfl rfl rfl (hK _ _ ?_)
              clear hK K
              refine wpList_plain rfl (fun K hK => ?_)
              refine opr_ext rfl rfl rfl (hK _ _ ?_)
              clear hK K
              refine wpList_plain rfl (fun K hK => ?_)
              refine opr_ext rfl rfl rfl (hK _ _ ?_)
              clear hK K
              simp only [Act.put, List.setIfInBounds_toArray, List.set_cons_zero, List.set_cons_succ]
              refine wpList_plain rfl (fun K hK => ?_)
              refine opr_move (.inr rfl) (hK _ _ ?_)
              clear hK K
              simp only [Act.put, List.setIfInBounds_toArray, List.set_cons_zero, List.set_cons_succ]
              refine wpList_plain rfl (fun K hK => ?_)
              refine opr_move (.inr rfl) (hK _ _ ?_)
              clear hK K
              simp only [Act.put, List.setIfInBounds_toArray, List.set_cons_zero, List.set_cons_succ]
              refine wpList_plain rfl (fun K hK => ?_)
              refine opr_move (.inr rfl) (hK _ _ ?_)
              refine wpList_end rfl ?_
              simp only [Act.put, List.setIfInBounds_toArray, List.set_cons_zero, List.set_cons_succ]
              go_simp
              go_wp2
              exact bodyPost_ret (results_ttt rfl rfl rfl rfl) rfl ⟨_, rfl, NewT.trans _ _ _ HN.out ke, a1, a2, by rw [HSO.out]; rfl, q1, q2⟩
    · have hno : extM sm x y = none := ext_none (by have := HQ1.out; simp at this; rcases this with h | h; exact .inl (by omega); exact .inr (.inl h))
      have HNO := Lib.hid hno
      clear hno
      go_wp2
      exact bodyPost_ret (results_ttt rfl rfl rfl rfl) rfl ⟨_, rfl, HN.out, _, _, by rw [HNO.out]; rfl, by rw [HNO.out]; exact rd_nil _, by rw [HNO.out]; exact rd_nil _⟩
set_option maxHeartbeats 1000000 in
theorem Extract_cv {node : Hs → Hs → Hs} {z : Hs} {lf : List UInt8 → Hs} {sm : Tx → Tx} (hC : ClashH node z lf sm) (w : World) (hT : Tables w) (va vb : Value) (x y : List Tx) (ha : Parts w va x) (hb : Parts w vb y) (hx : Fine x) (hy : Fine y) : Cv 11 #[va, vb] w (svT2 (e1 (extM sm x y)) (e2 (extM sm x y)) (extM sm x y).isSome) := by
  unfold Cv
  have HA := Lib.hid ha
  have HB := Lib.hid hb
  have HT := Lib.hid hT
  have HFx := Lib.hid hx
  have HFy := Lib.hid hy
  clear ha hb hT hx hy
  go_enter Tryd.func11, Tryd.ntmps11
  go_upto_region 1 with fail
  refine wp_region_steps0 NewT [SV.eq (va), SV.eq (vb), svT2 (e1 (extM sm x y)) (e2 (extM sm x y)) (extM sm x y).isSome] [([(0, none)], none), ([(1, none)], none), ([(7, some 0), (8, some 1)], none)] 13 3 rfl rfl (by kernel_rfl) NewT.trans (NewT.refl _) (Nat.le_of_ble_eq_true rfl) ⟨?_, ?_, ?_, trivial⟩ ?_
  · intro a wx hT hF K hK
    obtain ⟨f0, _⟩ := hF
    have f0 : a.tmps.getD 0 undef = va := f0
    refine rely_wp rfl ?_
    exact opr_move (.inl rfl) (hK _ _ (NewT.refl _) f0)
  · intro a wx hT hF K hK
    obtain ⟨f1, _⟩ := hF
    have f1 : a.tmps.getD 1 undef = vb := f1
    refine rely_wp rfl ?_
    exact opr_move (.inl rfl) (hK _ _ (NewT.refl _) f1)
  · intro a wx hT hF K hK
    obtain ⟨f7, f8, _⟩ := hF
    have f7 : a.tmps.getD 7 undef = va := f7
    have f8 : a.tmps.getD 8 undef = vb := f8
    refine rely_wp rfl ?_
    exact opr_cv (OfLists_cv hC wx (hT.tables HT.out) va vb x y (hT.partsL HA.out) (hT.partsL HB.out) HFx.out HFy.out) rfl Tryd.func27 (by kernel_rfl) (by kernel_rfl) (by simp only [List.map_toArray, List.map_cons, List.map_nil, eval_tmp, eval_func, f7, f8]) hK
  · intro we ke
    intro u h; obtain rfl := Eq.symm (h (by simp)); clear h
    intro u h; obtain rfl := Eq.symm (h (by simp)); clear h
    intro u9 h; have g9 := h (by simp); clear h; replace g9 := show (svT2 (e1 (extM sm x y)) (e2 (extM sm x y)) (extM sm x y).isSome).pred u9 we from g9
    refine relyEnd_nil rfl ?_
    simp only [Act.put, List.setIfInBounds_toArray, List.set_cons_zero, List.set_cons_succ]
    obtain ⟨a1, a2, rfl, q1, q2⟩ := g9
    refine wpList_plain rfl (fun K hK => ?_)
    refine opr_ext rfl rfl rfl (hK _ _ ?_)
    clear hK K
    refine wpList_plain rfl (fun K hK => ?_)
    refine opr_ext rfl rfl rfl (hK _ _ ?_)
    clear hK K
    refine wpList_plain rfl (fun K hK => ?_)
    refine opr_ext rfl rfl rfl (hK _ _ ?_)
    clear hK K
    simp only [Act.put, List.setIfInBounds_toArray, List.set_cons_zero, List.set_cons_succ]
    refine wpList_plain rfl (fun K hK => ?_)
    refine opr_move (.inr rfl) (hK _ _ ?_)
    clear hK K
    simp only [Act.put, List.setIfInBounds_toArray, List.set_cons_zero, List.set_cons_succ]
    refine wpList_plain rfl (fun K hK => ?_)
    refine opr_move (.inr rfl) (hK _ _ ?_)
    clear hK K
    simp only [Act.put, List.setIfInBounds_toArray, List.set_cons_zero, List.set_cons_succ]
    refine wpList_plain rfl (fun K hK => ?_)
    refine opr_move (.inr rfl) (hK _ _ ?_)
    refine wpList_end rfl ?_
    simp only [Act.put, List.setIfInBounds_toArray, List.set_cons_zero, List.set_cons_succ]
    go_simp
    go_wp2
    exact bodyPost_ret (results_ttt rfl rfl rfl rfl) rfl ⟨_, rfl, ke, a1, a2, rfl, q1, q2⟩
end Go.Proofs.YtlnedphnphabkaaDoor
/- The root of leaves, and whether two texts are a clash: clash.Roots, clash.Is. -/
namespace Go.Proofs.YtlnedphnphabkaaDoor
open Go Go.RowKit
set_option maxRecDepth 8000
set_option linter.all false
set_option maxHeartbeats 1000000 in
theorem Roots_cv {node : Hs → Hs → Hs} {z : Hs} {lf : List UInt8 → Hs} {sm : Tx → Tx} (hC : ClashH node z lf sm) (v : Value) (x : List Tx) (w : World) (hT : Tables w) (hl : Parts w v x) (hf : Fine x) : Cv 14 #[v] w (.eq (.agg (rowA 32 (bF (rootM node z (List.map lf x)))))) := by
  unfold Cv
  have hY : LeafH lf := hC.leaf
  have hX : TreeH node z := hC.tree
  have HF := Lib.hid hf
  have HT := Lib.hid hT
  have HL := Lib.hid hl
  clear hT hl hf
  go_enter Tryd.func14, Tryd.ntmps14
  go_upto_region 1 with fail
  have r0 := rowIs_box w 30 32 (bF fun _ => 0)
  have hN := NewT.alloc w (.cells (rowA 32 (bF fun _ => 0)) 30)
  change Code.wp _ _ _ _ (w.alloc (.cells (rowA 32 (bF fun _ => 0)) 30))
  generalize w.alloc (.cells (rowA 32 (bF fun _ => 0)) 30) = W0 at r0 hN ⊢
  have R0 := Lib.hid r0
  have HN := Lib.hid hN
  replace HT := Lib.hid (hN.tables HT.out)
  replace HL := Lib.hid (hN.partsL HL.out)
  clear r0 hN
  refine wp_region_steps0 NewT [SV.eq (v), svH (List.map lf x), SV.eq (.agg (rowA 32 (bF (rootM node z (List.map lf x)))))] [([(0, none)], none), ([(3, some 0)], none), ([(4, some 1)], none)] 6 3 rfl rfl (by kernel_rfl) NewT.trans (NewT.refl _) (Nat.le_of_ble_eq_true rfl) ⟨?_, ?_, ?_, trivial⟩ ?_
  · intro a wx hT hF K hK
    obtain ⟨f0, _⟩ := hF
    have f0 : a.tmps.getD 0 undef = v := f0
    refine rely_wp rfl ?_
    exact opr_move (.inl rfl) (hK _ _ (NewT.refl _) f0)
  · intro a wx hT hF K hK
    obtain ⟨f3, _⟩ := hF
    have f3 : a.tmps.getD 3 undef = v := f3
    refine rely_wp rfl ?_
    exact opr_cv (Hashes_cv hY _ x wx (hT.tables HT.out) (hT.partsL HL.out) (HF.out.len) (HF.out.each)) rfl Tryd.func30 (by kernel_rfl) (by kernel_rfl) (by simp only [List.map_toArray, List.map_cons, List.map_nil, eval_tmp, eval_func, f3]) hK
  · intro a wx hT hF K hK
    obtain ⟨f4, _⟩ := hF
    replace f4 := show (svH (List.map lf x)).pred (a.tmps.getD 4 undef) wx from f4
    refine rely_wp rfl ?_
    exact opr_cv (Root_cv hX _ _ (List.map lf x) wx (hT.tables HT.out) (f4) (Nat.le_refl _) (by rw [List.length_map]; have := HF.out.len; omega)) rfl Tryd.func24 (by kernel_rfl) (by kernel_rfl) (by simp only [List.map_toArray, List.map_cons, List.map_nil, eval_tmp]) hK
  · intro wx hT
    intro u h; obtain rfl := Eq.symm (h (by simp)); clear h
    intro _ _
    intro u h; obtain rfl := Eq.symm (h (by simp)); clear h
    refine relyEnd_nil rfl ?_
    simp only [Act.put, List.setIfInBounds_toArray, List.set_cons_zero, List.set_cons_succ]
    refine wpList_plain rfl (fun K hK => ?_)
    refine opr_store_new (B := w.heap.size) (W := w) info31 rfl rfl rfl (hT.row R0.out) (NewT.trans _ _ _ HN.out hT) (Nat.le_refl _) ?_
    intro w9 hB9 r9
    refine hK _ _ ?_
    refine wpList_end rfl ?_
    simp only [Act.put]
    go_simp
    go_wp2
    exact bodyPost_ret (results_row rfl _ rfl r9 Tryd.underlying30 info31) rfl ⟨_, rfl, hB9, rfl⟩
/-- Two texts that differ, with one digest. -/
def isB (sm : Tx → Tx) (x y : Tx) : Bool := !decide (x = y) && decide (sm x = sm y)
theorem isB_iff (sm : Tx → Tx) (x y : Tx) : isB sm x y = true ↔ x ≠ y ∧ sm x = sm y := by unfold isB; simp
theorem flat1 (x : List UInt8) : [x].flatten = x := by simp
set_option maxHeartbeats 1000000 in
theorem Is_cv {node : Hs → Hs → Hs} {z : Hs} {lf : List UInt8 → Hs} {sm : Tx → Tx} (hC : ClashH node z lf sm) (v u : Value) (x y : Tx) (w : World) (hT : Tables w) (ha : RdV w [] v x) (hb : RdV w [] u y) (hx : x.length ≤ 1000000) (hy : y.length ≤ 1000000) : Cv 16 #[v, u] w (.eq (.bool (isB sm x y))) := by
  unfold Cv
  obtain ⟨dx, hdx⟩ := hid_ex (shaL Kc Fc x)
  obtain ⟨dy, hdy⟩ := hid_ex (shaL Kc Fc y)
  have Hdx := hdx
  have Hdy := hdy
  have HdxN := Lib.hid hx
  have HdyN := Lib.hid hy
  have HE : Hid (eqH dx dy = decide (sm x = sm y)) := Lib.hid (by
    rw [← hC.sum x, ← hC.sum y, hdx.out, hdy.out]
    by_cases e : eqH dx dy = true
    · rw [e, decide_eq_true ((eqH_dig _ _).1 e)]
    · rw [decide_eq_false (fun e' => e ((eqH_dig _ _).2 e'))]
      exact Bool.eq_false_iff.2 e)
  clear hdx hdy
  have HT := Lib.hid hT
  have HA := Lib.hid ha
  have HB := Lib.hid hb
  clear hT ha hb hx hy
  go_enter Tryd.func16, Tryd.ntmps16
  go_upto_region 1 with fail
  obtain ⟨q1_1, Q1_1⟩ : ∃ bq_, ((!(decide (x = y))) && (eqH (dx) (dy))) = bq_ := ⟨_, rfl⟩
  refine wp_region_steps0 NewT [SV.eq (v), SV.eq (u), SV.eq (.bool (decide (x = y))), SV.eq (.bool (!(decide (x = y)))), SV.eq (.bool (!(decide (x = y)))), svIf (!(decide (x = y))) (svRd (x)), svIf (!(decide (x = y))) (svParts [x]), svIf (!(decide (x = y))) (SV.eq (.agg (rowA 32 (bF (dx))))), svIf (!(decide (x = y))) (svRd (y)), svIf (!(decide (x = y))) (svParts [y]), svIf (!(decide (x = y))) (SV.eq (.agg (rowA 32 (bF (dy))))), svIf (!(decide (x = y))) (SV.eq (.bool (eqH (dx) (dy)))), SV.eq (.bool (q1_1)), SV.eq (.bool (q1_1))] [([(0, none)], none), ([(1, none)], none), ([(5, some 0), (6, some 1)], none), ([(7, some 2)], none), ([(8, some 3)], none), ([(0, none), (9, some 4)], some (9, true)), ([(10, some 5), (9, some 4)], some (9, true)), ([(11, some 6), (9, some 4)], some (9, true)), ([(1, none), (9, some 4)], some (9, true)), ([(13, some 8), (9, some 4)], some (9, true)), ([(14, some 9), (9, some 4)], some (9, true)), ([(12, some 7), (15, some 10), (9, some 4)], some (9, true)), ([(9, some 4), (16, some 11)], none), ([(17, some 12)], none)] 18 14 rfl rfl (by kernel_rfl) NewT.trans (NewT.refl _) (Nat.le_of_ble_eq_true rfl) ⟨?_, ?_, ?_, ?_, ?_, ?_, ?_, ?_, ?_, ?_, ?_, ?_, ?_, ?_, trivial⟩ ?_
  · intro a wx hT hF K hK
    obtain ⟨f0, _⟩ := hF
    have f0 : a.tmps.getD 0 undef = v := f0
    refine rely_wp rfl ?_
    exact opr_move (.inl rfl) (hK _ _ (NewT.refl _) f0)
  · intro a wx hT hF K hK
    obtain ⟨f1, _⟩ := hF
    have f1 : a.tmps.getD 1 undef = u := f1
    refine rely_wp rfl ?_
    exact opr_move (.inl rfl) (hK _ _ (NewT.refl _) f1)
  · intro a wx hT hF K hK
    obtain ⟨f5, f6, _⟩ := hF
    have f5 : a.tmps.getD 5 undef = v := f5
    have f6 : a.tmps.getD 6 undef = u := f6
    refine rely_wp rfl ?_
    exact opr_cv (BEqualK _ _ x y wx (hT.rd HA.out) (hT.rd HB.out)) rfl Tryd.func33 (by kernel_rfl) (by kernel_rfl) (by simp only [List.map_toArray, List.map_cons, List.map_nil, eval_tmp, f5, f6]) hK
  · intro a wx hT hF K hK
    obtain ⟨f7, _⟩ := hF
    have f7 : a.tmps.getD 7 undef = .bool (decide (x = y)) := f7
    refine rely_wp rfl ?_
    exact opr_not rfl f7 (hK _ _ (NewT.refl _) rfl)
  · intro a wx hT hF K hK
    obtain ⟨f8, _⟩ := hF
    have f8 : a.tmps.getD 8 undef = .bool (!(decide (x = y))) := f8
    refine rely_wp rfl ?_
    exact opr_move (.inl rfl) (hK _ _ (NewT.refl _) f8)
  · intro a wx hT hF K hK
    obtain ⟨f0, f9, _⟩ := hF
    have f0 : a.tmps.getD 0 undef = v := f0
    have f9 : a.tmps.getD 9 undef = .bool (!(decide (x = y))) := f9
    refine rely_if (rely_gt f9) (NewT.refl _) hK (fun hE hK => ?_)
    exact opr_move (.inl rfl) (hK _ _ (NewT.refl _) (by rw [eval_tmp, f0]; exact hT.rd HA.out))
  · intro a wx hT hF K hK
    obtain ⟨f10, f9, _⟩ := hF
    replace f10 := show (!(decide (x = y))) = true → (svRd (x)).pred (a.tmps.getD 10 undef) wx from f10
    have f9 : a.tmps.getD 9 undef = .bool (!(decide (x = y))) := f9
    refine rely_if (rely_gt f9) (NewT.refl _) hK (fun hE hK => ?_)
    exact opr_bs1 rfl (f10 hE) hK
  · intro a wx hT hF K hK
    obtain ⟨f11, f9, _⟩ := hF
    replace f11 := show (!(decide (x = y))) = true → (svParts [x]).pred (a.tmps.getD 11 undef) wx from f11
    have f9 : a.tmps.getD 9 undef = .bool (!(decide (x = y))) := f9
    refine rely_if (rely_gt f9) (NewT.refl _) hK (fun hE hK => ?_)
    exact opr_cv (Sum_cv _ [x] dx wx (hT.tables HT.out) (f11 hE) (by rw [flat1]; have := HdxN.out; omega) (by rw [flat1]; exact Hdx.out)) rfl Tryd.func34 (by kernel_rfl) (by kernel_rfl) (by simp only [List.map_toArray, List.map_cons, List.map_nil, eval_tmp]) hK
  · intro a wx hT hF K hK
    obtain ⟨f1, f9, _⟩ := hF
    have f1 : a.tmps.getD 1 undef = u := f1
    have f9 : a.tmps.getD 9 undef = .bool (!(decide (x = y))) := f9
    refine rely_if (rely_gt f9) (NewT.refl _) hK (fun hE hK => ?_)
    exact opr_move (.inl rfl) (hK _ _ (NewT.refl _) (by rw [eval_tmp, f1]; exact hT.rd HB.out))
  · intro a wx hT hF K hK
    obtain ⟨f13, f9, _⟩ := hF
    replace f13 := show (!(decide (x = y))) = true → (svRd (y)).pred (a.tmps.getD 13 undef) wx from f13
    have f9 : a.tmps.getD 9 undef = .bool (!(decide (x = y))) := f9
    refine rely_if (rely_gt f9) (NewT.refl _) hK (fun hE hK => ?_)
    exact opr_bs1 rfl (f13 hE) hK
  · intro a wx hT hF K hK
    obtain ⟨f14, f9, _⟩ := hF
    replace f14 := show (!(decide (x = y))) = true → (svParts [y]).pred (a.tmps.getD 14 undef) wx from f14
    have f9 : a.tmps.getD 9 undef = .bool (!(decide (x = y))) := f9
    refine rely_if (rely_gt f9) (NewT.refl _) hK (fun hE hK => ?_)
    exact opr_cv (Sum_cv _ [y] dy wx (hT.tables HT.out) (f14 hE) (by rw [flat1]; have := HdyN.out; omega) (by rw [flat1]; exact Hdy.out)) rfl Tryd.func34 (by kernel_rfl) (by kernel_rfl) (by simp only [List.map_toArray, List.map_cons, List.map_nil, eval_tmp]) hK
  · intro a wx hT hF K hK
    obtain ⟨f12, f15, f9, _⟩ := hF
    have f12 : (!(decide (x = y))) = true → a.tmps.getD 12 undef = .agg (rowA 32 (bF (dx))) := f12
    have f15 : (!(decide (x = y))) = true → a.tmps.getD 15 undef = .agg (rowA 32 (bF (dy))) := f15
    have f9 : a.tmps.getD 9 undef = .bool (!(decide (x = y))) := f9
    refine rely_if (rely_gt f9) (NewT.refl _) hK (fun hE hK => ?_)
    exact opr_eql_hash (b := eqH (dx) (dy)) rfl (f12 hE) (f15 hE) (rfl) (hK _ _ (NewT.refl _) rfl)
  · intro a wx hT hF K hK
    obtain ⟨f9, f16, _⟩ := hF
    have f9 : a.tmps.getD 9 undef = .bool (!(decide (x = y))) := f9
    have f16 : (!(decide (x = y))) = true → a.tmps.getD 16 undef = .bool (eqH (dx) (dy)) := f16
    refine rely_wp rfl ?_
    exact opr_pick_b rfl f9 (fun hb => hK _ _ (NewT.refl _) (pn_and1 Q1_1 (f16 hb) hb)) (fun hb => hK _ _ (NewT.refl _) (pn_and0 Q1_1 hb))
  · intro a wx hT hF K hK
    obtain ⟨f17, _⟩ := hF
    have f17 : a.tmps.getD 17 undef = .bool (q1_1) := f17
    refine rely_wp rfl ?_
    exact opr_move (.inr rfl) (hK _ _ (NewT.refl _) f17)
  · intro wa ka
    intro u h; obtain rfl := Eq.symm (h (by simp)); clear h
    intro u h; obtain rfl := Eq.symm (h (by simp)); clear h
    intro u h; obtain rfl := Eq.symm (h (by simp)); clear h
    intro u h; obtain rfl := Eq.symm (h (by simp)); clear h
    intro u h; obtain rfl := Eq.symm (h (by simp)); clear h
    intro _ _
    intro _ _
    intro _ _
    intro _ _
    intro _ _
    intro _ _
    intro _ _
    intro u h; obtain rfl := Eq.symm (h (by simp)); clear h
    intro u h; obtain rfl := Eq.symm (h (by simp)); clear h
    subst Q1_1
    refine relyEnd_nil rfl ?_
    refine wpList_end rfl ?_
    simp only [Act.put, List.setIfInBounds_toArray, List.set_cons_zero, List.set_cons_succ]
    go_simp
    go_wp2
    go_ret
    exact ⟨_, rfl, ka, by unfold isB; rw [← HE.out]; rfl⟩
end Go.Proofs.YtlnedphnphabkaaDoor
/- How much a list of leaves is, as layer 7's laws count. -/
namespace Go.Proofs.YtlnedphnphabkaaDoor
open Go Go.RowKit
set_option maxRecDepth 8000
set_option linter.all false
def gsum (ls : List Tx) : Nat := (ls.map fun l => 1 + l.length / 50).sum
def greatB (ls : List Tx) : Bool := decide (40 < gsum ls)
theorem gsum_app (x y : List Tx) : gsum (x ++ y) = gsum x + gsum y := by unfold gsum; rw [List.map_append, List.sum_append]
theorem gsum_take (ls : List Tx) (k : Nat) : gsum (ls.take k) ≤ gsum ls := by
  have h := congrArg gsum (List.take_append_drop k ls)
  rw [gsum_app] at h
  omega
theorem gsum_next {ls : List Tx} {k : Nat} {x : Tx} (h : ls[k]? = some x) : gsum (ls.take (k + 1)) = gsum (ls.take k) + (1 + x.length / 50) := by
  rw [List.take_add_one, h, gsum_app]; simp [gsum]
theorem gsum_fine (ls : List Tx) : ls.length ≤ gsum ls ∧ ∀ t ∈ ls, 1 + t.length / 50 ≤ gsum ls := by
  induction ls with
  | nil => exact ⟨Nat.zero_le _, fun t h => by cases h⟩
  | cons x ls ih =>
    have e : gsum (x :: ls) = (1 + x.length / 50) + gsum ls := by unfold gsum; rw [List.map_cons, List.sum_cons]
    refine ⟨by rw [e, List.length_cons]; omega, fun t h => ?_⟩
    rcases List.mem_cons.1 h with rfl | h
    · omega
    · have := ih.2 t h; omega
theorem great_fine {ls : List Tx} (h : greatB ls = false) : ls.length ≤ 40 ∧ ∀ t ∈ ls, t.length ≤ 2000 := by
  have h' := of_decide_eq_false h
  obtain ⟨h1, h2⟩ := gsum_fine ls
  exact ⟨by omega, fun t ht => by have := h2 t ht; omega⟩
theorem great_Fine {ls : List Tx} (h : greatB ls = false) : Fine ls := ⟨by have := (great_fine h).1; omega, fun t ht => by have := (great_fine h).2 t ht; omega⟩
theorem rd_max {w : World} {L : List Nat} {v : Value} {l : List UInt8} (h : RdV w L v l) : l.length ≤ maxLen := by obtain ⟨_, _, _, h1, h2, _⟩ := h; omega
theorem opr_quo50 {a : Act} {w : World} {o : Oper} {K : Act → World → Prop} {Q : Exit → Act → World → Prop} {x : Operand} {t t2 : TypeId} {m : Nat} (ht : Tryd.prog.underlying t = some (.int .i64)) (hm : m ≤ 9223372036854775807) (ho : o.op = .binOp .quo t x (.const (.int .i64 50)) t2) (hx : a.eval x = .int .i64 (m : Int)) (h : K (a.put o.dst (.int .i64 ((m / 50 : Nat) : Int))) w) : o.wp Tryd.prog a w K Q := by
  obtain ⟨dst, op', type, pos, after, guard⟩ := o
  simp only at ho
  subst ho
  refine opr_val (s := do eqGuard .quo t x (.const (.int .i64 50)) (a.eval x) (.int .i64 50); binOp .quo t (a.eval x) (.int .i64 50)) rfl ?_ h
  rw [hx]
  have e : (m : Int).tdiv 50 = ((m / 50 : Nat) : Int) := by rw [Int.tdiv_eq_ediv_of_nonneg (by omega)]; omega
  have e2 : IntKind.i64.wrap ((m / 50 : Nat) : Int) = ((m / 50 : Nat) : Int) := by rw [IntKind.wrap_i64]; omega
  simp [go_sem, e]
  rw [IntKind.wrap_i64]; omega
set_option maxHeartbeats 1000000 in
theorem great_cv (v : Value) (ls : List Tx) (w : World) (hp : Parts w v ls) : Cv 10 #[v] w (.eq (.bool (greatB ls))) := by
  unfold Cv
  have HA0 := Lib.hid hp
  obtain ⟨A, c, e, _⟩ := parts_form hp
  have pm := parts_max hp
  unfold maxLen at pm
  subst e
  clear hp
  go_enter Tryd.func10, Tryd.ntmps10
  go_wp2
  go_loopw [3, 4] (fun s i wr => ∃ k m : Nat, k ≤ ls.length ∧ s = .int .i64 (m : Int) ∧ i = .int .i64 (k : Int) ∧ Hid (gsum (ls.take k) = m) ∧ m ≤ 40 ∧ NewT w wr) (fun _ i _ => ls.length - (intOf i).toNat)
  case atStart => exact ⟨0, 0, by omega, rfl, rfl, Lib.hid (by simp [gsum]), by omega, NewT.refl _⟩
  case round =>
    obtain ⟨k, m, hk, rfl, rfl, HM, hm, hN⟩ := hrel
    have HN := Lib.hid hN
    have HA := Lib.hid (hN.partsL HA0.out)
    clear hN
    by_cases hlt : k < ls.length
    · have it : (k : Int) < (ls.length : Int) := by omega
      obtain ⟨x, hx⟩ : ∃ d, ls[k]? = some d := ⟨_, List.getElem?_eq_getElem (by omega)⟩
      have HX := Lib.hid hx
      have hxl : x.length ≤ maxLen := by
        obtain ⟨_, _, _, u, _, _, hu⟩ := parts_at HA0.out hx
        exact rd_max hu
      unfold maxLen at hxl
      have HXL := Lib.hid hxl
      have HG : Hid (gsum (ls.take (k + 1)) = m + 1 + x.length / 50) := Lib.hid (by rw [gsum_next hx, HM.out]; omega)
      clear hx hxl
      go_upto_region 5 with fail
      obtain ⟨va, ea⟩ : ∃ v, Value.slice A ls.length c = v := ⟨_, rfl⟩
      rw [ea] at HA ⊢
      refine wp_region_steps0 NewT [SV.eq (.int .i64 ((m : Int))), SV.eq (.int .i64 (((m + 1 : Nat) : Int))), SV.eq (va), SV.eq (.int .i64 ((k : Int))), svPT (x), svRd (x), SV.eq (.int .i64 ((List.length (x) : Int))), SV.eq (.int .i64 (((x.length / 50 : Nat) : Int))), SV.eq (.int .i64 (((m + 1 + x.length / 50 : Nat) : Int))), SV.eq (.int .i64 (((m + 1 + x.length / 50 : Nat) : Int)))] [([(3, none)], none), ([(11, some 0)], none), ([(0, none)], none), ([(4, none)], none), ([(13, some 2), (14, some 3)], none), ([(15, some 4)], none), ([(16, some 5)], none), ([(17, some 6)], none), ([(12, some 1), (18, some 7)], none), ([(19, some 8)], none)] 22 10 rfl rfl (by kernel_rfl) NewT.trans (NewT.refl _) (Nat.le_of_ble_eq_true rfl) ⟨?_, ?_, ?_, ?_, ?_, ?_, ?_, ?_, ?_, ?_, trivial⟩ ?_
      · intro a wx hT hF K hK
        obtain ⟨f3, _⟩ := hF
        have f3 : a.tmps.getD 3 undef = .int .i64 ((m : Int)) := f3
        refine rely_wp rfl ?_
        exact opr_move (.inl rfl) (hK _ _ (NewT.refl _) f3)
      · intro a wx hT hF K hK
        obtain ⟨f11, _⟩ := hF
        have f11 : a.tmps.getD 11 undef = .int .i64 ((m : Int)) := f11
        refine rely_wp rfl ?_
        exact opr_add (r := ((m + 1 : Nat) : Int)) Tryd.underlying3 (by unfold wrap64; omega) rfl f11 rfl (hK _ _ (NewT.refl _) rfl)
      · intro a wx hT hF K hK
        obtain ⟨f0, _⟩ := hF
        have f0 : a.tmps.getD 0 undef = va := f0
        refine rely_wp rfl ?_
        exact opr_move (.inl rfl) (hK _ _ (NewT.refl _) f0)
      · intro a wx hT hF K hK
        obtain ⟨f4, _⟩ := hF
        have f4 : a.tmps.getD 4 undef = .int .i64 ((k : Int)) := f4
        refine rely_wp rfl ?_
        exact opr_move (.inl rfl) (hK _ _ (NewT.refl _) f4)
      · intro a wx hT hF K hK
        obtain ⟨f13, f14, _⟩ := hF
        have f13 : a.tmps.getD 13 undef = va := f13
        have f14 : a.tmps.getD 14 undef = .int .i64 ((k : Int)) := f14
        refine rely_wp rfl ?_
        exact opr_idxT (i := k) (l := x) (HX.out) (rfl) rfl (by rw [eval_tmp, f13]; exact (hT.partsL HA.out)) f14 (fun v hv => hK v _ (NewT.refl _) hv)
      · intro a wx hT hF K hK
        obtain ⟨f15, _⟩ := hF
        replace f15 := show (svPT (x)).pred (a.tmps.getD 15 undef) wx from f15
        refine rely_wp rfl ?_
        exact opr_ldT rfl f15 (fun u hu => hK u _ (NewT.refl _) hu)
      · intro a wx hT hF K hK
        obtain ⟨f16, _⟩ := hF
        replace f16 := show (svRd (x)).pred (a.tmps.getD 16 undef) wx from f16
        refine rely_wp rfl ?_
        exact opr_len_rd rfl f16 (hK _ _ (NewT.refl _) rfl)
      · intro a wx hT hF K hK
        obtain ⟨f17, _⟩ := hF
        have f17 : a.tmps.getD 17 undef = .int .i64 ((List.length (x) : Int)) := f17
        refine rely_wp rfl ?_
        exact opr_quo50 Tryd.underlying3 (by have := HXL.out; omega) rfl f17 (hK _ _ (NewT.refl _) rfl)
      · intro a wx hT hF K hK
        obtain ⟨f12, f18, _⟩ := hF
        have f12 : a.tmps.getD 12 undef = .int .i64 (((m + 1 : Nat) : Int)) := f12
        have f18 : a.tmps.getD 18 undef = .int .i64 (((x.length / 50 : Nat) : Int)) := f18
        refine rely_wp rfl ?_
        exact opr_add (r := ((m + 1 + x.length / 50 : Nat) : Int)) Tryd.underlying3 (by have := HXL.out; unfold wrap64; omega) rfl f12 f18 (hK _ _ (NewT.refl _) rfl)
      · intro a wx hT hF K hK
        obtain ⟨f19, _⟩ := hF
        have f19 : a.tmps.getD 19 undef = .int .i64 (((m + 1 + x.length / 50 : Nat) : Int)) := f19
        refine rely_wp rfl ?_
        exact opr_move (.inr rfl) (hK _ _ (NewT.refl _) f19)
      · intro wb kb
        intro u h; obtain rfl := Eq.symm (h (by simp)); clear h
        intro u h; obtain rfl := Eq.symm (h (by simp)); clear h
        intro u h; obtain rfl := Eq.symm (h (by simp)); clear h
        intro u h; obtain rfl := Eq.symm (h (by simp)); clear h
        intro _ _
        intro _ _
        intro u h; obtain rfl := Eq.symm (h (by simp)); clear h
        intro u h; obtain rfl := Eq.symm (h (by simp)); clear h
        intro u h; obtain rfl := Eq.symm (h (by simp)); clear h
        intro u h; obtain rfl := Eq.symm (h (by simp)); clear h
        refine relyEnd_nil rfl ?_
        refine wpList_end rfl ?_
        simp only [Act.put, List.setIfInBounds_toArray, List.set_cons_zero, List.set_cons_succ]
        go_simp
        replace HN := Lib.hid (NewT.trans _ _ _ HN.out kb)
        clear kb HA
        subst ea
        obtain ⟨s, hs1, hs⟩ : ∃ s : Nat, (m : Int) + 1 + (x.length : Int) / 50 = (s : Int) ∧ m + 1 + x.length / 50 = s := ⟨m + 1 + x.length / 50, by omega, rfl⟩
        rw [hs] at HG
        rw [hs1]
        clear hs1
        have hsl : s ≤ 200000000000000000 := by have h1 := HXL.out; omega
        clear hs
        by_cases hgt : 40 < s
        · have ht : (40 : Int) < (s : Int) := by omega
          go_wp2
          go_ret
          exact ⟨_, rfl, HN.out, by rw [show greatB ls = true from decide_eq_true (by have := gsum_take ls (k + 1); have := HG.out; omega)]; rfl⟩
        · have ht : ¬ (40 : Int) < (s : Int) := by omega
          go_wp2
          go_roundw
          case rel => exact ⟨_, _, _, ⟨k + 1, by omega, s, rfl, rfl, HG, by omega, HN.out⟩, rfl, rfl, by simp⟩
          case measure => simp [intOf]; omega
    · obtain rfl : k = ls.length := by omega
      go_wp2
      go_ret
      exact ⟨_, rfl, HN.out, by rw [show greatB ls = false from decide_eq_false (by have := HM.out; rw [List.take_length] at this; omega)]; rfl⟩
end Go.Proofs.YtlnedphnphabkaaDoor
/- A way in the part that the leaf is in: clash.way's below. -/
namespace Go.Proofs.YtlnedphnphabkaaDoor
open Go Go.RowKit
set_option maxRecDepth 8000
set_option linter.all false
set_option maxHeartbeats 2000000 in
theorem Below_l (W w : World) (hNW : NewT W w) (u p : Value) (l : List UInt8) (d : Hs) (i n m k : Nat) (path : List Hs) (hu : RdV W [] u l) (hp : RdH W p path) (h2 : 2 ≤ n) (hn : n ≤ 1048576) (hi : i < n) (hm : path.length = m + 1) (hml : m ≤ 1000) (hk : k = splitN n) (hik : i < k) : Cv 59 #[.agg (rowA 36 (wyF u d (i : Int) (n : Int) p))] w (svWy W l d (i : Int) (k : Int) (List.take m path)) := by
  unfold Cv
  have HS : Hid (∀ w, Cv 43 #[.int .i64 (n : Int)] w (.eq (.int .i64 (k : Int)))) := Lib.hid (fun w => by rw [hk]; exact Split_cv (n : Int) (by omega) (by omega) w)
  have HLP := Lib.hid hm
  have HU := Lib.hid hu
  have HP := Lib.hid hp
  have HT3 : Hid (decide ((i : Int) < (k : Int)) = true) := Lib.hid (decide_eq_true (by omega))
  have hkn : k < n := by rw [hk]; exact (splitN_lt n h2).1
  clear hu hp hm hk h2
  go_enter Tryd.func59, Tryd.ntmps59
  go_upto_region 1 with fail
  have r1 := (rowIs_box w 54 36 (wyF u d (i : Int) (n : Int) p)).alloc (.cells (rowA 36 (wyF (.slice none 0 0) (fun _ => 0) 0 0 (.slice none 0 0))) 54)
  have r2 := rowIs_box (w.alloc (.cells (rowA 36 (wyF u d (i : Int) (n : Int) p)) 54)) 54 36 (wyF (.slice none 0 0) (fun _ => 0) 0 0 (.slice none 0 0))
  rw [World.size_alloc] at r2
  have hN : NewT w ((w.alloc (.cells (rowA 36 (wyF u d (i : Int) (n : Int) p)) 54)).alloc (.cells (rowA 36 (wyF (.slice none 0 0) (fun _ => 0) 0 0 (.slice none 0 0))) 54)) := (NewT.trans _ _ _ (NewT.alloc _ _) (NewT.alloc _ _))
  change Code.wp _ _ _ _ ((w.alloc (.cells (rowA 36 (wyF u d (i : Int) (n : Int) p)) 54)).alloc (.cells (rowA 36 (wyF (.slice none 0 0) (fun _ => 0) 0 0 (.slice none 0 0))) 54))
  generalize ((w.alloc (.cells (rowA 36 (wyF u d (i : Int) (n : Int) p)) 54)).alloc (.cells (rowA 36 (wyF (.slice none 0 0) (fun _ => 0) 0 0 (.slice none 0 0))) 54)) = W0 at r1 r2 hN ⊢
  have R1 := Lib.hid r1
  have R2 := Lib.hid r2
  have HN0 := Lib.hid hN
  have HN := Lib.hid (NewT.trans _ _ _ hNW hN)
  clear r1 r2 hN
  refine wp_region_steps0 NewT [SV.eq (.pointer (some ⟨w.heap.size, 34, none⟩)), SV.eq (.int .i64 ((n : Int))), SV.eq (.int .i64 ((k : Int))), SV.eq (.int .i64 ((k : Int)))] [([(1, none)], none), ([(4, some 0)], none), ([(5, some 1)], none), ([(6, some 2)], none)] 32 4 rfl rfl (by kernel_rfl) NewT.trans (NewT.refl _) (Nat.le_of_ble_eq_true rfl) ⟨?_, ?_, ?_, ?_, trivial⟩ ?_
  · intro a wx hT hF K hK
    obtain ⟨f1, _⟩ := hF
    have f1 : a.tmps.getD 1 undef = .pointer (some ⟨w.heap.size, 0, none⟩) := f1
    refine rely_wp rfl ?_
    exact opr_fldW3 rfl f1 (hK _ _ (NewT.refl _) rfl)
  · intro a wx hT hF K hK
    obtain ⟨f4, _⟩ := hF
    have f4 : a.tmps.getD 4 undef = .pointer (some ⟨w.heap.size, 34, none⟩) := f4
    refine rely_wp rfl ?_
    exact opr_ldI (hT.row R1.out) (by decide) rfl rfl f4 (hK _ _ (NewT.refl _) rfl)
  · intro a wx hT hF K hK
    obtain ⟨f5, _⟩ := hF
    have f5 : a.tmps.getD 5 undef = .int .i64 ((n : Int)) := f5
    refine rely_wp rfl ?_
    exact opr_cv (HS.out wx) rfl Tryd.func43 (by kernel_rfl) (by kernel_rfl) (by simp only [List.map_toArray, List.map_cons, List.map_nil, eval_tmp, f5]) hK
  · intro a wx hT hF K hK
    obtain ⟨f6, _⟩ := hF
    have f6 : a.tmps.getD 6 undef = .int .i64 ((k : Int)) := f6
    refine rely_wp rfl ?_
    exact opr_move (.inr rfl) (hK _ _ (NewT.refl _) f6)
  · intro wa ka
    intro u h; obtain rfl := Eq.symm (h (by simp)); clear h
    intro u h; obtain rfl := Eq.symm (h (by simp)); clear h
    intro u h; obtain rfl := Eq.symm (h (by simp)); clear h
    intro u h; obtain rfl := Eq.symm (h (by simp)); clear h
    refine relyEnd_nil rfl ?_
    refine wpList_end rfl ?_
    simp only [Act.put, List.setIfInBounds_toArray, List.set_cons_zero, List.set_cons_succ]
    go_simp
    replace R1 := Lib.hid (ka.row R1.out)
    replace R2 := Lib.hid (ka.row R2.out)
    replace HN := Lib.hid (NewT.trans _ _ _ HN.out ka)
    replace HN0 := Lib.hid (NewT.trans _ _ _ HN0.out ka)
    clear ka
    go_upto_region 2 with fail
    refine wp_region_steps0 NewT [SV.eq (.pointer (some ⟨w.heap.size, 35, none⟩)), SV.eq (p), SV.eq (.pointer (some ⟨w.heap.size, 35, none⟩)), SV.eq (p), SV.eq (.int .i64 ((List.length (path) : Int))), SV.eq (.int .i64 ((m : Int))), svHs W (List.take m path), SV.eq (.pointer (some ⟨w.heap.size, 35, none⟩))] [([(1, none)], none), ([(7, some 0)], none), ([(1, none)], none), ([(9, some 2)], none), ([(10, some 3)], none), ([(11, some 4)], none), ([(8, some 1), (12, some 5)], none), ([(1, none)], none)] 32 8 rfl rfl (by kernel_rfl) NewT.trans (NewT.refl _) (Nat.le_of_ble_eq_true rfl) ⟨?_, ?_, ?_, ?_, ?_, ?_, ?_, ?_, trivial⟩ ?_
    · intro a wx hT hF K hK
      obtain ⟨f1, _⟩ := hF
      have f1 : a.tmps.getD 1 undef = .pointer (some ⟨w.heap.size, 0, none⟩) := f1
      refine rely_wp rfl ?_
      exact opr_fldW4 rfl f1 (hK _ _ (NewT.refl _) rfl)
    · intro a wx hT hF K hK
      obtain ⟨f7, _⟩ := hF
      have f7 : a.tmps.getD 7 undef = .pointer (some ⟨w.heap.size, 35, none⟩) := f7
      refine rely_wp rfl ?_
      exact opr_ldHs (hT.row R1.out) (by decide) rfl rfl f7 (hK _ _ (NewT.refl _) rfl)
    · intro a wx hT hF K hK
      obtain ⟨f1, _⟩ := hF
      have f1 : a.tmps.getD 1 undef = .pointer (some ⟨w.heap.size, 0, none⟩) := f1
      refine rely_wp rfl ?_
      exact opr_fldW4 rfl f1 (hK _ _ (NewT.refl _) rfl)
    · intro a wx hT hF K hK
      obtain ⟨f9, _⟩ := hF
      have f9 : a.tmps.getD 9 undef = .pointer (some ⟨w.heap.size, 35, none⟩) := f9
      refine rely_wp rfl ?_
      exact opr_ldHs (hT.row R1.out) (by decide) rfl rfl f9 (hK _ _ (NewT.refl _) rfl)
    · intro a wx hT hF K hK
      obtain ⟨f10, _⟩ := hF
      have f10 : a.tmps.getD 10 undef = p := f10
      refine rely_wp rfl ?_
      exact opr_len_h rfl (by rw [eval_tmp, f10]; exact ((NewT.trans _ _ _ HN.out hT).hs HP.out)) (hK _ _ (NewT.refl _) rfl)
    · intro a wx hT hF K hK
      obtain ⟨f11, _⟩ := hF
      have f11 : a.tmps.getD 11 undef = .int .i64 ((List.length (path) : Int)) := f11
      refine rely_wp rfl ?_
      exact opr_sub (r := (m : Int)) Tryd.underlying3 (by rw [HLP.out]; unfold wrap64; omega) rfl f11 rfl (hK _ _ (NewT.refl _) rfl)
    · intro a wx hT hF K hK
      obtain ⟨f8, f12, _⟩ := hF
      have f8 : a.tmps.getD 8 undef = p := f8
      have f12 : a.tmps.getD 12 undef = .int .i64 ((m : Int)) := f12
      refine rely_wp rfl ?_
      exact opr_toH0 (k := m) (by rw [HLP.out]; omega) rfl rfl (by rw [eval_tmp, f8]; exact HP.out) f12 (fun v hv => hK v _ (NewT.refl _) hv)
    · intro a wx hT hF K hK
      obtain ⟨f1, _⟩ := hF
      have f1 : a.tmps.getD 1 undef = .pointer (some ⟨w.heap.size, 0, none⟩) := f1
      refine rely_wp rfl ?_
      exact opr_fldW4 rfl f1 (hK _ _ (NewT.refl _) rfl)
    · intro wb kb
      intro u h; obtain rfl := Eq.symm (h (by simp)); clear h
      intro u h; obtain rfl := Eq.symm (h (by simp)); clear h
      intro u h; obtain rfl := Eq.symm (h (by simp)); clear h
      intro u h; obtain rfl := Eq.symm (h (by simp)); clear h
      intro u h; obtain rfl := Eq.symm (h (by simp)); clear h
      intro u h; obtain rfl := Eq.symm (h (by simp)); clear h
      intro u13 h; have g13 := h (by simp); clear h; replace g13 := show (svHs W (List.take m path)).pred u13 wb from g13
      intro u h; obtain rfl := Eq.symm (h (by simp)); clear h
      refine relyEnd_nil rfl ?_
      simp only [Act.put, List.setIfInBounds_toArray, List.set_cons_zero, List.set_cons_succ]
      refine wpList_plain rfl (fun K hK => ?_)
      refine opr_put1 (F := wyF u d (i : Int) (n : Int) u13) rfl rfl rfl (kb.row R1.out) (by decide) info_hs (sl_one (rdH_sl g13)) (fun j hj => wyF_set35 _ _ _ _ p _ j hj) ?_
      intro w9 hR9 r9
      refine hK _ _ ?_
      refine wpList_end rfl ?_
      simp only [Act.put, List.setIfInBounds_toArray, List.set_cons_zero, List.set_cons_succ]
      go_simp
      have HP1 : Hid (RdH W u13 (List.take m path)) := Lib.hid g13
      replace R1 := Lib.hid r9
      replace R2 := Lib.hid (hR9.row (by omega) (kb.row R2.out))
      replace HN0 := Lib.hid (NewT.rt (NewT.trans _ _ _ HN0.out kb) hR9 (Nat.le_refl _))
      replace HN := Lib.hid (NewT.trans _ _ _ hNW HN0.out)
      clear r9 hR9 kb g13 HP
      go_upto_region 3 with fail
      refine wp_region_steps0 NewT [SV.eq (.pointer (some ⟨w.heap.size, 33, none⟩)), SV.eq (.int .i64 ((i : Int))), SV.eq (.int .i64 ((k : Int))), SV.eq (.bool true)] [([(1, none)], none), ([(15, some 0)], none), ([(3, none)], none), ([(16, some 1), (17, some 2)], none)] 32 4 rfl rfl (by kernel_rfl) NewT.trans (NewT.refl _) (Nat.le_of_ble_eq_true rfl) ⟨?_, ?_, ?_, ?_, trivial⟩ ?_
      · intro a wx hT hF K hK
        obtain ⟨f1, _⟩ := hF
        have f1 : a.tmps.getD 1 undef = .pointer (some ⟨w.heap.size, 0, none⟩) := f1
        refine rely_wp rfl ?_
        exact opr_fldW2 rfl f1 (hK _ _ (NewT.refl _) rfl)
      · intro a wx hT hF K hK
        obtain ⟨f15, _⟩ := hF
        have f15 : a.tmps.getD 15 undef = .pointer (some ⟨w.heap.size, 33, none⟩) := f15
        refine rely_wp rfl ?_
        exact opr_ldI (hT.row R1.out) (by decide) rfl rfl f15 (hK _ _ (NewT.refl _) rfl)
      · intro a wx hT hF K hK
        obtain ⟨f3, _⟩ := hF
        have f3 : a.tmps.getD 3 undef = .int .i64 ((k : Int)) := f3
        refine rely_wp rfl ?_
        exact opr_move (.inl rfl) (hK _ _ (NewT.refl _) f3)
      · intro a wx hT hF K hK
        obtain ⟨f16, f17, _⟩ := hF
        have f16 : a.tmps.getD 16 undef = .int .i64 ((i : Int)) := f16
        have f17 : a.tmps.getD 17 undef = .int .i64 ((k : Int)) := f17
        refine rely_wp rfl ?_
        exact opr_cmp (b := true) (.inr (.inr (.inr (.inl ⟨rfl, (by exact HT3.out)⟩)))) Tryd.underlying3 rfl f16 f17 (hK _ _ (NewT.refl _) rfl)
      · intro wc kc
        intro u h; obtain rfl := Eq.symm (h (by simp)); clear h
        intro u h; obtain rfl := Eq.symm (h (by simp)); clear h
        intro u h; obtain rfl := Eq.symm (h (by simp)); clear h
        intro u h; obtain rfl := Eq.symm (h (by simp)); clear h
        refine relyEnd_nil rfl ?_
        refine wpList_end rfl ?_
        simp only [Act.put, List.setIfInBounds_toArray, List.set_cons_zero, List.set_cons_succ]
        go_simp
        replace R1 := Lib.hid (kc.row R1.out)
        replace R2 := Lib.hid (kc.row R2.out)
        replace HN := Lib.hid (NewT.trans _ _ _ HN.out kc)
        replace HN0 := Lib.hid (NewT.trans _ _ _ HN0.out kc)
        clear kc
        go_upto_region 4 with fail
        refine wp_region_steps0 NewT [SV.eq (.int .i64 ((k : Int))), SV.eq (.pointer (some ⟨w.heap.size, 34, none⟩))] [([(3, none)], none), ([(1, none)], none)] 32 2 rfl rfl (by kernel_rfl) NewT.trans (NewT.refl _) (Nat.le_of_ble_eq_true rfl) ⟨?_, ?_, trivial⟩ ?_
        · intro a wx hT hF K hK
          obtain ⟨f3, _⟩ := hF
          have f3 : a.tmps.getD 3 undef = .int .i64 ((k : Int)) := f3
          refine rely_wp rfl ?_
          exact opr_move (.inl rfl) (hK _ _ (NewT.refl _) f3)
        · intro a wx hT hF K hK
          obtain ⟨f1, _⟩ := hF
          have f1 : a.tmps.getD 1 undef = .pointer (some ⟨w.heap.size, 0, none⟩) := f1
          refine rely_wp rfl ?_
          exact opr_fldW3 rfl f1 (hK _ _ (NewT.refl _) rfl)
        · intro wd kd
          intro u h; obtain rfl := Eq.symm (h (by simp)); clear h
          intro u h; obtain rfl := Eq.symm (h (by simp)); clear h
          refine relyEnd_nil rfl ?_
          simp only [Act.put, List.setIfInBounds_toArray, List.set_cons_zero, List.set_cons_succ]
          refine wpList_plain rfl (fun K hK => ?_)
          refine opr_put1 (F := wyF u d (i : Int) (k : Int) u13) rfl rfl rfl (kd.row R1.out) (by decide) info_int1 rfl (fun j hj => wyF_set34 _ _ _ (n : Int) _ _ j hj) ?_
          intro w9 hR9 r9
          refine hK _ _ ?_
          refine wpList_end rfl ?_
          simp only [Act.put, List.setIfInBounds_toArray, List.set_cons_zero, List.set_cons_succ]
          go_simp
          replace R1 := Lib.hid r9
          replace R2 := Lib.hid (hR9.row (by omega) (kd.row R2.out))
          replace HN0 := Lib.hid (NewT.rt (NewT.trans _ _ _ HN0.out kd) hR9 (Nat.le_refl _))
          clear r9 hR9 kd
          go_upto_region 6 with fail
          refine wp_region_steps0 NewT [SV.eq (.agg (rowA 36 (wyF u d (i : Int) (k : Int) u13)))] [([(1, none)], none)] 32 1 rfl rfl (by kernel_rfl) NewT.trans (NewT.refl _) (Nat.le_of_ble_eq_true rfl) ⟨?_, trivial⟩ ?_
          · intro a wx hT hF K hK
            obtain ⟨f1, _⟩ := hF
            have f1 : a.tmps.getD 1 undef = .pointer (some ⟨w.heap.size, 0, none⟩) := f1
            refine rely_wp rfl ?_
            exact opr_ldWy (hT.row R1.out) rfl f1 (hK _ _ (NewT.refl _) rfl)
          · intro we ke
            intro u h; obtain rfl := Eq.symm (h (by simp)); clear h
            refine relyEnd_nil rfl ?_
            simp only [Act.put, List.setIfInBounds_toArray, List.set_cons_zero, List.set_cons_succ]
            refine wpList_plain rfl (fun K hK => ?_)
            refine opr_putm (F := wyF u d (i : Int) (k : Int) u13) rfl rfl rfl (ke.row R2.out) (by decide) infoW (wyF_one (sl_one (rd_sl HU.out)) (sl_one (rdH_sl HP1.out))) (fun j hj => by rw [if_pos (by omega), Nat.sub_zero]) ?_
            intro w9 hR9 r9
            refine hK _ _ ?_
            refine wpList_end rfl ?_
            simp only [Act.put, List.setIfInBounds_toArray, List.set_cons_zero, List.set_cons_succ]
            go_simp
            go_wp2
            exact bodyPost_ret (results_agg rfl _ rfl r9 Tryd.underlying54 rfl infoW) rfl ⟨_, rfl, NewT.rt (NewT.trans _ _ _ HN0.out ke) hR9 (by omega), u, u13, rfl, HU.out, HP1.out⟩
set_option maxHeartbeats 2000000 in
theorem Below_r (W w : World) (hNW : NewT W w) (u p : Value) (l : List UInt8) (d : Hs) (i n m k : Nat) (path : List Hs) (hu : RdV W [] u l) (hp : RdH W p path) (h2 : 2 ≤ n) (hn : n ≤ 1048576) (hi : i < n) (hm : path.length = m + 1) (hml : m ≤ 1000) (hk : k = splitN n) (hik : ¬ i < k) : Cv 59 #[.agg (rowA 36 (wyF u d (i : Int) (n : Int) p))] w (svWy W l d ((i - k : Nat) : Int) ((n - k : Nat) : Int) (List.take m path)) := by
  unfold Cv
  have HS : Hid (∀ w, Cv 43 #[.int .i64 (n : Int)] w (.eq (.int .i64 (k : Int)))) := Lib.hid (fun w => by rw [hk]; exact Split_cv (n : Int) (by omega) (by omega) w)
  have HLP := Lib.hid hm
  have HU := Lib.hid hu
  have HP := Lib.hid hp
  have HT3 : Hid (decide ((i : Int) < (k : Int)) = false) := Lib.hid (decide_eq_false (by omega))
  have hkn : k < n := by rw [hk]; exact (splitN_lt n h2).1
  clear hu hp hm hk h2
  go_enter Tryd.func59, Tryd.ntmps59
  go_upto_region 1 with fail
  have r1 := (rowIs_box w 54 36 (wyF u d (i : Int) (n : Int) p)).alloc (.cells (rowA 36 (wyF (.slice none 0 0) (fun _ => 0) 0 0 (.slice none 0 0))) 54)
  have r2 := rowIs_box (w.alloc (.cells (rowA 36 (wyF u d (i : Int) (n : Int) p)) 54)) 54 36 (wyF (.slice none 0 0) (fun _ => 0) 0 0 (.slice none 0 0))
  rw [World.size_alloc] at r2
  have hN : NewT w ((w.alloc (.cells (rowA 36 (wyF u d (i : Int) (n : Int) p)) 54)).alloc (.cells (rowA 36 (wyF (.slice none 0 0) (fun _ => 0) 0 0 (.slice none 0 0))) 54)) := (NewT.trans _ _ _ (NewT.alloc _ _) (NewT.alloc _ _))
  change Code.wp _ _ _ _ ((w.alloc (.cells (rowA 36 (wyF u d (i : Int) (n : Int) p)) 54)).alloc (.cells (rowA 36 (wyF (.slice none 0 0) (fun _ => 0) 0 0 (.slice none 0 0))) 54))
  generalize ((w.alloc (.cells (rowA 36 (wyF u d (i : Int) (n : Int) p)) 54)).alloc (.cells (rowA 36 (wyF (.slice none 0 0) (fun _ => 0) 0 0 (.slice none 0 0))) 54)) = W0 at r1 r2 hN ⊢
  have R1 := Lib.hid r1
  have R2 := Lib.hid r2
  have HN0 := Lib.hid hN
  have HN := Lib.hid (NewT.trans _ _ _ hNW hN)
  clear r1 r2 hN
  refine wp_region_steps0 NewT [SV.eq (.pointer (some ⟨w.heap.size, 34, none⟩)), SV.eq (.int .i64 ((n : Int))), SV.eq (.int .i64 ((k : Int))), SV.eq (.int .i64 ((k : Int)))] [([(1, none)], none), ([(4, some 0)], none), ([(5, some 1)], none), ([(6, some 2)], none)] 32 4 rfl rfl (by kernel_rfl) NewT.trans (NewT.refl _) (Nat.le_of_ble_eq_true rfl) ⟨?_, ?_, ?_, ?_, trivial⟩ ?_
  · intro a wx hT hF K hK
    obtain ⟨f1, _⟩ := hF
    have f1 : a.tmps.getD 1 undef = .pointer (some ⟨w.heap.size, 0, none⟩) := f1
    refine rely_wp rfl ?_
    exact opr_fldW3 rfl f1 (hK _ _ (NewT.refl _) rfl)
  · intro a wx hT hF K hK
    obtain ⟨f4, _⟩ := hF
    have f4 : a.tmps.getD 4 undef = .pointer (some ⟨w.heap.size, 34, none⟩) := f4
    refine rely_wp rfl ?_
    exact opr_ldI (hT.row R1.out) (by decide) rfl rfl f4 (hK _ _ (NewT.refl _) rfl)
  · intro a wx hT hF K hK
    obtain ⟨f5, _⟩ := hF
    have f5 : a.tmps.getD 5 undef = .int .i64 ((n : Int)) := f5
    refine rely_wp rfl ?_
    exact opr_cv (HS.out wx) rfl Tryd.func43 (by kernel_rfl) (by kernel_rfl) (by simp only [List.map_toArray, List.map_cons, List.map_nil, eval_tmp, f5]) hK
  · intro a wx hT hF K hK
    obtain ⟨f6, _⟩ := hF
    have f6 : a.tmps.getD 6 undef = .int .i64 ((k : Int)) := f6
    refine rely_wp rfl ?_
    exact opr_move (.inr rfl) (hK _ _ (NewT.refl _) f6)
  · intro wa ka
    intro u h; obtain rfl := Eq.symm (h (by simp)); clear h
    intro u h; obtain rfl := Eq.symm (h (by simp)); clear h
    intro u h; obtain rfl := Eq.symm (h (by simp)); clear h
    intro u h; obtain rfl := Eq.symm (h (by simp)); clear h
    refine relyEnd_nil rfl ?_
    refine wpList_end rfl ?_
    simp only [Act.put, List.setIfInBounds_toArray, List.set_cons_zero, List.set_cons_succ]
    go_simp
    replace R1 := Lib.hid (ka.row R1.out)
    replace R2 := Lib.hid (ka.row R2.out)
    replace HN := Lib.hid (NewT.trans _ _ _ HN.out ka)
    replace HN0 := Lib.hid (NewT.trans _ _ _ HN0.out ka)
    clear ka
    go_upto_region 2 with fail
    refine wp_region_steps0 NewT [SV.eq (.pointer (some ⟨w.heap.size, 35, none⟩)), SV.eq (p), SV.eq (.pointer (some ⟨w.heap.size, 35, none⟩)), SV.eq (p), SV.eq (.int .i64 ((List.length (path) : Int))), SV.eq (.int .i64 ((m : Int))), svHs W (List.take m path), SV.eq (.pointer (some ⟨w.heap.size, 35, none⟩))] [([(1, none)], none), ([(7, some 0)], none), ([(1, none)], none), ([(9, some 2)], none), ([(10, some 3)], none), ([(11, some 4)], none), ([(8, some 1), (12, some 5)], none), ([(1, none)], none)] 32 8 rfl rfl (by kernel_rfl) NewT.trans (NewT.refl _) (Nat.le_of_ble_eq_true rfl) ⟨?_, ?_, ?_, ?_, ?_, ?_, ?_, ?_, trivial⟩ ?_
    · intro a wx hT hF K hK
      obtain ⟨f1, _⟩ := hF
      have f1 : a.tmps.getD 1 undef = .pointer (some ⟨w.heap.size, 0, none⟩) := f1
      refine rely_wp rfl ?_
      exact opr_fldW4 rfl f1 (hK _ _ (NewT.refl _) rfl)
    · intro a wx hT hF K hK
      obtain ⟨f7, _⟩ := hF
      have f7 : a.tmps.getD 7 undef = .pointer (some ⟨w.heap.size, 35, none⟩) := f7
      refine rely_wp rfl ?_
      exact opr_ldHs (hT.row R1.out) (by decide) rfl rfl f7 (hK _ _ (NewT.refl _) rfl)
    · intro a wx hT hF K hK
      obtain ⟨f1, _⟩ := hF
      have f1 : a.tmps.getD 1 undef = .pointer (some ⟨w.heap.size, 0, none⟩) := f1
      refine rely_wp rfl ?_
      exact opr_fldW4 rfl f1 (hK _ _ (NewT.refl _) rfl)
    · intro a wx hT hF K hK
      obtain ⟨f9, _⟩ := hF
      have f9 : a.tmps.getD 9 undef = .pointer (some ⟨w.heap.size, 35, none⟩) := f9
      refine rely_wp rfl ?_
      exact opr_ldHs (hT.row R1.out) (by decide) rfl rfl f9 (hK _ _ (NewT.refl _) rfl)
    · intro a wx hT hF K hK
      obtain ⟨f10, _⟩ := hF
      have f10 : a.tmps.getD 10 undef = p := f10
      refine rely_wp rfl ?_
      exact opr_len_h rfl (by rw [eval_tmp, f10]; exact ((NewT.trans _ _ _ HN.out hT).hs HP.out)) (hK _ _ (NewT.refl _) rfl)
    · intro a wx hT hF K hK
      obtain ⟨f11, _⟩ := hF
      have f11 : a.tmps.getD 11 undef = .int .i64 ((List.length (path) : Int)) := f11
      refine rely_wp rfl ?_
      exact opr_sub (r := (m : Int)) Tryd.underlying3 (by rw [HLP.out]; unfold wrap64; omega) rfl f11 rfl (hK _ _ (NewT.refl _) rfl)
    · intro a wx hT hF K hK
      obtain ⟨f8, f12, _⟩ := hF
      have f8 : a.tmps.getD 8 undef = p := f8
      have f12 : a.tmps.getD 12 undef = .int .i64 ((m : Int)) := f12
      refine rely_wp rfl ?_
      exact opr_toH0 (k := m) (by rw [HLP.out]; omega) rfl rfl (by rw [eval_tmp, f8]; exact HP.out) f12 (fun v hv => hK v _ (NewT.refl _) hv)
    · intro a wx hT hF K hK
      obtain ⟨f1, _⟩ := hF
      have f1 : a.tmps.getD 1 undef = .pointer (some ⟨w.heap.size, 0, none⟩) := f1
      refine rely_wp rfl ?_
      exact opr_fldW4 rfl f1 (hK _ _ (NewT.refl _) rfl)
    · intro wb kb
      intro u h; obtain rfl := Eq.symm (h (by simp)); clear h
      intro u h; obtain rfl := Eq.symm (h (by simp)); clear h
      intro u h; obtain rfl := Eq.symm (h (by simp)); clear h
      intro u h; obtain rfl := Eq.symm (h (by simp)); clear h
      intro u h; obtain rfl := Eq.symm (h (by simp)); clear h
      intro u h; obtain rfl := Eq.symm (h (by simp)); clear h
      intro u13 h; have g13 := h (by simp); clear h; replace g13 := show (svHs W (List.take m path)).pred u13 wb from g13
      intro u h; obtain rfl := Eq.symm (h (by simp)); clear h
      refine relyEnd_nil rfl ?_
      simp only [Act.put, List.setIfInBounds_toArray, List.set_cons_zero, List.set_cons_succ]
      refine wpList_plain rfl (fun K hK => ?_)
      refine opr_put1 (F := wyF u d (i : Int) (n : Int) u13) rfl rfl rfl (kb.row R1.out) (by decide) info_hs (sl_one (rdH_sl g13)) (fun j hj => wyF_set35 _ _ _ _ p _ j hj) ?_
      intro w9 hR9 r9
      refine hK _ _ ?_
      refine wpList_end rfl ?_
      simp only [Act.put, List.setIfInBounds_toArray, List.set_cons_zero, List.set_cons_succ]
      go_simp
      have HP1 : Hid (RdH W u13 (List.take m path)) := Lib.hid g13
      replace R1 := Lib.hid r9
      replace R2 := Lib.hid (hR9.row (by omega) (kb.row R2.out))
      replace HN0 := Lib.hid (NewT.rt (NewT.trans _ _ _ HN0.out kb) hR9 (Nat.le_refl _))
      replace HN := Lib.hid (NewT.trans _ _ _ hNW HN0.out)
      clear r9 hR9 kb g13 HP
      go_upto_region 3 with fail
      refine wp_region_steps0 NewT [SV.eq (.pointer (some ⟨w.heap.size, 33, none⟩)), SV.eq (.int .i64 ((i : Int))), SV.eq (.int .i64 ((k : Int))), SV.eq (.bool false)] [([(1, none)], none), ([(15, some 0)], none), ([(3, none)], none), ([(16, some 1), (17, some 2)], none)] 32 4 rfl rfl (by kernel_rfl) NewT.trans (NewT.refl _) (Nat.le_of_ble_eq_true rfl) ⟨?_, ?_, ?_, ?_, trivial⟩ ?_
      · intro a wx hT hF K hK
        obtain ⟨f1, _⟩ := hF
        have f1 : a.tmps.getD 1 undef = .pointer (some ⟨w.heap.size, 0, none⟩) := f1
        refine rely_wp rfl ?_
        exact opr_fldW2 rfl f1 (hK _ _ (NewT.refl _) rfl)
      · intro a wx hT hF K hK
        obtain ⟨f15, _⟩ := hF
        have f15 : a.tmps.getD 15 undef = .pointer (some ⟨w.heap.size, 33, none⟩) := f15
        refine rely_wp rfl ?_
        exact opr_ldI (hT.row R1.out) (by decide) rfl rfl f15 (hK _ _ (NewT.refl _) rfl)
      · intro a wx hT hF K hK
        obtain ⟨f3, _⟩ := hF
        have f3 : a.tmps.getD 3 undef = .int .i64 ((k : Int)) := f3
        refine rely_wp rfl ?_
        exact opr_move (.inl rfl) (hK _ _ (NewT.refl _) f3)
      · intro a wx hT hF K hK
        obtain ⟨f16, f17, _⟩ := hF
        have f16 : a.tmps.getD 16 undef = .int .i64 ((i : Int)) := f16
        have f17 : a.tmps.getD 17 undef = .int .i64 ((k : Int)) := f17
        refine rely_wp rfl ?_
        exact opr_cmp (b := false) (.inr (.inr (.inr (.inl ⟨rfl, (by exact HT3.out)⟩)))) Tryd.underlying3 rfl f16 f17 (hK _ _ (NewT.refl _) rfl)
      · intro wc kc
        intro u h; obtain rfl := Eq.symm (h (by simp)); clear h
        intro u h; obtain rfl := Eq.symm (h (by simp)); clear h
        intro u h; obtain rfl := Eq.symm (h (by simp)); clear h
        intro u h; obtain rfl := Eq.symm (h (by simp)); clear h
        refine relyEnd_nil rfl ?_
        refine wpList_end rfl ?_
        simp only [Act.put, List.setIfInBounds_toArray, List.set_cons_zero, List.set_cons_succ]
        go_simp
        replace R1 := Lib.hid (kc.row R1.out)
        replace R2 := Lib.hid (kc.row R2.out)
        replace HN := Lib.hid (NewT.trans _ _ _ HN.out kc)
        replace HN0 := Lib.hid (NewT.trans _ _ _ HN0.out kc)
        clear kc
        go_upto_region 5 with fail
        refine wp_region_steps0 NewT [SV.eq (.pointer (some ⟨w.heap.size, 33, none⟩)), SV.eq (.int .i64 ((i : Int))), SV.eq (.int .i64 ((k : Int))), SV.eq (.int .i64 (((i - k : Nat) : Int))), SV.eq (.pointer (some ⟨w.heap.size, 34, none⟩)), SV.eq (.int .i64 ((n : Int))), SV.eq (.int .i64 ((k : Int))), SV.eq (.int .i64 (((n - k : Nat) : Int))), SV.eq (.pointer (some ⟨w.heap.size, 33, none⟩))] [([(1, none)], none), ([(21, some 0)], none), ([(3, none)], none), ([(22, some 1), (23, some 2)], none), ([(1, none)], none), ([(25, some 4)], none), ([(3, none)], none), ([(26, some 5), (27, some 6)], none), ([(1, none)], none)] 32 9 rfl rfl (by kernel_rfl) NewT.trans (NewT.refl _) (Nat.le_of_ble_eq_true rfl) ⟨?_, ?_, ?_, ?_, ?_, ?_, ?_, ?_, ?_, trivial⟩ ?_
        · intro a wx hT hF K hK
          obtain ⟨f1, _⟩ := hF
          have f1 : a.tmps.getD 1 undef = .pointer (some ⟨w.heap.size, 0, none⟩) := f1
          refine rely_wp rfl ?_
          exact opr_fldW2 rfl f1 (hK _ _ (NewT.refl _) rfl)
        · intro a wx hT hF K hK
          obtain ⟨f21, _⟩ := hF
          have f21 : a.tmps.getD 21 undef = .pointer (some ⟨w.heap.size, 33, none⟩) := f21
          refine rely_wp rfl ?_
          exact opr_ldI (hT.row R1.out) (by decide) rfl rfl f21 (hK _ _ (NewT.refl _) rfl)
        · intro a wx hT hF K hK
          obtain ⟨f3, _⟩ := hF
          have f3 : a.tmps.getD 3 undef = .int .i64 ((k : Int)) := f3
          refine rely_wp rfl ?_
          exact opr_move (.inl rfl) (hK _ _ (NewT.refl _) f3)
        · intro a wx hT hF K hK
          obtain ⟨f22, f23, _⟩ := hF
          have f22 : a.tmps.getD 22 undef = .int .i64 ((i : Int)) := f22
          have f23 : a.tmps.getD 23 undef = .int .i64 ((k : Int)) := f23
          refine rely_wp rfl ?_
          exact opr_sub (r := ((i - k : Nat) : Int)) Tryd.underlying3 (by unfold wrap64; omega) rfl f22 f23 (hK _ _ (NewT.refl _) rfl)
        · intro a wx hT hF K hK
          obtain ⟨f1, _⟩ := hF
          have f1 : a.tmps.getD 1 undef = .pointer (some ⟨w.heap.size, 0, none⟩) := f1
          refine rely_wp rfl ?_
          exact opr_fldW3 rfl f1 (hK _ _ (NewT.refl _) rfl)
        · intro a wx hT hF K hK
          obtain ⟨f25, _⟩ := hF
          have f25 : a.tmps.getD 25 undef = .pointer (some ⟨w.heap.size, 34, none⟩) := f25
          refine rely_wp rfl ?_
          exact opr_ldI (hT.row R1.out) (by decide) rfl rfl f25 (hK _ _ (NewT.refl _) rfl)
        · intro a wx hT hF K hK
          obtain ⟨f3, _⟩ := hF
          have f3 : a.tmps.getD 3 undef = .int .i64 ((k : Int)) := f3
          refine rely_wp rfl ?_
          exact opr_move (.inl rfl) (hK _ _ (NewT.refl _) f3)
        · intro a wx hT hF K hK
          obtain ⟨f26, f27, _⟩ := hF
          have f26 : a.tmps.getD 26 undef = .int .i64 ((n : Int)) := f26
          have f27 : a.tmps.getD 27 undef = .int .i64 ((k : Int)) := f27
          refine rely_wp rfl ?_
          exact opr_sub (r := ((n - k : Nat) : Int)) Tryd.underlying3 (by unfold wrap64; omega) rfl f26 f27 (hK _ _ (NewT.refl _) rfl)
        · intro a wx hT hF K hK
          obtain ⟨f1, _⟩ := hF
          have f1 : a.tmps.getD 1 undef = .pointer (some ⟨w.heap.size, 0, none⟩) := f1
          refine rely_wp rfl ?_
          exact opr_fldW2 rfl f1 (hK _ _ (NewT.refl _) rfl)
        · intro wd kd
          intro u h; obtain rfl := Eq.symm (h (by simp)); clear h
          intro u h; obtain rfl := Eq.symm (h (by simp)); clear h
          intro u h; obtain rfl := Eq.symm (h (by simp)); clear h
          intro u h; obtain rfl := Eq.symm (h (by simp)); clear h
          intro u h; obtain rfl := Eq.symm (h (by simp)); clear h
          intro u h; obtain rfl := Eq.symm (h (by simp)); clear h
          intro u h; obtain rfl := Eq.symm (h (by simp)); clear h
          intro u h; obtain rfl := Eq.symm (h (by simp)); clear h
          intro u h; obtain rfl := Eq.symm (h (by simp)); clear h
          refine relyEnd_nil rfl ?_
          simp only [Act.put, List.setIfInBounds_toArray, List.set_cons_zero, List.set_cons_succ]
          refine wpList_plain rfl (fun K hK => ?_)
          refine opr_put1 (F := wyF u d ((i - k : Nat) : Int) (n : Int) u13) rfl rfl rfl (kd.row R1.out) (by decide) info_int1 rfl (fun j hj => wyF_set33 _ _ (i : Int) _ _ _ j hj) ?_
          intro w8 hR8 r8
          refine hK _ _ ?_
          clear hK K
          simp only [Act.put, List.setIfInBounds_toArray, List.set_cons_zero, List.set_cons_succ]
          refine wpList_plain rfl (fun K hK => ?_)
          refine opr_fldW3 rfl rfl (hK _ _ ?_)
          clear hK K
          simp only [Act.put, List.setIfInBounds_toArray, List.set_cons_zero, List.set_cons_succ]
          refine wpList_plain rfl (fun K hK => ?_)
          refine opr_put1 (F := wyF u d ((i - k : Nat) : Int) ((n - k : Nat) : Int) u13) rfl rfl rfl r8 (by decide) info_int1 rfl (fun j hj => wyF_set34 _ _ _ (n : Int) _ _ j hj) ?_
          intro w9 hR9 r9
          refine hK _ _ ?_
          refine wpList_end rfl ?_
          simp only [Act.put, List.setIfInBounds_toArray, List.set_cons_zero, List.set_cons_succ]
          go_simp
          replace R1 := Lib.hid r9
          replace R2 := Lib.hid (hR9.row (by omega) (hR8.row (by omega) (kd.row R2.out)))
          replace HN0 := Lib.hid (NewT.rt (NewT.rt (NewT.trans _ _ _ HN0.out kd) hR8 (Nat.le_refl _)) hR9 (Nat.le_refl _))
          clear r9 hR9 r8 hR8 kd
          go_upto_region 6 with fail
          refine wp_region_steps0 NewT [SV.eq (.agg (rowA 36 (wyF u d ((i - k : Nat) : Int) ((n - k : Nat) : Int) u13)))] [([(1, none)], none)] 32 1 rfl rfl (by kernel_rfl) NewT.trans (NewT.refl _) (Nat.le_of_ble_eq_true rfl) ⟨?_, trivial⟩ ?_
          · intro a wx hT hF K hK
            obtain ⟨f1, _⟩ := hF
            have f1 : a.tmps.getD 1 undef = .pointer (some ⟨w.heap.size, 0, none⟩) := f1
            refine rely_wp rfl ?_
            exact opr_ldWy (hT.row R1.out) rfl f1 (hK _ _ (NewT.refl _) rfl)
          · intro we ke
            intro u h; obtain rfl := Eq.symm (h (by simp)); clear h
            refine relyEnd_nil rfl ?_
            simp only [Act.put, List.setIfInBounds_toArray, List.set_cons_zero, List.set_cons_succ]
            refine wpList_plain rfl (fun K hK => ?_)
            refine opr_putm (F := wyF u d ((i - k : Nat) : Int) ((n - k : Nat) : Int) u13) rfl rfl rfl (ke.row R2.out) (by decide) infoW (wyF_one (sl_one (rd_sl HU.out)) (sl_one (rdH_sl HP1.out))) (fun j hj => by rw [if_pos (by omega), Nat.sub_zero]) ?_
            intro w9 hR9 r9
            refine hK _ _ ?_
            refine wpList_end rfl ?_
            simp only [Act.put, List.setIfInBounds_toArray, List.set_cons_zero, List.set_cons_succ]
            go_simp
            go_wp2
            exact bodyPost_ret (results_agg rfl _ rfl r9 Tryd.underlying54 rfl infoW) rfl ⟨_, rfl, NewT.rt (NewT.trans _ _ _ HN0.out ke) hR9 (by omega), u, u13, rfl, HU.out, HP1.out⟩
end Go.Proofs.YtlnedphnphabkaaDoor
