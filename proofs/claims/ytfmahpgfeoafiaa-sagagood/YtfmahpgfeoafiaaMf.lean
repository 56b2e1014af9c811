/- The laws' ends: a run is over at one place. -/
import Derived.Test.YtfmahpgfeoafiaaMe
import Derived.Test.YtfmahpgfeoafiaaMb
set_option linter.all false
namespace Go.Proofs.Ytfmahpgfeoafiaa
open Go Go.RowKit
set_option maxRecDepth 8000
set_option linter.all false
theorem run_uniq {ks : List Int} {lim : Nat} {ans : Nat → Nat} {n m : Nat} (h1 : 2 ≤ (seqA ks lim ans n).1.ph) (h2 : ∀ k, k < n → (seqA ks lim ans k).1.ph < 2) (h3 : 2 ≤ (seqA ks lim ans m).1.ph) (h4 : ∀ k, k < m → (seqA ks lim ans k).1.ph < 2) : n = m := by
  rcases Nat.lt_trichotomy n m with h | h | h
  · have := h4 n h; omega
  · exact h
  · have := h2 m h; omega
theorem rdV_nilZ (w : World) : RdV w [] (.slice none 0 0) [] := ⟨none, 0, rfl, Nat.le_refl _, by unfold maxLen; omega, fun h => absurd h (by simp)⟩
/-- A row of bytes reads as a list. -/
theorem rdV_row {W : World} {g t n : Nat} {f : Nat → UInt8} (h : W.rowIs g t n (bF f)) (hn : n ≤ 1000000) : RdV W [] (.slice (some ⟨g, 0, none⟩) n n) ((List.range n).map f) := rd_row h (by simp) hn
theorem ans_rep : ∀ i : Fin 30, ansN (List.replicate 30 2) i.val = 2 := by decide +kernel
theorem ans_none : ansN [] = fun _ => 0 := by funext i; unfold ansN; simp
theorem opr_idxU8 {a : Act} {w : World} {o : Oper} {K : Act → World → Prop} {Q : Exit → Act → World → Prop} {x y : Operand} {b n c k : Nat} (hk : k < n) (ho : o.op = .indexAddr 29 x y) (hx : a.eval x = .slice (some ⟨b, 0, none⟩) n c) (hy : a.eval y = .int .i64 (k : Int)) (h : K (a.put o.dst (.pointer (some ⟨b, k, none⟩))) w) : o.wp Try.prog a w K Q := by
  obtain ⟨dst, op, type, pos, after, guard⟩ := o
  simp only at ho
  subst ho
  refine opr_val (s := Instr.indexAt 29 (a.eval x) (a.eval y)) (v := .pointer (some ⟨b, k, none⟩)) rfl ?_ h
  rw [hx, hy]
  have hsz : (sizeOf 5).run Try.prog w = .ok 1 w := by
    have hs := info5s
    cases hq : Try.prog.info? 5 with
    | none => simp [hq] at hs
    | some i => simp [hq] at hs; simp [sizeOf, typeInfo, hq, hs]
  simp [Instr.indexAt, asIntOf, run_underlying Try.underlying29, hk, Addr.add_mid]
theorem info_u81 : (Try.prog.info? 5).map (·.size) = some 1 := by kernel_rfl
end Go.Proofs.Ytfmahpgfeoafiaa
/- Single operations: a byte turned into a number, remainders. -/
namespace Go.Proofs.Ytfmahpgfeoafiaa
open Go Go.RowKit
set_option maxRecDepth 8000
set_option linter.all false
section
variable {a : Act} {w : World} {o : Oper} {K : Act → World → Prop} {Q : Exit → Act → World → Prop} {x y : Operand}
theorem opr_cv8 {n : Int} (hn : 0 ≤ n ∧ n ≤ 255) (ho : o.op = .convert 5 3 x) (hx : a.eval x = .int .u8 n) (h : K (a.put o.dst (.int .i64 n)) w) : o.wp Try.prog a w K Q := by
  obtain ⟨dst, op, type, pos, after, guard⟩ := o
  simp only at ho
  subst ho
  refine opr_val (s := convert 5 3 (a.eval x)) rfl ?_ h
  rw [hx]
  have hw : IntKind.i64.wrap n = n := by simp [IntKind.wrap, IntKind.bits, IntKind.signed]; omega
  simp [go_sem, hw]
theorem opr_rem {m n r : Int} {t2 : TypeId} (hm : 0 ≤ m ∧ m ≤ 1000000) (hn : 0 < n ∧ n ≤ 1000) (hr : m % n = r) (ho : o.op = .binOp .rem 3 x y t2) (hx : a.eval x = .int .i64 m) (hy : a.eval y = .int .i64 n) (h : K (a.put o.dst (.int .i64 r)) w) : o.wp Try.prog a w K Q := by
  obtain ⟨dst, op, type, pos, after, guard⟩ := o
  simp only at ho
  subst ho hr
  refine opr_val (s := do eqGuard .rem 3 x y (a.eval x) (a.eval y); binOp .rem 3 (a.eval x) (a.eval y)) rfl ?_ h
  rw [hx, hy]
  have h0 : n ≠ 0 := by omega
  have ht : Int.tmod m n = m % n := Int.tmod_eq_emod_of_nonneg hm.1
  have hw : IntKind.i64.wrap (m % n) = m % n := by
    have h1 := Int.emod_nonneg m h0
    have h2 := Int.emod_lt_of_pos m hn.1
    simp [IntKind.wrap, IntKind.bits, IntKind.signed]; omega
  simp [go_sem, h0, ht, hw]
end
end Go.Proofs.Ytfmahpgfeoafiaa
/- The law SagaGood, walked: a saga all of whose calls go well is Committed, and one that goes back is Compensated, if its compensations go well. -/
namespace Go.Proofs.Ytfmahpgfeoafiaa
open Go Go.RowKit
set_option maxRecDepth 8000
set_option linter.all false
theorem one_at (k i : Nat) : bF (fun i => if i = k then (1 : UInt8) else 0) i = if i = k then Value.int .u8 1 else bF (fun _ => 0) i := by
  by_cases h : i = k
  · rw [if_pos h]; show Value.int .u8 (bN (if i = k then 1 else 0)) = _; rw [if_pos h]; rfl
  · rw [if_neg h]; show Value.int .u8 (bN (if i = k then 1 else 0)) = Value.int .u8 (bN 0); rw [if_neg h]
theorem ans_one (k : Nat) : (∀ i, i < k → ansN ((List.range (k + 1)).map (fun i => if i = k then (1 : UInt8) else 0)) i = 0) ∧ ansN ((List.range (k + 1)).map (fun i => if i = k then (1 : UInt8) else 0)) k = 1 ∧ ∀ i, k < i → ansN ((List.range (k + 1)).map (fun i => if i = k then (1 : UInt8) else 0)) i = 0 := by
  have hb : ∀ i, i < k + 1 → bAt ((List.range (k + 1)).map (fun i => if i = k then (1 : UInt8) else 0)) i = if i = k then 1 else 0 := fun i hi => by
    unfold bAt; simp [List.getD, hi]
  refine ⟨fun i hi => ?_, ?_, fun i hi => ?_⟩
  · unfold ansN; rw [if_pos (by simp; omega), hb i (by omega), if_neg (by omega)]; rfl
  · unfold ansN; rw [if_pos (by simp), hb k (by omega), if_pos rfl]; rfl
  · unfold ansN; rw [if_neg (by simp; omega)]
set_option maxHeartbeats 8000000 in
theorem SagaGood_walk (v : Value) (l : List (Int × Int)) (lim at_ : Int) (w : World) (h : RdP w v l) (h8 : 0 ≤ at_ ∧ at_ ≤ 255) : Calls Try.prog 5 #[v, .int .i64 lim, .int .u8 at_] w fun e w' => e = .returned (.bool true) ∧ Below w.heap.size w w' := by
  have HV := Lib.hid h
  have HAT8 := Lib.hid h8
  clear h h8
  go_enter Try.func5, Try.ntmps5
  go_upto_region 1 with fail
  have HB := Lib.hid (NewT.refl w)
  have HM := Lib.hid (NewT.refl w)
  refine wp_region_steps0 NewT [SV.eq (.bool true), SV.eq (.bool false)] [([], none), ([(15, some 0)], none)] 92 2 rfl rfl (by kernel_rfl) NewT.trans (NewT.refl _) (Nat.le_of_ble_eq_true rfl) ⟨?_, ?_, trivial⟩ ?_
  · exact fun a wx hT hF K hK => rely_wp rfl (opr_cv (alive11_c wx) rfl Try.func8 (by kernel_rfl) (by kernel_rfl) evs0 hK)
  · exact fun a wx hT hF K hK => rely_wp rfl (opr_not rfl hF.1 (hK _ _ (NewT.refl _) rfl))
  · intro w1 k1
    iterate 2 (intro u h; obtain rfl := Eq.symm (h (by simp)); clear h)
    refine relyEnd_nil rfl ?_
    refine wpList_end rfl ?_
    simp only [Act.put, List.setIfInBounds_toArray, List.set_cons_zero, List.set_cons_succ]
    go_simp
    replace HM := Lib.hid (NewT.trans _ _ _ HM.out k1)
    clear k1
    go_upto_region 3 with fail
    obtain ⟨q1_3, Q1_3⟩ : ∃ bq_, ((!(mayL l)) || (decide (lim < 1))) = bq_ := ⟨_, rfl⟩
    refine wp_region_steps0 NewT [SV.eq (v), SV.eq (.bool (mayL l)), SV.eq (.bool (!(mayL l))), SV.eq (.bool (!(mayL l))), svIf ((!(!(mayL l)))) (SV.eq (.int .i64 (lim))), svIf ((!(!(mayL l)))) (SV.eq (.bool (decide (lim < 1)))), SV.eq (.bool (q1_3)), SV.eq (.bool (q1_3)), svIf ((!q1_3)) (SV.eq (.int .i64 (lim))), svIf ((!q1_3)) (SV.eq (.bool (decide (9 < lim)))), SV.eq (.bool (q1_3 || (decide (9 < lim))))] [([(0, none)], none), ([(17, some 0)], none), ([(18, some 1)], none), ([(19, some 2)], none), ([(1, none), (20, some 3)], some (20, false)), ([(21, some 4), (20, some 3)], some (20, false)), ([(20, some 3), (22, some 5)], none), ([(23, some 6)], none), ([(1, none), (24, some 7)], some (24, false)), ([(25, some 8), (24, some 7)], some (24, false)), ([(24, some 7), (26, some 9)], none)] 92 11 rfl rfl (by kernel_rfl) NewT.trans (NewT.refl _) (Nat.le_of_ble_eq_true rfl) ⟨?_, ?_, ?_, ?_, ?_, ?_, ?_, ?_, ?_, ?_, ?_, trivial⟩ ?_
    · exact fun a wx hT hF K hK => rely_wp rfl (opr_move (.inl rfl) (hK _ _ (NewT.refl _) hF.1))
    · exact fun a wx hT hF K hK => rely_wp rfl (opr_cv (gMay_cv _ l wx ((NewT.trans _ _ _ HM.out hT).pairs HV.out)) rfl Try.func9 (by kernel_rfl) (by kernel_rfl) (evs1 hF.1) hK)
    · exact fun a wx hT hF K hK => rely_wp rfl (opr_not rfl hF.1 (hK _ _ (NewT.refl _) rfl))
    · exact fun a wx hT hF K hK => rely_wp rfl (opr_move (.inl rfl) (hK _ _ (NewT.refl _) hF.1))
    · exact fun a wx hT hF K hK => rely_if (rely_gf hF.2.1) (NewT.refl _) hK fun hE hK => opr_move (.inl rfl) (hK _ _ (NewT.refl _) hF.1)
    · exact fun a wx hT hF K hK => rely_if (rely_gf hF.2.1) (NewT.refl _) hK fun hE hK => opr_cmp (b := decide (lim < 1)) (.inr (.inr (.inr (.inl ⟨rfl, rfl⟩)))) Try.underlying3 rfl (hF.1 hE) rfl (hK _ _ (NewT.refl _) rfl)
    · exact fun a wx hT hF K hK => rely_wp rfl (opr_pick_b rfl hF.1 (fun hb => hK _ _ (NewT.refl _) (pn_or1 Q1_3 hb)) (fun hb => hK _ _ (NewT.refl _) (pn_or0 Q1_3 (hF.2.1 (bnot hb)) hb)))
    · exact fun a wx hT hF K hK => rely_wp rfl (opr_move (.inl rfl) (hK _ _ (NewT.refl _) hF.1))
    · exact fun a wx hT hF K hK => rely_if (rely_gf hF.2.1) (NewT.refl _) hK fun hE hK => opr_move (.inl rfl) (hK _ _ (NewT.refl _) hF.1)
    · exact fun a wx hT hF K hK => rely_if (rely_gf hF.2.1) (NewT.refl _) hK fun hE hK => opr_cmp (b := decide (9 < lim)) (.inr (.inr (.inr (.inr (.inl ⟨rfl, rfl⟩))))) Try.underlying3 rfl (hF.1 hE) rfl (hK _ _ (NewT.refl _) rfl)
    · exact fun a wx hT hF K hK => rely_wp rfl (opr_pick_b rfl hF.1 (fun hb => hK _ _ (NewT.refl _) (pk_or1 hb)) (fun hb => hK _ _ (NewT.refl _) (pk_or0 (hF.2.1 (bnot hb)) hb)))
    · intro w2 k2
      iterate 4 (intro u h; obtain rfl := Eq.symm (h (by simp)); clear h)
      iterate 2 (intro _ _)
      iterate 2 (intro u h; obtain rfl := Eq.symm (h (by simp)); clear h)
      iterate 2 (intro _ _)
      intro u h; obtain rfl := Eq.symm (h (by simp)); clear h
      subst Q1_3
      refine relyEnd_nil rfl ?_
      refine wpList_end rfl ?_
      simp only [Act.put, List.setIfInBounds_toArray, List.set_cons_zero, List.set_cons_succ]
      go_simp
      replace HM := Lib.hid (NewT.trans _ _ _ HM.out k2)
      clear k2
      cases hq : (((!(mayL l)) || (decide (lim < 1))) || (decide (9 < lim)))
      · have hq' := hq
        simp only [Bool.or_eq_false_iff, Bool.not_eq_false', decide_eq_false_iff_not] at hq'
        obtain ⟨q, rfl⟩ : ∃ q : Nat, lim = q := ⟨lim.toNat, by omega⟩
        have Hm : Hid (mayL l = true) := Lib.hid hq'.1.1
        have Hlim : Hid (1 ≤ q ∧ q ≤ 9) := Lib.hid (by omega)
        have HL6 := Lib.hid (may_len Hm.out)
        clear hq hq'
        go_upto_region 5 with fail
        refine wp_region_steps0 NewT [SV.eq (v), SV.eq (.int .i64 ((q : Int))), svRun l q (ansN [])] [([(0, none)], none), ([(1, none)], none), ([(29, some 0), (30, some 1)], none)] 92 3 rfl rfl (by kernel_rfl) NewT.trans (NewT.refl _) (Nat.le_of_ble_eq_true rfl) ⟨?_, ?_, ?_, trivial⟩ ?_
        · exact fun a wx hT hF K hK => rely_wp rfl (opr_move (.inl rfl) (hK _ _ (NewT.refl _) hF.1))
        · exact fun a wx hT hF K hK => rely_wp rfl (opr_move (.inl rfl) (hK _ _ (NewT.refl _) hF.1))
        · exact fun a wx hT hF K hK => rely_wp rfl (opr_cv (run_cv _ _ l [] q wx ((NewT.trans _ _ _ HM.out hT).pairs HV.out) (rdV_nilZ wx) Hm.out Hlim.out) rfl Try.func14 (by kernel_rfl) (by kernel_rfl) (evs3 hF.1 hF.2.1 rfl) hK)
        · intro w3 k3
          iterate 2 (intro u h; obtain rfl := Eq.symm (h (by simp)); clear h)
          intro u31 h; have g31 := h (by simp); clear h; replace g31 := show (svRun l q (ansN [])).pred u31 w3 from g31
          refine relyEnd_nil rfl ?_
          simp only [Act.put, List.setIfInBounds_toArray, List.set_cons_zero, List.set_cons_succ]
          obtain ⟨n3, sv3, hn43, hph3, hno3, rfl, hsv3⟩ := (show RunV w3 l q (ansN []) u31 from g31)
          refine wpList_plain rfl (fun K hK => ?_)
          refine opr_move (.inl rfl) (hK _ _ ?_)
          clear hK K
          simp only [Act.put, List.setIfInBounds_toArray, List.set_cons_zero, List.set_cons_succ]
          refine wpList_plain rfl (fun K hK => ?_)
          refine opr_ext (k := 0) rfl rfl rfl (hK _ _ ?_)
          clear hK K
          simp only [Act.put, List.setIfInBounds_toArray, List.set_cons_zero, List.set_cons_succ]
          refine wpList_plain rfl (fun K hK => ?_)
          refine opr_ext (k := 1) rfl rfl rfl (hK _ _ ?_)
          clear hK K
          simp only [Act.put, List.setIfInBounds_toArray, List.set_cons_zero, List.set_cons_succ]
          refine wpList_plain rfl (fun K hK => ?_)
          refine opr_ext (k := 2) rfl rfl rfl (hK _ _ ?_)
          clear hK K
          simp only [Act.put, List.setIfInBounds_toArray, List.set_cons_zero, List.set_cons_succ]
          refine wpList_new (n := 10) (f := sgF sv3 (ofSt (seqA (kks l) q (ansN []) n3).1 ((n3 : Int) + 1))) rfl rfl rfl rfl rfl rfl (by first | (simp; done) | simp [Act.put]) run_alloc_saga info_saga (sgF_one _ _ (oneP hsv3)) rfl ?_
          intro W3 hn3 rr3
          simp only [Act.put, List.setIfInBounds_toArray, List.set_cons_zero, List.set_cons_succ]
          refine wpList_plain rfl (fun K hK => ?_)
          refine opr_move (.inr rfl) (hK _ _ ?_)
          clear hK K
          simp only [Act.put, List.setIfInBounds_toArray, List.set_cons_zero, List.set_cons_succ]
          refine wpList_plain rfl (fun K hK => ?_)
          refine opr_move (.inr rfl) (hK _ _ ?_)
          clear hK K
          simp only [Act.put, List.setIfInBounds_toArray, List.set_cons_zero, List.set_cons_succ]
          refine wpList_end rfl ?_
          try simp only [Act.put, List.setIfInBounds_toArray, List.set_cons_zero, List.set_cons_succ]
          go_simp
          obtain ⟨gg, hgg⟩ := hid_ex (ofSt (seqA (kks l) q (ansN []) n3).1 ((n3 : Int) + 1))
          rw [hgg.out] at rr3
          obtain ⟨ll, HLL⟩ := hid_ex l.length
          obtain ⟨g7, h_g7⟩ : ∃ g_, w3.heap.size = g_ := ⟨_, rfl⟩
          rw [h_g7] at rr3
          simp only [h_g7]
          have hbx := NewT.trans _ _ _ HM.out k3
          have HGg7 : Hid (w3.heap.size ≤ g7) := Lib.hid (by rw [← h_g7]; exact Nat.le_refl _)
          replace HV := Lib.hid (hbx.pairs HV.out)
          replace HB := Lib.hid (NewT.trans _ _ _ HB.out hbx)
          replace HM := Lib.hid hn3
          have Rg7 := Lib.hid rr3
          clear hbx hn3 rr3 k3 h_g7
          have HG1 : Hid (gg.ph = 2 ∧ (n3 : Int) = 2 * (l.length : Int) + 1) := Lib.hid (by
            have he := good_end (ks := kks l) (lim := q) (ans := ansN []) Hlim.out.1 (fun i _ => by rw [ans_none])
            have hnn := run_uniq hph3 hno3 (by rw [he.1]; show (2 : Nat) ≤ 2; omega) he.2
            rw [← hgg.out, hnn, he.1]
            rw [kks_len]
            exact ⟨rfl, by omega⟩)
          clear hph3 hno3 hsv3 hn43
          go_upto_region 6 with fail
          obtain ⟨q1_6, Q1_6⟩ : ∃ bq_, ((gg.ph != 2) || (((n3 : Int)) != (2 * (List.length l : Int) + 1))) = bq_ := ⟨_, rfl⟩
          refine wp_region_steps0 NewT [SV.eq (.bool true), SV.eq (.bool false), SV.eq (.bool false), SV.eq (.pointer (some ⟨g7, 1, none⟩)), SV.eq (.int .i64 (gg.ph)), SV.eq (.bool (gg.ph != 2)), SV.eq (.bool (gg.ph != 2)), SV.eq (.bool (gg.ph != 2)), svIf ((!(gg.ph != 2))) (SV.eq (.int .i64 ((n3 : Int)))), svIf ((!(gg.ph != 2))) (SV.eq (v)), svIf ((!(gg.ph != 2))) (SV.eq (.int .i64 ((List.length (l) : Int)))), svIf ((!(gg.ph != 2))) (SV.eq (.int .i64 (2 * (List.length l : Int)))), svIf ((!(gg.ph != 2))) (SV.eq (.int .i64 (2 * (List.length l : Int) + 1))), svIf ((!(gg.ph != 2))) (SV.eq (.bool (((n3 : Int)) != (2 * (List.length l : Int) + 1)))), SV.eq (.bool (q1_6))] [([(9, none)], none), ([(35, some 0)], none), ([(36, some 1)], none), ([(7, none), (37, some 2)], some (37, false)), ([(38, some 3), (37, some 2)], some (37, false)), ([(39, some 4), (37, some 2)], some (37, false)), ([(37, some 2), (40, some 5)], none), ([(41, some 6)], none), ([(8, none), (42, some 7)], some (42, false)), ([(0, none), (42, some 7)], some (42, false)), ([(44, some 9), (42, some 7)], some (42, false)), ([(45, some 10), (42, some 7)], some (42, false)), ([(46, some 11), (42, some 7)], some (42, false)), ([(43, some 8), (47, some 12), (42, some 7)], some (42, false)), ([(42, some 7), (48, some 13)], none)] 92 15 rfl rfl (by kernel_rfl) NewT.trans (NewT.refl _) (Nat.le_of_ble_eq_true rfl) ⟨?_, ?_, ?_, ?_, ?_, ?_, ?_, ?_, ?_, ?_, ?_, ?_, ?_, ?_, ?_, trivial⟩ ?_
          · exact fun a wx hT hF K hK => rely_wp rfl (opr_move (.inl rfl) (hK _ _ (NewT.refl _) hF.1))
          · exact fun a wx hT hF K hK => rely_wp rfl (opr_not rfl hF.1 (hK _ _ (NewT.refl _) rfl))
          · exact fun a wx hT hF K hK => rely_wp rfl (opr_move (.inl rfl) (hK _ _ (NewT.refl _) hF.1))
          · exact fun a wx hT hF K hK => rely_wp (rely_guard hF.2.1) (opr_fldU1 rfl hF.1 (hK _ _ (NewT.refl _) rfl))
          · exact fun a wx hT hF K hK => rely_wp (rely_guard hF.2.1) (opr_ldI (hT.row Rg7.out) (by decide) rfl rfl hF.1 (hK _ _ (NewT.refl _) rfl))
          · exact fun a wx hT hF K hK => rely_wp (rely_guard hF.2.1) (opr_cmp (b := gg.ph != 2) (.inr (.inl ⟨rfl, rfl⟩)) Try.underlying3 rfl hF.1 rfl (hK _ _ (NewT.refl _) rfl))
          · exact fun a wx hT hF K hK => rely_wp rfl (opr_pick_false rfl hF.1 (hK _ _ (NewT.refl _) hF.2.1))
          · exact fun a wx hT hF K hK => rely_wp rfl (opr_move (.inl rfl) (hK _ _ (NewT.refl _) hF.1))
          · exact fun a wx hT hF K hK => rely_if (rely_gf hF.2.1) (NewT.refl _) hK fun hE hK => opr_move (.inl rfl) (hK _ _ (NewT.refl _) hF.1)
          · exact fun a wx hT hF K hK => rely_if (rely_gf hF.2.1) (NewT.refl _) hK fun hE hK => opr_move (.inl rfl) (hK _ _ (NewT.refl _) hF.1)
          · intro a wx hT hF K hK
            obtain ⟨f44, f42, _⟩ := hF
            have f44 : ((!(gg.ph != 2))) = true → a.tmps.getD 44 undef = v := f44
            have f42 : a.tmps.getD 42 undef = .bool (gg.ph != 2) := f42
            refine rely_if (rely_gf f42) (NewT.refl _) hK (fun hE hK => ?_)
            exact opr_len_pairs rfl (by rw [eval_tmp, (f44 hE)]; exact ((NewT.trans _ _ _ HM.out hT).pairs HV.out)) (hK _ _ (NewT.refl _) rfl)
          · exact fun a wx hT hF K hK => rely_if (rely_gf hF.2.1) (NewT.refl _) hK fun hE hK => opr_mul (r := 2 * (List.length l : Int)) Try.underlying3 (by have := Hlim.out; have := HL6.out; unfold wrap64; omega) rfl rfl (hF.1 hE) (hK _ _ (NewT.refl _) rfl)
          · exact fun a wx hT hF K hK => rely_if (rely_gf hF.2.1) (NewT.refl _) hK fun hE hK => opr_add (r := 2 * (List.length l : Int) + 1) Try.underlying3 (by have := Hlim.out; have := HL6.out; unfold wrap64; omega) rfl (hF.1 hE) rfl (hK _ _ (NewT.refl _) rfl)
          · exact fun a wx hT hF K hK => rely_if (rely_gf hF.2.2.1) (NewT.refl _) hK fun hE hK => opr_cmp (b := ((n3 : Int)) != (2 * (List.length l : Int) + 1)) (.inr (.inl ⟨rfl, rfl⟩)) Try.underlying3 rfl (hF.1 hE) (hF.2.1 hE) (hK _ _ (NewT.refl _) rfl)
          · exact fun a wx hT hF K hK => rely_wp rfl (opr_pick_b rfl hF.1 (fun hb => hK _ _ (NewT.refl _) (pn_or1 Q1_6 hb)) (fun hb => hK _ _ (NewT.refl _) (pn_or0 Q1_6 (hF.2.1 (bnot hb)) hb)))
          · intro w4 k4
            iterate 8 (intro u h; obtain rfl := Eq.symm (h (by simp)); clear h)
            iterate 6 (intro _ _)
            intro u h; obtain rfl := Eq.symm (h (by simp)); clear h
            subst Q1_6
            refine relyEnd_nil rfl ?_
            refine wpList_end rfl ?_
            simp only [Act.put, List.setIfInBounds_toArray, List.set_cons_zero, List.set_cons_succ]
            go_simp
            replace Rg7 := Lib.hid (k4.row Rg7.out)
            replace HM := Lib.hid (NewT.trans _ _ _ HM.out k4)
            clear k4
            cases hq6 : (((gg.ph != 2) || (((n3 : Int)) != (2 * (List.length l : Int) + 1))))
            · skip
              clear hq6
              obtain ⟨k, hk⟩ : ∃ k : Nat, (k : Int) = at_ % (l.length : Int) := ⟨(at_ % (l.length : Int)).toNat, by have h1 := Int.emod_nonneg at_ (b := (l.length : Int)) (by have := HL6.out; omega); omega⟩
              have hkl : k < l.length := by
                have h1 := Int.emod_lt_of_pos at_ (b := (l.length : Int)) (by have := HL6.out; omega)
                omega
              have HKE := Lib.hid hk
              have HKL := Lib.hid hkl
              clear hk hkl
              go_upto_region 8 with fail
              refine wp_region_steps0 NewT [SV.eq ((.int .u8 at_)), SV.eq (.int .i64 (at_)), SV.eq (v), SV.eq (.int .i64 ((List.length (l) : Int))), SV.eq (.int .i64 ((k : Int))), SV.eq (.int .i64 ((k : Int)))] [([(2, none)], none), ([(50, some 0)], none), ([(0, none)], none), ([(52, some 2)], none), ([(51, some 1), (53, some 3)], none), ([(54, some 4)], none)] 92 6 rfl rfl (by kernel_rfl) NewT.trans (NewT.refl _) (Nat.le_of_ble_eq_true rfl) ⟨?_, ?_, ?_, ?_, ?_, ?_, trivial⟩ ?_
              · exact fun a wx hT hF K hK => rely_wp rfl (opr_move (.inl rfl) (hK _ _ (NewT.refl _) hF.1))
              · exact fun a wx hT hF K hK => rely_wp rfl (opr_cv8 HAT8.out rfl hF.1 (hK _ _ (NewT.refl _) rfl))
              · exact fun a wx hT hF K hK => rely_wp rfl (opr_move (.inl rfl) (hK _ _ (NewT.refl _) hF.1))
              · intro a wx hT hF K hK
                obtain ⟨f52, _⟩ := hF
                have f52 : a.tmps.getD 52 undef = v := f52
                refine rely_wp rfl ?_
                exact opr_len_pairs rfl (by rw [eval_tmp, f52]; exact ((NewT.trans _ _ _ HM.out hT).pairs HV.out)) (hK _ _ (NewT.refl _) rfl)
              · exact fun a wx hT hF K hK => rely_wp rfl (opr_rem (by have := HAT8.out; omega) (by have := HL6.out; omega) HKE.out.symm rfl hF.1 hF.2.1 (hK _ _ (NewT.refl _) rfl))
              · exact fun a wx hT hF K hK => rely_wp rfl (opr_move (.inr rfl) (hK _ _ (NewT.refl _) hF.1))
              · intro w5 k5
                iterate 6 (intro u h; obtain rfl := Eq.symm (h (by simp)); clear h)
                refine relyEnd_nil rfl ?_
                refine wpList_end rfl ?_
                simp only [Act.put, List.setIfInBounds_toArray, List.set_cons_zero, List.set_cons_succ]
                go_simp
                replace Rg7 := Lib.hid (k5.row Rg7.out)
                replace HM := Lib.hid (NewT.trans _ _ _ HM.out k5)
                clear k5
                obtain ⟨d, HDD⟩ := hid_ex (l.getD k (0, 0))
                go_upto_region 9 with fail
                refine wp_region_steps0 NewT [SV.eq (v), SV.eq (.int .i64 ((k : Int))), svStp (d), svIp (d).2, SV.eq (.int .i64 ((d).2)), SV.eq (.bool (((d).2) == 3))] [([(0, none)], none), ([(10, none)], none), ([(55, some 0), (56, some 1)], none), ([(57, some 2)], none), ([(58, some 3)], none), ([(59, some 4)], none)] 92 6 rfl rfl (by kernel_rfl) NewT.trans (NewT.refl _) (Nat.le_of_ble_eq_true rfl) ⟨?_, ?_, ?_, ?_, ?_, ?_, trivial⟩ ?_
                · exact fun a wx hT hF K hK => rely_wp rfl (opr_move (.inl rfl) (hK _ _ (NewT.refl _) hF.1))
                · exact fun a wx hT hF K hK => rely_wp rfl (opr_move (.inl rfl) (hK _ _ (NewT.refl _) hF.1))
                · intro a wx hT hF K hK
                  obtain ⟨f55, f56, _⟩ := hF
                  have f55 : a.tmps.getD 55 undef = v := f55
                  have f56 : a.tmps.getD 56 undef = .int .i64 ((k : Int)) := f56
                  refine rely_wp rfl ?_
                  exact opr_idxSt (k := k) (d := d) (⟨HKL.out, HDD.out⟩) (rfl) rfl (by rw [eval_tmp, f55]; exact ((NewT.trans _ _ _ HM.out hT).pairs HV.out)) f56 (fun v hv => hK v _ (NewT.refl _) hv)
                · exact fun a wx hT hF K hK => rely_wp rfl (opr_fldSt1 rfl hF.1 (fun u hu => hK u _ (NewT.refl _) hu))
                · exact fun a wx hT hF K hK => rely_wp rfl (opr_ldIp rfl hF.1 (hK _ _ (NewT.refl _) rfl))
                · exact fun a wx hT hF K hK => rely_wp rfl (opr_cmp (b := ((d).2) == 3) (.inl ⟨rfl, rfl⟩) Try.underlying3 rfl hF.1 rfl (hK _ _ (NewT.refl _) rfl))
                · intro w6 k6
                  iterate 2 (intro u h; obtain rfl := Eq.symm (h (by simp)); clear h)
                  iterate 2 (intro _ _)
                  iterate 2 (intro u h; obtain rfl := Eq.symm (h (by simp)); clear h)
                  refine relyEnd_nil rfl ?_
                  refine wpList_end rfl ?_
                  simp only [Act.put, List.setIfInBounds_toArray, List.set_cons_zero, List.set_cons_succ]
                  go_simp
                  replace Rg7 := Lib.hid (k6.row Rg7.out)
                  replace HM := Lib.hid (NewT.trans _ _ _ HM.out k6)
                  clear k6
                  cases h9 : (d.2 == 3)
                  · have HK3 : Hid (kd (kks l) k < 3) := Lib.hid (by
                      have := (may_step Hm.out HKL.out).2.1
                      rw [kks_kd]
                      unfold kdL at this ⊢
                      rw [HDD.out] at this ⊢
                      have h3 : d.2 ≠ 3 := by simpa using h9
                      omega)
                    clear h9
                    obtain ⟨i0, hi, hz0, hz1, hz2⟩ := info_parts info5
                    have hmk := make_bytes i0 hi hz0 hz1 hz2 (k + 1) (by have := HL6.out; have := HKL.out; omega) w6
                    obtain ⟨gb, hgb⟩ : ∃ gb, w6.heap.size = gb := ⟨_, rfl⟩
                    have hN := NewT.alloc w6 (.cells (rowA (k + 1) (bF fun _ => 0)) 5)
                    have rb := rowIs_box w6 5 (k + 1) (bF fun _ => 0)
                    rw [hgb] at hmk rb
                    have HGB : Hid (g7 < gb ∧ w3.heap.size ≤ gb) := Lib.hid (by rw [← hgb]; exact ⟨Rg7.out.lt, HM.out.out.size⟩)
                    go_upto_region 11 with fail
                    refine wp_region_lit ?_
                    refine wpList_plain rfl (fun K hK => ?_)
                    refine opr_move (.inl rfl) (hK _ _ ?_)
                    clear hK K
                    simp only [Act.put, List.setIfInBounds_toArray, List.set_cons_zero, List.set_cons_succ]
                    refine wpList_plain rfl (fun K hK => ?_)
                    refine opr_add (r := ((k + 1 : Nat) : Int)) Try.underlying3 (by have := HL6.out; have := HKL.out; unfold wrap64; omega) rfl rfl rfl (hK _ _ ?_)
                    clear hK K
                    simp only [Act.put, List.setIfInBounds_toArray, List.set_cons_zero, List.set_cons_succ]
                    refine wpList_plain rfl (fun K hK => ?_)
                    refine opr_val (s := Instr.makeSlice 29 (.int .i64 ((k + 1 : Nat) : Int)) (.int .i64 ((k + 1 : Nat) : Int))) rfl hmk (hK _ _ ?_)
                    clear hK K hmk
                    simp only [Act.put, List.setIfInBounds_toArray, List.set_cons_zero, List.set_cons_succ]
                    refine wpList_plain rfl (fun K hK => ?_)
                    refine opr_move (.inr rfl) (hK _ _ ?_)
                    clear hK K
                    refine wpList_end rfl ?_
                    simp only [Act.put, List.setIfInBounds_toArray, List.set_cons_zero, List.set_cons_succ]
                    go_simp
                    replace Rg7 := Lib.hid (hN.row Rg7.out)
                    replace HM := Lib.hid (NewT.trans _ _ _ HM.out hN)
                    have RB0 := Lib.hid rb
                    clear rb hgb hN hi hz0 hz1 hz2
                    generalize w6.alloc (.cells (rowA (k + 1) (bF fun _ => 0)) 5) = Wm at *
                    have it12 : (k : Nat) < k + 1 := Nat.lt_succ_self k
                    have HK1 := Lib.hid it12
                    clear it12
                    go_upto_region 12 with fail
                    refine wp_region_lit ?_
                    refine wpList_plain rfl (fun K hK => ?_)
                    refine opr_move (.inl rfl) (hK _ _ ?_)
                    clear hK K
                    simp only [Act.put, List.setIfInBounds_toArray, List.set_cons_zero, List.set_cons_succ]
                    refine wpList_plain rfl (fun K hK => ?_)
                    refine opr_move (.inl rfl) (hK _ _ ?_)
                    clear hK K
                    simp only [Act.put, List.setIfInBounds_toArray, List.set_cons_zero, List.set_cons_succ]
                    refine wpList_plain rfl (fun K hK => ?_)
                    refine opr_idxU8 HK1.out rfl rfl rfl (hK _ _ ?_)
                    clear hK K
                    simp only [Act.put, List.setIfInBounds_toArray, List.set_cons_zero, List.set_cons_succ]
                    refine wpList_plain rfl (fun K hK => ?_)
                    refine opr_put1 (g := gb) (o0 := k) (v := .int .u8 1) (F := bF (fun i => if i = k then 1 else 0)) rfl (by first | rfl | (rw [eval_tmp]; rfl)) rfl RB0.out HK1.out info_u81 rfl (fun i _ => (one_at k i)) ?_
                    intro wa hRa ra
                    refine hK _ _ ?_
                    clear hK K
                    refine wpList_end rfl ?_
                    simp only [Act.put, List.setIfInBounds_toArray, List.set_cons_zero, List.set_cons_succ]
                    go_simp
                    obtain ⟨lb, HLB⟩ := hid_ex ((List.range (k + 1)).map (fun i => if i = k then (1 : UInt8) else 0))
                    have HR2 : Hid (RdV wa [] (.slice (some ⟨gb, 0, none⟩) (k + 1) (k + 1)) lb) := Lib.hid (by rw [← HLB.out]; exact rdV_row ra (by have := HL6.out; have := HKL.out; omega))
                    replace HM := Lib.hid (NewT.rt HM.out hRa HGB.out.2)
                    replace Rg7 := Lib.hid (hRa.row (by have := HGB.out; omega) Rg7.out)
                    have HA0 : Hid ((∀ i, i < k → ansN lb i = 0) ∧ ansN lb k = 1 ∧ ∀ i, k < i → ansN lb i = 0) := Lib.hid (by rw [← HLB.out]; exact ans_one k)
                    clear ra hRa RB0 HLB
                    replace HV := Lib.hid (HM.out.pairs HV.out)
                    replace HB := Lib.hid (NewT.trans _ _ _ HB.out HM.out)
                    replace HM := Lib.hid (NewT.refl wa)
                    go_upto_region 13 with fail
                    refine wp_region_steps0 NewT [SV.eq (v), SV.eq (.int .i64 ((q : Int))), SV.eq ((.slice (some ⟨gb, 0, none⟩) (k + 1) (k + 1))), svRun l q (ansN lb)] [([(0, none)], none), ([(1, none)], none), ([(11, none)], none), ([(68, some 0), (69, some 1), (70, some 2)], none)] 92 4 rfl rfl (by kernel_rfl) NewT.trans (NewT.refl _) (Nat.le_of_ble_eq_true rfl) ⟨?_, ?_, ?_, ?_, trivial⟩ ?_
                    · exact fun a wx hT hF K hK => rely_wp rfl (opr_move (.inl rfl) (hK _ _ (NewT.refl _) hF.1))
                    · exact fun a wx hT hF K hK => rely_wp rfl (opr_move (.inl rfl) (hK _ _ (NewT.refl _) hF.1))
                    · exact fun a wx hT hF K hK => rely_wp rfl (opr_move (.inl rfl) (hK _ _ (NewT.refl _) hF.1))
                    · exact fun a wx hT hF K hK => rely_wp rfl (opr_cv (run_cv _ _ l lb q wx ((NewT.trans _ _ _ HM.out hT).pairs HV.out) ((NewT.trans _ _ _ HM.out hT).rd HR2.out) Hm.out Hlim.out) rfl Try.func14 (by kernel_rfl) (by kernel_rfl) (evs3 hF.1 hF.2.1 hF.2.2.1) hK)
                    · intro w7 k7
                      iterate 3 (intro u h; obtain rfl := Eq.symm (h (by simp)); clear h)
                      intro u71 h; have g71 := h (by simp); clear h; replace g71 := show (svRun l q (ansN lb)).pred u71 w7 from g71
                      refine relyEnd_nil rfl ?_
                      simp only [Act.put, List.setIfInBounds_toArray, List.set_cons_zero, List.set_cons_succ]
                      obtain ⟨n7, sv7, hn47, hph7, hno7, rfl, hsv7⟩ := (show RunV w7 l q (ansN lb) u71 from g71)
                      refine wpList_plain rfl (fun K hK => ?_)
                      refine opr_move (.inl rfl) (hK _ _ ?_)
                      clear hK K
                      simp only [Act.put, List.setIfInBounds_toArray, List.set_cons_zero, List.set_cons_succ]
                      refine wpList_plain rfl (fun K hK => ?_)
                      refine opr_ext (k := 0) rfl rfl rfl (hK _ _ ?_)
                      clear hK K
                      simp only [Act.put, List.setIfInBounds_toArray, List.set_cons_zero, List.set_cons_succ]
                      refine wpList_plain rfl (fun K hK => ?_)
                      refine opr_ext (k := 1) rfl rfl rfl (hK _ _ ?_)
                      clear hK K
                      simp only [Act.put, List.setIfInBounds_toArray, List.set_cons_zero, List.set_cons_succ]
                      refine wpList_plain rfl (fun K hK => ?_)
                      refine opr_ext (k := 2) rfl rfl rfl (hK _ _ ?_)
                      clear hK K
                      simp only [Act.put, List.setIfInBounds_toArray, List.set_cons_zero, List.set_cons_succ]
                      refine wpList_new (n := 10) (f := sgF sv7 (ofSt (seqA (kks l) q (ansN lb) n7).1 ((n7 : Int) + 1))) rfl rfl rfl rfl rfl rfl (by first | (simp; done) | simp [Act.put]) run_alloc_saga info_saga (sgF_one _ _ (oneP hsv7)) rfl ?_
                      intro W7 hn7 rr7
                      simp only [Act.put, List.setIfInBounds_toArray, List.set_cons_zero, List.set_cons_succ]
                      refine wpList_plain rfl (fun K hK => ?_)
                      refine opr_move (.inr rfl) (hK _ _ ?_)
                      clear hK K
                      simp only [Act.put, List.setIfInBounds_toArray, List.set_cons_zero, List.set_cons_succ]
                      refine wpList_plain rfl (fun K hK => ?_)
                      refine opr_move (.inr rfl) (hK _ _ ?_)
                      clear hK K
                      simp only [Act.put, List.setIfInBounds_toArray, List.set_cons_zero, List.set_cons_succ]
                      refine wpList_end rfl ?_
                      try simp only [Act.put, List.setIfInBounds_toArray, List.set_cons_zero, List.set_cons_succ]
                      go_simp
                      obtain ⟨gh, hgh⟩ := hid_ex (ofSt (seqA (kks l) q (ansN lb) n7).1 ((n7 : Int) + 1))
                      rw [hgh.out] at rr7
                      obtain ⟨g12, h_g12⟩ : ∃ g_, w7.heap.size = g_ := ⟨_, rfl⟩
                      rw [h_g12] at rr7
                      simp only [h_g12]
                      have hbx := NewT.trans _ _ _ HM.out k7
                      have HGg12 : Hid (g7 < g12 ∧ w7.heap.size ≤ g12) := Lib.hid (by rw [← h_g12]; exact ⟨(k7.row Rg7.out).lt, Nat.le_refl _⟩)
                      replace Rg7 := Lib.hid (hn7.row (k7.row Rg7.out))
                      replace HV := Lib.hid (hbx.pairs HV.out)
                      replace HB := Lib.hid (NewT.trans _ _ _ HB.out hbx)
                      replace HM := Lib.hid hn7
                      have Rg12 := Lib.hid rr7
                      clear hbx hn7 rr7 k7 h_g12
                      have HG2 : Hid (gh.ph = 3 ∧ (n7 : Int) = 2 * ((k : Int) + 1) + 2 * (k : Int) + 1) := Lib.hid (by
                        have he := bad_end (ks := kks l) (lim := q) (ans := ansN lb) (k := k) Hlim.out.1 (by rw [kks_len]; exact HKL.out) HK3.out HA0.out.1 HA0.out.2.1 HA0.out.2.2
                        have hnn := run_uniq hph7 hno7 (by rw [he.1]; omega) he.2
                        rw [← hgh.out, hnn]
                        exact ⟨by show (((seqA (kks l) q (ansN lb) (2 * (k + 1) + 2 * k + 1)).1.ph : Nat) : Int) = 3; rw [he.1]; rfl, by omega⟩)
                      clear hph7 hno7 hsv7 hn47
                      have HK6 : Hid (k < 6) := Lib.hid (by have := HL6.out; have := HKL.out; omega)
                      go_upto_region 14 with fail
                      obtain ⟨q1_14, Q1_14⟩ : ∃ bq_, ((gh.ph == 3) && (((n7 : Int)) == (2 * ((k : Int) + 1) + 2 * (k : Int) + 1))) = bq_ := ⟨_, rfl⟩
                      refine wp_region_steps0 NewT [SV.eq (.bool true), SV.eq (.bool true), SV.eq (.pointer (some ⟨g12, 1, none⟩)), SV.eq (.int .i64 (gh.ph)), SV.eq (.bool (gh.ph == 3)), SV.eq (.bool (gh.ph == 3)), SV.eq (.bool (gh.ph == 3)), svIf (gh.ph == 3) (SV.eq (.int .i64 ((n7 : Int)))), svIf (gh.ph == 3) (SV.eq (.int .i64 ((k : Int)))), svIf (gh.ph == 3) (SV.eq (.int .i64 ((k : Int) + 1))), svIf (gh.ph == 3) (SV.eq (.int .i64 (2 * ((k : Int) + 1)))), svIf (gh.ph == 3) (SV.eq (.int .i64 ((k : Int)))), svIf (gh.ph == 3) (SV.eq (.int .i64 (2 * (k : Int)))), svIf (gh.ph == 3) (SV.eq (.int .i64 (2 * ((k : Int) + 1) + 2 * (k : Int)))), svIf (gh.ph == 3) (SV.eq (.int .i64 (2 * ((k : Int) + 1) + 2 * (k : Int) + 1))), svIf (gh.ph == 3) (SV.eq (.bool (((n7 : Int)) == (2 * ((k : Int) + 1) + 2 * (k : Int) + 1)))), SV.eq (.bool (q1_14)), SV.eq (.bool (q1_14))] [([(14, none)], none), ([(75, some 0)], none), ([(12, none), (76, some 1)], some (76, true)), ([(77, some 2), (76, some 1)], some (76, true)), ([(78, some 3), (76, some 1)], some (76, true)), ([(76, some 1), (79, some 4)], none), ([(80, some 5)], none), ([(13, none), (81, some 6)], some (81, true)), ([(10, none), (81, some 6)], some (81, true)), ([(83, some 8), (81, some 6)], some (81, true)), ([(84, some 9), (81, some 6)], some (81, true)), ([(10, none), (81, some 6)], some (81, true)), ([(86, some 11), (81, some 6)], some (81, true)), ([(85, some 10), (87, some 12), (81, some 6)], some (81, true)), ([(88, some 13), (81, some 6)], some (81, true)), ([(82, some 7), (89, some 14), (81, some 6)], some (81, true)), ([(81, some 6), (90, some 15)], none), ([(91, some 16)], none)] 92 18 rfl rfl (by kernel_rfl) NewT.trans (NewT.refl _) (Nat.le_of_ble_eq_true rfl) ⟨?_, ?_, ?_, ?_, ?_, ?_, ?_, ?_, ?_, ?_, ?_, ?_, ?_, ?_, ?_, ?_, ?_, ?_, trivial⟩ ?_
                      · exact fun a wx hT hF K hK => rely_wp rfl (opr_move (.inl rfl) (hK _ _ (NewT.refl _) hF.1))
                      · exact fun a wx hT hF K hK => rely_wp rfl (opr_move (.inl rfl) (hK _ _ (NewT.refl _) hF.1))
                      · exact fun a wx hT hF K hK => rely_wp (rely_guard hF.2.1) (opr_fldU1 rfl hF.1 (hK _ _ (NewT.refl _) rfl))
                      · exact fun a wx hT hF K hK => rely_wp (rely_guard hF.2.1) (opr_ldI (hT.row Rg12.out) (by decide) rfl rfl hF.1 (hK _ _ (NewT.refl _) rfl))
                      · exact fun a wx hT hF K hK => rely_wp (rely_guard hF.2.1) (opr_cmp (b := gh.ph == 3) (.inl ⟨rfl, rfl⟩) Try.underlying3 rfl hF.1 rfl (hK _ _ (NewT.refl _) rfl))
                      · exact fun a wx hT hF K hK => rely_wp rfl (opr_pick_true rfl hF.1 (hK _ _ (NewT.refl _) hF.2.1))
                      · exact fun a wx hT hF K hK => rely_wp rfl (opr_move (.inl rfl) (hK _ _ (NewT.refl _) hF.1))
                      · exact fun a wx hT hF K hK => rely_if (rely_gt hF.2.1) (NewT.refl _) hK fun hE hK => opr_move (.inl rfl) (hK _ _ (NewT.refl _) hF.1)
                      · exact fun a wx hT hF K hK => rely_if (rely_gt hF.2.1) (NewT.refl _) hK fun hE hK => opr_move (.inl rfl) (hK _ _ (NewT.refl _) hF.1)
                      · exact fun a wx hT hF K hK => rely_if (rely_gt hF.2.1) (NewT.refl _) hK fun hE hK => opr_add (r := (k : Int) + 1) Try.underlying3 (by have := HK6.out; unfold wrap64; omega) rfl (hF.1 hE) rfl (hK _ _ (NewT.refl _) rfl)
                      · exact fun a wx hT hF K hK => rely_if (rely_gt hF.2.1) (NewT.refl _) hK fun hE hK => opr_mul (r := 2 * ((k : Int) + 1)) Try.underlying3 (by have := HK6.out; unfold wrap64; omega) rfl rfl (hF.1 hE) (hK _ _ (NewT.refl _) rfl)
                      · exact fun a wx hT hF K hK => rely_if (rely_gt hF.2.1) (NewT.refl _) hK fun hE hK => opr_move (.inl rfl) (hK _ _ (NewT.refl _) hF.1)
                      · exact fun a wx hT hF K hK => rely_if (rely_gt hF.2.1) (NewT.refl _) hK fun hE hK => opr_mul (r := 2 * (k : Int)) Try.underlying3 (by have := HK6.out; unfold wrap64; omega) rfl rfl (hF.1 hE) (hK _ _ (NewT.refl _) rfl)
                      · exact fun a wx hT hF K hK => rely_if (rely_gt hF.2.2.1) (NewT.refl _) hK fun hE hK => opr_add (r := 2 * ((k : Int) + 1) + 2 * (k : Int)) Try.underlying3 (by have := HK6.out; unfold wrap64; omega) rfl (hF.1 hE) (hF.2.1 hE) (hK _ _ (NewT.refl _) rfl)
                      · exact fun a wx hT hF K hK => rely_if (rely_gt hF.2.1) (NewT.refl _) hK fun hE hK => opr_add (r := 2 * ((k : Int) + 1) + 2 * (k : Int) + 1) Try.underlying3 (by have := HK6.out; unfold wrap64; omega) rfl (hF.1 hE) rfl (hK _ _ (NewT.refl _) rfl)
                      · exact fun a wx hT hF K hK => rely_if (rely_gt hF.2.2.1) (NewT.refl _) hK fun hE hK => opr_cmp (b := ((n7 : Int)) == (2 * ((k : Int) + 1) + 2 * (k : Int) + 1)) (.inl ⟨rfl, rfl⟩) Try.underlying3 rfl (hF.1 hE) (hF.2.1 hE) (hK _ _ (NewT.refl _) rfl)
                      · exact fun a wx hT hF K hK => rely_wp rfl (opr_pick_b rfl hF.1 (fun hb => hK _ _ (NewT.refl _) (pn_and1 Q1_14 (hF.2.1 hb) hb)) (fun hb => hK _ _ (NewT.refl _) (pn_and0 Q1_14 hb)))
                      · exact fun a wx hT hF K hK => rely_wp rfl (opr_move (.inr rfl) (hK _ _ (NewT.refl _) hF.1))
                      · intro w8 k8
                        iterate 7 (intro u h; obtain rfl := Eq.symm (h (by simp)); clear h)
                        iterate 9 (intro _ _)
                        iterate 2 (intro u h; obtain rfl := Eq.symm (h (by simp)); clear h)
                        subst Q1_14
                        refine relyEnd_nil rfl ?_
                        refine wpList_end rfl ?_
                        simp only [Act.put, List.setIfInBounds_toArray, List.set_cons_zero, List.set_cons_succ]
                        go_simp
                        replace Rg7 := Lib.hid (k8.row Rg7.out)
                        replace Rg12 := Lib.hid (k8.row Rg12.out)
                        replace HM := Lib.hid (NewT.trans _ _ _ HM.out k8)
                        clear k8
                        go_wp2
                        go_ret
                        exact ⟨by show Ending.returned (.bool _) = _; rw [HG2.out.1, HG2.out.2]; simp, (NewT.trans _ _ _ HB.out HM.out).out⟩
                  · skip
                    go_wp2
                    go_ret
                    exact ⟨rfl, (NewT.trans _ _ _ HB.out HM.out).out⟩
            · exfalso
              rw [HG1.out.1, HG1.out.2] at hq6
              simp at hq6
      · skip
        go_wp2
        go_ret
        exact ⟨rfl, (NewT.trans _ _ _ HB.out HM.out).out⟩
end Go.Proofs.Ytfmahpgfeoafiaa
