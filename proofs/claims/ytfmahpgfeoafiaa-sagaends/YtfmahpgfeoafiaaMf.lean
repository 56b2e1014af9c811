/- The laws' ends: a run is over at one place. -/
import Derived.Test.YtfmahpgfeoafiaaMe
set_option linter.all false
namespace Go.Proofs.Ytfmahpgfeoafiaa
open Go Go.RowKit
set_option maxRecDepth 8000
set_option linter.all false
theorem run_uniq {ks : List Int} {lim : Nat} {ans : Nat → Nat} {n m : Nat} (h1 : 2 ≤ (seqA ks lim ans n).1.ph) (h2 : ∀ k, k < n → (seqA ks lim ans k).1.ph < 2) (h3 : 2 ≤ (seqA ks lim ans m).1.ph) (h4 : ∀ k, k < m → (seqA ks lim ans k).1.ph < 2) : n = m := by
  rcases Nat.lt_trichotomy n m with h | h | h
  · have := h4 n h; omega
  · exact h
  · have := h2 m h; omega
theorem rdV_nilZ (w : World) : RdV w [] (.slice none 0 0) [] := ⟨none, 0, rfl, Nat.le_refl _, by unfold maxLen; omega, fun h => absurd h (by simp)⟩
/-- A row of bytes reads as a list. -/
theorem rdV_row {W : World} {g t n : Nat} {f : Nat → UInt8} (h : W.rowIs g t n (bF f)) (hn : n ≤ 1000000) : RdV W [] (.slice (some ⟨g, 0, none⟩) n n) ((List.range n).map f) := rd_row h (by simp) hn
theorem ans_rep : ∀ i : Fin 30, ansN (List.replicate 30 2) i.val = 2 := by decide +kernel
theorem ans_none : ansN [] = fun _ => 0 := by funext i; unfold ansN; simp
theorem opr_idxU8 {a : Act} {w : World} {o : Oper} {K : Act → World → Prop} {Q : Exit → Act → World → Prop} {x y : Operand} {b n c k : Nat} (hk : k < n) (ho : o.op = .indexAddr 29 x y) (hx : a.eval x = .slice (some ⟨b, 0, none⟩) n c) (hy : a.eval y = .int .i64 (k : Int)) (h : K (a.put o.dst (.pointer (some ⟨b, k, none⟩))) w) : o.wp Try.prog a w K Q := by
  obtain ⟨dst, op, type, pos, after, guard⟩ := o
  simp only at ho
  subst ho
  refine opr_val (s := Instr.indexAt 29 (a.eval x) (a.eval y)) (v := .pointer (some ⟨b, k, none⟩)) rfl ?_ h
  rw [hx, hy]
  have hsz : (sizeOf 5).run Try.prog w = .ok 1 w := by
    have hs := info5s
    cases hq : Try.prog.info? 5 with
    | none => simp [hq] at hs
    | some i => simp [hq] at hs; simp [sizeOf, typeInfo, hq, hs]
  simp [Instr.indexAt, asIntOf, run_underlying Try.underlying29, hk, Addr.add_mid]
theorem info_u81 : (Try.prog.info? 5).map (·.size) = some 1 := by kernel_rfl
end Go.Proofs.Ytfmahpgfeoafiaa
/- The law SagaEnds, walked: whatever answers come, a saga is over behind so many records, and how it stands then. -/
namespace Go.Proofs.Ytfmahpgfeoafiaa
open Go Go.RowKit
set_option maxRecDepth 8000
set_option linter.all false
set_option maxHeartbeats 8000000 in
theorem SagaEnds_walk (v bv : Value) (l : List (Int × Int)) (lb : List UInt8) (lim : Int) (w : World) (h : RdP w v l) (hb : RdV w [] bv lb) : Calls Try.prog 4 #[v, .int .i64 lim, bv] w fun e w' => e = .returned (.bool true) ∧ Below w.heap.size w w' := by
  have HV := Lib.hid h
  have HBV := Lib.hid hb
  clear h hb
  go_enter Try.func4, Try.ntmps4
  go_upto_region 1 with fail
  have HB := Lib.hid (NewT.refl w)
  have HM := Lib.hid (NewT.refl w)
  refine wp_region_steps0 NewT [SV.eq (.bool true), SV.eq (.bool false)] [([], none), ([(13, some 0)], none)] 128 2 rfl rfl (by kernel_rfl) NewT.trans (NewT.refl _) (Nat.le_of_ble_eq_true rfl) ⟨?_, ?_, trivial⟩ ?_
  · exact fun a wx hT hF K hK => rely_wp rfl (opr_cv (alive11_c wx) rfl Try.func8 (by kernel_rfl) (by kernel_rfl) evs0 hK)
  · exact fun a wx hT hF K hK => rely_wp rfl (opr_not rfl hF.1 (hK _ _ (NewT.refl _) rfl))
  · intro w1 k1
    iterate 2 (intro u h; obtain rfl := Eq.symm (h (by simp)); clear h)
    refine relyEnd_nil rfl ?_
    refine wpList_end rfl ?_
    simp only [Act.put, List.setIfInBounds_toArray, List.set_cons_zero, List.set_cons_succ]
    go_simp
    replace HM := Lib.hid (NewT.trans _ _ _ HM.out k1)
    clear k1
    go_upto_region 3 with fail
    obtain ⟨q1_3, Q1_3⟩ : ∃ bq_, ((!(mayL l)) || (decide (lim < 1))) = bq_ := ⟨_, rfl⟩
    obtain ⟨q2_3, Q2_3⟩ : ∃ bq_, ((q1_3 || (decide (9 < lim))) || (decide (300 < ((List.length (lb) : Int))))) = bq_ := ⟨_, rfl⟩
    refine wp_region_steps0 NewT [SV.eq (v), SV.eq (.bool (mayL l)), SV.eq (.bool (!(mayL l))), SV.eq (.bool (!(mayL l))), svIf ((!(!(mayL l)))) (SV.eq (.int .i64 (lim))), svIf ((!(!(mayL l)))) (SV.eq (.bool (decide (lim < 1)))), SV.eq (.bool (q1_3)), SV.eq (.bool (q1_3)), svIf ((!q1_3)) (SV.eq (.int .i64 (lim))), svIf ((!q1_3)) (SV.eq (.bool (decide (9 < lim)))), SV.eq (.bool (q1_3 || (decide (9 < lim)))), SV.eq (.bool (q1_3 || (decide (9 < lim)))), svIf ((!(q1_3 || (decide (9 < lim))))) (SV.eq (bv)), svIf ((!(q1_3 || (decide (9 < lim))))) (SV.eq (.int .i64 ((List.length (lb) : Int)))), svIf ((!(q1_3 || (decide (9 < lim))))) (SV.eq (.bool (decide (300 < ((List.length (lb) : Int)))))), SV.eq (.bool (q2_3))] [([(0, none)], none), ([(15, some 0)], none), ([(16, some 1)], none), ([(17, some 2)], none), ([(1, none), (18, some 3)], some (18, false)), ([(19, some 4), (18, some 3)], some (18, false)), ([(18, some 3), (20, some 5)], none), ([(21, some 6)], none), ([(1, none), (22, some 7)], some (22, false)), ([(23, some 8), (22, some 7)], some (22, false)), ([(22, some 7), (24, some 9)], none), ([(25, some 10)], none), ([(2, none), (26, some 11)], some (26, false)), ([(27, some 12), (26, some 11)], some (26, false)), ([(28, some 13), (26, some 11)], some (26, false)), ([(26, some 11), (29, some 14)], none)] 128 16 rfl rfl (by kernel_rfl) NewT.trans (NewT.refl _) (Nat.le_of_ble_eq_true rfl) ⟨?_, ?_, ?_, ?_, ?_, ?_, ?_, ?_, ?_, ?_, ?_, ?_, ?_, ?_, ?_, ?_, trivial⟩ ?_
    · exact fun a wx hT hF K hK => rely_wp rfl (opr_move (.inl rfl) (hK _ _ (NewT.refl _) hF.1))
    · exact fun a wx hT hF K hK => rely_wp rfl (opr_cv (gMay_cv _ l wx ((NewT.trans _ _ _ HM.out hT).pairs HV.out)) rfl Try.func9 (by kernel_rfl) (by kernel_rfl) (evs1 hF.1) hK)
    · exact fun a wx hT hF K hK => rely_wp rfl (opr_not rfl hF.1 (hK _ _ (NewT.refl _) rfl))
    · exact fun a wx hT hF K hK => rely_wp rfl (opr_move (.inl rfl) (hK _ _ (NewT.refl _) hF.1))
    · exact fun a wx hT hF K hK => rely_if (rely_gf hF.2.1) (NewT.refl _) hK fun hE hK => opr_move (.inl rfl) (hK _ _ (NewT.refl _) hF.1)
    · exact fun a wx hT hF K hK => rely_if (rely_gf hF.2.1) (NewT.refl _) hK fun hE hK => opr_cmp (b := decide (lim < 1)) (.inr (.inr (.inr (.inl ⟨rfl, rfl⟩)))) Try.underlying3 rfl (hF.1 hE) rfl (hK _ _ (NewT.refl _) rfl)
    · exact fun a wx hT hF K hK => rely_wp rfl (opr_pick_b rfl hF.1 (fun hb => hK _ _ (NewT.refl _) (pn_or1 Q1_3 hb)) (fun hb => hK _ _ (NewT.refl _) (pn_or0 Q1_3 (hF.2.1 (bnot hb)) hb)))
    · exact fun a wx hT hF K hK => rely_wp rfl (opr_move (.inl rfl) (hK _ _ (NewT.refl _) hF.1))
    · exact fun a wx hT hF K hK => rely_if (rely_gf hF.2.1) (NewT.refl _) hK fun hE hK => opr_move (.inl rfl) (hK _ _ (NewT.refl _) hF.1)
    · exact fun a wx hT hF K hK => rely_if (rely_gf hF.2.1) (NewT.refl _) hK fun hE hK => opr_cmp (b := decide (9 < lim)) (.inr (.inr (.inr (.inr (.inl ⟨rfl, rfl⟩))))) Try.underlying3 rfl (hF.1 hE) rfl (hK _ _ (NewT.refl _) rfl)
    · exact fun a wx hT hF K hK => rely_wp rfl (opr_pick_b rfl hF.1 (fun hb => hK _ _ (NewT.refl _) (pk_or1 hb)) (fun hb => hK _ _ (NewT.refl _) (pk_or0 (hF.2.1 (bnot hb)) hb)))
    · exact fun a wx hT hF K hK => rely_wp rfl (opr_move (.inl rfl) (hK _ _ (NewT.refl _) hF.1))
    · exact fun a wx hT hF K hK => rely_if (rely_gf hF.2.1) (NewT.refl _) hK fun hE hK => opr_move (.inl rfl) (hK _ _ (NewT.refl _) hF.1)
    · intro a wx hT hF K hK
      obtain ⟨f27, f26, _⟩ := hF
      have f27 : ((!(q1_3 || (decide (9 < lim))))) = true → a.tmps.getD 27 undef = bv := f27
      have f26 : a.tmps.getD 26 undef = .bool (q1_3 || (decide (9 < lim))) := f26
      refine rely_if (rely_gf f26) (NewT.refl _) hK (fun hE hK => ?_)
      exact opr_len_rd rfl (by rw [eval_tmp, (f27 hE)]; exact ((NewT.trans _ _ _ HM.out hT).rd HBV.out)) (hK _ _ (NewT.refl _) rfl)
    · exact fun a wx hT hF K hK => rely_if (rely_gf hF.2.1) (NewT.refl _) hK fun hE hK => opr_cmp (b := decide (300 < ((List.length (lb) : Int)))) (.inr (.inr (.inr (.inr (.inl ⟨rfl, rfl⟩))))) Try.underlying3 rfl (hF.1 hE) rfl (hK _ _ (NewT.refl _) rfl)
    · exact fun a wx hT hF K hK => rely_wp rfl (opr_pick_b rfl hF.1 (fun hb => hK _ _ (NewT.refl _) (pn_or1 Q2_3 hb)) (fun hb => hK _ _ (NewT.refl _) (pn_or0 Q2_3 (hF.2.1 (bnot hb)) hb)))
    · intro w2 k2
      iterate 4 (intro u h; obtain rfl := Eq.symm (h (by simp)); clear h)
      iterate 2 (intro _ _)
      iterate 2 (intro u h; obtain rfl := Eq.symm (h (by simp)); clear h)
      iterate 2 (intro _ _)
      iterate 2 (intro u h; obtain rfl := Eq.symm (h (by simp)); clear h)
      iterate 3 (intro _ _)
      intro u h; obtain rfl := Eq.symm (h (by simp)); clear h
      subst Q2_3 Q1_3
      refine relyEnd_nil rfl ?_
      refine wpList_end rfl ?_
      simp only [Act.put, List.setIfInBounds_toArray, List.set_cons_zero, List.set_cons_succ]
      go_simp
      replace HM := Lib.hid (NewT.trans _ _ _ HM.out k2)
      clear k2
      cases hq : (((((!(mayL l)) || (decide (lim < 1))) || (decide (9 < lim))) || (decide (300 < ((List.length (lb) : Int))))))
      · have hq' := hq
        simp only [Bool.or_eq_false_iff, Bool.not_eq_false', decide_eq_false_iff_not] at hq'
        obtain ⟨q, rfl⟩ : ∃ q : Nat, lim = q := ⟨lim.toNat, by omega⟩
        have Hm : Hid (mayL l = true) := Lib.hid (by have := hq'.1.1.1; simpa using this)
        have Hlim : Hid (1 ≤ q ∧ q ≤ 9) := Lib.hid (by omega)
        have HL6 := Lib.hid (may_len Hm.out)
        clear hq hq'
        go_upto_region 5 with fail
        refine wp_region_steps0 NewT [SV.eq (v), SV.eq (.int .i64 ((q : Int))), SV.eq (bv), svRun l q (ansN lb)] [([(0, none)], none), ([(1, none)], none), ([(2, none)], none), ([(32, some 0), (33, some 1), (34, some 2)], none)] 128 4 rfl rfl (by kernel_rfl) NewT.trans (NewT.refl _) (Nat.le_of_ble_eq_true rfl) ⟨?_, ?_, ?_, ?_, trivial⟩ ?_
        · exact fun a wx hT hF K hK => rely_wp rfl (opr_move (.inl rfl) (hK _ _ (NewT.refl _) hF.1))
        · exact fun a wx hT hF K hK => rely_wp rfl (opr_move (.inl rfl) (hK _ _ (NewT.refl _) hF.1))
        · exact fun a wx hT hF K hK => rely_wp rfl (opr_move (.inl rfl) (hK _ _ (NewT.refl _) hF.1))
        · exact fun a wx hT hF K hK => rely_wp rfl (opr_cv (run_cv _ _ l lb q wx ((NewT.trans _ _ _ HM.out hT).pairs HV.out) ((NewT.trans _ _ _ HM.out hT).rd HBV.out) Hm.out Hlim.out) rfl Try.func14 (by kernel_rfl) (by kernel_rfl) (evs3 hF.1 hF.2.1 hF.2.2.1) hK)
        · intro w3 k3
          iterate 3 (intro u h; obtain rfl := Eq.symm (h (by simp)); clear h)
          intro u35 h; have g35 := h (by simp); clear h; replace g35 := show (svRun l q (ansN lb)).pred u35 w3 from g35
          refine relyEnd_nil rfl ?_
          simp only [Act.put, List.setIfInBounds_toArray, List.set_cons_zero, List.set_cons_succ]
          obtain ⟨n3, sv3, hn43, hph3, hno3, rfl, hsv3⟩ := (show RunV w3 l q (ansN lb) u35 from g35)
          refine wpList_plain rfl (fun K hK => ?_)
          refine opr_move (.inl rfl) (hK _ _ ?_)
          clear hK K
          simp only [Act.put, List.setIfInBounds_toArray, List.set_cons_zero, List.set_cons_succ]
          refine wpList_plain rfl (fun K hK => ?_)
          refine opr_ext (k := 0) rfl rfl rfl (hK _ _ ?_)
          clear hK K
          simp only [Act.put, List.setIfInBounds_toArray, List.set_cons_zero, List.set_cons_succ]
          refine wpList_plain rfl (fun K hK => ?_)
          refine opr_ext (k := 1) rfl rfl rfl (hK _ _ ?_)
          clear hK K
          simp only [Act.put, List.setIfInBounds_toArray, List.set_cons_zero, List.set_cons_succ]
          refine wpList_plain rfl (fun K hK => ?_)
          refine opr_ext (k := 2) rfl rfl rfl (hK _ _ ?_)
          clear hK K
          simp only [Act.put, List.setIfInBounds_toArray, List.set_cons_zero, List.set_cons_succ]
          refine wpList_new (n := 10) (f := sgF sv3 (ofSt (seqA (kks l) q (ansN lb) n3).1 ((n3 : Int) + 1))) rfl rfl rfl rfl rfl rfl (by first | (simp; done) | simp [Act.put]) run_alloc_saga info_saga (sgF_one _ _ (oneP hsv3)) rfl ?_
          intro W3 hn3 rr3
          simp only [Act.put, List.setIfInBounds_toArray, List.set_cons_zero, List.set_cons_succ]
          refine wpList_plain rfl (fun K hK => ?_)
          refine opr_move (.inr rfl) (hK _ _ ?_)
          clear hK K
          simp only [Act.put, List.setIfInBounds_toArray, List.set_cons_zero, List.set_cons_succ]
          refine wpList_plain rfl (fun K hK => ?_)
          refine opr_move (.inr rfl) (hK _ _ ?_)
          clear hK K
          simp only [Act.put, List.setIfInBounds_toArray, List.set_cons_zero, List.set_cons_succ]
          refine wpList_end rfl ?_
          try simp only [Act.put, List.setIfInBounds_toArray, List.set_cons_zero, List.set_cons_succ]
          go_simp
          obtain ⟨s, hs⟩ := hid_ex (seqA (kks l) q (ansN lb) n3).1
          have HI : Hid (Inv (kks l) q s) := Lib.hid (by rw [← hs.out]; exact seq_inv (may_kinds Hm.out) n3)
          rw [hs.out] at rr3 hph3
          obtain ⟨gg, hgg⟩ := hid_ex (ofSt s ((n3 : Int) + 1))
          rw [hgg.out] at rr3
          obtain ⟨g7, h_g7⟩ : ∃ g_, w3.heap.size = g_ := ⟨_, rfl⟩
          rw [h_g7] at rr3
          simp only [h_g7]
          have hbx := NewT.trans _ _ _ HM.out k3
          have HGg7 : Hid (w3.heap.size ≤ g7) := Lib.hid (by rw [← h_g7]; exact Nat.le_refl _)
          replace HV := Lib.hid (hbx.pairs HV.out)
          replace HBV := Lib.hid (hbx.rd HBV.out)
          replace HB := Lib.hid (NewT.trans _ _ _ HB.out hbx)
          replace HM := Lib.hid hn3
          have Rg7 := Lib.hid rr3
          clear hbx hn3 rr3 k3 h_g7
          have HSN := Lib.hid hsv3
          have HPH := Lib.hid hph3
          obtain ⟨P, hP⟩ : ∃ P : Int, (4 * ((q : Int) + 1)) * (l.length : Int) = P := ⟨_, rfl⟩
          have HP : Hid (0 ≤ P ∧ P ≤ 240) := Lib.hid (by
            have h1 := Hlim.out
            have h2 := HL6.out
            have h3 : (4 * (q + 1)) * l.length ≤ 40 * 6 := Nat.mul_le_mul (by omega) h2.2
            rw [← hP]
            have e : (4 * ((q : Int) + 1)) * (l.length : Int) = (((4 * (q + 1)) * l.length : Nat) : Int) := by simp
            rw [e]; omega)
          have HNP : Hid ((n3 : Int) ≤ P + 1) := Lib.hid (by
            have h3 : (4 * q) * l.length ≤ (4 * (q + 1)) * l.length := Nat.mul_le_mul_right _ (by omega)
            have e : (4 * ((q : Int) + 1)) * (l.length : Int) = (((4 * (q + 1)) * l.length : Nat) : Int) := by simp
            rw [← hP, e]; omega)
          have HPE := Lib.hid hP
          clear hP hph3 hno3 hsv3 hn43
          go_upto_region 6 with fail
          refine wp_region_steps0 NewT [SV.eq (.bool true), SV.eq (.bool false), SV.eq (.bool false), SV.eq (.int .i64 ((n3 : Int))), SV.eq (.int .i64 ((q : Int))), SV.eq (.int .i64 ((q : Int) + 1)), SV.eq (.int .i64 (4 * ((q : Int) + 1))), SV.eq (v), SV.eq (.int .i64 ((List.length (l) : Int))), SV.eq (.int .i64 (P)), SV.eq (.int .i64 (P + 1)), SV.eq (.bool (decide ((P + 1) < ((n3 : Int))))), SV.eq (.bool (decide ((P + 1) < ((n3 : Int)))))] [([(9, none)], none), ([(39, some 0)], none), ([(40, some 1)], none), ([(8, none), (41, some 2)], some (41, false)), ([(1, none), (41, some 2)], some (41, false)), ([(43, some 4), (41, some 2)], some (41, false)), ([(44, some 5), (41, some 2)], some (41, false)), ([(0, none), (41, some 2)], some (41, false)), ([(46, some 7), (41, some 2)], some (41, false)), ([(45, some 6), (47, some 8), (41, some 2)], some (41, false)), ([(48, some 9), (41, some 2)], some (41, false)), ([(42, some 3), (49, some 10), (41, some 2)], some (41, false)), ([(41, some 2), (50, some 11)], none)] 128 13 rfl rfl (by kernel_rfl) NewT.trans (NewT.refl _) (Nat.le_of_ble_eq_true rfl) ⟨?_, ?_, ?_, ?_, ?_, ?_, ?_, ?_, ?_, ?_, ?_, ?_, ?_, trivial⟩ ?_
          · exact fun a wx hT hF K hK => rely_wp rfl (opr_move (.inl rfl) (hK _ _ (NewT.refl _) hF.1))
          · exact fun a wx hT hF K hK => rely_wp rfl (opr_not rfl hF.1 (hK _ _ (NewT.refl _) rfl))
          · exact fun a wx hT hF K hK => rely_wp rfl (opr_move (.inl rfl) (hK _ _ (NewT.refl _) hF.1))
          · exact fun a wx hT hF K hK => rely_wp (rely_guard hF.2.1) (opr_move (.inl rfl) (hK _ _ (NewT.refl _) hF.1))
          · exact fun a wx hT hF K hK => rely_wp (rely_guard hF.2.1) (opr_move (.inl rfl) (hK _ _ (NewT.refl _) hF.1))
          · exact fun a wx hT hF K hK => rely_wp (rely_guard hF.2.1) (opr_add (r := (q : Int) + 1) Try.underlying3 (by have := Hlim.out; unfold wrap64; omega) rfl hF.1 rfl (hK _ _ (NewT.refl _) rfl))
          · exact fun a wx hT hF K hK => rely_wp (rely_guard hF.2.1) (opr_mul (r := 4 * ((q : Int) + 1)) Try.underlying3 (by have := Hlim.out; unfold wrap64; omega) rfl rfl hF.1 (hK _ _ (NewT.refl _) rfl))
          · exact fun a wx hT hF K hK => rely_wp (rely_guard hF.2.1) (opr_move (.inl rfl) (hK _ _ (NewT.refl _) hF.1))
          · intro a wx hT hF K hK
            obtain ⟨f46, f41, _⟩ := hF
            have f46 : a.tmps.getD 46 undef = v := f46
            have f41 : a.tmps.getD 41 undef = .bool false := f41
            refine rely_wp (rely_guard f41) ?_
            exact opr_len_pairs rfl (by rw [eval_tmp, f46]; exact ((NewT.trans _ _ _ HM.out hT).pairs HV.out)) (hK _ _ (NewT.refl _) rfl)
          · exact fun a wx hT hF K hK => rely_wp (rely_guard hF.2.2.1) (opr_mul (r := P) Try.underlying3 (by rw [HPE.out]; have := HP.out; unfold wrap64; omega) rfl hF.1 hF.2.1 (hK _ _ (NewT.refl _) rfl))
          · exact fun a wx hT hF K hK => rely_wp (rely_guard hF.2.1) (opr_add (r := P + 1) Try.underlying3 (by have := HP.out; unfold wrap64; omega) rfl hF.1 rfl (hK _ _ (NewT.refl _) rfl))
          · exact fun a wx hT hF K hK => rely_wp (rely_guard hF.2.2.1) (opr_cmp (b := decide ((P + 1) < ((n3 : Int)))) (.inr (.inr (.inr (.inr (.inl ⟨rfl, rfl⟩))))) Try.underlying3 rfl hF.1 hF.2.1 (hK _ _ (NewT.refl _) rfl))
          · exact fun a wx hT hF K hK => rely_wp rfl (opr_pick_false rfl hF.1 (hK _ _ (NewT.refl _) hF.2.1))
          · intro w4 k4
            iterate 13 (intro u h; obtain rfl := Eq.symm (h (by simp)); clear h)
            refine relyEnd_nil rfl ?_
            refine wpList_end rfl ?_
            simp only [Act.put, List.setIfInBounds_toArray, List.set_cons_zero, List.set_cons_succ]
            go_simp
            replace Rg7 := Lib.hid (k4.row Rg7.out)
            replace HM := Lib.hid (NewT.trans _ _ _ HM.out k4)
            clear k4
            cases hq6 : (decide ((P + 1) < ((n3 : Int))))
            · skip
              clear hq6
              obtain ⟨len, hlen⟩ : ∃ n, l.length = n := ⟨_, rfl⟩
              obtain ⟨A0, cap, rfl, hcap⟩ : ∃ A0 cap, v = .slice A0 len cap ∧ True := by obtain ⟨A0, c, e, _⟩ := HV.out; exact ⟨A0, c, by rw [e, hlen], trivial⟩
              have HLN := Lib.hid hlen
              have HBN : Hid ((0 ≤ gg.dn ∧ gg.dn ≤ 1000000) ∧ (0 ≤ gg.un ∧ gg.un ≤ 1000000)) := Lib.hid (by rw [← hgg.out]; exact ⟨(small_st Hm.out HI.out).1, (small_st Hm.out HI.out).2.1⟩)
              clear hlen hcap
              go_wp2
              go_loopw [10] (fun i wr => ∃ k : Nat, k ≤ len ∧ i = .int .i64 (k : Int) ∧ Hid (NewT w3 wr) ∧ Hid (wr.rowIs g7 27 10 (sgF sv3 gg))) (fun i _ => len - (intOf i).toNat)
              case atStart => exact ⟨0, by omega, rfl, HM, Rg7⟩
              case round =>
                clear HM Rg7
                obtain ⟨k, hk, rfl, HM, Rg7⟩ := hrel
                by_cases hlt : k < len
                · have HKL : Hid (k < l.length) := Lib.hid (by rw [HLN.out]; exact hlt)
                  obtain ⟨d, HDD⟩ := hid_ex (l.getD k (0, 0))
                  have it : (k : Int) < (len : Int) := by omega
                  have HK9 : Hid (0 ≤ (k : Int) ∧ (k : Int) ≤ 100) := Lib.hid (by have := HL6.out; have := HKL.out; omega)
                  go_upto_region 11 with fail
                  refine wp_region_rely (NewT) [SV.eq (.pointer (some ⟨g7, 6, none⟩)), SV.eq (.int .i64 (gg.dn)), SV.eq (.int .i64 ((k : Int))), SV.eq (.bool (hasI gg.dn ((k : Int)))), SV.eq (.pointer (some ⟨g7, 7, none⟩)), SV.eq (.int .i64 (gg.un)), SV.eq (.int .i64 ((k : Int))), SV.eq (.bool (hasI gg.un ((k : Int)))), SV.eq (.bool (hasI gg.dn ((k : Int))))] [([(7, none)], none), ([(58, some 0)], none), ([(10, none)], none), ([(59, some 1), (60, some 2)], none), ([(7, none)], none), ([(62, some 4)], none), ([(10, none)], none), ([(63, some 5), (64, some 6)], none), ([(61, some 3)], none)] 128 rfl (by kernel_rfl) rfl (by kernel_rfl) (by kernel_rfl) rfl NewT.trans (NewT.drew _) (Nat.le_of_ble_eq_true rfl) ⟨?_, ?_, ?_, ?_, ?_, ?_, ?_, ?_, ?_, trivial⟩ ?_
                  · exact fun a wx hT hF K hK => rely_wp rfl (opr_fldU6 rfl hF.1 (hK _ _ (NewT.refl _) rfl))
                  · exact fun a wx hT hF K hK => rely_wp rfl (opr_ldI (hT.row Rg7.out) (by decide) rfl rfl hF.1 (hK _ _ (NewT.refl _) rfl))
                  · exact fun a wx hT hF K hK => rely_wp rfl (opr_move (.inl rfl) (hK _ _ (NewT.refl _) hF.1))
                  · exact fun a wx hT hF K hK => rely_wp rfl (opr_cv (rHas_cv gg.dn ((k : Int)) wx (HBN.out.1) (HK9.out)) rfl Try.func15 (by kernel_rfl) (by kernel_rfl) (evs2 hF.1 hF.2.1) hK)
                  · exact fun a wx hT hF K hK => rely_wp rfl (opr_fldU7 rfl hF.1 (hK _ _ (NewT.refl _) rfl))
                  · exact fun a wx hT hF K hK => rely_wp rfl (opr_ldI (hT.row Rg7.out) (by decide) rfl rfl hF.1 (hK _ _ (NewT.refl _) rfl))
                  · exact fun a wx hT hF K hK => rely_wp rfl (opr_move (.inl rfl) (hK _ _ (NewT.refl _) hF.1))
                  · exact fun a wx hT hF K hK => rely_wp rfl (opr_cv (rHas_cv gg.un ((k : Int)) wx (HBN.out.2) (HK9.out)) rfl Try.func15 (by kernel_rfl) (by kernel_rfl) (evs2 hF.1 hF.2.1) hK)
                  · exact fun a wx hT hF K hK => rely_wp rfl (opr_move (.inr rfl) (hK _ _ (NewT.refl _) hF.1))
                  · intro w5 k5
                    iterate 9 (intro u h; obtain rfl := Eq.symm (h (by simp)); clear h)
                    refine relyEnd_nil rfl ?_
                    simp only [Act.put, List.setIfInBounds_toArray, List.set_cons_zero, List.set_cons_succ]
                    refine opr_move (.inr rfl) ?_
                    go_simp
                    replace Rg7 := Lib.hid (k5.row Rg7.out)
                    replace HM := Lib.hid (NewT.trans _ _ _ HM.out k5)
                    clear k5
                    obtain ⟨hd, hhd⟩ : ∃ b, hasI gg.dn (k : Int) = b := ⟨_, rfl⟩
                    obtain ⟨hu, hhu⟩ : ∃ b, hasI gg.un (k : Int) = b := ⟨_, rfl⟩
                    rw [hhd, hhu]
                    have HE : Hid ((gg.ph = 2 → hd = true ∧ hu = false) ∧ (gg.ph = 3 → ¬ (hd = true ∧ hu = false)) ∧ (hu = true → d.2 = 1) ∧ (d.2 = 2 → hd = true → gg.un = 0)) := Lib.hid (by
                      have h := ends_steps (may_kinds Hm.out) HI.out (i := k) (by rw [show (List.map (fun x => x.2) l).length = l.length by simp]; exact HKL.out)
                      have e1 : hasN (doneN s) k = hd := by rw [← hhd, ← hgg.out]; rfl
                      have e2 : hasN (undN s) k = hu := by rw [← hhu, ← hgg.out]; rfl
                      have e3 : kd (List.map (fun x => x.2) l) k = d.2 := by rw [kd_map]; unfold kdL; rw [HDD.out]
                      have e4 : gg.ph = (s.ph : Int) := by rw [← hgg.out]; rfl
                      have e5 : gg.un = ((undN s : Nat) : Int) := by rw [← hgg.out]; rfl
                      rw [e1, e2, e3] at h
                      rw [e4, e5]
                      exact ⟨fun h2 => h.1 (by omega), fun h3 => h.2.1 (by omega), h.2.2.1, fun h4 h5 => by rw [h.2.2.2 h4 h5]; rfl⟩)
                    clear hhd hhu
                    go_upto_region 12 with fail
                    obtain ⟨q1_12, Q1_12⟩ : ∃ bq_, (((gg.ph == 2) && ((!hd) || hu)) || (((gg.ph == 3) && hd) && (!hu))) = bq_ := ⟨_, rfl⟩
                    obtain ⟨q2_12, Q2_12⟩ : ∃ bq_, (q1_12 || (hu && (((d).2) != 1))) = bq_ := ⟨_, rfl⟩
                    refine wp_region_steps0 NewT [SV.eq (.pointer (some ⟨g7, 1, none⟩)), SV.eq (.int .i64 (gg.ph)), SV.eq (.bool (gg.ph == 2)), SV.eq (.bool (gg.ph == 2)), svIf (gg.ph == 2) (SV.eq (.bool (hd))), svIf (gg.ph == 2) (SV.eq (.bool (!hd))), SV.eq (gV (gg.ph == 2) (!hd)), svIf ((gg.ph == 2) && ((!(!hd)))) (SV.eq (.bool (hu))), svIf (gg.ph == 2) (SV.eq (.bool ((!hd) || hu))), SV.eq (.bool ((gg.ph == 2) && ((!hd) || hu))), SV.eq (.bool ((gg.ph == 2) && ((!hd) || hu))), svIf ((!((gg.ph == 2) && ((!hd) || hu)))) (SV.eq (.pointer (some ⟨g7, 1, none⟩))), svIf ((!((gg.ph == 2) && ((!hd) || hu)))) (SV.eq (.int .i64 (gg.ph))), svIf ((!((gg.ph == 2) && ((!hd) || hu)))) (SV.eq (.bool (gg.ph == 3))), SV.eq (gV ((!((gg.ph == 2) && ((!hd) || hu)))) (gg.ph == 3)), svIf (((!((gg.ph == 2) && ((!hd) || hu)))) && (gg.ph == 3)) (SV.eq (.bool (hd))), svIf ((!((gg.ph == 2) && ((!hd) || hu)))) (SV.eq (.bool ((gg.ph == 3) && hd))), SV.eq (gV ((!((gg.ph == 2) && ((!hd) || hu)))) ((gg.ph == 3) && hd)), svIf (((!((gg.ph == 2) && ((!hd) || hu)))) && ((gg.ph == 3) && hd)) (SV.eq (.bool (hu))), svIf (((!((gg.ph == 2) && ((!hd) || hu)))) && ((gg.ph == 3) && hd)) (SV.eq (.bool (!hu))), svIf ((!((gg.ph == 2) && ((!hd) || hu)))) (SV.eq (.bool (((gg.ph == 3) && hd) && (!hu)))), SV.eq (.bool (q1_12)), SV.eq (.bool (q1_12)), svIf ((!q1_12)) (SV.eq (.bool (hu))), SV.eq (gV ((!q1_12)) (hu)), svIf (((!q1_12)) && hu) (SV.eq ((.slice A0 len cap))), svIf (((!q1_12)) && hu) (SV.eq (.int .i64 ((k : Int)))), svIf (((!q1_12)) && hu) (svStp (d)), svIf (((!q1_12)) && hu) (svIp (d).2), svIf (((!q1_12)) && hu) (SV.eq (.int .i64 ((d).2))), svIf (((!q1_12)) && hu) (SV.eq (.bool (((d).2) != 1))), svIf ((!q1_12)) (SV.eq (.bool (hu && (((d).2) != 1)))), SV.eq (.bool (q2_12))] [([(7, none)], none), ([(66, some 0)], none), ([(67, some 1)], none), ([(68, some 2)], none), ([(11, none), (69, some 3)], some (69, true)), ([(70, some 4), (69, some 3)], some (69, true)), ([(71, some 5), (69, some 3)], some (69, true)), ([(12, none), (72, some 6)], some (72, false)), ([(72, some 6), (73, some 7), (69, some 3)], some (69, true)), ([(69, some 3), (74, some 8)], none), ([(75, some 9)], none), ([(7, none), (76, some 10)], some (76, false)), ([(77, some 11), (76, some 10)], some (76, false)), ([(78, some 12), (76, some 10)], some (76, false)), ([(79, some 13), (76, some 10)], some (76, false)), ([(11, none), (80, some 14)], some (80, true)), ([(80, some 14), (81, some 15), (76, some 10)], some (76, false)), ([(82, some 16), (76, some 10)], some (76, false)), ([(12, none), (83, some 17)], some (83, true)), ([(84, some 18), (83, some 17)], some (83, true)), ([(83, some 17), (85, some 19), (76, some 10)], some (76, false)), ([(76, some 10), (86, some 20)], none), ([(87, some 21)], none), ([(12, none), (88, some 22)], some (88, false)), ([(89, some 23), (88, some 22)], some (88, false)), ([(0, none), (90, some 24)], some (90, true)), ([(10, none), (90, some 24)], some (90, true)), ([(91, some 25), (92, some 26), (90, some 24)], some (90, true)), ([(93, some 27), (90, some 24)], some (90, true)), ([(94, some 28), (90, some 24)], some (90, true)), ([(95, some 29), (90, some 24)], some (90, true)), ([(90, some 24), (96, some 30), (88, some 22)], some (88, false)), ([(88, some 22), (97, some 31)], none)] 128 33 rfl rfl (by kernel_rfl) NewT.trans (NewT.refl _) (Nat.le_of_ble_eq_true rfl) ⟨?_, ?_, ?_, ?_, ?_, ?_, ?_, ?_, ?_, ?_, ?_, ?_, ?_, ?_, ?_, ?_, ?_, ?_, ?_, ?_, ?_, ?_, ?_, ?_, ?_, ?_, ?_, ?_, ?_, ?_, ?_, ?_, ?_, trivial⟩ ?_
                    · exact fun a wx hT hF K hK => rely_wp rfl (opr_fldU1 rfl hF.1 (hK _ _ (NewT.refl _) rfl))
                    · exact fun a wx hT hF K hK => rely_wp rfl (opr_ldI (hT.row Rg7.out) (by decide) rfl rfl hF.1 (hK _ _ (NewT.refl _) rfl))
                    · exact fun a wx hT hF K hK => rely_wp rfl (opr_cmp (b := gg.ph == 2) (.inl ⟨rfl, rfl⟩) Try.underlying3 rfl hF.1 rfl (hK _ _ (NewT.refl _) rfl))
                    · exact fun a wx hT hF K hK => rely_wp rfl (opr_move (.inl rfl) (hK _ _ (NewT.refl _) hF.1))
                    · exact fun a wx hT hF K hK => rely_if (rely_gt hF.2.1) (NewT.refl _) hK fun hE hK => opr_move (.inl rfl) (hK _ _ (NewT.refl _) hF.1)
                    · exact fun a wx hT hF K hK => rely_if (rely_gt hF.2.1) (NewT.refl _) hK fun hE hK => opr_not rfl (hF.1 hE) (hK _ _ (NewT.refl _) rfl)
                    · exact fun a wx hT hF K hK => rely_ifg (rely_gt hF.2.1) (NewT.refl _) hK fun hE hK => opr_move (.inl rfl) (hK _ _ (NewT.refl _) (hF.1 hE))
                    · exact fun a wx hT hF K hK => rely_if (rely_ggf hF.2.1) (NewT.refl _) hK fun hE hK => opr_move (.inl rfl) (hK _ _ (NewT.refl _) hF.1)
                    · exact fun a wx hT hF K hK => rely_if (rely_gt hF.2.2.1) (NewT.refl _) hK fun hE hK => opr_pick_b rfl (hF.1.trans (gV_on hE)) (fun hb => hK _ _ (NewT.refl _) (pk_or1 hb)) (fun hb => hK _ _ (NewT.refl _) (pk_or0 (hF.2.1 (band hE (bnot hb))) hb))
                    · exact fun a wx hT hF K hK => rely_wp rfl (opr_pick_b rfl hF.1 (fun hb => hK _ _ (NewT.refl _) (pk_and1 (hF.2.1 hb) hb)) (fun hb => hK _ _ (NewT.refl _) (pk_and0 hb)))
                    · exact fun a wx hT hF K hK => rely_wp rfl (opr_move (.inl rfl) (hK _ _ (NewT.refl _) hF.1))
                    · exact fun a wx hT hF K hK => rely_if (rely_gf hF.2.1) (NewT.refl _) hK fun hE hK => opr_fldU1 rfl hF.1 (hK _ _ (NewT.refl _) rfl)
                    · exact fun a wx hT hF K hK => rely_if (rely_gf hF.2.1) (NewT.refl _) hK fun hE hK => opr_ldI (hT.row Rg7.out) (by decide) rfl rfl (hF.1 hE) (hK _ _ (NewT.refl _) rfl)
                    · exact fun a wx hT hF K hK => rely_if (rely_gf hF.2.1) (NewT.refl _) hK fun hE hK => opr_cmp (b := gg.ph == 3) (.inl ⟨rfl, rfl⟩) Try.underlying3 rfl (hF.1 hE) rfl (hK _ _ (NewT.refl _) rfl)
                    · exact fun a wx hT hF K hK => rely_ifg (rely_gf hF.2.1) (NewT.refl _) hK fun hE hK => opr_move (.inl rfl) (hK _ _ (NewT.refl _) (hF.1 hE))
                    · exact fun a wx hT hF K hK => rely_if (rely_ggt hF.2.1) (NewT.refl _) hK fun hE hK => opr_move (.inl rfl) (hK _ _ (NewT.refl _) hF.1)
                    · exact fun a wx hT hF K hK => rely_if (rely_gf hF.2.2.1) (NewT.refl _) hK fun hE hK => opr_pick_b rfl (hF.1.trans (gV_on hE)) (fun hb => hK _ _ (NewT.refl _) (pk_and1 (hF.2.1 (band hE hb)) hb)) (fun hb => hK _ _ (NewT.refl _) (pk_and0 hb))
                    · exact fun a wx hT hF K hK => rely_ifg (rely_gf hF.2.1) (NewT.refl _) hK fun hE hK => opr_move (.inl rfl) (hK _ _ (NewT.refl _) (hF.1 hE))
                    · exact fun a wx hT hF K hK => rely_if (rely_ggt hF.2.1) (NewT.refl _) hK fun hE hK => opr_move (.inl rfl) (hK _ _ (NewT.refl _) hF.1)
                    · exact fun a wx hT hF K hK => rely_if (rely_ggt hF.2.1) (NewT.refl _) hK fun hE hK => opr_not rfl (hF.1 hE) (hK _ _ (NewT.refl _) rfl)
                    · exact fun a wx hT hF K hK => rely_if (rely_gf hF.2.2.1) (NewT.refl _) hK fun hE hK => opr_pick_b rfl (hF.1.trans (gV_on hE)) (fun hb => hK _ _ (NewT.refl _) (pk_and1 (hF.2.1 (band hE hb)) hb)) (fun hb => hK _ _ (NewT.refl _) (pk_and0 hb))
                    · exact fun a wx hT hF K hK => rely_wp rfl (opr_pick_b rfl hF.1 (fun hb => hK _ _ (NewT.refl _) (pn_or1 Q1_12 hb)) (fun hb => hK _ _ (NewT.refl _) (pn_or0 Q1_12 (hF.2.1 (bnot hb)) hb)))
                    · exact fun a wx hT hF K hK => rely_wp rfl (opr_move (.inl rfl) (hK _ _ (NewT.refl _) hF.1))
                    · exact fun a wx hT hF K hK => rely_if (rely_gf hF.2.1) (NewT.refl _) hK fun hE hK => opr_move (.inl rfl) (hK _ _ (NewT.refl _) hF.1)
                    · exact fun a wx hT hF K hK => rely_ifg (rely_gf hF.2.1) (NewT.refl _) hK fun hE hK => opr_move (.inl rfl) (hK _ _ (NewT.refl _) (hF.1 hE))
                    · exact fun a wx hT hF K hK => rely_if (rely_ggt hF.2.1) (NewT.refl _) hK fun hE hK => opr_move (.inl rfl) (hK _ _ (NewT.refl _) hF.1)
                    · exact fun a wx hT hF K hK => rely_if (rely_ggt hF.2.1) (NewT.refl _) hK fun hE hK => opr_move (.inl rfl) (hK _ _ (NewT.refl _) hF.1)
                    · intro a wx hT hF K hK
                      obtain ⟨f91, f92, f90, _⟩ := hF
                      have f91 : (((!q1_12)) && hu) = true → a.tmps.getD 91 undef = (.slice A0 len cap) := f91
                      have f92 : (((!q1_12)) && hu) = true → a.tmps.getD 92 undef = .int .i64 ((k : Int)) := f92
                      have f90 : a.tmps.getD 90 undef = gV ((!q1_12)) (hu) := f90
                      refine rely_if (rely_ggt f90) (NewT.refl _) hK (fun hE hK => ?_)
                      exact opr_idxSt (k := k) (d := d) (⟨HKL.out, HDD.out⟩) (rfl) rfl (by rw [eval_tmp, (f91 hE)]; exact ((NewT.trans _ _ _ HM.out hT).pairs HV.out)) (f92 hE) (fun v hv => hK v _ (NewT.refl _) hv)
                    · exact fun a wx hT hF K hK => rely_if (rely_ggt hF.2.1) (NewT.refl _) hK fun hE hK => opr_fldSt1 rfl (hF.1 hE) (fun u hu => hK u _ (NewT.refl _) hu)
                    · exact fun a wx hT hF K hK => rely_if (rely_ggt hF.2.1) (NewT.refl _) hK fun hE hK => opr_ldIp rfl (hF.1 hE) (hK _ _ (NewT.refl _) rfl)
                    · exact fun a wx hT hF K hK => rely_if (rely_ggt hF.2.1) (NewT.refl _) hK fun hE hK => opr_cmp (b := ((d).2) != 1) (.inr (.inl ⟨rfl, rfl⟩)) Try.underlying3 rfl (hF.1 hE) rfl (hK _ _ (NewT.refl _) rfl)
                    · exact fun a wx hT hF K hK => rely_if (rely_gf hF.2.2.1) (NewT.refl _) hK fun hE hK => opr_pick_b rfl (hF.1.trans (gV_on hE)) (fun hb => hK _ _ (NewT.refl _) (pk_and1 (hF.2.1 (band hE hb)) hb)) (fun hb => hK _ _ (NewT.refl _) (pk_and0 hb))
                    · exact fun a wx hT hF K hK => rely_wp rfl (opr_pick_b rfl hF.1 (fun hb => hK _ _ (NewT.refl _) (pn_or1 Q2_12 hb)) (fun hb => hK _ _ (NewT.refl _) (pn_or0 Q2_12 (hF.2.1 (bnot hb)) hb)))
                    · intro w6 k6
                      iterate 4 (intro u h; obtain rfl := Eq.symm (h (by simp)); clear h)
                      iterate 5 (intro _ _)
                      iterate 2 (intro u h; obtain rfl := Eq.symm (h (by simp)); clear h)
                      iterate 10 (intro _ _)
                      iterate 2 (intro u h; obtain rfl := Eq.symm (h (by simp)); clear h)
                      iterate 9 (intro _ _)
                      intro u h; obtain rfl := Eq.symm (h (by simp)); clear h
                      subst Q2_12 Q1_12
                      refine relyEnd_nil rfl ?_
                      refine wpList_end rfl ?_
                      simp only [Act.put, List.setIfInBounds_toArray, List.set_cons_zero, List.set_cons_succ]
                      go_simp
                      replace Rg7 := Lib.hid (k6.row Rg7.out)
                      replace HM := Lib.hid (NewT.trans _ _ _ HM.out k6)
                      clear k6
                      cases hq12 : (((((gg.ph == 2) && ((!hd) || hu)) || (((gg.ph == 3) && hd) && (!hu))) || (hu && (((d).2) != 1))))
                      · skip
                        clear hq12
                        go_upto_region 14 with fail
                        obtain ⟨q1_14, Q1_14⟩ : ∃ bq_, (((((d).2) == 2) && hd) && (gg.un != 0)) = bq_ := ⟨_, rfl⟩
                        refine wp_region_steps0 NewT [SV.eq ((.slice A0 len cap)), SV.eq (.int .i64 ((k : Int))), svStp (d), svIp (d).2, SV.eq (.int .i64 ((d).2)), SV.eq (.bool (((d).2) == 2)), SV.eq (.bool (((d).2) == 2)), svIf (((d).2) == 2) (SV.eq (.bool (hd))), SV.eq (.bool ((((d).2) == 2) && hd)), SV.eq (.bool ((((d).2) == 2) && hd)), svIf ((((d).2) == 2) && hd) (SV.eq (.pointer (some ⟨g7, 7, none⟩))), svIf ((((d).2) == 2) && hd) (SV.eq (.int .i64 (gg.un))), svIf ((((d).2) == 2) && hd) (SV.eq (.bool (gg.un != 0))), SV.eq (.bool (q1_14))] [([(0, none)], none), ([(10, none)], none), ([(99, some 0), (100, some 1)], none), ([(101, some 2)], none), ([(102, some 3)], none), ([(103, some 4)], none), ([(104, some 5)], none), ([(11, none), (105, some 6)], some (105, true)), ([(105, some 6), (106, some 7)], none), ([(107, some 8)], none), ([(7, none), (108, some 9)], some (108, true)), ([(109, some 10), (108, some 9)], some (108, true)), ([(110, some 11), (108, some 9)], some (108, true)), ([(108, some 9), (111, some 12)], none)] 128 14 rfl rfl (by kernel_rfl) NewT.trans (NewT.refl _) (Nat.le_of_ble_eq_true rfl) ⟨?_, ?_, ?_, ?_, ?_, ?_, ?_, ?_, ?_, ?_, ?_, ?_, ?_, ?_, trivial⟩ ?_
                        · exact fun a wx hT hF K hK => rely_wp rfl (opr_move (.inl rfl) (hK _ _ (NewT.refl _) hF.1))
                        · exact fun a wx hT hF K hK => rely_wp rfl (opr_move (.inl rfl) (hK _ _ (NewT.refl _) hF.1))
                        · intro a wx hT hF K hK
                          obtain ⟨f99, f100, _⟩ := hF
                          have f99 : a.tmps.getD 99 undef = (.slice A0 len cap) := f99
                          have f100 : a.tmps.getD 100 undef = .int .i64 ((k : Int)) := f100
                          refine rely_wp rfl ?_
                          exact opr_idxSt (k := k) (d := d) (⟨HKL.out, HDD.out⟩) (rfl) rfl (by rw [eval_tmp, f99]; exact ((NewT.trans _ _ _ HM.out hT).pairs HV.out)) f100 (fun v hv => hK v _ (NewT.refl _) hv)
                        · exact fun a wx hT hF K hK => rely_wp rfl (opr_fldSt1 rfl hF.1 (fun u hu => hK u _ (NewT.refl _) hu))
                        · exact fun a wx hT hF K hK => rely_wp rfl (opr_ldIp rfl hF.1 (hK _ _ (NewT.refl _) rfl))
                        · exact fun a wx hT hF K hK => rely_wp rfl (opr_cmp (b := ((d).2) == 2) (.inl ⟨rfl, rfl⟩) Try.underlying3 rfl hF.1 rfl (hK _ _ (NewT.refl _) rfl))
                        · exact fun a wx hT hF K hK => rely_wp rfl (opr_move (.inl rfl) (hK _ _ (NewT.refl _) hF.1))
                        · exact fun a wx hT hF K hK => rely_if (rely_gt hF.2.1) (NewT.refl _) hK fun hE hK => opr_move (.inl rfl) (hK _ _ (NewT.refl _) hF.1)
                        · exact fun a wx hT hF K hK => rely_wp rfl (opr_pick_b rfl hF.1 (fun hb => hK _ _ (NewT.refl _) (pk_and1 (hF.2.1 hb) hb)) (fun hb => hK _ _ (NewT.refl _) (pk_and0 hb)))
                        · exact fun a wx hT hF K hK => rely_wp rfl (opr_move (.inl rfl) (hK _ _ (NewT.refl _) hF.1))
                        · exact fun a wx hT hF K hK => rely_if (rely_gt hF.2.1) (NewT.refl _) hK fun hE hK => opr_fldU7 rfl hF.1 (hK _ _ (NewT.refl _) rfl)
                        · exact fun a wx hT hF K hK => rely_if (rely_gt hF.2.1) (NewT.refl _) hK fun hE hK => opr_ldI (hT.row Rg7.out) (by decide) rfl rfl (hF.1 hE) (hK _ _ (NewT.refl _) rfl)
                        · exact fun a wx hT hF K hK => rely_if (rely_gt hF.2.1) (NewT.refl _) hK fun hE hK => opr_cmp (b := gg.un != 0) (.inr (.inl ⟨rfl, rfl⟩)) Try.underlying3 rfl (hF.1 hE) rfl (hK _ _ (NewT.refl _) rfl)
                        · exact fun a wx hT hF K hK => rely_wp rfl (opr_pick_b rfl hF.1 (fun hb => hK _ _ (NewT.refl _) (pn_and1 Q1_14 (hF.2.1 hb) hb)) (fun hb => hK _ _ (NewT.refl _) (pn_and0 Q1_14 hb)))
                        · intro w7 k7
                          iterate 2 (intro u h; obtain rfl := Eq.symm (h (by simp)); clear h)
                          iterate 2 (intro _ _)
                          iterate 3 (intro u h; obtain rfl := Eq.symm (h (by simp)); clear h)
                          intro _ _
                          iterate 2 (intro u h; obtain rfl := Eq.symm (h (by simp)); clear h)
                          iterate 3 (intro _ _)
                          intro u h; obtain rfl := Eq.symm (h (by simp)); clear h
                          subst Q1_14
                          refine relyEnd_nil rfl ?_
                          refine wpList_end rfl ?_
                          simp only [Act.put, List.setIfInBounds_toArray, List.set_cons_zero, List.set_cons_succ]
                          go_simp
                          replace Rg7 := Lib.hid (k7.row Rg7.out)
                          replace HM := Lib.hid (NewT.trans _ _ _ HM.out k7)
                          clear k7
                          cases hq14 : ((((((d).2) == 2) && hd) && (gg.un != 0)))
                          · clear hq14
                            have hlen6 : len ≤ 6 := by have := HL6.out; have := HLN.out; omega
                            go_wp2
                            go_roundw
                            case rel => exact ⟨k + 1, by omega, by go_num, HM, Rg7⟩
                            case measure => simp [intOf]; omega
                          · exfalso
                            have h := HE.out
                            cases hd <;> cases hu <;> simp at hq14 h <;> omega
                      · exfalso
                        have h := HE.out
                        cases hd <;> cases hu <;> simp at hq12 h <;> omega
                · obtain rfl : k = len := by omega
                  have HF : Hid (gg.sq = (n3 : Int) + 1 ∧ (gg.ph = 4 ∨ missG gg = 0)) := Lib.hid (by
                    refine ⟨by rw [← hgg.out]; rfl, ?_⟩
                    have h4 := (inv_small Hm.out HI.out).2.2.2.2.1
                    have h2 := HPH.out
                    by_cases e : s.ph = 4
                    · left; rw [← hgg.out]; show (s.ph : Int) = 4; omega
                    · right; rw [← hgg.out]; exact miss_st Hm.out HI.out (by omega))
                  have HNN : Hid ((n3 : Int) + 1 ≤ 1000) := Lib.hid (by have := HNP.out; have := HP.out; omega)
                  go_upto_region 16 with fail
                  obtain ⟨q1_16, Q1_16⟩ : ∃ bq_, ((gg.ph == 4) || ((missG gg) == 0)) = bq_ := ⟨_, rfl⟩
                  obtain ⟨q2_16, Q2_16⟩ : ∃ bq_, ((gg.sq == ((n3 : Int) + 1)) && q1_16) = bq_ := ⟨_, rfl⟩
                  refine wp_region_steps0 NewT [SV.eq (.pointer (some ⟨g7, 9, none⟩)), SV.eq (.int .i64 (gg.sq)), SV.eq (.int .i64 ((n3 : Int))), SV.eq (.int .i64 ((n3 : Int) + 1)), SV.eq (.bool (gg.sq == ((n3 : Int) + 1))), SV.eq (.bool (gg.sq == ((n3 : Int) + 1))), svIf (gg.sq == ((n3 : Int) + 1)) (SV.eq (.pointer (some ⟨g7, 1, none⟩))), svIf (gg.sq == ((n3 : Int) + 1)) (SV.eq (.int .i64 (gg.ph))), svIf (gg.sq == ((n3 : Int) + 1)) (SV.eq (.bool (gg.ph == 4))), SV.eq (gV (gg.sq == ((n3 : Int) + 1)) (gg.ph == 4)), svIf ((gg.sq == ((n3 : Int) + 1)) && ((!(gg.ph == 4)))) (SV.eq (.agg (rowA 10 (sgF sv3 gg)))), svIf ((gg.sq == ((n3 : Int) + 1)) && ((!(gg.ph == 4)))) (SV.eq (.int .i64 (missG gg))), svIf ((gg.sq == ((n3 : Int) + 1)) && ((!(gg.ph == 4)))) (SV.eq (.bool ((missG gg) == 0))), svIf (gg.sq == ((n3 : Int) + 1)) (SV.eq (.bool (q1_16))), SV.eq (.bool (q2_16)), SV.eq (.bool (q2_16))] [([(7, none)], none), ([(113, some 0)], none), ([(8, none)], none), ([(115, some 2)], none), ([(114, some 1), (116, some 3)], none), ([(117, some 4)], none), ([(7, none), (118, some 5)], some (118, true)), ([(119, some 6), (118, some 5)], some (118, true)), ([(120, some 7), (118, some 5)], some (118, true)), ([(121, some 8), (118, some 5)], some (118, true)), ([(7, none), (122, some 9)], some (122, false)), ([(123, some 10), (122, some 9)], some (122, false)), ([(124, some 11), (122, some 9)], some (122, false)), ([(122, some 9), (125, some 12), (118, some 5)], some (118, true)), ([(118, some 5), (126, some 13)], none), ([(127, some 14)], none)] 128 16 rfl rfl (by kernel_rfl) NewT.trans (NewT.refl _) (Nat.le_of_ble_eq_true rfl) ⟨?_, ?_, ?_, ?_, ?_, ?_, ?_, ?_, ?_, ?_, ?_, ?_, ?_, ?_, ?_, ?_, trivial⟩ ?_
                  · exact fun a wx hT hF K hK => rely_wp rfl (opr_fldU9 rfl hF.1 (hK _ _ (NewT.refl _) rfl))
                  · exact fun a wx hT hF K hK => rely_wp rfl (opr_ldI (hT.row Rg7.out) (by decide) rfl rfl hF.1 (hK _ _ (NewT.refl _) rfl))
                  · exact fun a wx hT hF K hK => rely_wp rfl (opr_move (.inl rfl) (hK _ _ (NewT.refl _) hF.1))
                  · exact fun a wx hT hF K hK => rely_wp rfl (opr_add (r := (n3 : Int) + 1) Try.underlying3 (by have := HNN.out; unfold wrap64; omega) rfl hF.1 rfl (hK _ _ (NewT.refl _) rfl))
                  · exact fun a wx hT hF K hK => rely_wp rfl (opr_cmp (b := gg.sq == ((n3 : Int) + 1)) (.inl ⟨rfl, rfl⟩) Try.underlying3 rfl hF.1 hF.2.1 (hK _ _ (NewT.refl _) rfl))
                  · exact fun a wx hT hF K hK => rely_wp rfl (opr_move (.inl rfl) (hK _ _ (NewT.refl _) hF.1))
                  · exact fun a wx hT hF K hK => rely_if (rely_gt hF.2.1) (NewT.refl _) hK fun hE hK => opr_fldU1 rfl hF.1 (hK _ _ (NewT.refl _) rfl)
                  · exact fun a wx hT hF K hK => rely_if (rely_gt hF.2.1) (NewT.refl _) hK fun hE hK => opr_ldI (hT.row Rg7.out) (by decide) rfl rfl (hF.1 hE) (hK _ _ (NewT.refl _) rfl)
                  · exact fun a wx hT hF K hK => rely_if (rely_gt hF.2.1) (NewT.refl _) hK fun hE hK => opr_cmp (b := gg.ph == 4) (.inl ⟨rfl, rfl⟩) Try.underlying3 rfl (hF.1 hE) rfl (hK _ _ (NewT.refl _) rfl)
                  · exact fun a wx hT hF K hK => rely_ifg (rely_gt hF.2.1) (NewT.refl _) hK fun hE hK => opr_move (.inl rfl) (hK _ _ (NewT.refl _) (hF.1 hE))
                  · exact fun a wx hT hF K hK => rely_if (rely_ggf hF.2.1) (NewT.refl _) hK fun hE hK => opr_ldU (hT.row Rg7.out) rfl hF.1 (hK _ _ (NewT.refl _) rfl)
                  · exact fun a wx hT hF K hK => rely_if (rely_ggf hF.2.1) (NewT.refl _) hK fun hE hK => opr_cv (Missing_cv sv3 gg wx) rfl Try.func16 (by kernel_rfl) (by kernel_rfl) (evs1 (hF.1 hE)) hK
                  · exact fun a wx hT hF K hK => rely_if (rely_ggf hF.2.1) (NewT.refl _) hK fun hE hK => opr_cmp (b := (missG gg) == 0) (.inl ⟨rfl, rfl⟩) Try.underlying3 rfl (hF.1 hE) rfl (hK _ _ (NewT.refl _) rfl)
                  · exact fun a wx hT hF K hK => rely_if (rely_gt hF.2.2.1) (NewT.refl _) hK fun hE hK => opr_pick_b rfl (hF.1.trans (gV_on hE)) (fun hb => hK _ _ (NewT.refl _) (pn_or1 Q1_16 hb)) (fun hb => hK _ _ (NewT.refl _) (pn_or0 Q1_16 (hF.2.1 (band hE (bnot hb))) hb))
                  · exact fun a wx hT hF K hK => rely_wp rfl (opr_pick_b rfl hF.1 (fun hb => hK _ _ (NewT.refl _) (pn_and1 Q2_16 (hF.2.1 hb) hb)) (fun hb => hK _ _ (NewT.refl _) (pn_and0 Q2_16 hb)))
                  · exact fun a wx hT hF K hK => rely_wp rfl (opr_move (.inr rfl) (hK _ _ (NewT.refl _) hF.1))
                  · intro w8 k8
                    iterate 6 (intro u h; obtain rfl := Eq.symm (h (by simp)); clear h)
                    iterate 8 (intro _ _)
                    iterate 2 (intro u h; obtain rfl := Eq.symm (h (by simp)); clear h)
                    subst Q2_16 Q1_16
                    refine relyEnd_nil rfl ?_
                    refine wpList_end rfl ?_
                    simp only [Act.put, List.setIfInBounds_toArray, List.set_cons_zero, List.set_cons_succ]
                    go_simp
                    replace Rg7 := Lib.hid (k8.row Rg7.out)
                    replace HM := Lib.hid (NewT.trans _ _ _ HM.out k8)
                    clear k8
                    go_wp2
                    go_ret
                    exact ⟨by show Ending.returned (.bool _) = _; rw [HF.out.1]; rcases HF.out.2 with h | h <;> rw [h] <;> simp, (NewT.trans _ _ _ HB.out HM.out).out⟩
            · exfalso
              have h := HNP.out
              simp at hq6
              omega
      · skip
        go_wp2
        go_ret
        exact ⟨rfl, (NewT.trans _ _ _ HB.out HM.out).out⟩
end Go.Proofs.Ytfmahpgfeoafiaa
