/- The laws' ends: a run is over at one place. -/
import Derived.Test.YtfmahpgfeoafiaaMe
set_option linter.all false
namespace Go.Proofs.Ytfmahpgfeoafiaa
open Go Go.RowKit
set_option maxRecDepth 8000
set_option linter.all false
theorem run_uniq {ks : List Int} {lim : Nat} {ans : Nat → Nat} {n m : Nat} (h1 : 2 ≤ (seqA ks lim ans n).1.ph) (h2 : ∀ k, k < n → (seqA ks lim ans k).1.ph < 2) (h3 : 2 ≤ (seqA ks lim ans m).1.ph) (h4 : ∀ k, k < m → (seqA ks lim ans k).1.ph < 2) : n = m := by
  rcases Nat.lt_trichotomy n m with h | h | h
  · have := h4 n h; omega
  · exact h
  · have := h2 m h; omega
theorem rdV_nilZ (w : World) : RdV w [] (.slice none 0 0) [] := ⟨none, 0, rfl, Nat.le_refl _, by unfold maxLen; omega, fun h => absurd h (by simp)⟩
/-- A row of bytes reads as a list. -/
theorem rdV_row {W : World} {g t n : Nat} {f : Nat → UInt8} (h : W.rowIs g t n (bF f)) (hn : n ≤ 1000000) : RdV W [] (.slice (some ⟨g, 0, none⟩) n n) ((List.range n).map f) := rd_row h (by simp) hn
theorem ans_rep : ∀ i : Fin 30, ansN (List.replicate 30 2) i.val = 2 := by decide +kernel
theorem ans_none : ansN [] = fun _ => 0 := by funext i; unfold ansN; simp
theorem opr_idxU8 {a : Act} {w : World} {o : Oper} {K : Act → World → Prop} {Q : Exit → Act → World → Prop} {x y : Operand} {b n c k : Nat} (hk : k < n) (ho : o.op = .indexAddr 29 x y) (hx : a.eval x = .slice (some ⟨b, 0, none⟩) n c) (hy : a.eval y = .int .i64 (k : Int)) (h : K (a.put o.dst (.pointer (some ⟨b, k, none⟩))) w) : o.wp Try.prog a w K Q := by
  obtain ⟨dst, op, type, pos, after, guard⟩ := o
  simp only at ho
  subst ho
  refine opr_val (s := Instr.indexAt 29 (a.eval x) (a.eval y)) (v := .pointer (some ⟨b, k, none⟩)) rfl ?_ h
  rw [hx, hy]
  have hsz : (sizeOf 5).run Try.prog w = .ok 1 w := by
    have hs := info5s
    cases hq : Try.prog.info? 5 with
    | none => simp [hq] at hs
    | some i => simp [hq] at hs; simp [sizeOf, typeInfo, hq, hs]
  simp [Instr.indexAt, asIntOf, run_underlying Try.underlying29, hk, Addr.add_mid]
theorem info_u81 : (Try.prog.info? 5).map (·.size) = some 1 := by kernel_rfl
end Go.Proofs.Ytfmahpgfeoafiaa
/- The law SagaStays, walked: a saga that is over goes by no record, and one that waits by no Intent and no end. -/
namespace Go.Proofs.Ytfmahpgfeoafiaa
open Go Go.RowKit
set_option maxRecDepth 8000
set_option linter.all false
attribute [local go_sem] run_zero_rec
set_option maxHeartbeats 8000000 in
theorem SagaStays_walk (v bv u : Value) (l : List (Int × Int)) (lb : List UInt8) (lim : Int) (x : Rc) (w : World) (h : RdP w v l) (hb : RdV w [] bv lb) (hx : RecV w u x) : Calls Try.prog 6 #[v, .int .i64 lim, bv, u] w fun e w' => e = .returned (.bool true) ∧ Below w.heap.size w w' := by
  obtain ⟨su, dv, rfl, hsx, hdx⟩ := hx
  have HX : Hid (RecV w (.agg (rowA 109 (recF x su dv))) x) := Lib.hid ⟨su, dv, rfl, hsx, hdx⟩
  have HSX := Lib.hid hsx
  have HD := Lib.hid hdx
  clear hsx hdx
  have HV := Lib.hid h
  have HBV := Lib.hid hb
  have HSX0 := HSX
  have HD0 := HD
  clear h hb
  go_enter Try.func6, Try.ntmps6
  go_upto_region 1 with fail
  have HB := Lib.hid (NewT.refl w)
  have r_g7 := rowIs_box w 41 109 (recF x su dv)
  have hN : NewT w (w.alloc (.cells (rowA 109 (recF x su dv)) 41)) := NewT.alloc _ _
  change Code.wp _ _ _ _ (w.alloc (.cells (rowA 109 (recF x su dv)) 41))
  generalize (w.alloc (.cells (rowA 109 (recF x su dv)) 41)) = W0 at r_g7 hN ⊢
  obtain ⟨g7, h_g7⟩ : ∃ g_, w.heap.size = g_ := ⟨_, rfl⟩
  have HG : Hid (w.heap.size ≤ g7) := Lib.hid (by omega)
  rw [h_g7] at r_g7
  simp only [h_g7]
  have Rg7 := Lib.hid r_g7
  have HM := Lib.hid hN
  clear r_g7 hN h_g7
  refine wp_region_steps0 NewT [SV.eq (.bool true), SV.eq (.bool false)] [([], none), ([(23, some 0)], none)] 116 2 rfl rfl (by kernel_rfl) NewT.trans (NewT.refl _) (Nat.le_of_ble_eq_true rfl) ⟨?_, ?_, trivial⟩ ?_
  · exact fun a wx hT hF K hK => rely_wp rfl (opr_cv (alive11_c wx) rfl Try.func8 (by kernel_rfl) (by kernel_rfl) evs0 hK)
  · exact fun a wx hT hF K hK => rely_wp rfl (opr_not rfl hF.1 (hK _ _ (NewT.refl _) rfl))
  · intro w1 k1
    iterate 2 (intro u h; obtain rfl := Eq.symm (h (by simp)); clear h)
    refine relyEnd_nil rfl ?_
    refine wpList_end rfl ?_
    simp only [Act.put, List.setIfInBounds_toArray, List.set_cons_zero, List.set_cons_succ]
    go_simp
    replace Rg7 := Lib.hid (k1.row Rg7.out)
    replace HM := Lib.hid (NewT.trans _ _ _ HM.out k1)
    clear k1
    go_upto_region 3 with fail
    obtain ⟨q1_3, Q1_3⟩ : ∃ bq_, ((!(mayL l)) || (decide (lim < 1))) = bq_ := ⟨_, rfl⟩
    obtain ⟨q2_3, Q2_3⟩ : ∃ bq_, ((q1_3 || (decide (9 < lim))) || (decide (100 < ((List.length (lb) : Int))))) = bq_ := ⟨_, rfl⟩
    refine wp_region_steps0 NewT [SV.eq (v), SV.eq (.bool (mayL l)), SV.eq (.bool (!(mayL l))), SV.eq (.bool (!(mayL l))), svIf ((!(!(mayL l)))) (SV.eq (.int .i64 (lim))), svIf ((!(!(mayL l)))) (SV.eq (.bool (decide (lim < 1)))), SV.eq (.bool (q1_3)), SV.eq (.bool (q1_3)), svIf ((!q1_3)) (SV.eq (.int .i64 (lim))), svIf ((!q1_3)) (SV.eq (.bool (decide (9 < lim)))), SV.eq (.bool (q1_3 || (decide (9 < lim)))), SV.eq (.bool (q1_3 || (decide (9 < lim)))), svIf ((!(q1_3 || (decide (9 < lim))))) (SV.eq (bv)), svIf ((!(q1_3 || (decide (9 < lim))))) (SV.eq (.int .i64 ((List.length (lb) : Int)))), svIf ((!(q1_3 || (decide (9 < lim))))) (SV.eq (.bool (decide (100 < ((List.length (lb) : Int)))))), SV.eq (.bool (q2_3))] [([(0, none)], none), ([(25, some 0)], none), ([(26, some 1)], none), ([(27, some 2)], none), ([(1, none), (28, some 3)], some (28, false)), ([(29, some 4), (28, some 3)], some (28, false)), ([(28, some 3), (30, some 5)], none), ([(31, some 6)], none), ([(1, none), (32, some 7)], some (32, false)), ([(33, some 8), (32, some 7)], some (32, false)), ([(32, some 7), (34, some 9)], none), ([(35, some 10)], none), ([(2, none), (36, some 11)], some (36, false)), ([(37, some 12), (36, some 11)], some (36, false)), ([(38, some 13), (36, some 11)], some (36, false)), ([(36, some 11), (39, some 14)], none)] 116 16 rfl rfl (by kernel_rfl) NewT.trans (NewT.refl _) (Nat.le_of_ble_eq_true rfl) ⟨?_, ?_, ?_, ?_, ?_, ?_, ?_, ?_, ?_, ?_, ?_, ?_, ?_, ?_, ?_, ?_, trivial⟩ ?_
    · exact fun a wx hT hF K hK => rely_wp rfl (opr_move (.inl rfl) (hK _ _ (NewT.refl _) hF.1))
    · exact fun a wx hT hF K hK => rely_wp rfl (opr_cv (gMay_cv _ l wx ((NewT.trans _ _ _ HM.out hT).pairs HV.out)) rfl Try.func9 (by kernel_rfl) (by kernel_rfl) (evs1 hF.1) hK)
    · exact fun a wx hT hF K hK => rely_wp rfl (opr_not rfl hF.1 (hK _ _ (NewT.refl _) rfl))
    · exact fun a wx hT hF K hK => rely_wp rfl (opr_move (.inl rfl) (hK _ _ (NewT.refl _) hF.1))
    · exact fun a wx hT hF K hK => rely_if (rely_gf hF.2.1) (NewT.refl _) hK fun hE hK => opr_move (.inl rfl) (hK _ _ (NewT.refl _) hF.1)
    · exact fun a wx hT hF K hK => rely_if (rely_gf hF.2.1) (NewT.refl _) hK fun hE hK => opr_cmp (b := decide (lim < 1)) (.inr (.inr (.inr (.inl ⟨rfl, rfl⟩)))) Try.underlying3 rfl (hF.1 hE) rfl (hK _ _ (NewT.refl _) rfl)
    · exact fun a wx hT hF K hK => rely_wp rfl (opr_pick_b rfl hF.1 (fun hb => hK _ _ (NewT.refl _) (pn_or1 Q1_3 hb)) (fun hb => hK _ _ (NewT.refl _) (pn_or0 Q1_3 (hF.2.1 (bnot hb)) hb)))
    · exact fun a wx hT hF K hK => rely_wp rfl (opr_move (.inl rfl) (hK _ _ (NewT.refl _) hF.1))
    · exact fun a wx hT hF K hK => rely_if (rely_gf hF.2.1) (NewT.refl _) hK fun hE hK => opr_move (.inl rfl) (hK _ _ (NewT.refl _) hF.1)
    · exact fun a wx hT hF K hK => rely_if (rely_gf hF.2.1) (NewT.refl _) hK fun hE hK => opr_cmp (b := decide (9 < lim)) (.inr (.inr (.inr (.inr (.inl ⟨rfl, rfl⟩))))) Try.underlying3 rfl (hF.1 hE) rfl (hK _ _ (NewT.refl _) rfl)
    · exact fun a wx hT hF K hK => rely_wp rfl (opr_pick_b rfl hF.1 (fun hb => hK _ _ (NewT.refl _) (pk_or1 hb)) (fun hb => hK _ _ (NewT.refl _) (pk_or0 (hF.2.1 (bnot hb)) hb)))
    · exact fun a wx hT hF K hK => rely_wp rfl (opr_move (.inl rfl) (hK _ _ (NewT.refl _) hF.1))
    · exact fun a wx hT hF K hK => rely_if (rely_gf hF.2.1) (NewT.refl _) hK fun hE hK => opr_move (.inl rfl) (hK _ _ (NewT.refl _) hF.1)
    · intro a wx hT hF K hK
      obtain ⟨f37, f36, _⟩ := hF
      have f37 : ((!(q1_3 || (decide (9 < lim))))) = true → a.tmps.getD 37 undef = bv := f37
      have f36 : a.tmps.getD 36 undef = .bool (q1_3 || (decide (9 < lim))) := f36
      refine rely_if (rely_gf f36) (NewT.refl _) hK (fun hE hK => ?_)
      exact opr_len_rd rfl (by rw [eval_tmp, (f37 hE)]; exact ((NewT.trans _ _ _ HM.out hT).rd HBV.out)) (hK _ _ (NewT.refl _) rfl)
    · exact fun a wx hT hF K hK => rely_if (rely_gf hF.2.1) (NewT.refl _) hK fun hE hK => opr_cmp (b := decide (100 < ((List.length (lb) : Int)))) (.inr (.inr (.inr (.inr (.inl ⟨rfl, rfl⟩))))) Try.underlying3 rfl (hF.1 hE) rfl (hK _ _ (NewT.refl _) rfl)
    · exact fun a wx hT hF K hK => rely_wp rfl (opr_pick_b rfl hF.1 (fun hb => hK _ _ (NewT.refl _) (pn_or1 Q2_3 hb)) (fun hb => hK _ _ (NewT.refl _) (pn_or0 Q2_3 (hF.2.1 (bnot hb)) hb)))
    · intro w2 k2
      iterate 4 (intro u h; obtain rfl := Eq.symm (h (by simp)); clear h)
      iterate 2 (intro _ _)
      iterate 2 (intro u h; obtain rfl := Eq.symm (h (by simp)); clear h)
      iterate 2 (intro _ _)
      iterate 2 (intro u h; obtain rfl := Eq.symm (h (by simp)); clear h)
      iterate 3 (intro _ _)
      intro u h; obtain rfl := Eq.symm (h (by simp)); clear h
      subst Q2_3 Q1_3
      refine relyEnd_nil rfl ?_
      refine wpList_end rfl ?_
      simp only [Act.put, List.setIfInBounds_toArray, List.set_cons_zero, List.set_cons_succ]
      go_simp
      replace Rg7 := Lib.hid (k2.row Rg7.out)
      replace HM := Lib.hid (NewT.trans _ _ _ HM.out k2)
      clear k2
      cases hq : (((((!(mayL l)) || (decide (lim < 1))) || (decide (9 < lim))) || (decide (100 < ((List.length (lb) : Int))))))
      · have hq' := hq
        simp only [Bool.or_eq_false_iff, Bool.not_eq_false', decide_eq_false_iff_not] at hq'
        obtain ⟨q, rfl⟩ : ∃ q : Nat, lim = q := ⟨lim.toNat, by omega⟩
        have Hm : Hid (mayL l = true) := Lib.hid (by have := hq'.1.1.1; simpa using this)
        have Hlim : Hid (1 ≤ q ∧ q ≤ 9) := Lib.hid (by omega)
        have HL6 := Lib.hid (may_len Hm.out)
        clear hq hq'
        go_upto_region 5 with fail
        refine wp_region_steps0 NewT [SV.eq (v), SV.eq (.int .i64 ((q : Int))), SV.eq (bv), svRun l q (ansN lb)] [([(0, none)], none), ([(1, none)], none), ([(2, none)], none), ([(42, some 0), (43, some 1), (44, some 2)], none)] 116 4 rfl rfl (by kernel_rfl) NewT.trans (NewT.refl _) (Nat.le_of_ble_eq_true rfl) ⟨?_, ?_, ?_, ?_, trivial⟩ ?_
        · exact fun a wx hT hF K hK => rely_wp rfl (opr_move (.inl rfl) (hK _ _ (NewT.refl _) hF.1))
        · exact fun a wx hT hF K hK => rely_wp rfl (opr_move (.inl rfl) (hK _ _ (NewT.refl _) hF.1))
        · exact fun a wx hT hF K hK => rely_wp rfl (opr_move (.inl rfl) (hK _ _ (NewT.refl _) hF.1))
        · exact fun a wx hT hF K hK => rely_wp rfl (opr_cv (run_cv _ _ l lb q wx ((NewT.trans _ _ _ HM.out hT).pairs HV.out) ((NewT.trans _ _ _ HM.out hT).rd HBV.out) Hm.out Hlim.out) rfl Try.func14 (by kernel_rfl) (by kernel_rfl) (evs3 hF.1 hF.2.1 hF.2.2.1) hK)
        · intro w3 k3
          iterate 3 (intro u h; obtain rfl := Eq.symm (h (by simp)); clear h)
          intro u45 h; have g45 := h (by simp); clear h; replace g45 := show (svRun l q (ansN lb)).pred u45 w3 from g45
          refine relyEnd_nil rfl ?_
          simp only [Act.put, List.setIfInBounds_toArray, List.set_cons_zero, List.set_cons_succ]
          obtain ⟨n3, sv3, hn43, hph3, hno3, rfl, hsv3⟩ := (show RunV w3 l q (ansN lb) u45 from g45)
          refine wpList_plain rfl (fun K hK => ?_)
          refine opr_move (.inl rfl) (hK _ _ ?_)
          clear hK K
          simp only [Act.put, List.setIfInBounds_toArray, List.set_cons_zero, List.set_cons_succ]
          refine wpList_plain rfl (fun K hK => ?_)
          refine opr_ext (k := 0) rfl rfl rfl (hK _ _ ?_)
          clear hK K
          simp only [Act.put, List.setIfInBounds_toArray, List.set_cons_zero, List.set_cons_succ]
          refine wpList_plain rfl (fun K hK => ?_)
          refine opr_ext (k := 1) rfl rfl rfl (hK _ _ ?_)
          clear hK K
          simp only [Act.put, List.setIfInBounds_toArray, List.set_cons_zero, List.set_cons_succ]
          refine wpList_plain rfl (fun K hK => ?_)
          refine opr_ext (k := 2) rfl rfl rfl (hK _ _ ?_)
          clear hK K
          simp only [Act.put, List.setIfInBounds_toArray, List.set_cons_zero, List.set_cons_succ]
          refine wpList_new (n := 10) (f := sgF sv3 (ofSt (seqA (kks l) q (ansN lb) n3).1 ((n3 : Int) + 1))) rfl rfl rfl rfl rfl rfl (by first | (simp; done) | simp [Act.put]) run_alloc_saga info_saga (sgF_one _ _ (oneP hsv3)) rfl ?_
          intro W3 hn3 rr3
          simp only [Act.put, List.setIfInBounds_toArray, List.set_cons_zero, List.set_cons_succ]
          refine wpList_plain rfl (fun K hK => ?_)
          refine opr_move (.inr rfl) (hK _ _ ?_)
          clear hK K
          simp only [Act.put, List.setIfInBounds_toArray, List.set_cons_zero, List.set_cons_succ]
          refine wpList_plain rfl (fun K hK => ?_)
          refine opr_move (.inr rfl) (hK _ _ ?_)
          clear hK K
          simp only [Act.put, List.setIfInBounds_toArray, List.set_cons_zero, List.set_cons_succ]
          refine wpList_end rfl ?_
          try simp only [Act.put, List.setIfInBounds_toArray, List.set_cons_zero, List.set_cons_succ]
          go_simp
          obtain ⟨s, hs⟩ := hid_ex (seqA (kks l) q (ansN lb) n3).1
          have HI : Hid (Inv (kks l) q s) := Lib.hid (by rw [← hs.out]; exact seq_inv (may_kinds Hm.out) n3)
          rw [hs.out] at rr3 hph3
          obtain ⟨gg, hgg⟩ := hid_ex (ofSt s ((n3 : Int) + 1))
          rw [hgg.out] at rr3
          have HG7B : Hid (w.heap.size ≤ g7) := Lib.hid HG.out
          obtain ⟨g9, h_g9⟩ : ∃ g_, w3.heap.size = g_ := ⟨_, rfl⟩
          rw [h_g9] at rr3
          simp only [h_g9]
          have hbx := NewT.trans _ _ _ HM.out k3
          have HGg9 : Hid (g7 < g9 ∧ w3.heap.size ≤ g9) := Lib.hid (by rw [← h_g9]; exact ⟨(k3.row Rg7.out).lt, Nat.le_refl _⟩)
          replace Rg7 := Lib.hid (hn3.row (k3.row Rg7.out))
          replace HV := Lib.hid (hbx.pairs HV.out)
          replace HX := Lib.hid (hbx.recV HX.out)
          replace HSX := Lib.hid (hbx.pairs HSX.out)
          replace HD := Lib.hid (hbx.rd HD.out)
          replace HB := Lib.hid (NewT.trans _ _ _ HB.out hbx)
          replace HM := Lib.hid hn3
          have Rg9 := Lib.hid rr3
          clear hbx hn3 rr3 k3 h_g9
          have HSN := Lib.hid hsv3
          have HPH := Lib.hid hph3
          have HQN : Hid ((n3 : Int) + 1 ≤ 1000) := Lib.hid (by
            have h1 := Hlim.out
            have h2 := HL6.out
            have h3 : (4 * q) * l.length ≤ 36 * 6 := Nat.mul_le_mul (by omega) h2.2
            omega)
          have HOK : Hid (OkG l gg) := Lib.hid (by rw [← hgg.out]; exact ok_st Hm.out HI.out Hlim.out.2 (by have := HQN.out; omega))
          have HGO : Hid (goesB l (q : Int) gg x = false) := Lib.hid (by rw [← hgg.out]; exact go_over Hm.out HI.out Hlim.out.1 Hlim.out.2 HPH.out x)
          have HIN : Hid (inG (q : Int) gg = false) := Lib.hid (by rw [← hgg.out, in_st Hlim.out.1 Hlim.out.2 (inv_small Hm.out HI.out).2.2.2.2.1, decide_eq_false (by have := HPH.out; omega), Bool.and_false])
          have HOV : Hid (overB gg.ph = true) := Lib.hid (by rw [← hgg.out]; exact (over_st (inv_small Hm.out HI.out).2.2.2.2.1).trans (decide_eq_true HPH.out))
          clear hph3 hno3 hsv3 hn43
          go_upto_region 6 with fail
          refine wp_region_steps0 NewT [SV.eq (.bool true), SV.eq (.bool false)] [([(11, none)], none), ([(49, some 0)], none)] 116 2 rfl rfl (by kernel_rfl) NewT.trans (NewT.refl _) (Nat.le_of_ble_eq_true rfl) ⟨?_, ?_, trivial⟩ ?_
          · exact fun a wx hT hF K hK => rely_wp rfl (opr_move (.inl rfl) (hK _ _ (NewT.refl _) hF.1))
          · exact fun a wx hT hF K hK => rely_wp rfl (opr_not rfl hF.1 (hK _ _ (NewT.refl _) rfl))
          · intro w4 k4
            iterate 2 (intro u h; obtain rfl := Eq.symm (h (by simp)); clear h)
            refine relyEnd_nil rfl ?_
            refine wpList_end rfl ?_
            simp only [Act.put, List.setIfInBounds_toArray, List.set_cons_zero, List.set_cons_succ]
            go_simp
            replace Rg7 := Lib.hid (k4.row Rg7.out)
            replace Rg9 := Lib.hid (k4.row Rg9.out)
            replace HM := Lib.hid (NewT.trans _ _ _ HM.out k4)
            clear k4
            go_upto_region 8 with fail
            refine wp_region_steps0 NewT [SV.eq (.agg (rowA 10 (sgF sv3 gg))), SV.eq (.agg (rowA 109 (recF x su dv))), SV.eq (.int .i64 ((q : Int))), SV.eq ((.tuple #[.agg (rowA 10 (sgF sv3 (wentG l ((q : Int)) gg x))), .bool (goesB l ((q : Int)) gg x)])), SV.eq ((.tuple #[.agg (rowA 10 (sgF sv3 (wentG l ((q : Int)) gg x))), .bool (goesB l ((q : Int)) gg x)])), SV.eq ((.agg (rowA 10 (sgF sv3 (wentG l ((q : Int)) gg x))))), SV.eq (.bool (goesB l ((q : Int)) gg x))] [([(9, none)], none), ([(7, none)], none), ([(1, none)], none), ([(52, some 0), (53, some 1), (54, some 2)], none), ([(55, some 3)], none), ([(51, some 4)], none), ([(51, some 4)], none)] 116 7 rfl rfl (by kernel_rfl) NewT.trans (NewT.refl _) (Nat.le_of_ble_eq_true rfl) ⟨?_, ?_, ?_, ?_, ?_, ?_, ?_, trivial⟩ ?_
            · exact fun a wx hT hF K hK => rely_wp rfl (opr_ldU (hT.row Rg9.out) rfl hF.1 (hK _ _ (NewT.refl _) rfl))
            · exact fun a wx hT hF K hK => rely_wp rfl (opr_ldR (hT.row Rg7.out) rfl hF.1 (hK _ _ (NewT.refl _) rfl))
            · exact fun a wx hT hF K hK => rely_wp rfl (opr_move (.inl rfl) (hK _ _ (NewT.refl _) hF.1))
            · exact fun a wx hT hF K hK => rely_wp rfl (opr_cv (Go_cv sv3 l gg x _ ((q : Int)) wx ((NewT.trans _ _ _ HM.out hT).pairs HSN.out) ((NewT.trans _ _ _ HM.out hT).recV HX.out) HOK.out) rfl Try.func17 (by kernel_rfl) (by kernel_rfl) (evs3 hF.1 hF.2.1 hF.2.2.1) hK)
            · exact fun a wx hT hF K hK => rely_wp rfl (opr_move (.inl rfl) (hK _ _ (NewT.refl _) hF.1))
            · exact fun a wx hT hF K hK => rely_wp rfl (opr_ext rfl hF.1 rfl (hK _ _ (NewT.refl _) rfl))
            · exact fun a wx hT hF K hK => rely_wp rfl (opr_ext rfl hF.1 rfl (hK _ _ (NewT.refl _) rfl))
            · intro w5 k5
              iterate 7 (intro u h; obtain rfl := Eq.symm (h (by simp)); clear h)
              refine relyEnd_nil rfl ?_
              simp only [Act.put, List.setIfInBounds_toArray, List.set_cons_zero, List.set_cons_succ]
              refine wpList_new (n := 10) (f := sgF sv3 ((wentG l (q : Int) gg x))) rfl rfl rfl rfl rfl rfl (by first | (simp; done) | simp [Act.put]) run_alloc_saga info_saga (sgF_one _ _ (oneP HSN.out)) rfl ?_
              intro W5 hn5 rr5
              simp only [Act.put, List.setIfInBounds_toArray, List.set_cons_zero, List.set_cons_succ]
              refine wpList_plain rfl (fun K hK => ?_)
              refine opr_move (.inr rfl) (hK _ _ ?_)
              clear hK K
              refine wpList_end rfl ?_
              simp only [Act.put, List.setIfInBounds_toArray, List.set_cons_zero, List.set_cons_succ]
              go_simp
              obtain ⟨g12, h_g12⟩ : ∃ g_, w5.heap.size = g_ := ⟨_, rfl⟩
              rw [h_g12] at rr5
              simp only [h_g12]
              have HGg12 : Hid (g7 < g12 ∧ g9 < g12 ∧ w3.heap.size ≤ g12) := Lib.hid (by rw [← h_g12]; exact ⟨(k5.row Rg7.out).lt, (k5.row Rg9.out).lt, (NewT.trans _ _ _ HM.out k5).out.size⟩)
              have q5 := NewT.trans _ _ _ k5 hn5
              clear k5 hn5 h_g12
              replace Rg7 := Lib.hid (q5.row Rg7.out)
              replace Rg9 := Lib.hid (q5.row Rg9.out)
              replace HM := Lib.hid (NewT.trans _ _ _ HM.out q5)
              clear q5
              have Rg12 := Lib.hid rr5
              clear rr5
              go_upto_region 9 with fail
              refine wp_region_steps0 NewT [SV.eq (.agg (rowA 10 (sgF sv3 gg))), SV.eq (.int .i64 ((q : Int))), SV.eq ((.tuple #[.agg (rowA 109 (recF (dueX l ((q : Int)) gg) (.slice none 0 0) (.slice none 0 0))), .bool (inG ((q : Int)) gg)])), SV.eq ((.tuple #[.agg (rowA 109 (recF (dueX l ((q : Int)) gg) (.slice none 0 0) (.slice none 0 0))), .bool (inG ((q : Int)) gg)])), SV.eq ((.agg (rowA 109 (recF (dueX l ((q : Int)) gg) (.slice none 0 0) (.slice none 0 0))))), SV.eq (.bool (inG ((q : Int)) gg))] [([(9, none)], none), ([(1, none)], none), ([(59, some 0), (60, some 1)], none), ([(61, some 2)], none), ([(58, some 3)], none), ([(58, some 3)], none)] 116 6 rfl rfl (by kernel_rfl) NewT.trans (NewT.refl _) (Nat.le_of_ble_eq_true rfl) ⟨?_, ?_, ?_, ?_, ?_, ?_, trivial⟩ ?_
              · exact fun a wx hT hF K hK => rely_wp rfl (opr_ldU (hT.row Rg9.out) rfl hF.1 (hK _ _ (NewT.refl _) rfl))
              · exact fun a wx hT hF K hK => rely_wp rfl (opr_move (.inl rfl) (hK _ _ (NewT.refl _) hF.1))
              · exact fun a wx hT hF K hK => rely_wp rfl (opr_cv (Due_cv sv3 l gg ((q : Int)) wx ((NewT.trans _ _ _ HM.out hT).pairs HSN.out) HOK.out) rfl Try.func18 (by kernel_rfl) (by kernel_rfl) (evs2 hF.1 hF.2.1) hK)
              · exact fun a wx hT hF K hK => rely_wp rfl (opr_move (.inl rfl) (hK _ _ (NewT.refl _) hF.1))
              · exact fun a wx hT hF K hK => rely_wp rfl (opr_ext rfl hF.1 rfl (hK _ _ (NewT.refl _) rfl))
              · exact fun a wx hT hF K hK => rely_wp rfl (opr_ext rfl hF.1 rfl (hK _ _ (NewT.refl _) rfl))
              · intro w6 k6
                iterate 6 (intro u h; obtain rfl := Eq.symm (h (by simp)); clear h)
                refine relyEnd_nil rfl ?_
                simp only [Act.put, List.setIfInBounds_toArray, List.set_cons_zero, List.set_cons_succ]
                refine wpList_new (n := 109) (f := recF (dueX l (q : Int) gg) (.slice none 0 0) (.slice none 0 0)) rfl rfl rfl rfl rfl rfl (by first | (simp; done) | simp [Act.put]) run_alloc_rec info_rec (recF_one _ _ _ rfl rfl) rfl ?_
                intro W6 hn6 rr6
                simp only [Act.put, List.setIfInBounds_toArray, List.set_cons_zero, List.set_cons_succ]
                refine wpList_plain rfl (fun K hK => ?_)
                refine opr_move (.inr rfl) (hK _ _ ?_)
                clear hK K
                refine wpList_end rfl ?_
                simp only [Act.put, List.setIfInBounds_toArray, List.set_cons_zero, List.set_cons_succ]
                go_simp
                obtain ⟨g14, h_g14⟩ : ∃ g_, w6.heap.size = g_ := ⟨_, rfl⟩
                rw [h_g14] at rr6
                simp only [h_g14]
                have HGg14 : Hid (g7 < g14 ∧ g9 < g14 ∧ g12 < g14 ∧ w3.heap.size ≤ g14) := Lib.hid (by rw [← h_g14]; exact ⟨(k6.row Rg7.out).lt, (k6.row Rg9.out).lt, (k6.row Rg12.out).lt, (NewT.trans _ _ _ HM.out k6).out.size⟩)
                have q6 := NewT.trans _ _ _ k6 hn6
                clear k6 hn6 h_g14
                replace Rg7 := Lib.hid (q6.row Rg7.out)
                replace Rg9 := Lib.hid (q6.row Rg9.out)
                replace Rg12 := Lib.hid (q6.row Rg12.out)
                replace HM := Lib.hid (NewT.trans _ _ _ HM.out q6)
                clear q6
                have Rg14 := Lib.hid rr6
                clear rr6
                rw [HGO.out, HIN.out]
                go_upto_region 10 with fail
                refine wp_region_steps0 NewT [SV.eq (.bool false), SV.eq (.bool false), SV.eq (.bool false), SV.eq (.bool false), SV.eq (.bool false), SV.eq (.agg (rowA 10 (sgF sv3 gg))), SV.eq (.bool (overB gg.ph)), SV.eq (.bool (!(overB gg.ph))), SV.eq (.bool (!(overB gg.ph)))] [([(13, none)], none), ([(64, some 0)], none), ([(15, none), (65, some 1)], some (65, false)), ([(65, some 1), (66, some 2)], none), ([(67, some 3)], none), ([(9, none), (68, some 4)], some (68, false)), ([(69, some 5), (68, some 4)], some (68, false)), ([(70, some 6), (68, some 4)], some (68, false)), ([(68, some 4), (71, some 7)], none)] 116 9 rfl rfl (by kernel_rfl) NewT.trans (NewT.refl _) (Nat.le_of_ble_eq_true rfl) ⟨?_, ?_, ?_, ?_, ?_, ?_, ?_, ?_, ?_, trivial⟩ ?_
                · exact fun a wx hT hF K hK => rely_wp rfl (opr_move (.inl rfl) (hK _ _ (NewT.refl _) hF.1))
                · exact fun a wx hT hF K hK => rely_wp rfl (opr_move (.inl rfl) (hK _ _ (NewT.refl _) hF.1))
                · exact fun a wx hT hF K hK => rely_wp (rely_guard hF.2.1) (opr_move (.inl rfl) (hK _ _ (NewT.refl _) hF.1))
                · exact fun a wx hT hF K hK => rely_wp rfl (opr_pick_false rfl hF.1 (hK _ _ (NewT.refl _) hF.2.1))
                · exact fun a wx hT hF K hK => rely_wp rfl (opr_move (.inl rfl) (hK _ _ (NewT.refl _) hF.1))
                · exact fun a wx hT hF K hK => rely_wp (rely_guard hF.2.1) (opr_ldU (hT.row Rg9.out) rfl hF.1 (hK _ _ (NewT.refl _) rfl))
                · exact fun a wx hT hF K hK => rely_wp (rely_guard hF.2.1) (opr_cv (Over_cv sv3 gg wx) rfl Try.func19 (by kernel_rfl) (by kernel_rfl) (evs1 hF.1) hK)
                · exact fun a wx hT hF K hK => rely_wp (rely_guard hF.2.1) (opr_not rfl hF.1 (hK _ _ (NewT.refl _) rfl))
                · exact fun a wx hT hF K hK => rely_wp rfl (opr_pick_false rfl hF.1 (hK _ _ (NewT.refl _) hF.2.1))
                · intro w7 k7
                  iterate 9 (intro u h; obtain rfl := Eq.symm (h (by simp)); clear h)
                  refine relyEnd_nil rfl ?_
                  refine wpList_end rfl ?_
                  simp only [Act.put, List.setIfInBounds_toArray, List.set_cons_zero, List.set_cons_succ]
                  go_simp
                  replace Rg7 := Lib.hid (k7.row Rg7.out)
                  replace Rg9 := Lib.hid (k7.row Rg9.out)
                  replace Rg12 := Lib.hid (k7.row Rg12.out)
                  replace Rg14 := Lib.hid (k7.row Rg14.out)
                  replace HM := Lib.hid (NewT.trans _ _ _ HM.out k7)
                  clear k7
                  rw [HOV.out]
                  go_upto_region 12 with fail
                  refine wp_region_steps0 NewT [SV.eq (v), svSgN (g7 + 1) (newL l) (newG l)] [([(0, none)], none), ([(73, some 0)], none)] 116 2 rfl rfl (by kernel_rfl) NewT.trans (NewT.refl _) (Nat.le_of_ble_eq_true rfl) ⟨?_, ?_, trivial⟩ ?_
                  · exact fun a wx hT hF K hK => rely_wp rfl (opr_move (.inl rfl) (hK _ _ (NewT.refl _) hF.1))
                  · exact fun a wx hT hF K hK => rely_wp rfl (opr_cv (gNew_cvB _ l (g7 + 1) wx (Nat.le_trans (Nat.succ_le_of_lt Rg7.out.lt) hT.out.size) ((NewT.trans _ _ _ HM.out hT).pairs HV.out)) rfl Try.func12 (by kernel_rfl) (by kernel_rfl) (evs1 hF.1) hK)
                  · intro w8 k8
                    intro u h; obtain rfl := Eq.symm (h (by simp)); clear h
                    intro u74 h; have g74 := h (by simp); clear h; replace g74 := show (svSgN (g7 + 1) (newL l) (newG l)).pred u74 w8 from g74
                    refine relyEnd_nil rfl ?_
                    simp only [Act.put, List.setIfInBounds_toArray, List.set_cons_zero, List.set_cons_succ]
                    obtain ⟨sx, rfl, hsx⟩ := (show SgVN w8 (g7 + 1) u74 (newL l) (newG l) from g74)
                    have hnl : newL l = l := by unfold newL; rw [if_pos Hm.out]
                    have hng : newG l = ofSt st0 1 := by unfold newG; rw [if_pos Hm.out]
                    rw [hnl] at hsx
                    refine wpList_new (n := 10) (f := sgF sx (newG l)) rfl rfl rfl rfl rfl rfl (by first | (simp; done) | simp [Act.put]) run_alloc_saga info_saga (sgF_one _ _ (oneP hsx.1)) rfl ?_
                    intro W8 hn8 rr8
                    refine wpList_end rfl ?_
                    simp only [Act.put, List.setIfInBounds_toArray, List.set_cons_zero, List.set_cons_succ]
                    go_simp
                    obtain ⟨ga, hga⟩ := hid_ex (ofSt st0 1)
                    rw [hng, hga.out] at rr8
                    have hRg7k := k8.row Rg7.out
                    clear Rg9
                    clear Rg12
                    clear Rg14
                    obtain ⟨g16, h_g16⟩ : ∃ g_, w8.heap.size = g_ := ⟨_, rfl⟩
                    rw [h_g16] at rr8
                    simp only [h_g16]
                    have hbx := NewT.trans _ _ _ HM.out k8
                    have HGg16 : Hid (g7 < g16 ∧ w8.heap.size ≤ g16) := Lib.hid (by rw [← h_g16]; exact ⟨(k8.row Rg7.out).lt, Nat.le_refl _⟩)
                    replace Rg7 := Lib.hid (hn8.row (k8.row Rg7.out))
                    replace HV := Lib.hid (hbx.pairs HV.out)
                    replace HX := Lib.hid (hbx.recV HX.out)
                    replace HSX := Lib.hid (hbx.pairs HSX.out)
                    replace HD := Lib.hid (hbx.rd HD.out)
                    replace HB := Lib.hid (NewT.trans _ _ _ HB.out hbx)
                    replace HM := Lib.hid hn8
                    have Rg16 := Lib.hid rr8
                    clear hbx hn8 rr8 k8 h_g16
                    have HSA := Lib.hid hsx
                    have HOKA : Hid (OkG l ga) := Lib.hid (by rw [← hga.out]; exact ok_st Hm.out (inv_st0 q) Hlim.out.2 (by omega))
                    obtain ⟨y, HY⟩ := hid_ex ({ dueX l (q : Int) ga with seq := 1 } : Rc)
                    have HY0 : Hid (y.steps = [] ∧ y.data = []) := Lib.hid (by rw [← HY.out]; exact ⟨due_nil l q ga, due_nil2 l q ga⟩)
                    have HGA := go_due (l := l) (s := st0) (lim := q) Hm.out (inv_st0 q) Hlim.out.1 Hlim.out.2 (q := 1) rfl (by show (0 : Nat) < 2; omega) (x := y) (by rw [hga.out, HY.out])
                    rw [hga.out] at HGA
                    obtain ⟨gt, hgt⟩ := hid_ex (wentG l (q : Int) ga y)
                    have HGT : Hid (goesB l (q : Int) ga y = true ∧ gt = ofSt (dueA (kks l).length q st0) 2) := Lib.hid ⟨HGA.1, by rw [← hgt.out]; exact HGA.2⟩
                    have HWT : Hid (gt.wt = true) := Lib.hid (by
                      rw [HGT.out.2]
                      have hlen : (0 : Nat) ≠ (kks l).length := by rw [kks_len]; have := HL6.out; omega
                      have e : dueA (kks l).length q st0 = { st0 with t := 0 + 1, w := true } := by
                        unfold dueA
                        rw [if_pos (show st0.ph = 0 from rfl), if_neg (show ¬ st0.a = (kks l).length from hlen), if_pos (show st0.t < q by show 0 < q; have := Hlim.out; omega)]
                        rfl
                      rw [e]; rfl)
                    have HOKT : Hid (OkG l gt) := Lib.hid (by
                      rw [HGT.out.2]
                      exact ok_st Hm.out (by have := next_inv (ks := kks l) (lim := q) (ans := 0) (may_kinds Hm.out) (inv_st0 q); exact this) Hlim.out.2 (by omega))
                    clear hsx hnl hng HGA hRg7k
                    go_upto_region 13 with fail
                    refine wp_region_steps0 NewT [SV.eq (.agg (rowA 10 (sgF sx ga))), SV.eq (.int .i64 ((q : Int))), SV.eq ((.tuple #[.agg (rowA 109 (recF (dueX l (q : Int) ga) (.slice none 0 0) (.slice none 0 0))), .bool (inG (q : Int) ga)])), SV.eq ((.tuple #[.agg (rowA 109 (recF (dueX l (q : Int) ga) (.slice none 0 0) (.slice none 0 0))), .bool (inG (q : Int) ga)])), SV.eq ((.agg (rowA 109 (recF (dueX l (q : Int) ga) (.slice none 0 0) (.slice none 0 0))))), SV.eq (.bool (inG (q : Int) ga))] [([(16, none)], none), ([(1, none)], none), ([(76, some 0), (77, some 1)], none), ([(78, some 2)], none), ([(75, some 3)], none), ([(75, some 3)], none)] 116 6 rfl rfl (by kernel_rfl) NewT.trans (NewT.refl _) (Nat.le_of_ble_eq_true rfl) ⟨?_, ?_, ?_, ?_, ?_, ?_, trivial⟩ ?_
                    · exact fun a wx hT hF K hK => rely_wp rfl (opr_ldU (hT.row Rg16.out) rfl hF.1 (hK _ _ (NewT.refl _) rfl))
                    · exact fun a wx hT hF K hK => rely_wp rfl (opr_move (.inl rfl) (hK _ _ (NewT.refl _) hF.1))
                    · exact fun a wx hT hF K hK => rely_wp rfl (opr_cv (Due_cv sx l ga (q : Int) wx ((NewT.trans _ _ _ HM.out hT).pairs HSA.out.1) HOKA.out) rfl Try.func18 (by kernel_rfl) (by kernel_rfl) (evs2 hF.1 hF.2.1) hK)
                    · exact fun a wx hT hF K hK => rely_wp rfl (opr_move (.inl rfl) (hK _ _ (NewT.refl _) hF.1))
                    · exact fun a wx hT hF K hK => rely_wp rfl (opr_ext rfl hF.1 rfl (hK _ _ (NewT.refl _) rfl))
                    · exact fun a wx hT hF K hK => rely_wp rfl (opr_ext rfl hF.1 rfl (hK _ _ (NewT.refl _) rfl))
                    · intro w9 k9
                      iterate 6 (intro u h; obtain rfl := Eq.symm (h (by simp)); clear h)
                      refine relyEnd_nil rfl ?_
                      simp only [Act.put, List.setIfInBounds_toArray, List.set_cons_zero, List.set_cons_succ]
                      refine wpList_new (n := 109) (f := recF (dueX l (q : Int) ga) (.slice none 0 0) (.slice none 0 0)) rfl rfl rfl rfl rfl rfl (by first | (simp; done) | simp [Act.put]) run_alloc_rec info_rec (recF_one _ _ _ rfl rfl) rfl ?_
                      intro W9 hn9 rr9
                      simp only [Act.put, List.setIfInBounds_toArray, List.set_cons_zero, List.set_cons_succ]
                      refine wpList_plain rfl (fun K hK => ?_)
                      refine opr_move (.inr rfl) (hK _ _ ?_)
                      clear hK K
                      refine wpList_end rfl ?_
                      simp only [Act.put, List.setIfInBounds_toArray, List.set_cons_zero, List.set_cons_succ]
                      go_simp
                      obtain ⟨g17, h_g17⟩ : ∃ g_, w9.heap.size = g_ := ⟨_, rfl⟩
                      rw [h_g17] at rr9
                      simp only [h_g17]
                      have HGg17 : Hid (g7 < g17 ∧ g16 < g17 ∧ w8.heap.size ≤ g17) := Lib.hid (by rw [← h_g17]; exact ⟨(k9.row Rg7.out).lt, (k9.row Rg16.out).lt, (NewT.trans _ _ _ HM.out k9).out.size⟩)
                      have q9 := NewT.trans _ _ _ k9 hn9
                      clear k9 hn9 h_g17
                      replace Rg7 := Lib.hid (q9.row Rg7.out)
                      replace Rg16 := Lib.hid (q9.row Rg16.out)
                      replace HM := Lib.hid (NewT.trans _ _ _ HM.out q9)
                      clear q9
                      have Rg17 := Lib.hid rr9
                      clear rr9
                      go_upto_region 14 with fail
                      refine wp_region_steps0 NewT [SV.eq (.pointer (some ⟨g17, 2, none⟩))] [([(17, none)], none)] 116 1 rfl rfl (by kernel_rfl) NewT.trans (NewT.refl _) (Nat.le_of_ble_eq_true rfl) ⟨?_, trivial⟩ ?_
                      · exact fun a wx hT hF K hK => rely_wp rfl (opr_fldR (by decide) rfl hF.1 (hK _ _ (NewT.refl _) rfl))
                      · intro w10 k10
                        intro u h; obtain rfl := Eq.symm (h (by simp)); clear h
                        refine relyEnd_nil rfl ?_
                        simp only [Act.put, List.setIfInBounds_toArray, List.set_cons_zero, List.set_cons_succ]
                        refine wpList_plain rfl (fun K hK => ?_)
                        refine opr_put1 (g := g17) (o0 := 2) (v := .int .i64 1) (F := recF { dueX l (q : Int) ga with seq := 1 } (.slice none 0 0) (.slice none 0 0)) rfl rfl rfl (k10.row Rg17.out) (by decide) info_i1 rfl (fun i _ => rs_seq (dueX l (q : Int) ga) (.slice none 0 0) (.slice none 0 0) i _) ?_
                        intro W10 hR10 rr10
                        refine hK _ _ ?_
                        clear hK K
                        refine wpList_end rfl ?_
                        simp only [Act.put, List.setIfInBounds_toArray, List.set_cons_zero, List.set_cons_succ]
                        go_simp
                        replace Rg17 := Lib.hid rr10
                        replace Rg7 := Lib.hid (hR10.row (by have h_0 := HGg16.out; have h_1 := HGg17.out; omega) (k10.row Rg7.out))
                        replace Rg16 := Lib.hid (hR10.row (by have h_0 := HGg16.out; have h_1 := HGg17.out; omega) (k10.row Rg16.out))
                        replace HM := Lib.hid (NewT.rt (NewT.trans _ _ _ HM.out k10) hR10 (by have h_0 := HGg16.out; have h_1 := HGg17.out; omega))
                        clear k10 hR10 rr10
                        replace Rg17 : Hid (W10.rowIs g17 41 109 (recF y (.slice none 0 0) (.slice none 0 0))) := Lib.hid (by rw [← HY.out]; exact Rg17.out)
                        go_upto_region 15 with fail
                        refine wp_region_steps0 NewT [SV.eq (.agg (rowA 10 (sgF sx ga))), SV.eq (.agg (rowA 109 (recF y (.slice none 0 0) (.slice none 0 0)))), SV.eq (.int .i64 ((q : Int))), SV.eq ((.tuple #[.agg (rowA 10 (sgF sx (wentG l (q : Int) ga y))), .bool (goesB l (q : Int) ga y)])), SV.eq ((.tuple #[.agg (rowA 10 (sgF sx (wentG l (q : Int) ga y))), .bool (goesB l (q : Int) ga y)])), SV.eq ((.agg (rowA 10 (sgF sx (wentG l (q : Int) ga y))))), SV.eq (.bool (goesB l (q : Int) ga y))] [([(16, none)], none), ([(17, none)], none), ([(1, none)], none), ([(83, some 0), (84, some 1), (85, some 2)], none), ([(86, some 3)], none), ([(82, some 4)], none), ([(82, some 4)], none)] 116 7 rfl rfl (by kernel_rfl) NewT.trans (NewT.refl _) (Nat.le_of_ble_eq_true rfl) ⟨?_, ?_, ?_, ?_, ?_, ?_, ?_, trivial⟩ ?_
                        · exact fun a wx hT hF K hK => rely_wp rfl (opr_ldU (hT.row Rg16.out) rfl hF.1 (hK _ _ (NewT.refl _) rfl))
                        · exact fun a wx hT hF K hK => rely_wp rfl (opr_ldR (hT.row Rg17.out) rfl hF.1 (hK _ _ (NewT.refl _) rfl))
                        · exact fun a wx hT hF K hK => rely_wp rfl (opr_move (.inl rfl) (hK _ _ (NewT.refl _) hF.1))
                        · exact fun a wx hT hF K hK => rely_wp rfl (opr_cv (Go_cv sx l ga y _ (q : Int) wx ((NewT.trans _ _ _ HM.out hT).pairs HSA.out.1) (recV_nilS wx y HY0.out.1 HY0.out.2) HOKA.out) rfl Try.func17 (by kernel_rfl) (by kernel_rfl) (evs3 hF.1 hF.2.1 hF.2.2.1) hK)
                        · exact fun a wx hT hF K hK => rely_wp rfl (opr_move (.inl rfl) (hK _ _ (NewT.refl _) hF.1))
                        · exact fun a wx hT hF K hK => rely_wp rfl (opr_ext rfl hF.1 rfl (hK _ _ (NewT.refl _) rfl))
                        · exact fun a wx hT hF K hK => rely_wp rfl (opr_ext rfl hF.1 rfl (hK _ _ (NewT.refl _) rfl))
                        · intro w11 k11
                          iterate 7 (intro u h; obtain rfl := Eq.symm (h (by simp)); clear h)
                          refine relyEnd_nil rfl ?_
                          simp only [Act.put, List.setIfInBounds_toArray, List.set_cons_zero, List.set_cons_succ]
                          refine wpList_new (n := 10) (f := sgF sx ((wentG l (q : Int) ga y))) rfl rfl rfl rfl rfl rfl (by first | (simp; done) | simp [Act.put]) run_alloc_saga info_saga (sgF_one _ _ (oneP HSA.out.1)) rfl ?_
                          intro W11 hn11 rr11
                          simp only [Act.put, List.setIfInBounds_toArray, List.set_cons_zero, List.set_cons_succ]
                          refine wpList_plain rfl (fun K hK => ?_)
                          refine opr_move (.inr rfl) (hK _ _ ?_)
                          clear hK K
                          refine wpList_end rfl ?_
                          simp only [Act.put, List.setIfInBounds_toArray, List.set_cons_zero, List.set_cons_succ]
                          go_simp
                          obtain ⟨g19, h_g19⟩ : ∃ g_, w11.heap.size = g_ := ⟨_, rfl⟩
                          rw [h_g19] at rr11
                          simp only [h_g19]
                          have HGg19 : Hid (g7 < g19 ∧ g16 < g19 ∧ g17 < g19 ∧ w8.heap.size ≤ g19) := Lib.hid (by rw [← h_g19]; exact ⟨(k11.row Rg7.out).lt, (k11.row Rg16.out).lt, (k11.row Rg17.out).lt, (NewT.trans _ _ _ HM.out k11).out.size⟩)
                          have q11 := NewT.trans _ _ _ k11 hn11
                          clear k11 hn11 h_g19
                          replace Rg7 := Lib.hid (q11.row Rg7.out)
                          replace Rg16 := Lib.hid (q11.row Rg16.out)
                          replace Rg17 := Lib.hid (q11.row Rg17.out)
                          replace HM := Lib.hid (NewT.trans _ _ _ HM.out q11)
                          clear q11
                          have Rg19 := Lib.hid rr11
                          clear rr11
                          replace Rg19 : Hid (W11.rowIs g19 27 10 (sgF sx gt)) := Lib.hid (by rw [← hgt.out]; exact Rg19.out)
                          rw [HGT.out.1]
                          obtain ⟨x2, hx2⟩ := hid_ex ({ x with seq := 2 } : Rc)
                          have HF2 : Hid (∀ i, i < 109 → recF x2 su dv i = if i = 2 then .int .i64 2 else recF x su dv i) := Lib.hid (by rw [← hx2.out]; exact fun i _ => rs_seq x su dv i 2)
                          go_upto_region 16 with fail
                          refine wp_region_steps0 NewT [SV.eq (.pointer (some ⟨g7, 2, none⟩))] [([(7, none)], none)] 116 1 rfl rfl (by kernel_rfl) NewT.trans (NewT.refl _) (Nat.le_of_ble_eq_true rfl) ⟨?_, trivial⟩ ?_
                          · exact fun a wx hT hF K hK => rely_wp rfl (opr_fldR (by decide) rfl hF.1 (hK _ _ (NewT.refl _) rfl))
                          · intro w12 k12
                            intro u h; obtain rfl := Eq.symm (h (by simp)); clear h
                            refine relyEnd_nil rfl ?_
                            simp only [Act.put, List.setIfInBounds_toArray, List.set_cons_zero, List.set_cons_succ]
                            refine wpList_plain rfl (fun K hK => ?_)
                            refine opr_put1 (g := g7) (o0 := 2) (v := .int .i64 2) (F := recF x2 su dv) rfl rfl rfl (k12.row Rg7.out) (by decide) info_i1 rfl HF2.out ?_
                            intro W12 hR rr
                            refine hK _ _ ?_
                            clear hK K
                            refine wpList_end rfl ?_
                            simp only [Act.put, List.setIfInBounds_toArray, List.set_cons_zero, List.set_cons_succ]
                            go_simp
                            have hbw := NewT.trans _ _ _ HM.out k12
                            have hB3 : NewT w W12 := NewT.rt (NewT.trans _ _ _ HB.out hbw) hR HG7B.out
                            replace HSA := Lib.hid ((HSA.out.new hbw).rt hR (Nat.lt_succ_self _))
                            replace Rg19 := Lib.hid (hR.row (by have h_0 := HGg16.out; have h_1 := HGg17.out; have h_2 := HGg19.out; omega) (k12.row Rg19.out))
                            replace Rg7 := Lib.hid rr
                            have HX2 : Hid (RecV W12 (.agg (rowA 109 (recF x2 su dv))) x2) := Lib.hid ⟨su, dv, rfl, by rw [← hx2.out]; exact hB3.pairs HSX0.out, by rw [← hx2.out]; exact hB3.rd HD0.out⟩
                            clear HX HSX HD HV Rg16 Rg17
                            have HXK : Hid (x2.kind = x.kind) := Lib.hid (by rw [← hx2.out])
                            replace HB := Lib.hid hB3
                            replace HM := Lib.hid (NewT.refl W12)
                            have HSX : Hid (RdP W12 su x2.steps) := Lib.hid (by rw [← hx2.out]; exact hB3.pairs HSX0.out)
                            have HD : Hid (RdV W12 [] dv x2.data) := Lib.hid (by rw [← hx2.out]; exact hB3.rd HD0.out)
                            clear hbw hB3 hR rr k12
                            go_upto_region 17 with fail
                            refine wp_region_steps0 NewT [SV.eq (.agg (rowA 10 (sgF sx gt))), SV.eq (.agg (rowA 109 (recF x2 su dv))), SV.eq (.int .i64 ((q : Int))), SV.eq ((.tuple #[.agg (rowA 10 (sgF sx (wentG l (q : Int) gt x2))), .bool (goesB l (q : Int) gt x2)])), SV.eq ((.tuple #[.agg (rowA 10 (sgF sx (wentG l (q : Int) gt x2))), .bool (goesB l (q : Int) gt x2)])), SV.eq ((.agg (rowA 10 (sgF sx (wentG l (q : Int) gt x2))))), SV.eq (.bool (goesB l (q : Int) gt x2))] [([(19, none)], none), ([(7, none)], none), ([(1, none)], none), ([(91, some 0), (92, some 1), (93, some 2)], none), ([(94, some 3)], none), ([(90, some 4)], none), ([(90, some 4)], none)] 116 7 rfl rfl (by kernel_rfl) NewT.trans (NewT.refl _) (Nat.le_of_ble_eq_true rfl) ⟨?_, ?_, ?_, ?_, ?_, ?_, ?_, trivial⟩ ?_
                            · exact fun a wx hT hF K hK => rely_wp rfl (opr_ldU (hT.row Rg19.out) rfl hF.1 (hK _ _ (NewT.refl _) rfl))
                            · exact fun a wx hT hF K hK => rely_wp rfl (opr_ldR (hT.row Rg7.out) rfl hF.1 (hK _ _ (NewT.refl _) rfl))
                            · exact fun a wx hT hF K hK => rely_wp rfl (opr_move (.inl rfl) (hK _ _ (NewT.refl _) hF.1))
                            · exact fun a wx hT hF K hK => rely_wp rfl (opr_cv (Go_cv sx l gt x2 _ (q : Int) wx ((NewT.trans _ _ _ HM.out hT).pairs HSA.out.1) ((NewT.trans _ _ _ HM.out hT).recV HX2.out) HOKT.out) rfl Try.func17 (by kernel_rfl) (by kernel_rfl) (evs3 hF.1 hF.2.1 hF.2.2.1) hK)
                            · exact fun a wx hT hF K hK => rely_wp rfl (opr_move (.inl rfl) (hK _ _ (NewT.refl _) hF.1))
                            · exact fun a wx hT hF K hK => rely_wp rfl (opr_ext rfl hF.1 rfl (hK _ _ (NewT.refl _) rfl))
                            · exact fun a wx hT hF K hK => rely_wp rfl (opr_ext rfl hF.1 rfl (hK _ _ (NewT.refl _) rfl))
                            · intro w13 k13
                              iterate 7 (intro u h; obtain rfl := Eq.symm (h (by simp)); clear h)
                              refine relyEnd_nil rfl ?_
                              simp only [Act.put, List.setIfInBounds_toArray, List.set_cons_zero, List.set_cons_succ]
                              refine wpList_new (n := 10) (f := sgF sx ((wentG l (q : Int) gt x2))) rfl rfl rfl rfl rfl rfl (by first | (simp; done) | simp [Act.put]) run_alloc_saga info_saga (sgF_one _ _ (oneP HSA.out.1)) rfl ?_
                              intro W13 hn13 rr13
                              simp only [Act.put, List.setIfInBounds_toArray, List.set_cons_zero, List.set_cons_succ]
                              refine wpList_plain rfl (fun K hK => ?_)
                              refine opr_move (.inr rfl) (hK _ _ ?_)
                              clear hK K
                              refine wpList_end rfl ?_
                              simp only [Act.put, List.setIfInBounds_toArray, List.set_cons_zero, List.set_cons_succ]
                              go_simp
                              obtain ⟨g21, h_g21⟩ : ∃ g_, w13.heap.size = g_ := ⟨_, rfl⟩
                              rw [h_g21] at rr13
                              simp only [h_g21]
                              have HGg21 : Hid (g7 < g21 ∧ g19 < g21 ∧ W12.heap.size ≤ g21) := Lib.hid (by rw [← h_g21]; exact ⟨(k13.row Rg7.out).lt, (k13.row Rg19.out).lt, (NewT.trans _ _ _ HM.out k13).out.size⟩)
                              have q13 := NewT.trans _ _ _ k13 hn13
                              clear k13 hn13 h_g21
                              replace Rg7 := Lib.hid (q13.row Rg7.out)
                              replace Rg19 := Lib.hid (q13.row Rg19.out)
                              replace HM := Lib.hid (NewT.trans _ _ _ HM.out q13)
                              clear q13
                              have Rg21 := Lib.hid rr13
                              clear rr13
                              go_upto_region 18 with fail
                              obtain ⟨q1_18, Q1_18⟩ : ∃ bq_, ((!(goesB l (q : Int) gt x2)) || (x2.kind == 3)) = bq_ := ⟨_, rfl⟩
                              obtain ⟨q2_18, Q2_18⟩ : ∃ bq_, (gt.wt && (q1_18 || (x2.kind == 4))) = bq_ := ⟨_, rfl⟩
                              refine wp_region_steps0 NewT [SV.eq (.bool true), SV.eq (.bool true), SV.eq (.pointer (some ⟨g19, 4, none⟩)), SV.eq (.bool (gt.wt)), SV.eq (.bool (gt.wt)), SV.eq (.bool (gt.wt)), svIf (gt.wt) (SV.eq (.bool (goesB l (q : Int) gt x2))), svIf (gt.wt) (SV.eq (.bool (!(goesB l (q : Int) gt x2)))), SV.eq (gV (gt.wt) (!(goesB l (q : Int) gt x2))), svIf (gt.wt && ((!(!(goesB l (q : Int) gt x2))))) (SV.eq (.pointer (some ⟨g7, 0, none⟩))), svIf (gt.wt && ((!(!(goesB l (q : Int) gt x2))))) (SV.eq (.int .i64 (x2.kind))), svIf (gt.wt && ((!(!(goesB l (q : Int) gt x2))))) (SV.eq (.bool (x2.kind == 3))), svIf (gt.wt) (SV.eq (.bool (q1_18))), SV.eq (gV (gt.wt) (q1_18)), svIf (gt.wt && ((!q1_18))) (SV.eq (.pointer (some ⟨g7, 0, none⟩))), svIf (gt.wt && ((!q1_18))) (SV.eq (.int .i64 (x2.kind))), svIf (gt.wt && ((!q1_18))) (SV.eq (.bool (x2.kind == 4))), svIf (gt.wt) (SV.eq (.bool (q1_18 || (x2.kind == 4)))), SV.eq (.bool (q2_18)), SV.eq (.bool (q2_18))] [([(20, none)], none), ([(97, some 0)], none), ([(19, none), (98, some 1)], some (98, true)), ([(99, some 2), (98, some 1)], some (98, true)), ([(98, some 1), (100, some 3)], none), ([(101, some 4)], none), ([(22, none), (102, some 5)], some (102, true)), ([(103, some 6), (102, some 5)], some (102, true)), ([(104, some 7), (102, some 5)], some (102, true)), ([(7, none), (105, some 8)], some (105, false)), ([(106, some 9), (105, some 8)], some (105, false)), ([(107, some 10), (105, some 8)], some (105, false)), ([(105, some 8), (108, some 11), (102, some 5)], some (102, true)), ([(109, some 12), (102, some 5)], some (102, true)), ([(7, none), (110, some 13)], some (110, false)), ([(111, some 14), (110, some 13)], some (110, false)), ([(112, some 15), (110, some 13)], some (110, false)), ([(110, some 13), (113, some 16), (102, some 5)], some (102, true)), ([(102, some 5), (114, some 17)], none), ([(115, some 18)], none)] 116 20 rfl rfl (by kernel_rfl) NewT.trans (NewT.refl _) (Nat.le_of_ble_eq_true rfl) ⟨?_, ?_, ?_, ?_, ?_, ?_, ?_, ?_, ?_, ?_, ?_, ?_, ?_, ?_, ?_, ?_, ?_, ?_, ?_, ?_, trivial⟩ ?_
                              · exact fun a wx hT hF K hK => rely_wp rfl (opr_move (.inl rfl) (hK _ _ (NewT.refl _) hF.1))
                              · exact fun a wx hT hF K hK => rely_wp rfl (opr_move (.inl rfl) (hK _ _ (NewT.refl _) hF.1))
                              · exact fun a wx hT hF K hK => rely_wp (rely_guard hF.2.1) (opr_fldU4 rfl hF.1 (hK _ _ (NewT.refl _) rfl))
                              · exact fun a wx hT hF K hK => rely_wp (rely_guard hF.2.1) (opr_ldQ (hT.row Rg19.out) (by decide) rfl rfl hF.1 (hK _ _ (NewT.refl _) rfl))
                              · exact fun a wx hT hF K hK => rely_wp rfl (opr_pick_true rfl hF.1 (hK _ _ (NewT.refl _) hF.2.1))
                              · exact fun a wx hT hF K hK => rely_wp rfl (opr_move (.inl rfl) (hK _ _ (NewT.refl _) hF.1))
                              · exact fun a wx hT hF K hK => rely_if (rely_gt hF.2.1) (NewT.refl _) hK fun hE hK => opr_move (.inl rfl) (hK _ _ (NewT.refl _) hF.1)
                              · exact fun a wx hT hF K hK => rely_if (rely_gt hF.2.1) (NewT.refl _) hK fun hE hK => opr_not rfl (hF.1 hE) (hK _ _ (NewT.refl _) rfl)
                              · exact fun a wx hT hF K hK => rely_ifg (rely_gt hF.2.1) (NewT.refl _) hK fun hE hK => opr_move (.inl rfl) (hK _ _ (NewT.refl _) (hF.1 hE))
                              · exact fun a wx hT hF K hK => rely_if (rely_ggf hF.2.1) (NewT.refl _) hK fun hE hK => opr_fldR (by decide) rfl hF.1 (hK _ _ (NewT.refl _) rfl)
                              · exact fun a wx hT hF K hK => rely_if (rely_ggf hF.2.1) (NewT.refl _) hK fun hE hK => opr_ldI (hT.row Rg7.out) (by decide) rfl rfl (hF.1 hE) (hK _ _ (NewT.refl _) rfl)
                              · exact fun a wx hT hF K hK => rely_if (rely_ggf hF.2.1) (NewT.refl _) hK fun hE hK => opr_cmp (b := x2.kind == 3) (.inl ⟨rfl, rfl⟩) Try.underlying3 rfl (hF.1 hE) rfl (hK _ _ (NewT.refl _) rfl)
                              · exact fun a wx hT hF K hK => rely_if (rely_gt hF.2.2.1) (NewT.refl _) hK fun hE hK => opr_pick_b rfl (hF.1.trans (gV_on hE)) (fun hb => hK _ _ (NewT.refl _) (pn_or1 Q1_18 hb)) (fun hb => hK _ _ (NewT.refl _) (pn_or0 Q1_18 (hF.2.1 (band hE (bnot hb))) hb))
                              · exact fun a wx hT hF K hK => rely_ifg (rely_gt hF.2.1) (NewT.refl _) hK fun hE hK => opr_move (.inl rfl) (hK _ _ (NewT.refl _) (hF.1 hE))
                              · exact fun a wx hT hF K hK => rely_if (rely_ggf hF.2.1) (NewT.refl _) hK fun hE hK => opr_fldR (by decide) rfl hF.1 (hK _ _ (NewT.refl _) rfl)
                              · exact fun a wx hT hF K hK => rely_if (rely_ggf hF.2.1) (NewT.refl _) hK fun hE hK => opr_ldI (hT.row Rg7.out) (by decide) rfl rfl (hF.1 hE) (hK _ _ (NewT.refl _) rfl)
                              · exact fun a wx hT hF K hK => rely_if (rely_ggf hF.2.1) (NewT.refl _) hK fun hE hK => opr_cmp (b := x2.kind == 4) (.inl ⟨rfl, rfl⟩) Try.underlying3 rfl (hF.1 hE) rfl (hK _ _ (NewT.refl _) rfl)
                              · exact fun a wx hT hF K hK => rely_if (rely_gt hF.2.2.1) (NewT.refl _) hK fun hE hK => opr_pick_b rfl (hF.1.trans (gV_on hE)) (fun hb => hK _ _ (NewT.refl _) (pk_or1 hb)) (fun hb => hK _ _ (NewT.refl _) (pk_or0 (hF.2.1 (band hE (bnot hb))) hb))
                              · exact fun a wx hT hF K hK => rely_wp rfl (opr_pick_b rfl hF.1 (fun hb => hK _ _ (NewT.refl _) (pn_and1 Q2_18 (hF.2.1 hb) hb)) (fun hb => hK _ _ (NewT.refl _) (pn_and0 Q2_18 hb)))
                              · exact fun a wx hT hF K hK => rely_wp rfl (opr_move (.inr rfl) (hK _ _ (NewT.refl _) hF.1))
                              · intro w14 k14
                                iterate 6 (intro u h; obtain rfl := Eq.symm (h (by simp)); clear h)
                                iterate 12 (intro _ _)
                                iterate 2 (intro u h; obtain rfl := Eq.symm (h (by simp)); clear h)
                                subst Q2_18 Q1_18
                                refine relyEnd_nil rfl ?_
                                refine wpList_end rfl ?_
                                simp only [Act.put, List.setIfInBounds_toArray, List.set_cons_zero, List.set_cons_succ]
                                go_simp
                                replace Rg7 := Lib.hid (k14.row Rg7.out)
                                replace Rg19 := Lib.hid (k14.row Rg19.out)
                                replace Rg21 := Lib.hid (k14.row Rg21.out)
                                replace HM := Lib.hid (NewT.trans _ _ _ HM.out k14)
                                clear k14
                                go_wp2
                                go_ret
                                exact ⟨by
                                  show Ending.returned (.bool _) = _
                                  have h := HWT.out
                                  cases hgo : goesB l (q : Int) gt x2 with
                                  | false => simp [h]
                                  | true =>
                                    rcases go_wait h hgo with h3 | h3
                                    · simp [h, h3]
                                    · simp [h, h3], (NewT.trans _ _ _ HB.out HM.out).out⟩
      · skip
        go_wp2
        go_ret
        exact ⟨rfl, (NewT.trans _ _ _ HB.out HM.out).out⟩
end Go.Proofs.Ytfmahpgfeoafiaa
