/- The laws' ends: a run is over at one place. -/
import Derived.Test.YtfmahpgfeoafiaaMe
set_option linter.all false
namespace Go.Proofs.Ytfmahpgfeoafiaa
open Go Go.RowKit
set_option maxRecDepth 8000
set_option linter.all false
theorem run_uniq {ks : List Int} {lim : Nat} {ans : Nat → Nat} {n m : Nat} (h1 : 2 ≤ (seqA ks lim ans n).1.ph) (h2 : ∀ k, k < n → (seqA ks lim ans k).1.ph < 2) (h3 : 2 ≤ (seqA ks lim ans m).1.ph) (h4 : ∀ k, k < m → (seqA ks lim ans k).1.ph < 2) : n = m := by
  rcases Nat.lt_trichotomy n m with h | h | h
  · have := h4 n h; omega
  · exact h
  · have := h2 m h; omega
theorem rdV_nilZ (w : World) : RdV w [] (.slice none 0 0) [] := ⟨none, 0, rfl, Nat.le_refl _, by unfold maxLen; omega, fun h => absurd h (by simp)⟩
/-- A row of bytes reads as a list. -/
theorem rdV_row {W : World} {g t n : Nat} {f : Nat → UInt8} (h : W.rowIs g t n (bF f)) (hn : n ≤ 1000000) : RdV W [] (.slice (some ⟨g, 0, none⟩) n n) ((List.range n).map f) := rd_row h (by simp) hn
theorem ans_rep : ∀ i : Fin 30, ansN (List.replicate 30 2) i.val = 2 := by decide +kernel
theorem ans_none : ansN [] = fun _ => 0 := by funext i; unfold ansN; simp
theorem opr_idxU8 {a : Act} {w : World} {o : Oper} {K : Act → World → Prop} {Q : Exit → Act → World → Prop} {x y : Operand} {b n c k : Nat} (hk : k < n) (ho : o.op = .indexAddr 29 x y) (hx : a.eval x = .slice (some ⟨b, 0, none⟩) n c) (hy : a.eval y = .int .i64 (k : Int)) (h : K (a.put o.dst (.pointer (some ⟨b, k, none⟩))) w) : o.wp Try.prog a w K Q := by
  obtain ⟨dst, op, type, pos, after, guard⟩ := o
  simp only at ho
  subst ho
  refine opr_val (s := Instr.indexAt 29 (a.eval x) (a.eval y)) (v := .pointer (some ⟨b, k, none⟩)) rfl ?_ h
  rw [hx, hy]
  have hsz : (sizeOf 5).run Try.prog w = .ok 1 w := by
    have hs := info5s
    cases hq : Try.prog.info? 5 with
    | none => simp [hq] at hs
    | some i => simp [hq] at hs; simp [sizeOf, typeInfo, hq, hs]
  simp [Instr.indexAt, asIntOf, run_underlying Try.underlying29, hk, Addr.add_mid]
theorem info_u81 : (Try.prog.info? 5).map (·.size) = some 1 := by kernel_rfl
end Go.Proofs.Ytfmahpgfeoafiaa
/- The law SagaTries, walked: a saga none of whose calls is answered is Stuck behind as many tries as there may be of its first step, and, if that can be compensated, of its compensation. -/
namespace Go.Proofs.Ytfmahpgfeoafiaa
open Go Go.RowKit
set_option maxRecDepth 8000
set_option linter.all false
set_option maxHeartbeats 4000000 in
theorem SagaTries_walk (v : Value) (l : List (Int × Int)) (lim : Int) (w : World) (h : RdP w v l) : Calls Try.prog 7 #[v, .int .i64 lim] w fun e w' => e = .returned (.bool true) ∧ Below w.heap.size w w' := by
  have HV := Lib.hid h
  clear h
  go_enter Try.func7, Try.ntmps7
  go_upto_region 1 with fail
  have HB := Lib.hid (NewT.refl w)
  have HM := Lib.hid (NewT.refl w)
  refine wp_region_steps0 NewT [SV.eq (.bool true), SV.eq (.bool false)] [([], none), ([(10, some 0)], none)] 82 2 rfl rfl (by kernel_rfl) NewT.trans (NewT.refl _) (Nat.le_of_ble_eq_true rfl) ⟨?_, ?_, trivial⟩ ?_
  · exact fun a wx hT hF K hK => rely_wp rfl (opr_cv (alive11_c wx) rfl Try.func8 (by kernel_rfl) (by kernel_rfl) evs0 hK)
  · exact fun a wx hT hF K hK => rely_wp rfl (opr_not rfl hF.1 (hK _ _ (NewT.refl _) rfl))
  · intro w1 k1
    iterate 2 (intro u h; obtain rfl := Eq.symm (h (by simp)); clear h)
    refine relyEnd_nil rfl ?_
    refine wpList_end rfl ?_
    simp only [Act.put, List.setIfInBounds_toArray, List.set_cons_zero, List.set_cons_succ]
    go_simp
    replace HM := Lib.hid (NewT.trans _ _ _ HM.out k1)
    clear k1
    go_upto_region 3 with fail
    obtain ⟨q1_3, Q1_3⟩ : ∃ bq_, ((!(mayL l)) || (decide (lim < 1))) = bq_ := ⟨_, rfl⟩
    refine wp_region_steps0 NewT [SV.eq (v), SV.eq (.bool (mayL l)), SV.eq (.bool (!(mayL l))), SV.eq (.bool (!(mayL l))), svIf ((!(!(mayL l)))) (SV.eq (.int .i64 (lim))), svIf ((!(!(mayL l)))) (SV.eq (.bool (decide (lim < 1)))), SV.eq (.bool (q1_3)), SV.eq (.bool (q1_3)), svIf ((!q1_3)) (SV.eq (.int .i64 (lim))), svIf ((!q1_3)) (SV.eq (.bool (decide (9 < lim)))), SV.eq (.bool (q1_3 || (decide (9 < lim))))] [([(0, none)], none), ([(12, some 0)], none), ([(13, some 1)], none), ([(14, some 2)], none), ([(1, none), (15, some 3)], some (15, false)), ([(16, some 4), (15, some 3)], some (15, false)), ([(15, some 3), (17, some 5)], none), ([(18, some 6)], none), ([(1, none), (19, some 7)], some (19, false)), ([(20, some 8), (19, some 7)], some (19, false)), ([(19, some 7), (21, some 9)], none)] 82 11 rfl rfl (by kernel_rfl) NewT.trans (NewT.refl _) (Nat.le_of_ble_eq_true rfl) ⟨?_, ?_, ?_, ?_, ?_, ?_, ?_, ?_, ?_, ?_, ?_, trivial⟩ ?_
    · exact fun a wx hT hF K hK => rely_wp rfl (opr_move (.inl rfl) (hK _ _ (NewT.refl _) hF.1))
    · exact fun a wx hT hF K hK => rely_wp rfl (opr_cv (gMay_cv _ l wx ((NewT.trans _ _ _ HM.out hT).pairs HV.out)) rfl Try.func9 (by kernel_rfl) (by kernel_rfl) (evs1 hF.1) hK)
    · exact fun a wx hT hF K hK => rely_wp rfl (opr_not rfl hF.1 (hK _ _ (NewT.refl _) rfl))
    · exact fun a wx hT hF K hK => rely_wp rfl (opr_move (.inl rfl) (hK _ _ (NewT.refl _) hF.1))
    · exact fun a wx hT hF K hK => rely_if (rely_gf hF.2.1) (NewT.refl _) hK fun hE hK => opr_move (.inl rfl) (hK _ _ (NewT.refl _) hF.1)
    · exact fun a wx hT hF K hK => rely_if (rely_gf hF.2.1) (NewT.refl _) hK fun hE hK => opr_cmp (b := decide (lim < 1)) (.inr (.inr (.inr (.inl ⟨rfl, rfl⟩)))) Try.underlying3 rfl (hF.1 hE) rfl (hK _ _ (NewT.refl _) rfl)
    · exact fun a wx hT hF K hK => rely_wp rfl (opr_pick_b rfl hF.1 (fun hb => hK _ _ (NewT.refl _) (pn_or1 Q1_3 hb)) (fun hb => hK _ _ (NewT.refl _) (pn_or0 Q1_3 (hF.2.1 (bnot hb)) hb)))
    · exact fun a wx hT hF K hK => rely_wp rfl (opr_move (.inl rfl) (hK _ _ (NewT.refl _) hF.1))
    · exact fun a wx hT hF K hK => rely_if (rely_gf hF.2.1) (NewT.refl _) hK fun hE hK => opr_move (.inl rfl) (hK _ _ (NewT.refl _) hF.1)
    · exact fun a wx hT hF K hK => rely_if (rely_gf hF.2.1) (NewT.refl _) hK fun hE hK => opr_cmp (b := decide (9 < lim)) (.inr (.inr (.inr (.inr (.inl ⟨rfl, rfl⟩))))) Try.underlying3 rfl (hF.1 hE) rfl (hK _ _ (NewT.refl _) rfl)
    · exact fun a wx hT hF K hK => rely_wp rfl (opr_pick_b rfl hF.1 (fun hb => hK _ _ (NewT.refl _) (pk_or1 hb)) (fun hb => hK _ _ (NewT.refl _) (pk_or0 (hF.2.1 (bnot hb)) hb)))
    · intro w2 k2
      iterate 4 (intro u h; obtain rfl := Eq.symm (h (by simp)); clear h)
      iterate 2 (intro _ _)
      iterate 2 (intro u h; obtain rfl := Eq.symm (h (by simp)); clear h)
      iterate 2 (intro _ _)
      intro u h; obtain rfl := Eq.symm (h (by simp)); clear h
      subst Q1_3
      refine relyEnd_nil rfl ?_
      refine wpList_end rfl ?_
      simp only [Act.put, List.setIfInBounds_toArray, List.set_cons_zero, List.set_cons_succ]
      go_simp
      replace HM := Lib.hid (NewT.trans _ _ _ HM.out k2)
      clear k2
      cases hq : (((!(mayL l)) || (decide (lim < 1))) || (decide (9 < lim)))
      · have hq' := hq
        simp only [Bool.or_eq_false_iff, Bool.not_eq_false', decide_eq_false_iff_not] at hq'
        obtain ⟨q, rfl⟩ : ∃ q : Nat, lim = q := ⟨lim.toNat, by omega⟩
        have Hm : Hid (mayL l = true) := Lib.hid hq'.1.1
        have Hlim : Hid (1 ≤ q ∧ q ≤ 9) := Lib.hid (by omega)
        have HL6 := Lib.hid (may_len Hm.out)
        clear hq hq'
        obtain ⟨i0, hi, hz0, hz1, hz2⟩ := info_parts info5
        have hmk := make_bytes i0 hi hz0 hz1 hz2 30 (by omega) w2
        obtain ⟨gb, hgb⟩ : ∃ gb, w2.heap.size = gb := ⟨_, rfl⟩
        have hN := NewT.alloc w2 (.cells (rowA 30 (bF fun _ => 0)) 5)
        have rb := rowIs_box w2 5 30 (bF fun _ => 0)
        rw [hgb] at hmk rb
        have hbase : w.heap.size ≤ gb := by rw [← hgb]; exact HM.out.out.size
        have HGB := Lib.hid hbase
        replace HM := Lib.hid (NewT.trans _ _ _ HM.out hN)
        have hal : (w2.alloc (.cells (rowA 30 (bF fun _ => 0)) 5)).rowIs gb 5 30 (bF (putTo (fun _ => 2) 0)) := rb.congr (fun i hi2 => by show Value.int .u8 (bN 0) = Value.int .u8 (bN (putTo (fun _ => 2) 0 i)); unfold putTo; rw [if_neg (by omega)])
        go_upto_region 5 with fail
        refine wp_region_lit ?_
        refine wpList_plain rfl (fun K hK => ?_)
        refine opr_val (s := Instr.makeSlice 29 (.int .i64 30) (.int .i64 30)) rfl hmk (hK _ _ ?_)
        clear hK K hmk
        simp only [Act.put, List.setIfInBounds_toArray, List.set_cons_zero, List.set_cons_succ]
        refine wpList_plain rfl (fun K hK => ?_)
        refine opr_move (.inr rfl) (hK _ _ ?_)
        clear hK K
        refine wpList_end rfl ?_
        simp only [Act.put, List.setIfInBounds_toArray, List.set_cons_zero, List.set_cons_succ]
        go_simp
        have RB0 := Lib.hid hal
        clear hal rb hbase hgb hN hi hz0 hz1 hz2
        generalize w2.alloc (.cells (rowA 30 (bF fun _ => 0)) 5) = Wm at *
        go_wp2
        go_loopw [6] (fun i wr => ∃ k : Nat, k ≤ 30 ∧ i = .int .i64 (k : Int) ∧ Hid (wr.rowIs gb 5 30 (bF (putTo (fun _ => 2) k))) ∧ Hid (NewT w wr)) (fun i _ => 30 - (intOf i).toNat)
        case atStart => exact ⟨0, by omega, rfl, RB0, HM⟩
        case round =>
          clear HM RB0
          obtain ⟨k, hk, rfl, RB, HM⟩ := hrel
          by_cases hlt : k < 30
          · have it : (k : Int) < 30 := by omega
            have HK30 := Lib.hid hlt
            go_upto_region 9 with fail
            refine wp_region_lit ?_
            refine wpList_plain rfl (fun K hK => ?_)
            refine opr_move (.inl rfl) (hK _ _ ?_)
            clear hK K
            simp only [Act.put, List.setIfInBounds_toArray, List.set_cons_zero, List.set_cons_succ]
            refine wpList_plain rfl (fun K hK => ?_)
            refine opr_move (.inl rfl) (hK _ _ ?_)
            clear hK K
            simp only [Act.put, List.setIfInBounds_toArray, List.set_cons_zero, List.set_cons_succ]
            refine wpList_plain rfl (fun K hK => ?_)
            refine opr_idxU8 HK30.out rfl rfl rfl (hK _ _ ?_)
            clear hK K
            simp only [Act.put, List.setIfInBounds_toArray, List.set_cons_zero, List.set_cons_succ]
            refine wpList_plain rfl (fun K hK => ?_)
            refine opr_put1 (g := gb) (o0 := k) (v := .int .u8 2) (F := bF (putTo (fun _ => 2) (k + 1))) rfl (by first | rfl | (rw [eval_tmp]; rfl)) rfl RB.out HK30.out info_u81 rfl (fun i _ => ((putTo_set (fun _ => (2 : UInt8)) k i).symm)) ?_
            intro wa hRa ra
            refine hK _ _ ?_
            clear hK K
            refine wpList_end rfl ?_
            simp only [Act.put, List.setIfInBounds_toArray, List.set_cons_zero, List.set_cons_succ]
            have RBa := Lib.hid ra
            have HMa := Lib.hid (NewT.rt HM.out hRa HGB.out)
            clear ra hRa
            go_simp
            go_wp2
            go_roundw
            case rel => exact ⟨k + 1, by omega, by go_num, RBa, HMa⟩
            case measure => simp [intOf]; omega
          · obtain rfl : k = 30 := by omega
            have HR2 : Hid (RdV wr [] (.slice (some ⟨gb, 0, none⟩) 30 30) (List.replicate 30 2)) := Lib.hid (by
              have := rdV_row RB.out (by omega)
              have e : (List.range 30).map (putTo (fun _ => (2 : UInt8)) 30) = List.replicate 30 2 := by decide
              rwa [e] at this)
            clear RB
            obtain ⟨lb, HLB⟩ := hid_ex (List.replicate 30 (2 : UInt8))
            rw [HLB.out] at HR2
            have HA2 : Hid (∀ i, i < 30 → ansN lb i = 2) := Lib.hid (fun i hi => by rw [← HLB.out]; exact ans_rep ⟨i, hi⟩)
            replace HV := Lib.hid (HM.out.pairs HV.out)
            replace HB := Lib.hid HM.out
            replace HM := Lib.hid (NewT.refl wr)
            go_upto_region 10 with fail
            refine wp_region_steps0 NewT [SV.eq (v), SV.eq (.int .i64 ((q : Int))), SV.eq ((.slice (some ⟨gb, 0, none⟩) 30 30)), svRun l q (ansN lb)] [([(0, none)], none), ([(1, none)], none), ([(5, none)], none), ([(34, some 0), (35, some 1), (36, some 2)], none)] 82 4 rfl rfl (by kernel_rfl) NewT.trans (NewT.refl _) (Nat.le_of_ble_eq_true rfl) ⟨?_, ?_, ?_, ?_, trivial⟩ ?_
            · exact fun a wx hT hF K hK => rely_wp rfl (opr_move (.inl rfl) (hK _ _ (NewT.refl _) hF.1))
            · exact fun a wx hT hF K hK => rely_wp rfl (opr_move (.inl rfl) (hK _ _ (NewT.refl _) hF.1))
            · exact fun a wx hT hF K hK => rely_wp rfl (opr_move (.inl rfl) (hK _ _ (NewT.refl _) hF.1))
            · exact fun a wx hT hF K hK => rely_wp rfl (opr_cv (run_cv _ _ l lb q wx ((NewT.trans _ _ _ HM.out hT).pairs HV.out) ((NewT.trans _ _ _ HM.out hT).rd HR2.out) Hm.out Hlim.out) rfl Try.func14 (by kernel_rfl) (by kernel_rfl) (evs3 hF.1 hF.2.1 hF.2.2.1) hK)
            · intro w3 k3
              iterate 3 (intro u h; obtain rfl := Eq.symm (h (by simp)); clear h)
              intro u37 h; have g37 := h (by simp); clear h; replace g37 := show (svRun l q (ansN lb)).pred u37 w3 from g37
              refine relyEnd_nil rfl ?_
              simp only [Act.put, List.setIfInBounds_toArray, List.set_cons_zero, List.set_cons_succ]
              obtain ⟨n3, sv3, hn43, hph3, hno3, rfl, hsv3⟩ := (show RunV w3 l q (ansN lb) u37 from g37)
              refine wpList_plain rfl (fun K hK => ?_)
              refine opr_move (.inl rfl) (hK _ _ ?_)
              clear hK K
              simp only [Act.put, List.setIfInBounds_toArray, List.set_cons_zero, List.set_cons_succ]
              refine wpList_plain rfl (fun K hK => ?_)
              refine opr_ext (k := 0) rfl rfl rfl (hK _ _ ?_)
              clear hK K
              simp only [Act.put, List.setIfInBounds_toArray, List.set_cons_zero, List.set_cons_succ]
              refine wpList_plain rfl (fun K hK => ?_)
              refine opr_ext (k := 1) rfl rfl rfl (hK _ _ ?_)
              clear hK K
              simp only [Act.put, List.setIfInBounds_toArray, List.set_cons_zero, List.set_cons_succ]
              refine wpList_plain rfl (fun K hK => ?_)
              refine opr_ext (k := 2) rfl rfl rfl (hK _ _ ?_)
              clear hK K
              simp only [Act.put, List.setIfInBounds_toArray, List.set_cons_zero, List.set_cons_succ]
              refine wpList_new (n := 10) (f := sgF sv3 (ofSt (seqA (kks l) q (ansN lb) n3).1 ((n3 : Int) + 1))) rfl rfl rfl rfl rfl rfl (by first | (simp; done) | simp [Act.put]) run_alloc_saga info_saga (sgF_one _ _ (oneP hsv3)) rfl ?_
              intro W3 hn3 rr3
              simp only [Act.put, List.setIfInBounds_toArray, List.set_cons_zero, List.set_cons_succ]
              refine wpList_plain rfl (fun K hK => ?_)
              refine opr_move (.inr rfl) (hK _ _ ?_)
              clear hK K
              simp only [Act.put, List.setIfInBounds_toArray, List.set_cons_zero, List.set_cons_succ]
              refine wpList_plain rfl (fun K hK => ?_)
              refine opr_move (.inr rfl) (hK _ _ ?_)
              clear hK K
              simp only [Act.put, List.setIfInBounds_toArray, List.set_cons_zero, List.set_cons_succ]
              refine wpList_end rfl ?_
              try simp only [Act.put, List.setIfInBounds_toArray, List.set_cons_zero, List.set_cons_succ]
              go_simp
              obtain ⟨gg, hgg⟩ := hid_ex (ofSt (seqA (kks l) q (ansN lb) n3).1 ((n3 : Int) + 1))
              rw [hgg.out] at rr3
              obtain ⟨g7, h_g7⟩ : ∃ g_, w3.heap.size = g_ := ⟨_, rfl⟩
              rw [h_g7] at rr3
              simp only [h_g7]
              have hbx := NewT.trans _ _ _ HM.out k3
              have HGg7 : Hid (w3.heap.size ≤ g7) := Lib.hid (by rw [← h_g7]; exact Nat.le_refl _)
              replace HV := Lib.hid (hbx.pairs HV.out)
              replace HB := Lib.hid (NewT.trans _ _ _ HB.out hbx)
              replace HM := Lib.hid hn3
              have Rg7 := Lib.hid rr3
              clear hbx hn3 rr3 k3 h_g7
              have HPH := Lib.hid hph3
              have HNO := Lib.hid hno3
              have HSV := Lib.hid hsv3
              clear hph3 hno3 hsv3 hn43
              obtain ⟨d, HDD⟩ := hid_ex (l.getD 0 (0, 0))
              go_upto_region 11 with fail
              refine wp_region_steps0 NewT [SV.eq (v), svStp (d), svIp (d).2, SV.eq (.int .i64 ((d).2)), SV.eq (.bool (((d).2) == 1))] [([(0, none)], none), ([(41, some 0)], none), ([(42, some 1)], none), ([(43, some 2)], none), ([(44, some 3)], none)] 82 5 rfl rfl (by kernel_rfl) NewT.trans (NewT.refl _) (Nat.le_of_ble_eq_true rfl) ⟨?_, ?_, ?_, ?_, ?_, trivial⟩ ?_
              · exact fun a wx hT hF K hK => rely_wp rfl (opr_move (.inl rfl) (hK _ _ (NewT.refl _) hF.1))
              · intro a wx hT hF K hK
                obtain ⟨f41, _⟩ := hF
                have f41 : a.tmps.getD 41 undef = v := f41
                refine rely_wp rfl ?_
                exact opr_idxSt (k := 0) (d := d) (⟨HL6.out.1, HDD.out⟩) (rfl) rfl (by rw [eval_tmp, f41]; exact ((NewT.trans _ _ _ HM.out hT).pairs HV.out)) rfl (fun v hv => hK v _ (NewT.refl _) hv)
              · exact fun a wx hT hF K hK => rely_wp rfl (opr_fldSt1 rfl hF.1 (fun u hu => hK u _ (NewT.refl _) hu))
              · exact fun a wx hT hF K hK => rely_wp rfl (opr_ldIp rfl hF.1 (hK _ _ (NewT.refl _) rfl))
              · exact fun a wx hT hF K hK => rely_wp rfl (opr_cmp (b := ((d).2) == 1) (.inl ⟨rfl, rfl⟩) Try.underlying3 rfl hF.1 rfl (hK _ _ (NewT.refl _) rfl))
              · intro w4 k4
                intro u h; obtain rfl := Eq.symm (h (by simp)); clear h
                iterate 2 (intro _ _)
                iterate 2 (intro u h; obtain rfl := Eq.symm (h (by simp)); clear h)
                refine relyEnd_nil rfl ?_
                refine wpList_end rfl ?_
                simp only [Act.put, List.setIfInBounds_toArray, List.set_cons_zero, List.set_cons_succ]
                go_simp
                replace Rg7 := Lib.hid (k4.row Rg7.out)
                replace HM := Lib.hid (NewT.trans _ _ _ HM.out k4)
                clear k4
                cases h1 : (d.2 == 1)
                · have hc : kd (kks l) 0 ≠ 1 := by rw [kks_kd]; unfold kdL; rw [HDD.out]; simpa using h1
                  have he := try_end (ks := kks l) (lim := q) (ans := ansN lb) (by rw [kks_len]; exact HL6.out.1) (fun i hi => HA2.out i (by have := Hlim.out; omega)) hc
                  have hnn := run_uniq HPH.out HNO.out (by rw [he.1]; show (2 : Nat) ≤ 4; omega) he.2
                  have HG1 : Hid (gg.ph = 4 ∧ gg.at_ = 0 ∧ (n3 : Int) = 2 * (q : Int) + 1) := Lib.hid (by rw [← hgg.out, hnn, he.1]; exact ⟨rfl, rfl, by omega⟩)
                  clear h1 hc he hnn
                  go_upto_region 13 with fail
                  obtain ⟨q1_13, Q1_13⟩ : ∃ bq_, ((gg.ph == 4) && (((n3 : Int)) == (2 * (q : Int) + 1))) = bq_ := ⟨_, rfl⟩
                  refine wp_region_steps0 NewT [SV.eq (.bool true), SV.eq (.bool true), SV.eq (.pointer (some ⟨g7, 1, none⟩)), SV.eq (.int .i64 (gg.ph)), SV.eq (.bool (gg.ph == 4)), SV.eq (.bool (gg.ph == 4)), SV.eq (.bool (gg.ph == 4)), svIf (gg.ph == 4) (SV.eq (.int .i64 ((n3 : Int)))), svIf (gg.ph == 4) (SV.eq (.int .i64 ((q : Int)))), svIf (gg.ph == 4) (SV.eq (.int .i64 (2 * (q : Int)))), svIf (gg.ph == 4) (SV.eq (.int .i64 (2 * (q : Int) + 1))), svIf (gg.ph == 4) (SV.eq (.bool (((n3 : Int)) == (2 * (q : Int) + 1)))), SV.eq (.bool (q1_13)), SV.eq (.bool (q1_13)), svIf q1_13 (SV.eq (.pointer (some ⟨g7, 2, none⟩))), svIf q1_13 (SV.eq (.int .i64 (gg.at_))), svIf q1_13 (SV.eq (.bool (gg.at_ == 0))), SV.eq (.bool (q1_13 && (gg.at_ == 0))), SV.eq (.bool (q1_13 && (gg.at_ == 0)))] [([(9, none)], none), ([(64, some 0)], none), ([(7, none), (65, some 1)], some (65, true)), ([(66, some 2), (65, some 1)], some (65, true)), ([(67, some 3), (65, some 1)], some (65, true)), ([(65, some 1), (68, some 4)], none), ([(69, some 5)], none), ([(8, none), (70, some 6)], some (70, true)), ([(1, none), (70, some 6)], some (70, true)), ([(72, some 8), (70, some 6)], some (70, true)), ([(73, some 9), (70, some 6)], some (70, true)), ([(71, some 7), (74, some 10), (70, some 6)], some (70, true)), ([(70, some 6), (75, some 11)], none), ([(76, some 12)], none), ([(7, none), (77, some 13)], some (77, true)), ([(78, some 14), (77, some 13)], some (77, true)), ([(79, some 15), (77, some 13)], some (77, true)), ([(77, some 13), (80, some 16)], none), ([(81, some 17)], none)] 82 19 rfl rfl (by kernel_rfl) NewT.trans (NewT.refl _) (Nat.le_of_ble_eq_true rfl) ⟨?_, ?_, ?_, ?_, ?_, ?_, ?_, ?_, ?_, ?_, ?_, ?_, ?_, ?_, ?_, ?_, ?_, ?_, ?_, trivial⟩ ?_
                  · exact fun a wx hT hF K hK => rely_wp rfl (opr_move (.inl rfl) (hK _ _ (NewT.refl _) hF.1))
                  · exact fun a wx hT hF K hK => rely_wp rfl (opr_move (.inl rfl) (hK _ _ (NewT.refl _) hF.1))
                  · exact fun a wx hT hF K hK => rely_wp (rely_guard hF.2.1) (opr_fldU1 rfl hF.1 (hK _ _ (NewT.refl _) rfl))
                  · exact fun a wx hT hF K hK => rely_wp (rely_guard hF.2.1) (opr_ldI (hT.row Rg7.out) (by decide) rfl rfl hF.1 (hK _ _ (NewT.refl _) rfl))
                  · exact fun a wx hT hF K hK => rely_wp (rely_guard hF.2.1) (opr_cmp (b := gg.ph == 4) (.inl ⟨rfl, rfl⟩) Try.underlying3 rfl hF.1 rfl (hK _ _ (NewT.refl _) rfl))
                  · exact fun a wx hT hF K hK => rely_wp rfl (opr_pick_true rfl hF.1 (hK _ _ (NewT.refl _) hF.2.1))
                  · exact fun a wx hT hF K hK => rely_wp rfl (opr_move (.inl rfl) (hK _ _ (NewT.refl _) hF.1))
                  · exact fun a wx hT hF K hK => rely_if (rely_gt hF.2.1) (NewT.refl _) hK fun hE hK => opr_move (.inl rfl) (hK _ _ (NewT.refl _) hF.1)
                  · exact fun a wx hT hF K hK => rely_if (rely_gt hF.2.1) (NewT.refl _) hK fun hE hK => opr_move (.inl rfl) (hK _ _ (NewT.refl _) hF.1)
                  · exact fun a wx hT hF K hK => rely_if (rely_gt hF.2.1) (NewT.refl _) hK fun hE hK => opr_mul (r := 2 * (q : Int)) Try.underlying3 (by have := Hlim.out; unfold wrap64; omega) rfl rfl (hF.1 hE) (hK _ _ (NewT.refl _) rfl)
                  · exact fun a wx hT hF K hK => rely_if (rely_gt hF.2.1) (NewT.refl _) hK fun hE hK => opr_add (r := 2 * (q : Int) + 1) Try.underlying3 (by have := Hlim.out; unfold wrap64; omega) rfl (hF.1 hE) rfl (hK _ _ (NewT.refl _) rfl)
                  · exact fun a wx hT hF K hK => rely_if (rely_gt hF.2.2.1) (NewT.refl _) hK fun hE hK => opr_cmp (b := ((n3 : Int)) == (2 * (q : Int) + 1)) (.inl ⟨rfl, rfl⟩) Try.underlying3 rfl (hF.1 hE) (hF.2.1 hE) (hK _ _ (NewT.refl _) rfl)
                  · exact fun a wx hT hF K hK => rely_wp rfl (opr_pick_b rfl hF.1 (fun hb => hK _ _ (NewT.refl _) (pn_and1 Q1_13 (hF.2.1 hb) hb)) (fun hb => hK _ _ (NewT.refl _) (pn_and0 Q1_13 hb)))
                  · exact fun a wx hT hF K hK => rely_wp rfl (opr_move (.inl rfl) (hK _ _ (NewT.refl _) hF.1))
                  · exact fun a wx hT hF K hK => rely_if (rely_gt hF.2.1) (NewT.refl _) hK fun hE hK => opr_fldU2 rfl hF.1 (hK _ _ (NewT.refl _) rfl)
                  · exact fun a wx hT hF K hK => rely_if (rely_gt hF.2.1) (NewT.refl _) hK fun hE hK => opr_ldI (hT.row Rg7.out) (by decide) rfl rfl (hF.1 hE) (hK _ _ (NewT.refl _) rfl)
                  · exact fun a wx hT hF K hK => rely_if (rely_gt hF.2.1) (NewT.refl _) hK fun hE hK => opr_cmp (b := gg.at_ == 0) (.inl ⟨rfl, rfl⟩) Try.underlying3 rfl (hF.1 hE) rfl (hK _ _ (NewT.refl _) rfl)
                  · exact fun a wx hT hF K hK => rely_wp rfl (opr_pick_b rfl hF.1 (fun hb => hK _ _ (NewT.refl _) (pk_and1 (hF.2.1 hb) hb)) (fun hb => hK _ _ (NewT.refl _) (pk_and0 hb)))
                  · exact fun a wx hT hF K hK => rely_wp rfl (opr_move (.inr rfl) (hK _ _ (NewT.refl _) hF.1))
                  · intro w5 k5
                    iterate 7 (intro u h; obtain rfl := Eq.symm (h (by simp)); clear h)
                    iterate 5 (intro _ _)
                    iterate 2 (intro u h; obtain rfl := Eq.symm (h (by simp)); clear h)
                    iterate 3 (intro _ _)
                    iterate 2 (intro u h; obtain rfl := Eq.symm (h (by simp)); clear h)
                    subst Q1_13
                    refine relyEnd_nil rfl ?_
                    refine wpList_end rfl ?_
                    simp only [Act.put, List.setIfInBounds_toArray, List.set_cons_zero, List.set_cons_succ]
                    go_simp
                    replace Rg7 := Lib.hid (k5.row Rg7.out)
                    replace HM := Lib.hid (NewT.trans _ _ _ HM.out k5)
                    clear k5
                    go_wp2
                    go_ret
                    exact ⟨by show Ending.returned (.bool _) = _; rw [HG1.out.1, HG1.out.2.1, HG1.out.2.2]; simp, (NewT.trans _ _ _ HB.out HM.out).out⟩
                · have hc : kd (kks l) 0 = 1 := by rw [kks_kd]; unfold kdL; rw [HDD.out]; simpa using h1
                  have he := comp_end (ks := kks l) (lim := q) (ans := ansN lb) Hlim.out.1 (by rw [kks_len]; exact HL6.out.1) (fun i hi => HA2.out i (by have := Hlim.out; omega)) hc
                  have hnn := run_uniq HPH.out HNO.out (by rw [he.1]; show (2 : Nat) ≤ 4; omega) he.2
                  have HG1 : Hid (gg.ph = 4 ∧ gg.so = 1 ∧ (n3 : Int) = 4 * (q : Int) + 1) := Lib.hid (by rw [← hgg.out, hnn, he.1]; exact ⟨rfl, rfl, by omega⟩)
                  clear h1 hc he hnn
                  go_upto_region 12 with fail
                  obtain ⟨q1_12, Q1_12⟩ : ∃ bq_, ((gg.ph == 4) && (((n3 : Int)) == (4 * (q : Int) + 1))) = bq_ := ⟨_, rfl⟩
                  refine wp_region_steps0 NewT [SV.eq (.bool true), SV.eq (.bool true), SV.eq (.pointer (some ⟨g7, 1, none⟩)), SV.eq (.int .i64 (gg.ph)), SV.eq (.bool (gg.ph == 4)), SV.eq (.bool (gg.ph == 4)), SV.eq (.bool (gg.ph == 4)), svIf (gg.ph == 4) (SV.eq (.int .i64 ((n3 : Int)))), svIf (gg.ph == 4) (SV.eq (.int .i64 ((q : Int)))), svIf (gg.ph == 4) (SV.eq (.int .i64 (4 * (q : Int)))), svIf (gg.ph == 4) (SV.eq (.int .i64 (4 * (q : Int) + 1))), svIf (gg.ph == 4) (SV.eq (.bool (((n3 : Int)) == (4 * (q : Int) + 1)))), SV.eq (.bool (q1_12)), SV.eq (.bool (q1_12)), svIf q1_12 (SV.eq (.pointer (some ⟨g7, 8, none⟩))), svIf q1_12 (SV.eq (.int .i64 (gg.so))), svIf q1_12 (SV.eq (.bool (gg.so == 1))), SV.eq (.bool (q1_12 && (gg.so == 1))), SV.eq (.bool (q1_12 && (gg.so == 1)))] [([(9, none)], none), ([(46, some 0)], none), ([(7, none), (47, some 1)], some (47, true)), ([(48, some 2), (47, some 1)], some (47, true)), ([(49, some 3), (47, some 1)], some (47, true)), ([(47, some 1), (50, some 4)], none), ([(51, some 5)], none), ([(8, none), (52, some 6)], some (52, true)), ([(1, none), (52, some 6)], some (52, true)), ([(54, some 8), (52, some 6)], some (52, true)), ([(55, some 9), (52, some 6)], some (52, true)), ([(53, some 7), (56, some 10), (52, some 6)], some (52, true)), ([(52, some 6), (57, some 11)], none), ([(58, some 12)], none), ([(7, none), (59, some 13)], some (59, true)), ([(60, some 14), (59, some 13)], some (59, true)), ([(61, some 15), (59, some 13)], some (59, true)), ([(59, some 13), (62, some 16)], none), ([(63, some 17)], none)] 82 19 rfl rfl (by kernel_rfl) NewT.trans (NewT.refl _) (Nat.le_of_ble_eq_true rfl) ⟨?_, ?_, ?_, ?_, ?_, ?_, ?_, ?_, ?_, ?_, ?_, ?_, ?_, ?_, ?_, ?_, ?_, ?_, ?_, trivial⟩ ?_
                  · exact fun a wx hT hF K hK => rely_wp rfl (opr_move (.inl rfl) (hK _ _ (NewT.refl _) hF.1))
                  · exact fun a wx hT hF K hK => rely_wp rfl (opr_move (.inl rfl) (hK _ _ (NewT.refl _) hF.1))
                  · exact fun a wx hT hF K hK => rely_wp (rely_guard hF.2.1) (opr_fldU1 rfl hF.1 (hK _ _ (NewT.refl _) rfl))
                  · exact fun a wx hT hF K hK => rely_wp (rely_guard hF.2.1) (opr_ldI (hT.row Rg7.out) (by decide) rfl rfl hF.1 (hK _ _ (NewT.refl _) rfl))
                  · exact fun a wx hT hF K hK => rely_wp (rely_guard hF.2.1) (opr_cmp (b := gg.ph == 4) (.inl ⟨rfl, rfl⟩) Try.underlying3 rfl hF.1 rfl (hK _ _ (NewT.refl _) rfl))
                  · exact fun a wx hT hF K hK => rely_wp rfl (opr_pick_true rfl hF.1 (hK _ _ (NewT.refl _) hF.2.1))
                  · exact fun a wx hT hF K hK => rely_wp rfl (opr_move (.inl rfl) (hK _ _ (NewT.refl _) hF.1))
                  · exact fun a wx hT hF K hK => rely_if (rely_gt hF.2.1) (NewT.refl _) hK fun hE hK => opr_move (.inl rfl) (hK _ _ (NewT.refl _) hF.1)
                  · exact fun a wx hT hF K hK => rely_if (rely_gt hF.2.1) (NewT.refl _) hK fun hE hK => opr_move (.inl rfl) (hK _ _ (NewT.refl _) hF.1)
                  · exact fun a wx hT hF K hK => rely_if (rely_gt hF.2.1) (NewT.refl _) hK fun hE hK => opr_mul (r := 4 * (q : Int)) Try.underlying3 (by have := Hlim.out; unfold wrap64; omega) rfl rfl (hF.1 hE) (hK _ _ (NewT.refl _) rfl)
                  · exact fun a wx hT hF K hK => rely_if (rely_gt hF.2.1) (NewT.refl _) hK fun hE hK => opr_add (r := 4 * (q : Int) + 1) Try.underlying3 (by have := Hlim.out; unfold wrap64; omega) rfl (hF.1 hE) rfl (hK _ _ (NewT.refl _) rfl)
                  · exact fun a wx hT hF K hK => rely_if (rely_gt hF.2.2.1) (NewT.refl _) hK fun hE hK => opr_cmp (b := ((n3 : Int)) == (4 * (q : Int) + 1)) (.inl ⟨rfl, rfl⟩) Try.underlying3 rfl (hF.1 hE) (hF.2.1 hE) (hK _ _ (NewT.refl _) rfl)
                  · exact fun a wx hT hF K hK => rely_wp rfl (opr_pick_b rfl hF.1 (fun hb => hK _ _ (NewT.refl _) (pn_and1 Q1_12 (hF.2.1 hb) hb)) (fun hb => hK _ _ (NewT.refl _) (pn_and0 Q1_12 hb)))
                  · exact fun a wx hT hF K hK => rely_wp rfl (opr_move (.inl rfl) (hK _ _ (NewT.refl _) hF.1))
                  · exact fun a wx hT hF K hK => rely_if (rely_gt hF.2.1) (NewT.refl _) hK fun hE hK => opr_fldU8 rfl hF.1 (hK _ _ (NewT.refl _) rfl)
                  · exact fun a wx hT hF K hK => rely_if (rely_gt hF.2.1) (NewT.refl _) hK fun hE hK => opr_ldI (hT.row Rg7.out) (by decide) rfl rfl (hF.1 hE) (hK _ _ (NewT.refl _) rfl)
                  · exact fun a wx hT hF K hK => rely_if (rely_gt hF.2.1) (NewT.refl _) hK fun hE hK => opr_cmp (b := gg.so == 1) (.inl ⟨rfl, rfl⟩) Try.underlying3 rfl (hF.1 hE) rfl (hK _ _ (NewT.refl _) rfl)
                  · exact fun a wx hT hF K hK => rely_wp rfl (opr_pick_b rfl hF.1 (fun hb => hK _ _ (NewT.refl _) (pk_and1 (hF.2.1 hb) hb)) (fun hb => hK _ _ (NewT.refl _) (pk_and0 hb)))
                  · exact fun a wx hT hF K hK => rely_wp rfl (opr_move (.inr rfl) (hK _ _ (NewT.refl _) hF.1))
                  · intro w6 k6
                    iterate 7 (intro u h; obtain rfl := Eq.symm (h (by simp)); clear h)
                    iterate 5 (intro _ _)
                    iterate 2 (intro u h; obtain rfl := Eq.symm (h (by simp)); clear h)
                    iterate 3 (intro _ _)
                    iterate 2 (intro u h; obtain rfl := Eq.symm (h (by simp)); clear h)
                    subst Q1_12
                    refine relyEnd_nil rfl ?_
                    refine wpList_end rfl ?_
                    simp only [Act.put, List.setIfInBounds_toArray, List.set_cons_zero, List.set_cons_succ]
                    go_simp
                    replace Rg7 := Lib.hid (k6.row Rg7.out)
                    replace HM := Lib.hid (NewT.trans _ _ _ HM.out k6)
                    clear k6
                    go_wp2
                    go_ret
                    exact ⟨by show Ending.returned (.bool _) = _; rw [HG1.out.1, HG1.out.2.1, HG1.out.2.2]; simp, (NewT.trans _ _ _ HB.out HM.out).out⟩
      · skip
        go_wp2
        go_ret
        exact ⟨rfl, (NewT.trans _ _ _ HB.out HM.out).out⟩
end Go.Proofs.Ytfmahpgfeoafiaa
