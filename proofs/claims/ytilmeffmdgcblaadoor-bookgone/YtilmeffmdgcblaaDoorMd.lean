/- Package saga: whether steps may be, new sagas, whether two are the same. -/
import Derived.Test.YtilmeffmdgcblaaDoorMc
import Derived.Test.YtilmeffmdgcblaaDoorMb
import Derived.Test.YtilmeffmdgcblaaDoorMa
set_option linter.all false
namespace Go.Proofs.YtilmeffmdgcblaaDoor
open Go Go.RowKit
set_option maxRecDepth 8000
set_option linter.all false
set_option maxHeartbeats 4000000 in
theorem gMay_cv (v : Value) (l : List (Int × Int)) (w : World) (h : RdP w v l) : Cv 48 #[v] w (.eq (.bool (mayL l))) := by
  unfold Cv
  have HS := Lib.hid h
  obtain ⟨A0, cap, rfl, h1, h2, h3⟩ := h
  unfold maxLen at h2
  clear h3
  obtain ⟨n, hn⟩ : ∃ n, l.length = n := ⟨_, rfl⟩
  rw [hn] at h1 HS ⊢
  have Hn := Lib.hid hn
  clear hn
  cases hin : inR (n : Int) 1 6
  · have HE : Hid (mayL l = false) := Lib.hid (by unfold mayL; rw [Hn.out, hin]; rfl)
    go_enter Tryd.func48, Tryd.ntmps48
    go_wp2_with (go_at_call 57; refine (gWithin_cv n 1 6 w).eq.mono ?_; rintro _ w' ⟨rfl, hB⟩; rw [hin])
    go_ret
    exact ⟨_, rfl, hB, by show _ = Value.bool _; rw [HE.out]; first | done | rfl⟩
  have hr := (inR_iff _ _ _).1 hin
  go_enter Tryd.func48, Tryd.ntmps48
  go_wp2_with (go_at_call 57; refine (gWithin_cv n 1 6 w).eq.mono ?_; rintro _ w' ⟨rfl, hB⟩; rw [hin])
  go_loopw [3, 12] (fun m i wr => ∃ k : Nat, k ≤ n ∧ m = .int .i64 (leastN l k) ∧ i = .int .i64 k ∧ Hid (upMay l k = true) ∧ Hid (NewT w wr)) (fun _ i _ => n - (intOf i).toNat)
  case atStart => exact ⟨0, by omega, rfl, rfl, Lib.hid rfl, Lib.hid hB⟩
  case round =>
    clear hB
    have HI := Lib.hid hin
    clear hin
    obtain ⟨k, hk, rfl, rfl, HU, HM⟩ := hrel
    by_cases hlt : k < n
    · have HKL : Hid (k < l.length) := Lib.hid (by rw [Hn.out]; exact hlt)
      obtain ⟨d, HDD⟩ := hid_ex (l.getD k (0, 0))
      have it : (k : Int) < (n : Int) := by omega
      go_upto_region 6 with fail
      refine wp_region_steps0 NewT [svStp (d), SV.eq ((.agg (rowA 2 (stepF (d)))))] [([(10, none), (12, none)], none), ([(14, some 0)], none)] 32 2 rfl rfl (by kernel_rfl) NewT.trans (NewT.refl _) (Nat.le_of_ble_eq_true rfl) ⟨?_, ?_, trivial⟩ ?_
      · intro a wx hT hF K hK
        obtain ⟨f10, f12, _⟩ := hF
        have f10 : a.tmps.getD 10 undef = (.slice A0 n cap) := f10
        have f12 : a.tmps.getD 12 undef = .int .i64 ((k : Int)) := f12
        refine rely_wp rfl ?_
        exact opr_idxSt (k := k) (d := d) (⟨HKL.out, HDD.out⟩) (rfl) rfl (by rw [eval_tmp, f10]; exact ((NewT.trans _ _ _ HM.out hT).pairs HS.out)) f12 (fun v hv => hK v _ (NewT.refl _) hv)
      · exact fun a wx hT hF K hK => rely_wp rfl (opr_ldStp rfl hF.1 (hK _ _ (NewT.refl _) rfl))
      · intro w1 k1
        intro _ _
        intro u h; obtain rfl := Eq.symm (h (by simp)); clear h
        refine relyEnd_nil rfl ?_
        simp only [Act.put, List.setIfInBounds_toArray, List.set_cons_zero, List.set_cons_succ]
        refine wpList_new (n := 2) (f := stepF d) rfl rfl rfl rfl rfl rfl (by first | (simp; done) | simp [Act.put]) run_alloc_step info_step (stepF_one d) rfl ?_
        intro W1 hn1 rr1
        refine wpList_end rfl ?_
        simp only [Act.put, List.setIfInBounds_toArray, List.set_cons_zero, List.set_cons_succ]
        go_simp
        obtain ⟨g5, h_g5⟩ : ∃ g_, w1.heap.size = g_ := ⟨_, rfl⟩
        rw [h_g5] at rr1
        simp only [h_g5]
        have HGg5 : Hid (w.heap.size ≤ g5) := Lib.hid (by rw [← h_g5]; exact (NewT.trans _ _ _ HM.out k1).out.size)
        have q1 := NewT.trans _ _ _ k1 hn1
        clear k1 hn1 h_g5
        replace HM := Lib.hid (NewT.trans _ _ _ HM.out q1)
        clear q1
        have Rg5 := Lib.hid rr1
        clear rr1
        go_upto_region 7 with fail
        obtain ⟨q1_7, Q1_7⟩ : ∃ bq_, ((!(inR d.1 0 3)) || (!(inR d.2 (leastN l k) 3))) = bq_ := ⟨_, rfl⟩
        refine wp_region_steps0 NewT [SV.eq (.pointer (some ⟨g5, 0 + 0, none⟩)), SV.eq (.int .i64 (d.1)), SV.eq (.bool (inR d.1 0 3)), SV.eq (.bool (!(inR d.1 0 3))), SV.eq (.bool (!(inR d.1 0 3))), svIf ((!(!(inR d.1 0 3)))) (SV.eq (.pointer (some ⟨g5, 0 + 1, none⟩))), svIf ((!(!(inR d.1 0 3)))) (SV.eq (.int .i64 (d.2))), svIf ((!(!(inR d.1 0 3)))) (SV.eq (.int .i64 (leastN l k))), svIf ((!(!(inR d.1 0 3)))) (SV.eq (.bool (inR d.2 (leastN l k) 3))), svIf ((!(!(inR d.1 0 3)))) (SV.eq (.bool (!(inR d.2 (leastN l k) 3)))), SV.eq (.bool (q1_7))] [([(5, none)], none), ([(16, some 0)], none), ([(17, some 1)], none), ([(18, some 2)], none), ([(19, some 3)], none), ([(5, none), (20, some 4)], some (20, false)), ([(21, some 5), (20, some 4)], some (20, false)), ([(3, none), (20, some 4)], some (20, false)), ([(22, some 6), (23, some 7), (20, some 4)], some (20, false)), ([(24, some 8), (20, some 4)], some (20, false)), ([(20, some 4), (25, some 9)], none)] 32 11 rfl rfl (by kernel_rfl) NewT.trans (NewT.refl _) (Nat.le_of_ble_eq_true rfl) ⟨?_, ?_, ?_, ?_, ?_, ?_, ?_, ?_, ?_, ?_, ?_, trivial⟩ ?_
        · exact fun a wx hT hF K hK => rely_wp rfl (opr_fldS (by decide) rfl hF.1 (hK _ _ (NewT.refl _) rfl))
        · exact fun a wx hT hF K hK => rely_wp rfl (opr_ldI (hT.row Rg5.out) (by decide) rfl rfl hF.1 (hK _ _ (NewT.refl _) rfl))
        · exact fun a wx hT hF K hK => rely_wp rfl (opr_cv (gWithin_cv d.1 0 3 wx) rfl Tryd.func57 (by kernel_rfl) (by kernel_rfl) (evs3 hF.1 rfl rfl) hK)
        · exact fun a wx hT hF K hK => rely_wp rfl (opr_not rfl hF.1 (hK _ _ (NewT.refl _) rfl))
        · exact fun a wx hT hF K hK => rely_wp rfl (opr_move (.inl rfl) (hK _ _ (NewT.refl _) hF.1))
        · exact fun a wx hT hF K hK => rely_if (rely_gf hF.2.1) (NewT.refl _) hK fun hE hK => opr_fldS (by decide) rfl hF.1 (hK _ _ (NewT.refl _) rfl)
        · exact fun a wx hT hF K hK => rely_if (rely_gf hF.2.1) (NewT.refl _) hK fun hE hK => opr_ldI (hT.row Rg5.out) (by decide) rfl rfl (hF.1 hE) (hK _ _ (NewT.refl _) rfl)
        · exact fun a wx hT hF K hK => rely_if (rely_gf hF.2.1) (NewT.refl _) hK fun hE hK => opr_move (.inl rfl) (hK _ _ (NewT.refl _) hF.1)
        · exact fun a wx hT hF K hK => rely_if (rely_gf hF.2.2.1) (NewT.refl _) hK fun hE hK => opr_cv (gWithin_cv d.2 (leastN l k) 3 wx) rfl Tryd.func57 (by kernel_rfl) (by kernel_rfl) (evs3 (hF.1 hE) (hF.2.1 hE) rfl) hK
        · exact fun a wx hT hF K hK => rely_if (rely_gf hF.2.1) (NewT.refl _) hK fun hE hK => opr_not rfl (hF.1 hE) (hK _ _ (NewT.refl _) rfl)
        · exact fun a wx hT hF K hK => rely_wp rfl (opr_pick_b rfl hF.1 (fun hb => hK _ _ (NewT.refl _) (pn_or1 Q1_7 hb)) (fun hb => hK _ _ (NewT.refl _) (pn_or0 Q1_7 (hF.2.1 (bnot hb)) hb)))
        · intro w2 k2
          iterate 5 (intro u h; obtain rfl := Eq.symm (h (by simp)); clear h)
          iterate 5 (intro _ _)
          intro u h; obtain rfl := Eq.symm (h (by simp)); clear h
          subst Q1_7
          refine relyEnd_nil rfl ?_
          refine wpList_end rfl ?_
          simp only [Act.put, List.setIfInBounds_toArray, List.set_cons_zero, List.set_cons_succ]
          go_simp
          replace Rg5 := Lib.hid (k2.row Rg5.out)
          replace HM := Lib.hid (NewT.trans _ _ _ HM.out k2)
          clear k2
          have HQ : Hid ((!inR d.1 0 3 || !inR d.2 (leastN l k) 3) = !stepMay l k) := Lib.hid (by have := step_prog HU.out; unfold ptL kdL at this; rw [HDD.out] at this; exact this)
          cases hq : (!inR d.1 0 3 || !inR d.2 (leastN l k) 3)
          · have HOKS : Hid (stepMay l k = true) := Lib.hid (by have := HQ.out; rw [hq] at this; simpa using this.symm)
            clear hq HQ
            go_upto_region 9 with fail
            refine wp_region_steps0 NewT [SV.eq (.pointer (some ⟨g5, 0 + 1, none⟩)), SV.eq (.int .i64 (d.2)), SV.eq (.int .i64 (d.2))] [([(5, none)], none), ([(27, some 0)], none), ([(28, some 1)], none)] 32 3 rfl rfl (by kernel_rfl) NewT.trans (NewT.refl _) (Nat.le_of_ble_eq_true rfl) ⟨?_, ?_, ?_, trivial⟩ ?_
            · exact fun a wx hT hF K hK => rely_wp rfl (opr_fldS (by decide) rfl hF.1 (hK _ _ (NewT.refl _) rfl))
            · exact fun a wx hT hF K hK => rely_wp rfl (opr_ldI (hT.row Rg5.out) (by decide) rfl rfl hF.1 (hK _ _ (NewT.refl _) rfl))
            · exact fun a wx hT hF K hK => rely_wp rfl (opr_move (.inr rfl) (hK _ _ (NewT.refl _) hF.1))
            · intro w3 k3
              iterate 3 (intro u h; obtain rfl := Eq.symm (h (by simp)); clear h)
              refine relyEnd_nil rfl ?_
              refine wpList_end rfl ?_
              simp only [Act.put, List.setIfInBounds_toArray, List.set_cons_zero, List.set_cons_succ]
              go_simp
              replace Rg5 := Lib.hid (k3.row Rg5.out)
              replace HM := Lib.hid (NewT.trans _ _ _ HM.out k3)
              clear k3
              have HLN : Hid (leastN l (k + 1) = if d.2 = 2 then 3 else d.2) := Lib.hid (by rw [least_next]; unfold kdL; rw [HDD.out])
              have HUN : Hid (upMay l (k + 1) = true) := Lib.hid (by rw [upMay_succ, HU.out, HOKS.out]; rfl)
              cases h2 : (d.2 == 2)
              · go_wp2
                go_roundw
                case rel => exact ⟨k + 1, by omega, by rw [HLN.out, if_neg (by simpa using h2)], by go_num, HUN, HM⟩
                case measure => simp [intOf]; omega
              · go_wp2
                go_roundw
                case rel => exact ⟨k + 1, by omega, by rw [HLN.out, if_pos (by simpa using h2)], by go_num, HUN, HM⟩
                case measure => simp [intOf]; omega
          · have HE : Hid (mayL l = false) := Lib.hid (by
              have hs : stepMay l k = false := by have := HQ.out; rw [hq] at this; simpa using this.symm
              unfold mayL; rw [upMay_no HKL.out hs, Bool.and_false])
            clear hq HQ
            go_wp2
            go_ret
            exact ⟨_, rfl, HM.out, by show _ = Value.bool _; rw [HE.out]; first | done | rfl⟩
    · obtain rfl : k = n := by omega
      have HE : Hid (mayL l = true) := Lib.hid (by unfold mayL; rw [Hn.out, HI.out, HU.out]; rfl)
      go_wp2
      go_ret
      exact ⟨_, rfl, HM.out, by show _ = Value.bool _; rw [HE.out]; first | done | rfl⟩
/-- A saga whose steps lie in a block from B on. -/
def SgVN (w : World) (B : Nat) (v : Value) (l : List (Int × Int)) (g : Sg) : Prop := ∃ sv, v = .agg (rowA 10 (sgF sv g)) ∧ RdPB w B sv l
theorem NewT.sgVN {w w' : World} (h : NewT w w') {B : Nat} {v : Value} {l : List (Int × Int)} {g : Sg} (hr : SgVN w B v l g) : SgVN w' B v l g := by
  obtain ⟨sv, h1, h2⟩ := hr
  exact ⟨sv, h1, h2.new h⟩
def svSgN (B : Nat) (l : List (Int × Int)) (g : Sg) : SV NewT := ⟨fun v w => SgVN w B v l g, fun _ _ _ h hT => hT.sgVN h⟩
theorem rdPB_nil (w : World) (B : Nat) : RdPB w B (.slice none 0 0) [] := ⟨rdP_nil w, fun h => absurd h (by simp)⟩
theorem opr_bldU {a : Act} {w : World} {o : Oper} {K : Act → World → Prop} {Q : Exit → Act → World → Prop} {x : Operand} {B : Nat} {l : List (Int × Int)} (ho : o.op = .build 59 #[(0, x), (1, .const (.int .i64 0)), (9, .const (.int .i64 1))]) (hx : RdPB w B (a.eval x) l) (h : ∀ v, SgVN w B v l (ofSt st0 1) → K (a.put o.dst v) w) : o.wp Tryd.prog a w K Q := by
  obtain ⟨A0, c, hv, _⟩ := hx.1
  exact opr_build (pv := #[(0, .slice A0 l.length c), (1, .int .i64 0), (9, .int .i64 1)]) ho (by simp only [List.map_toArray, List.map_cons, List.map_nil, eval_const, hv]) (build_saga A0 l.length c w) (h _ ⟨_, rfl, by rw [← hv]; exact hx⟩)
theorem CloneS_cvM (v : Value) (l : List (Int × Int)) (B : Nat) (w : World) (hB : B ≤ w.heap.size) (h : RdP w v l) (hl : l.length ≤ 900000) : Cv 15 #[v] w (svPairsN B l) :=
  (CloneS_cvN v l w h hl).mono fun _ _ ⟨v', h1, h2, h3⟩ => ⟨v', h1, h2, RdPB.mono h3 hB⟩
set_option maxHeartbeats 4000000 in
theorem gNew_cv (v : Value) (l : List (Int × Int)) (w : World) (h : RdP w v l) : Cv 49 #[v] w (svSgN w.heap.size (newL l) (newG l)) := by
  unfold Cv
  have HS := Lib.hid h
  clear h
  go_enter Tryd.func49, Tryd.ntmps49
  go_upto_region 1 with fail
  have r_g1 := rowIs_box w 59 10 (sgF (.slice none 0 0) zG)
  have hN : NewT w (w.alloc (.cells (rowA 10 (sgF (.slice none 0 0) zG)) 59)) := NewT.alloc _ _
  change Code.wp _ _ _ _ (w.alloc (.cells (rowA 10 (sgF (.slice none 0 0) zG)) 59))
  generalize (w.alloc (.cells (rowA 10 (sgF (.slice none 0 0) zG)) 59)) = W0 at r_g1 hN ⊢
  obtain ⟨g1, h_g1⟩ : ∃ g_, w.heap.size = g_ := ⟨_, rfl⟩
  have HG : Hid (w.heap.size ≤ g1) := Lib.hid (by omega)
  rw [h_g1] at r_g1
  simp only [h_g1]
  have Rg1 := Lib.hid r_g1
  have HM := Lib.hid hN
  clear r_g1 hN h_g1
  go_upto_region 1 with fail
  refine wp_region_steps0 NewT [SV.eq (v), SV.eq (.bool (mayL l)), SV.eq (.bool (!(mayL l)))] [([(0, none)], none), ([(3, some 0)], none), ([(4, some 1)], none)] 10 3 rfl rfl (by kernel_rfl) NewT.trans (NewT.refl _) (Nat.le_of_ble_eq_true rfl) ⟨?_, ?_, ?_, trivial⟩ ?_
  · exact fun a wx hT hF K hK => rely_wp rfl (opr_move (.inl rfl) (hK _ _ (NewT.refl _) hF.1))
  · exact fun a wx hT hF K hK => rely_wp rfl (opr_cv (gMay_cv _ l wx ((NewT.trans _ _ _ HM.out hT).pairs HS.out)) rfl Tryd.func48 (by kernel_rfl) (by kernel_rfl) (evs1 hF.1) hK)
  · exact fun a wx hT hF K hK => rely_wp rfl (opr_not rfl hF.1 (hK _ _ (NewT.refl _) rfl))
  · intro w1 k1
    iterate 3 (intro u h; obtain rfl := Eq.symm (h (by simp)); clear h)
    refine relyEnd_nil rfl ?_
    refine wpList_end rfl ?_
    simp only [Act.put, List.setIfInBounds_toArray, List.set_cons_zero, List.set_cons_succ]
    go_simp
    replace Rg1 := Lib.hid (k1.row Rg1.out)
    replace HM := Lib.hid (NewT.trans _ _ _ HM.out k1)
    clear k1
    cases hb : mayL l
    · have HE : Hid (newL l = [] ∧ newG l = zG) := Lib.hid ⟨by unfold newL; rw [hb, if_neg (by simp)], by unfold newG; rw [hb, if_neg (by simp)]⟩
      clear hb
      go_upto_region 2 with fail
      refine wp_region_steps0 NewT [SV.eq ((.agg (rowA 10 (sgF (.slice none 0 0) zG))))] [([], none)] 10 1 rfl rfl (by kernel_rfl) NewT.trans (NewT.refl _) (Nat.le_of_ble_eq_true rfl) ⟨?_, trivial⟩ ?_
      · exact fun a wx hT hF K hK => rely_wp rfl (opr_build (pv := #[]) rfl (by simp) (build_saga0 wx) (hK _ _ (NewT.refl _) rfl))
      · intro w2 k2
        intro u h; obtain rfl := Eq.symm (h (by simp)); clear h
        refine relyEnd_nil rfl ?_
        simp only [Act.put, List.setIfInBounds_toArray, List.set_cons_zero, List.set_cons_succ]
        refine wpList_plain rfl (fun K hK => ?_)
        refine opr_putm (g := g1) (o0 := 0) (m := 10) (f := sgF (.slice none 0 0) zG) (F := sgF (.slice none 0 0) zG) rfl rfl rfl (k2.row Rg1.out) (by decide) info_saga (sgF_one _ _ rfl) (put_allN _ _ _) ?_
        intro W2 hR2 rr2
        refine hK _ _ ?_
        clear hK K
        refine wpList_end rfl ?_
        simp only [Act.put, List.setIfInBounds_toArray, List.set_cons_zero, List.set_cons_succ]
        go_simp
        replace Rg1 := Lib.hid rr2
        replace HM := Lib.hid (NewT.rt (NewT.trans _ _ _ HM.out k2) hR2 (by have h_0 := HG.out; omega))
        clear k2 hR2 rr2
        go_wp2
        exact bodyPost_ret (results_agg rfl _ rfl Rg1.out Tryd.underlying59 rfl info_saga) rfl ⟨_, rfl, HM.out, by rw [HE.out.1, HE.out.2]; exact ⟨_, rfl, rdPB_nil _ _⟩⟩
    · have HE : Hid (newL l = l ∧ newG l = ofSt st0 1) := Lib.hid ⟨by unfold newL; rw [hb, if_pos rfl], by unfold newG; rw [hb, if_pos rfl]⟩
      have HL9 : Hid (l.length ≤ 900000) := Lib.hid (by have := may_len hb; omega)
      have HGM : Hid (g1 < w1.heap.size) := Lib.hid (Nat.lt_of_lt_of_le Rg1.out.lt (Nat.le_refl _))
      clear hb
      go_upto_region 3 with fail
      refine wp_region_steps0 NewT [SV.eq (v), svPairsN (g1 + 1) l, svSgN (g1 + 1) l (ofSt st0 1)] [([(0, none)], none), ([(7, some 0)], none), ([(8, some 1)], none)] 10 3 rfl rfl (by kernel_rfl) NewT.trans (NewT.refl _) (Nat.le_of_ble_eq_true rfl) ⟨?_, ?_, ?_, trivial⟩ ?_
      · exact fun a wx hT hF K hK => rely_wp rfl (opr_move (.inl rfl) (hK _ _ (NewT.refl _) hF.1))
      · exact fun a wx hT hF K hK => rely_wp rfl (opr_cv (CloneS_cvM _ l (g1 + 1) wx (Nat.le_trans (Nat.succ_le_of_lt HGM.out) hT.out.size) ((NewT.trans _ _ _ HM.out hT).pairs HS.out) HL9.out) rfl Tryd.func15 (by kernel_rfl) (by kernel_rfl) (evs1 hF.1) hK)
      · exact fun a wx hT hF K hK => rely_wp rfl (opr_bldU rfl hF.1 (fun v hv => hK v _ (NewT.refl _) hv))
      · intro w3 k3
        intro u h; obtain rfl := Eq.symm (h (by simp)); clear h
        intro _ _
        intro u9 h; have g9 := h (by simp); clear h; replace g9 := show (svSgN (g1 + 1) l (ofSt st0 1)).pred u9 w3 from g9
        refine relyEnd_nil rfl ?_
        simp only [Act.put, List.setIfInBounds_toArray, List.set_cons_zero, List.set_cons_succ]
        obtain ⟨sv, rfl, hsv⟩ := (show SgVN w3 (g1 + 1) u9 l (ofSt st0 1) from g9)
        refine wpList_plain rfl (fun K hK => ?_)
        refine opr_putm (g := g1) (o0 := 0) (m := 10) (f := sgF sv (ofSt st0 1)) (F := sgF sv (ofSt st0 1)) rfl rfl rfl (k3.row Rg1.out) (by decide) info_saga (sgF_one _ _ (oneP hsv.1)) (put_allN _ _ _) ?_
        intro W3 hR3 rr3
        refine hK _ _ ?_
        clear hK K
        refine wpList_end rfl ?_
        simp only [Act.put, List.setIfInBounds_toArray, List.set_cons_zero, List.set_cons_succ]
        go_simp
        replace Rg1 := Lib.hid rr3
        replace HM := Lib.hid (NewT.rt (NewT.trans _ _ _ HM.out k3) hR3 (by have h_0 := HG.out; omega))
        have hsf := (hsv.rt hR3 (Nat.lt_succ_self _)).mono (B' := w.heap.size) (by have h_0 := HG.out; omega)
        clear k3 hR3 rr3
        go_wp2
        exact bodyPost_ret (results_agg rfl _ rfl Rg1.out Tryd.underlying59 rfl info_saga) rfl ⟨_, rfl, HM.out, by rw [HE.out.1, HE.out.2]; exact ⟨_, rfl, hsf⟩⟩
def sameG (l m : List (Int × Int)) (g h : Sg) : Bool := ((((((((decide (l = m) && g.ph == h.ph) && g.at_ == h.at_) && g.tr == h.tr) && g.wt == h.wt) && g.bk == h.bk) && g.dn == h.dn) && g.un == h.un) && g.so == h.so) && g.sq == h.sq
theorem sameG_self (l : List (Int × Int)) (g : Sg) : sameG l l g g = true := by simp [sameG]
set_option maxHeartbeats 4000000 in
theorem sSame_cv (sv tv : Value) (l m : List (Int × Int)) (g h : Sg) (w : World) (hs : RdP w sv l) (hm : RdP w tv m) : Cv 20 #[.agg (rowA 10 (sgF sv g)), .agg (rowA 10 (sgF tv h))] w (.eq (.bool (sameG l m g h))) := by
  unfold Cv
  have HS := Lib.hid hs
  have HSM := Lib.hid hm
  clear hs hm
  go_enter Tryd.func20, Tryd.ntmps20
  go_upto_region 1 with fail
  have r_g1 := (rowIs_box w 59 10 (sgF sv g)).alloc (.cells (rowA 10 (sgF tv h)) 59)
  have r_g2 := rowIs_box (w.alloc (.cells (rowA 10 (sgF sv g)) 59)) 59 10 (sgF tv h)
  rw [World.size_alloc] at r_g2
  have hN : NewT w ((w.alloc (.cells (rowA 10 (sgF sv g)) 59)).alloc (.cells (rowA 10 (sgF tv h)) 59)) := (NewT.trans _ _ _ (NewT.alloc _ _) (NewT.alloc _ _))
  change Code.wp _ _ _ _ ((w.alloc (.cells (rowA 10 (sgF sv g)) 59)).alloc (.cells (rowA 10 (sgF tv h)) 59))
  generalize ((w.alloc (.cells (rowA 10 (sgF sv g)) 59)).alloc (.cells (rowA 10 (sgF tv h)) 59)) = W0 at r_g1 r_g2 hN ⊢
  obtain ⟨g1, h_g1⟩ : ∃ g_, w.heap.size = g_ := ⟨_, rfl⟩
  obtain ⟨g2, h_g2⟩ : ∃ g_, w.heap.size + 1 = g_ := ⟨_, rfl⟩
  have HG : Hid (w.heap.size ≤ g1 ∧ g1 < g2) := Lib.hid (by omega)
  rw [h_g1] at r_g1
  rw [h_g2] at r_g2
  try rw [h_g2]
  simp only [h_g1]
  have Rg1 := Lib.hid r_g1
  have Rg2 := Lib.hid r_g2
  have HM := Lib.hid hN
  clear r_g1 r_g2 hN h_g1 h_g2
  go_upto_region 1 with fail
  obtain ⟨q1_1, Q1_1⟩ : ∃ bq_, ((decide (l = m)) && (g.ph == h.ph)) = bq_ := ⟨_, rfl⟩
  obtain ⟨q2_1, Q2_1⟩ : ∃ bq_, ((q1_1 && (g.at_ == h.at_)) && (g.tr == h.tr)) = bq_ := ⟨_, rfl⟩
  obtain ⟨q3_1, Q3_1⟩ : ∃ bq_, ((q2_1 && (g.wt == h.wt)) && (g.bk == h.bk)) = bq_ := ⟨_, rfl⟩
  obtain ⟨q4_1, Q4_1⟩ : ∃ bq_, ((q3_1 && (g.dn == h.dn)) && (g.un == h.un)) = bq_ := ⟨_, rfl⟩
  obtain ⟨q5_1, Q5_1⟩ : ∃ bq_, ((q4_1 && (g.so == h.so)) && (g.sq == h.sq)) = bq_ := ⟨_, rfl⟩
  refine wp_region_steps0 NewT [SV.eq (.pointer (some ⟨g1, 0, none⟩)), SV.eq (sv), SV.eq (.pointer (some ⟨g2, 0, none⟩)), SV.eq (tv), SV.eq (.bool (decide (l = m))), SV.eq (.bool (decide (l = m))), svIf (decide (l = m)) (SV.eq (.pointer (some ⟨g1, 1, none⟩))), svIf (decide (l = m)) (SV.eq (.int .i64 (g.ph))), svIf (decide (l = m)) (SV.eq (.pointer (some ⟨g2, 1, none⟩))), svIf (decide (l = m)) (SV.eq (.int .i64 (h.ph))), svIf (decide (l = m)) (SV.eq (.bool (g.ph == h.ph))), SV.eq (.bool (q1_1)), SV.eq (.bool (q1_1)), svIf q1_1 (SV.eq (.pointer (some ⟨g1, 2, none⟩))), svIf q1_1 (SV.eq (.int .i64 (g.at_))), svIf q1_1 (SV.eq (.pointer (some ⟨g2, 2, none⟩))), svIf q1_1 (SV.eq (.int .i64 (h.at_))), svIf q1_1 (SV.eq (.bool (g.at_ == h.at_))), SV.eq (.bool (q1_1 && (g.at_ == h.at_))), SV.eq (.bool (q1_1 && (g.at_ == h.at_))), svIf (q1_1 && (g.at_ == h.at_)) (SV.eq (.pointer (some ⟨g1, 3, none⟩))), svIf (q1_1 && (g.at_ == h.at_)) (SV.eq (.int .i64 (g.tr))), svIf (q1_1 && (g.at_ == h.at_)) (SV.eq (.pointer (some ⟨g2, 3, none⟩))), svIf (q1_1 && (g.at_ == h.at_)) (SV.eq (.int .i64 (h.tr))), svIf (q1_1 && (g.at_ == h.at_)) (SV.eq (.bool (g.tr == h.tr))), SV.eq (.bool (q2_1)), SV.eq (.bool (q2_1)), svIf q2_1 (SV.eq (.pointer (some ⟨g1, 4, none⟩))), svIf q2_1 (SV.eq (.bool (g.wt))), svIf q2_1 (SV.eq (.pointer (some ⟨g2, 4, none⟩))), svIf q2_1 (SV.eq (.bool (h.wt))), svIf q2_1 (SV.eq (.bool (g.wt == h.wt))), SV.eq (.bool (q2_1 && (g.wt == h.wt))), SV.eq (.bool (q2_1 && (g.wt == h.wt))), svIf (q2_1 && (g.wt == h.wt)) (SV.eq (.pointer (some ⟨g1, 5, none⟩))), svIf (q2_1 && (g.wt == h.wt)) (SV.eq (.bool (g.bk))), svIf (q2_1 && (g.wt == h.wt)) (SV.eq (.pointer (some ⟨g2, 5, none⟩))), svIf (q2_1 && (g.wt == h.wt)) (SV.eq (.bool (h.bk))), svIf (q2_1 && (g.wt == h.wt)) (SV.eq (.bool (g.bk == h.bk))), SV.eq (.bool (q3_1)), SV.eq (.bool (q3_1)), svIf q3_1 (SV.eq (.pointer (some ⟨g1, 6, none⟩))), svIf q3_1 (SV.eq (.int .i64 (g.dn))), svIf q3_1 (SV.eq (.pointer (some ⟨g2, 6, none⟩))), svIf q3_1 (SV.eq (.int .i64 (h.dn))), svIf q3_1 (SV.eq (.bool (g.dn == h.dn))), SV.eq (.bool (q3_1 && (g.dn == h.dn))), SV.eq (.bool (q3_1 && (g.dn == h.dn))), svIf (q3_1 && (g.dn == h.dn)) (SV.eq (.pointer (some ⟨g1, 7, none⟩))), svIf (q3_1 && (g.dn == h.dn)) (SV.eq (.int .i64 (g.un))), svIf (q3_1 && (g.dn == h.dn)) (SV.eq (.pointer (some ⟨g2, 7, none⟩))), svIf (q3_1 && (g.dn == h.dn)) (SV.eq (.int .i64 (h.un))), svIf (q3_1 && (g.dn == h.dn)) (SV.eq (.bool (g.un == h.un))), SV.eq (.bool (q4_1)), SV.eq (.bool (q4_1)), svIf q4_1 (SV.eq (.pointer (some ⟨g1, 8, none⟩))), svIf q4_1 (SV.eq (.int .i64 (g.so))), svIf q4_1 (SV.eq (.pointer (some ⟨g2, 8, none⟩))), svIf q4_1 (SV.eq (.int .i64 (h.so))), svIf q4_1 (SV.eq (.bool (g.so == h.so))), SV.eq (.bool (q4_1 && (g.so == h.so))), SV.eq (.bool (q4_1 && (g.so == h.so))), svIf (q4_1 && (g.so == h.so)) (SV.eq (.pointer (some ⟨g1, 9, none⟩))), svIf (q4_1 && (g.so == h.so)) (SV.eq (.int .i64 (g.sq))), svIf (q4_1 && (g.so == h.so)) (SV.eq (.pointer (some ⟨g2, 9, none⟩))), svIf (q4_1 && (g.so == h.so)) (SV.eq (.int .i64 (h.sq))), svIf (q4_1 && (g.so == h.so)) (SV.eq (.bool (g.sq == h.sq))), SV.eq (.bool (q5_1)), SV.eq (.bool (q5_1))] [([(2, none)], none), ([(5, some 0)], none), ([(3, none)], none), ([(7, some 2)], none), ([(6, some 1), (8, some 3)], none), ([(9, some 4)], none), ([(2, none), (10, some 5)], some (10, true)), ([(11, some 6), (10, some 5)], some (10, true)), ([(3, none), (10, some 5)], some (10, true)), ([(13, some 8), (10, some 5)], some (10, true)), ([(12, some 7), (14, some 9), (10, some 5)], some (10, true)), ([(10, some 5), (15, some 10)], none), ([(16, some 11)], none), ([(2, none), (17, some 12)], some (17, true)), ([(18, some 13), (17, some 12)], some (17, true)), ([(3, none), (17, some 12)], some (17, true)), ([(20, some 15), (17, some 12)], some (17, true)), ([(19, some 14), (21, some 16), (17, some 12)], some (17, true)), ([(17, some 12), (22, some 17)], none), ([(23, some 18)], none), ([(2, none), (24, some 19)], some (24, true)), ([(25, some 20), (24, some 19)], some (24, true)), ([(3, none), (24, some 19)], some (24, true)), ([(27, some 22), (24, some 19)], some (24, true)), ([(26, some 21), (28, some 23), (24, some 19)], some (24, true)), ([(24, some 19), (29, some 24)], none), ([(30, some 25)], none), ([(2, none), (31, some 26)], some (31, true)), ([(32, some 27), (31, some 26)], some (31, true)), ([(3, none), (31, some 26)], some (31, true)), ([(34, some 29), (31, some 26)], some (31, true)), ([(33, some 28), (35, some 30), (31, some 26)], some (31, true)), ([(31, some 26), (36, some 31)], none), ([(37, some 32)], none), ([(2, none), (38, some 33)], some (38, true)), ([(39, some 34), (38, some 33)], some (38, true)), ([(3, none), (38, some 33)], some (38, true)), ([(41, some 36), (38, some 33)], some (38, true)), ([(40, some 35), (42, some 37), (38, some 33)], some (38, true)), ([(38, some 33), (43, some 38)], none), ([(44, some 39)], none), ([(2, none), (45, some 40)], some (45, true)), ([(46, some 41), (45, some 40)], some (45, true)), ([(3, none), (45, some 40)], some (45, true)), ([(48, some 43), (45, some 40)], some (45, true)), ([(47, some 42), (49, some 44), (45, some 40)], some (45, true)), ([(45, some 40), (50, some 45)], none), ([(51, some 46)], none), ([(2, none), (52, some 47)], some (52, true)), ([(53, some 48), (52, some 47)], some (52, true)), ([(3, none), (52, some 47)], some (52, true)), ([(55, some 50), (52, some 47)], some (52, true)), ([(54, some 49), (56, some 51), (52, some 47)], some (52, true)), ([(52, some 47), (57, some 52)], none), ([(58, some 53)], none), ([(2, none), (59, some 54)], some (59, true)), ([(60, some 55), (59, some 54)], some (59, true)), ([(3, none), (59, some 54)], some (59, true)), ([(62, some 57), (59, some 54)], some (59, true)), ([(61, some 56), (63, some 58), (59, some 54)], some (59, true)), ([(59, some 54), (64, some 59)], none), ([(65, some 60)], none), ([(2, none), (66, some 61)], some (66, true)), ([(67, some 62), (66, some 61)], some (66, true)), ([(3, none), (66, some 61)], some (66, true)), ([(69, some 64), (66, some 61)], some (66, true)), ([(68, some 63), (70, some 65), (66, some 61)], some (66, true)), ([(66, some 61), (71, some 66)], none), ([(72, some 67)], none)] 73 69 rfl rfl (by kernel_rfl) NewT.trans (NewT.refl _) (Nat.le_of_ble_eq_true rfl) ⟨?_, ?_, ?_, ?_, ?_, ?_, ?_, ?_, ?_, ?_, ?_, ?_, ?_, ?_, ?_, ?_, ?_, ?_, ?_, ?_, ?_, ?_, ?_, ?_, ?_, ?_, ?_, ?_, ?_, ?_, ?_, ?_, ?_, ?_, ?_, ?_, ?_, ?_, ?_, ?_, ?_, ?_, ?_, ?_, ?_, ?_, ?_, ?_, ?_, ?_, ?_, ?_, ?_, ?_, ?_, ?_, ?_, ?_, ?_, ?_, ?_, ?_, ?_, ?_, ?_, ?_, ?_, ?_, ?_, trivial⟩ ?_
  · exact fun a wx hT hF K hK => rely_wp rfl (opr_fldU0 rfl hF.1 (hK _ _ (NewT.refl _) rfl))
  · exact fun a wx hT hF K hK => rely_wp rfl (opr_ldS (hT.row Rg1.out) (by decide) rfl rfl hF.1 (hK _ _ (NewT.refl _) rfl))
  · exact fun a wx hT hF K hK => rely_wp rfl (opr_fldU0 rfl hF.1 (hK _ _ (NewT.refl _) rfl))
  · exact fun a wx hT hF K hK => rely_wp rfl (opr_ldS (hT.row Rg2.out) (by decide) rfl rfl hF.1 (hK _ _ (NewT.refl _) rfl))
  · exact fun a wx hT hF K hK => rely_wp rfl (opr_cv (SlEq_cv _ _ l m wx ((NewT.trans _ _ _ HM.out hT).pairs HS.out) ((NewT.trans _ _ _ HM.out hT).pairs HSM.out)) rfl Tryd.func33 (by kernel_rfl) (by kernel_rfl) (evs2 hF.1 hF.2.1) hK)
  · exact fun a wx hT hF K hK => rely_wp rfl (opr_move (.inl rfl) (hK _ _ (NewT.refl _) hF.1))
  · exact fun a wx hT hF K hK => rely_if (rely_gt hF.2.1) (NewT.refl _) hK fun hE hK => opr_fldU1 rfl hF.1 (hK _ _ (NewT.refl _) rfl)
  · exact fun a wx hT hF K hK => rely_if (rely_gt hF.2.1) (NewT.refl _) hK fun hE hK => opr_ldI (hT.row Rg1.out) (by decide) rfl rfl (hF.1 hE) (hK _ _ (NewT.refl _) rfl)
  · exact fun a wx hT hF K hK => rely_if (rely_gt hF.2.1) (NewT.refl _) hK fun hE hK => opr_fldU1 rfl hF.1 (hK _ _ (NewT.refl _) rfl)
  · exact fun a wx hT hF K hK => rely_if (rely_gt hF.2.1) (NewT.refl _) hK fun hE hK => opr_ldI (hT.row Rg2.out) (by decide) rfl rfl (hF.1 hE) (hK _ _ (NewT.refl _) rfl)
  · exact fun a wx hT hF K hK => rely_if (rely_gt hF.2.2.1) (NewT.refl _) hK fun hE hK => opr_cmp (b := g.ph == h.ph) (.inl ⟨rfl, rfl⟩) Tryd.underlying3 rfl (hF.1 hE) (hF.2.1 hE) (hK _ _ (NewT.refl _) rfl)
  · exact fun a wx hT hF K hK => rely_wp rfl (opr_pick_b rfl hF.1 (fun hb => hK _ _ (NewT.refl _) (pn_and1 Q1_1 (hF.2.1 hb) hb)) (fun hb => hK _ _ (NewT.refl _) (pn_and0 Q1_1 hb)))
  · exact fun a wx hT hF K hK => rely_wp rfl (opr_move (.inl rfl) (hK _ _ (NewT.refl _) hF.1))
  · exact fun a wx hT hF K hK => rely_if (rely_gt hF.2.1) (NewT.refl _) hK fun hE hK => opr_fldU2 rfl hF.1 (hK _ _ (NewT.refl _) rfl)
  · exact fun a wx hT hF K hK => rely_if (rely_gt hF.2.1) (NewT.refl _) hK fun hE hK => opr_ldI (hT.row Rg1.out) (by decide) rfl rfl (hF.1 hE) (hK _ _ (NewT.refl _) rfl)
  · exact fun a wx hT hF K hK => rely_if (rely_gt hF.2.1) (NewT.refl _) hK fun hE hK => opr_fldU2 rfl hF.1 (hK _ _ (NewT.refl _) rfl)
  · exact fun a wx hT hF K hK => rely_if (rely_gt hF.2.1) (NewT.refl _) hK fun hE hK => opr_ldI (hT.row Rg2.out) (by decide) rfl rfl (hF.1 hE) (hK _ _ (NewT.refl _) rfl)
  · exact fun a wx hT hF K hK => rely_if (rely_gt hF.2.2.1) (NewT.refl _) hK fun hE hK => opr_cmp (b := g.at_ == h.at_) (.inl ⟨rfl, rfl⟩) Tryd.underlying3 rfl (hF.1 hE) (hF.2.1 hE) (hK _ _ (NewT.refl _) rfl)
  · exact fun a wx hT hF K hK => rely_wp rfl (opr_pick_b rfl hF.1 (fun hb => hK _ _ (NewT.refl _) (pk_and1 (hF.2.1 hb) hb)) (fun hb => hK _ _ (NewT.refl _) (pk_and0 hb)))
  · exact fun a wx hT hF K hK => rely_wp rfl (opr_move (.inl rfl) (hK _ _ (NewT.refl _) hF.1))
  · exact fun a wx hT hF K hK => rely_if (rely_gt hF.2.1) (NewT.refl _) hK fun hE hK => opr_fldU3 rfl hF.1 (hK _ _ (NewT.refl _) rfl)
  · exact fun a wx hT hF K hK => rely_if (rely_gt hF.2.1) (NewT.refl _) hK fun hE hK => opr_ldI (hT.row Rg1.out) (by decide) rfl rfl (hF.1 hE) (hK _ _ (NewT.refl _) rfl)
  · exact fun a wx hT hF K hK => rely_if (rely_gt hF.2.1) (NewT.refl _) hK fun hE hK => opr_fldU3 rfl hF.1 (hK _ _ (NewT.refl _) rfl)
  · exact fun a wx hT hF K hK => rely_if (rely_gt hF.2.1) (NewT.refl _) hK fun hE hK => opr_ldI (hT.row Rg2.out) (by decide) rfl rfl (hF.1 hE) (hK _ _ (NewT.refl _) rfl)
  · exact fun a wx hT hF K hK => rely_if (rely_gt hF.2.2.1) (NewT.refl _) hK fun hE hK => opr_cmp (b := g.tr == h.tr) (.inl ⟨rfl, rfl⟩) Tryd.underlying3 rfl (hF.1 hE) (hF.2.1 hE) (hK _ _ (NewT.refl _) rfl)
  · exact fun a wx hT hF K hK => rely_wp rfl (opr_pick_b rfl hF.1 (fun hb => hK _ _ (NewT.refl _) (pn_and1 Q2_1 (hF.2.1 hb) hb)) (fun hb => hK _ _ (NewT.refl _) (pn_and0 Q2_1 hb)))
  · exact fun a wx hT hF K hK => rely_wp rfl (opr_move (.inl rfl) (hK _ _ (NewT.refl _) hF.1))
  · exact fun a wx hT hF K hK => rely_if (rely_gt hF.2.1) (NewT.refl _) hK fun hE hK => opr_fldU4 rfl hF.1 (hK _ _ (NewT.refl _) rfl)
  · exact fun a wx hT hF K hK => rely_if (rely_gt hF.2.1) (NewT.refl _) hK fun hE hK => opr_ldQ (hT.row Rg1.out) (by decide) rfl rfl (hF.1 hE) (hK _ _ (NewT.refl _) rfl)
  · exact fun a wx hT hF K hK => rely_if (rely_gt hF.2.1) (NewT.refl _) hK fun hE hK => opr_fldU4 rfl hF.1 (hK _ _ (NewT.refl _) rfl)
  · exact fun a wx hT hF K hK => rely_if (rely_gt hF.2.1) (NewT.refl _) hK fun hE hK => opr_ldQ (hT.row Rg2.out) (by decide) rfl rfl (hF.1 hE) (hK _ _ (NewT.refl _) rfl)
  · exact fun a wx hT hF K hK => rely_if (rely_gt hF.2.2.1) (NewT.refl _) hK fun hE hK => opr_eqlQ (b := g.wt == h.wt) (rfl) rfl (hF.1 hE) (hF.2.1 hE) (hK _ _ (NewT.refl _) rfl)
  · exact fun a wx hT hF K hK => rely_wp rfl (opr_pick_b rfl hF.1 (fun hb => hK _ _ (NewT.refl _) (pk_and1 (hF.2.1 hb) hb)) (fun hb => hK _ _ (NewT.refl _) (pk_and0 hb)))
  · exact fun a wx hT hF K hK => rely_wp rfl (opr_move (.inl rfl) (hK _ _ (NewT.refl _) hF.1))
  · exact fun a wx hT hF K hK => rely_if (rely_gt hF.2.1) (NewT.refl _) hK fun hE hK => opr_fldU5 rfl hF.1 (hK _ _ (NewT.refl _) rfl)
  · exact fun a wx hT hF K hK => rely_if (rely_gt hF.2.1) (NewT.refl _) hK fun hE hK => opr_ldQ (hT.row Rg1.out) (by decide) rfl rfl (hF.1 hE) (hK _ _ (NewT.refl _) rfl)
  · exact fun a wx hT hF K hK => rely_if (rely_gt hF.2.1) (NewT.refl _) hK fun hE hK => opr_fldU5 rfl hF.1 (hK _ _ (NewT.refl _) rfl)
  · exact fun a wx hT hF K hK => rely_if (rely_gt hF.2.1) (NewT.refl _) hK fun hE hK => opr_ldQ (hT.row Rg2.out) (by decide) rfl rfl (hF.1 hE) (hK _ _ (NewT.refl _) rfl)
  · exact fun a wx hT hF K hK => rely_if (rely_gt hF.2.2.1) (NewT.refl _) hK fun hE hK => opr_eqlQ (b := g.bk == h.bk) (rfl) rfl (hF.1 hE) (hF.2.1 hE) (hK _ _ (NewT.refl _) rfl)
  · exact fun a wx hT hF K hK => rely_wp rfl (opr_pick_b rfl hF.1 (fun hb => hK _ _ (NewT.refl _) (pn_and1 Q3_1 (hF.2.1 hb) hb)) (fun hb => hK _ _ (NewT.refl _) (pn_and0 Q3_1 hb)))
  · exact fun a wx hT hF K hK => rely_wp rfl (opr_move (.inl rfl) (hK _ _ (NewT.refl _) hF.1))
  · exact fun a wx hT hF K hK => rely_if (rely_gt hF.2.1) (NewT.refl _) hK fun hE hK => opr_fldU6 rfl hF.1 (hK _ _ (NewT.refl _) rfl)
  · exact fun a wx hT hF K hK => rely_if (rely_gt hF.2.1) (NewT.refl _) hK fun hE hK => opr_ldI (hT.row Rg1.out) (by decide) rfl rfl (hF.1 hE) (hK _ _ (NewT.refl _) rfl)
  · exact fun a wx hT hF K hK => rely_if (rely_gt hF.2.1) (NewT.refl _) hK fun hE hK => opr_fldU6 rfl hF.1 (hK _ _ (NewT.refl _) rfl)
  · exact fun a wx hT hF K hK => rely_if (rely_gt hF.2.1) (NewT.refl _) hK fun hE hK => opr_ldI (hT.row Rg2.out) (by decide) rfl rfl (hF.1 hE) (hK _ _ (NewT.refl _) rfl)
  · exact fun a wx hT hF K hK => rely_if (rely_gt hF.2.2.1) (NewT.refl _) hK fun hE hK => opr_cmp (b := g.dn == h.dn) (.inl ⟨rfl, rfl⟩) Tryd.underlying3 rfl (hF.1 hE) (hF.2.1 hE) (hK _ _ (NewT.refl _) rfl)
  · exact fun a wx hT hF K hK => rely_wp rfl (opr_pick_b rfl hF.1 (fun hb => hK _ _ (NewT.refl _) (pk_and1 (hF.2.1 hb) hb)) (fun hb => hK _ _ (NewT.refl _) (pk_and0 hb)))
  · exact fun a wx hT hF K hK => rely_wp rfl (opr_move (.inl rfl) (hK _ _ (NewT.refl _) hF.1))
  · exact fun a wx hT hF K hK => rely_if (rely_gt hF.2.1) (NewT.refl _) hK fun hE hK => opr_fldU7 rfl hF.1 (hK _ _ (NewT.refl _) rfl)
  · exact fun a wx hT hF K hK => rely_if (rely_gt hF.2.1) (NewT.refl _) hK fun hE hK => opr_ldI (hT.row Rg1.out) (by decide) rfl rfl (hF.1 hE) (hK _ _ (NewT.refl _) rfl)
  · exact fun a wx hT hF K hK => rely_if (rely_gt hF.2.1) (NewT.refl _) hK fun hE hK => opr_fldU7 rfl hF.1 (hK _ _ (NewT.refl _) rfl)
  · exact fun a wx hT hF K hK => rely_if (rely_gt hF.2.1) (NewT.refl _) hK fun hE hK => opr_ldI (hT.row Rg2.out) (by decide) rfl rfl (hF.1 hE) (hK _ _ (NewT.refl _) rfl)
  · exact fun a wx hT hF K hK => rely_if (rely_gt hF.2.2.1) (NewT.refl _) hK fun hE hK => opr_cmp (b := g.un == h.un) (.inl ⟨rfl, rfl⟩) Tryd.underlying3 rfl (hF.1 hE) (hF.2.1 hE) (hK _ _ (NewT.refl _) rfl)
  · exact fun a wx hT hF K hK => rely_wp rfl (opr_pick_b rfl hF.1 (fun hb => hK _ _ (NewT.refl _) (pn_and1 Q4_1 (hF.2.1 hb) hb)) (fun hb => hK _ _ (NewT.refl _) (pn_and0 Q4_1 hb)))
  · exact fun a wx hT hF K hK => rely_wp rfl (opr_move (.inl rfl) (hK _ _ (NewT.refl _) hF.1))
  · exact fun a wx hT hF K hK => rely_if (rely_gt hF.2.1) (NewT.refl _) hK fun hE hK => opr_fldU8 rfl hF.1 (hK _ _ (NewT.refl _) rfl)
  · exact fun a wx hT hF K hK => rely_if (rely_gt hF.2.1) (NewT.refl _) hK fun hE hK => opr_ldI (hT.row Rg1.out) (by decide) rfl rfl (hF.1 hE) (hK _ _ (NewT.refl _) rfl)
  · exact fun a wx hT hF K hK => rely_if (rely_gt hF.2.1) (NewT.refl _) hK fun hE hK => opr_fldU8 rfl hF.1 (hK _ _ (NewT.refl _) rfl)
  · exact fun a wx hT hF K hK => rely_if (rely_gt hF.2.1) (NewT.refl _) hK fun hE hK => opr_ldI (hT.row Rg2.out) (by decide) rfl rfl (hF.1 hE) (hK _ _ (NewT.refl _) rfl)
  · exact fun a wx hT hF K hK => rely_if (rely_gt hF.2.2.1) (NewT.refl _) hK fun hE hK => opr_cmp (b := g.so == h.so) (.inl ⟨rfl, rfl⟩) Tryd.underlying3 rfl (hF.1 hE) (hF.2.1 hE) (hK _ _ (NewT.refl _) rfl)
  · exact fun a wx hT hF K hK => rely_wp rfl (opr_pick_b rfl hF.1 (fun hb => hK _ _ (NewT.refl _) (pk_and1 (hF.2.1 hb) hb)) (fun hb => hK _ _ (NewT.refl _) (pk_and0 hb)))
  · exact fun a wx hT hF K hK => rely_wp rfl (opr_move (.inl rfl) (hK _ _ (NewT.refl _) hF.1))
  · exact fun a wx hT hF K hK => rely_if (rely_gt hF.2.1) (NewT.refl _) hK fun hE hK => opr_fldU9 rfl hF.1 (hK _ _ (NewT.refl _) rfl)
  · exact fun a wx hT hF K hK => rely_if (rely_gt hF.2.1) (NewT.refl _) hK fun hE hK => opr_ldI (hT.row Rg1.out) (by decide) rfl rfl (hF.1 hE) (hK _ _ (NewT.refl _) rfl)
  · exact fun a wx hT hF K hK => rely_if (rely_gt hF.2.1) (NewT.refl _) hK fun hE hK => opr_fldU9 rfl hF.1 (hK _ _ (NewT.refl _) rfl)
  · exact fun a wx hT hF K hK => rely_if (rely_gt hF.2.1) (NewT.refl _) hK fun hE hK => opr_ldI (hT.row Rg2.out) (by decide) rfl rfl (hF.1 hE) (hK _ _ (NewT.refl _) rfl)
  · exact fun a wx hT hF K hK => rely_if (rely_gt hF.2.2.1) (NewT.refl _) hK fun hE hK => opr_cmp (b := g.sq == h.sq) (.inl ⟨rfl, rfl⟩) Tryd.underlying3 rfl (hF.1 hE) (hF.2.1 hE) (hK _ _ (NewT.refl _) rfl)
  · exact fun a wx hT hF K hK => rely_wp rfl (opr_pick_b rfl hF.1 (fun hb => hK _ _ (NewT.refl _) (pn_and1 Q5_1 (hF.2.1 hb) hb)) (fun hb => hK _ _ (NewT.refl _) (pn_and0 Q5_1 hb)))
  · exact fun a wx hT hF K hK => rely_wp rfl (opr_move (.inr rfl) (hK _ _ (NewT.refl _) hF.1))
  · intro w1 k1
    iterate 6 (intro u h; obtain rfl := Eq.symm (h (by simp)); clear h)
    iterate 5 (intro _ _)
    iterate 2 (intro u h; obtain rfl := Eq.symm (h (by simp)); clear h)
    iterate 5 (intro _ _)
    iterate 2 (intro u h; obtain rfl := Eq.symm (h (by simp)); clear h)
    iterate 5 (intro _ _)
    iterate 2 (intro u h; obtain rfl := Eq.symm (h (by simp)); clear h)
    iterate 5 (intro _ _)
    iterate 2 (intro u h; obtain rfl := Eq.symm (h (by simp)); clear h)
    iterate 5 (intro _ _)
    iterate 2 (intro u h; obtain rfl := Eq.symm (h (by simp)); clear h)
    iterate 5 (intro _ _)
    iterate 2 (intro u h; obtain rfl := Eq.symm (h (by simp)); clear h)
    iterate 5 (intro _ _)
    iterate 2 (intro u h; obtain rfl := Eq.symm (h (by simp)); clear h)
    iterate 5 (intro _ _)
    iterate 2 (intro u h; obtain rfl := Eq.symm (h (by simp)); clear h)
    iterate 5 (intro _ _)
    iterate 2 (intro u h; obtain rfl := Eq.symm (h (by simp)); clear h)
    subst Q5_1 Q4_1 Q3_1 Q2_1 Q1_1
    refine relyEnd_nil rfl ?_
    refine wpList_end rfl ?_
    simp only [Act.put, List.setIfInBounds_toArray, List.set_cons_zero, List.set_cons_succ]
    go_simp
    replace Rg1 := Lib.hid (k1.row Rg1.out)
    replace Rg2 := Lib.hid (k1.row Rg2.out)
    replace HM := Lib.hid (NewT.trans _ _ _ HM.out k1)
    clear k1
    go_wp2
    go_ret
    exact ⟨_, rfl, HM.out, rfl⟩
end Go.Proofs.YtilmeffmdgcblaaDoor
/- A row of sagas of the call's own, appended to: with room behind it, or without; what the ways of package book find and leave. -/
namespace Go.Proofs.YtilmeffmdgcblaaDoor
open Go Go.RowKit
set_option maxRecDepth 8000
set_option linter.all false
section
variable {P : Program} {sT eT : TypeId} {n : Nat}
/-- Without room behind it the row is laid anew. -/
theorem run_appE_far (T : ElTy P sT eT n) {W : World} {B : Nat} {v u : Value} {l m : List (Nat → Value)} (h : OwnE eT n W B v l) (hr : RdE n W u m) (h1 : OneE n m) (hm : 0 < m.length) (hn : l.length + m.length ≤ 1000000) (hB : B ≤ W.heap.size) (hno : ∀ g c, v = .slice (some ⟨g, 0, none⟩) l.length c → c < l.length + m.length) (ty : TypeId) :
    ∃ v' w', (Builtin.append_ #[sT, sT] ty #[v, u]).run P W = .ok v' w' ∧ OwnE eT n w' B v' (l ++ m) ∧ NewT W w' ∧ ∀ k, v'.ownBlock = some k → W.heap.size ≤ k := by
  obtain ⟨v', w', h2, h3, h4⟩ := run_appE T h hr h1 hn hB ty
  obtain ⟨i0, z, hi, hz0, hz1, hz2, hz3⟩ := T.inf
  have hr0 := hr
  obtain ⟨A, cap, rfl, k1, k2, k3⟩ := hr
  obtain ⟨b, o, rfl, _⟩ := k3 hm
  have hz4 : (ecs n m).length = m.length * i0.size := by rw [hz1]; exact ecs_length n m
  have hfit : (l.length + m.length) * i0.bytes ≤ 140737488355328 := Nat.le_trans (Nat.mul_le_mul hn hz2) (by omega)
  rcases h.2 with ⟨rfl, h0⟩ | ⟨g, c, cur, rfl, hb, hg, hnc, hcm, hs, ht⟩
  · have hl : l = [] := List.eq_nil_of_length_eq_zero h0
    subst hl
    simp only [List.length_nil, Nat.zero_add] at hn hfit
    have hrun := run_append_nil (P := P) W sT ty eT i0 _ T.ul hi hz0 ⟨b, o, none⟩ m.length cap (ecs n m) hz4 hr0.news hm (by omega) (by omega)
    rw [h2] at hrun
    injection hrun with ev ew
    refine ⟨v', w', h2, h3, by rw [ew]; exact NewT.trans _ _ _ (NewT.drew W) (NewT.alloc _ _), fun k hk => by rw [ev] at hk; simp [Value.ownBlock] at hk; omega⟩
  · have hno' := hno g c rfl
    have hrun := run_append_grow (P := P) W sT ty eT i0 _ T.ul hi hz0 ⟨g, 0, none⟩ l.length c (ecs n l) (by rw [hz1]; exact ecs_length n l) (World.ownsRow.cells h (g := g) rfl) ⟨b, o, none⟩ m.length cap (ecs n m) hz4 hr0.news hno' (by omega) (growslice_fits hno' hfit)
    rw [h2] at hrun
    injection hrun with ev ew
    refine ⟨v', w', h2, h3, by rw [ew]; exact NewT.trans _ _ _ (NewT.drew W) (NewT.alloc _ _), fun k hk => by rw [ev] at hk; simp [Value.ownBlock] at hk; omega⟩
theorem rt_grown {W w' : World} {g : Nat} (hg : World.grownBy W w' (some g)) (hlt : g < W.heap.size) : RT g W w' :=
  ⟨((Below.refl W.heap.size W).mono (by omega)).grown hg (by omega) (fun k hk => by cases hk; exact Nat.le_refl _), by
    refine ⟨hg.size, fun k o hk ho _ => ?_⟩
    have hlt2 := (Array.getElem?_eq_some_iff.1 ho).1
    rw [hg.block k hlt2 (by intro e; cases e; simp at hk)]
    exact ho⟩
/-- With room behind it the row is written. -/
theorem run_appE_near (T : ElTy P sT eT n) {W : World} {B g c : Nat} {u : Value} {l m : List (Nat → Value)} (h : OwnE eT n W B (.slice (some ⟨g, 0, none⟩) l.length c) l) (hr : RdE n W u m) (h1 : OneE n m) (hm : 0 < m.length) (hn : l.length + m.length ≤ 1000000) (hB : B ≤ W.heap.size) (hroom : l.length + m.length ≤ c) (ty : TypeId) :
    ∃ w', (Builtin.append_ #[sT, sT] ty #[.slice (some ⟨g, 0, none⟩) l.length c, u]).run P W = .ok (.slice (some ⟨g, 0, none⟩) (l.length + m.length) c) w' ∧ OwnE eT n w' B (.slice (some ⟨g, 0, none⟩) (l.length + m.length) c) (l ++ m) ∧ RT g W w' := by
  obtain ⟨v', w', h2, h3, h4⟩ := run_appE T h hr h1 hn hB ty
  obtain ⟨i0, z, hi, hz0, hz1, hz2, hz3⟩ := T.inf
  have hr0 := hr
  obtain ⟨A, cap, rfl, k1, k2, k3⟩ := hr
  obtain ⟨b, o, rfl, _⟩ := k3 hm
  have hz4 : (ecs n m).length = m.length * i0.size := by rw [hz1]; exact ecs_length n m
  have hlt := (h.lt g rfl).2
  rcases h.2 with ⟨hv, _⟩ | ⟨g', c', cur, hv, hb, hg, hnc, hcm, hs, ht⟩
  · cases hv
  · cases hv
    have hrun := run_append_room (P := P) W sT ty eT i0 T.ul hi g l.length c cur hg ⟨b, o, none⟩ m.length cap (ecs n m) hz4 hr0.news (ecs_one h1) hroom (by rw [ecs_length, hs, hz1, ← Nat.add_mul]; exact Nat.mul_le_mul_right n hroom)
    rw [h2] at hrun
    injection hrun with ev ew
    subst ev
    exact ⟨w', h2, h3, rt_grown h4 hlt⟩
end
theorem OwnE.rt {eT n : Nat} {W W' : World} {B g : Nat} {v : Value} {l : List (Nat → Value)} (h : OwnE eT n W B v l) (hT : RT g W W') (hne : v.ownBlock ≠ some g) : OwnE eT n W' B v l := by
  obtain ⟨h1, h2⟩ := h
  refine ⟨h1, ?_⟩
  rcases h2 with h2 | ⟨c, cap, cur, hv, hb, hg, r⟩
  · exact .inl h2
  · refine .inr ⟨c, cap, cur, hv, hb, hT.keep.2 c _ (by rw [hv] at hne; simp [Value.ownBlock] at hne; simpa using hne) hg rfl, r⟩
theorem run_bsU1 (f : Nat → Value) (w : World) : (Instr.buildSlice 35 1 #[(0, .agg (rowA 10 f))]).run Tryd.prog w = .ok (.slice (some ⟨w.heap.size, 0, none⟩) 1 1) (w.alloc (.cells (rowA 10 f) 59)) := by kernel_rfl
theorem run_bsR1 (f : Nat → Value) (w : World) : (Instr.buildSlice 22 1 #[(0, .agg (rowA 109 f))]).run Tryd.prog w = .ok (.slice (some ⟨w.heap.size, 0, none⟩) 1 1) (w.alloc (.cells (rowA 109 f) 32)) := by kernel_rfl
theorem rdE_rowOne {n : Nat} {w : World} {b t : Nat} {f : Nat → Value} (h : w.rowIs b t n f) : RdE n w (.slice (some ⟨b, 0, none⟩) 1 1) [f] := by
  refine ⟨some ⟨b, 0, none⟩, 1, rfl, by simp, by simp [maxLen], fun _ => ⟨b, 0, rfl, fun i e he j hj => ?_⟩⟩
  have hi : i < 1 := (List.getElem?_eq_some_iff.1 he).1
  obtain rfl : i = 0 := by omega
  simp at he
  subst he
  rw [show 0 + 0 * n + j = j by simp]
  exact h.cell hj
/-- A slice of one saga, in blocks from B on. -/
def UoV (w : World) (B : Nat) (v : Value) (l : List (Int × Int)) (g : Sg) : Prop :=
  ∃ b sv, v = .slice (some ⟨b, 0, none⟩) 1 1 ∧ B ≤ b ∧ w.rowIs b 59 10 (sgF sv g) ∧ RdPB w B sv l
theorem UoV.new {w w' : World} {B : Nat} {v : Value} {l : List (Int × Int)} {g : Sg} (h : UoV w B v l g) (hN : NewT w w') : UoV w' B v l g := by
  obtain ⟨b, sv, h1, h2, h3, h4⟩ := h; exact ⟨b, sv, h1, h2, hN.row h3, h4.new hN⟩
theorem UoV.rt {w w' : World} {R B : Nat} {v : Value} {l : List (Int × Int)} {g : Sg} (h : UoV w B v l g) (hT : RT R w w') (hR : R < B) : UoV w' B v l g := by
  obtain ⟨b, sv, h1, h2, h3, h4⟩ := h; exact ⟨b, sv, h1, h2, hT.row (by omega) h3, h4.rt hT hR⟩
def svUo (B : Nat) (l : List (Int × Int)) (g : Sg) : SV NewT := ⟨fun v w => UoV w B v l g, fun _ _ _ h hT => h.new hT⟩
def svUoB (R C : Nat) (hC : R < C) (l : List (Int × Int)) (g : Sg) : SV (RT R) := ⟨fun v w => UoV w C v l g, fun _ _ _ h hT => h.rt hT hC⟩
/-- A saga whose steps lie in a block behind R. -/
def svSgB (R C : Nat) (hC : R < C) (l : List (Int × Int)) (g : Sg) : SV (RT R) := ⟨fun v w => SgVN w C v l g, fun _ _ _ ⟨sv, h1, h2⟩ hT => ⟨sv, h1, h2.rt hT hC⟩⟩
/-- A row of sagas, and one more behind it. -/
def SnV (w : World) (B C : Nat) (v : Value) (fs : List (Nat → Value)) (l : List (Int × Int)) (g : Sg) : Prop := ∃ sv, RdPB w C sv l ∧ OwnE 59 10 w B v (fs ++ [sgF sv g])
def svSn (B C : Nat) (fs : List (Nat → Value)) (l : List (Int × Int)) (g : Sg) : SV NewT := ⟨fun v w => SnV w B C v fs l g ∧ ∀ k, v.ownBlock = some k → C ≤ k, fun _ _ _ ⟨⟨sv, h1, h2⟩, h3⟩ hT => ⟨⟨sv, h1.new hT, h2.new hT⟩, h3⟩⟩
theorem sgOne {w : World} {sv : Value} {l : List (Int × Int)} (h : RdP w sv l) (g : Sg) : OneE 10 [sgF sv g] := fun f hf j _ => by simp at hf; subst hf; exact sgF_one sv g (oneP h) j
section
variable {a : Act} {w : World} {o : Oper} {K : Act → World → Prop} {Q : Exit → Act → World → Prop} {x y : Operand} {B : Nat} {l : List (Int × Int)} {g : Sg}
theorem opr_bsUo (hB : B ≤ w.heap.size) (ho : o.op = .buildSlice 35 1 #[(0, x)]) (hx : SgVN w B (a.eval x) l g) (h : ∀ v w', NewT w w' → UoV w' B v l g → K (a.put o.dst v) w') : o.wp Tryd.prog a w K Q := by
  obtain ⟨dst, op, type, pos, after, guard⟩ := o
  simp only at ho
  subst ho
  obtain ⟨sv, hv, hs⟩ := hx
  exact opr_val (s := Instr.buildSlice 35 1 #[(0, a.eval x)]) (by simp [execOp]) (by rw [hv]; exact run_bsU1 _ w) (h _ _ (NewT.alloc _ _) ⟨_, sv, rfl, hB, rowIs_box w _ 10 (sgF sv g), hs.new (NewT.alloc _ _)⟩)
theorem opr_appUo {fs : List (Nat → Value)} {B0 : Nat} (hB : B0 ≤ w.heap.size) (hC : B ≤ w.heap.size) (hn : fs.length + 1 ≤ 1000000) (ho : o.op = .call { callee := .builtin .append, args := #[x, y], argTypes := #[35, 35] }) (hx : OwnE 59 10 w B0 (a.eval x) fs) (hno : ∀ g c, a.eval x = .slice (some ⟨g, 0, none⟩) fs.length c → c < fs.length + 1) (hy : UoV w B (a.eval y) l g)
    (h : ∀ v w', NewT w w' → (svSn B0 B fs l g).pred v w' → K (a.put o.dst v) w') : o.wp Tryd.prog a w K Q := by
  obtain ⟨b, sv, hv, h2, h3, h4⟩ := hy
  obtain ⟨v', w', hr, ho', hN, hk⟩ := run_appE_far (u := a.eval y) sagaEl hx (by rw [hv]; exact rdE_rowOne h3) (sgOne h4.1 g) (by simp) (by simpa using hn) hB (by simpa using hno) o.type
  exact opr_append ho rfl rfl hr (h _ _ hN ⟨⟨sv, h4.new hN, ho'⟩, fun k e => Nat.le_trans hC (hk k e)⟩)
end
theorem OwnE.rows {eT n : Nat} {W : World} {B : Nat} {v : Value} {l : List (Nat → Value)} (h : OwnE eT n W B v l) (h0 : 0 < l.length) : ∃ c cap F, v = .slice (some ⟨c, 0, none⟩) l.length cap ∧ B ≤ c ∧ W.rowIs c eT (cap * n) F ∧ l.length ≤ cap ∧ cap ≤ maxLen ∧ ∀ (i : Nat) (d : Nat → Value), l[i]? = some d → ∀ j, j < n → F (i * n + j) = d j := by
  rcases h.2 with ⟨_, h2⟩ | ⟨g, c, cur, hv, hb, hg, hc, hm, hs, ht⟩
  · omega
  · refine ⟨g, c, fun i => cur.getD i undef, hv, hb, ⟨cur, hg, hs, fun i hi => ?_⟩, hc, hm, fun i d hd j hj => ?_⟩
    · have : i < cur.size := by omega
      simp [this]
    · have h1 := ecs_at n l i d hd j hj
      rw [← ht, List.getElem?_take] at h1
      split at h1
      · simp only [Array.getD_eq_getD_getElem?]
        rw [← Array.getElem?_toList, h1]; rfl
      · cases h1
theorem mul_row {i n j c : Nat} (hi : i < c) (hj : j < n) : i * n + j < c * n := by
  have : (i + 1) * n ≤ c * n := Nat.mul_le_mul_right n hi
  rw [Nat.succ_mul] at this
  omega
theorem rdE_rowc {W : World} {g t c n : Nat} {F : Nat → Value} {l : List (Nat → Value)} (h : W.rowIs g t (c * n) F) (hn : l.length ≤ c) (hm : c ≤ maxLen) (hf : ∀ (i : Nat) (d : Nat → Value), l[i]? = some d → ∀ j, j < n → F (i * n + j) = d j) : RdE n W (.slice (some ⟨g, 0, none⟩) l.length c) l := by
  refine ⟨some ⟨g, 0, none⟩, c, rfl, hn, hm, fun _ => ⟨g, 0, rfl, fun i d hd j hj => ?_⟩⟩
  have hi : i < l.length := (List.getElem?_eq_some_iff.1 hd).1
  rw [show 0 + i * n + j = i * n + j by omega, h.cell (mul_row (by omega) hj), hf i d hd j hj]
theorem set_rows {n : Nat} {F : Nat → Value} {l : List (Nat → Value)} {k : Nat} {d : Nat → Value} (hk : k < l.length) (hf : ∀ (i : Nat) (d : Nat → Value), l[i]? = some d → ∀ j, j < n → F (i * n + j) = d j) : ∀ (i : Nat) (e : Nat → Value), (l.set k d)[i]? = some e → ∀ j, j < n → (fun z => if k * n ≤ z ∧ z < k * n + n then d (z - k * n) else F z) (i * n + j) = e j := by
  intro i e he j hj
  by_cases h : i = k
  · subst h
    rw [List.getElem?_set_self hk] at he
    cases he
    show (if _ then _ else _) = _
    rw [if_pos (by omega), show i * n + j - i * n = j by omega]
  · rw [List.getElem?_set_ne (Ne.symm h)] at he
    show (if _ then _ else _) = _
    have hi : i < l.length := (List.getElem?_eq_some_iff.1 he).1
    rw [if_neg ?_]
    · exact hf i e he j hj
    · rcases Nat.lt_or_gt_of_ne h with h1 | h1
      · have := mul_row h1 hj; omega
      · have : (k + 1) * n ≤ i * n := Nat.mul_le_mul_right n h1
        rw [Nat.succ_mul] at this
        omega
section
variable {a : Act} {w : World} {o : Oper} {K : Act → World → Prop} {Q : Exit → Act → World → Prop} {x y : Operand} {P : Program} {sT eT n : Nat}
theorem opr_idxX {b m c i : Nat} {z : Int} (T : ElTy P sT eT n) (hi : i < m) (hz : z = (i : Int)) (ho : o.op = .indexAddr sT x y) (hx : a.eval x = .slice (some ⟨b, 0, none⟩) m c) (hy : a.eval y = .int .i64 z) (h : K (a.put o.dst (.pointer (some ⟨b, i * n, none⟩))) w) : o.wp P a w K Q := by
  subst hz
  obtain ⟨dst, op, type, pos, after, guard⟩ := o
  simp only at ho
  subst ho
  exact opr_val (s := Instr.indexAt sT (a.eval x) (a.eval y)) rfl (by rw [hx, hy, run_idxE T w hi, Nat.zero_add]) h
theorem opr_ldX {b off : Nat} {d : Nat → Value} (T : ElTy P sT eT n) (hc : ∀ j, j < n → w.cell? ⟨b, off + j, none⟩ = some (d j)) (ho : o.op = .load eT x) (hx : a.eval x = .pointer (some ⟨b, off, none⟩)) (h : K (a.put o.dst (.agg (rowA n d))) w) : o.wp P a w K Q := by
  obtain ⟨dst, op, type, pos, after, guard⟩ := o
  simp only at ho
  subst ho
  exact opr_val (s := Instr.loadAt eT (a.eval x)) rfl (by rw [hx]; exact run_ldE T hc) h
end
theorem opr_callW {a : Act} {w : World} {o : Oper} {K : Act → World → Prop} {Q : Exit → Act → World → Prop} {x : Operand} {f : Nat} {fn : Func} {args : Array Operand} {vs : Array Value} {ts : Array TypeId} (ho : o.op = .call { callee := .value x, args := args, argTypes := ts }) (hx : a.eval x = .func (.func f) #[] #[]) (hf : Tryd.prog.funcs[f]? = some fn) (hn : (fn.name == "runtime.NumGoroutine") = false) (hb : fn.body.isNone = false) (hv : args.map a.eval = vs)
    (h : Calls Tryd.prog f vs w fun e w' => ∃ v, e = .returned v ∧ K (a.put o.dst v) w') : o.wp Tryd.prog a w K Q := by
  obtain ⟨dst, op, type, pos, after, guard⟩ := o
  simp only at ho
  subst ho
  have e : execOp a.eval { dst, op := .call { callee := .value x, args := args, argTypes := ts }, type, pos, after, guard } = callFunc f vs := by
    show (do let d ← resolve a.eval { callee := .value x, args := args, argTypes := ts } type; invoke d.target d.args) = _
    simp only [resolve, Deferred.ofValue, hx, invoke, pure_bind]
    rw [← hv]; simp
  unfold Oper.wp
  rw [e, run_callFunc_go hf hn hb, Oper.upon_enter]
  refine Calls.mono h ?_
  rintro e w' ⟨v, rfl, hk⟩
  exact hk
theorem opr_cvW {a : Act} {w : World} {o : Oper} {K : Act → World → Prop} {Q : Exit → Act → World → Prop} {x : Operand} {f : Nat} {fn : Func} {args : Array Operand} {vs : Array Value} {ts : Array TypeId} {c : SV NewT} (hc : Cv f vs w c) (ho : o.op = .call { callee := .value x, args := args, argTypes := ts }) (hx : a.eval x = .func (.func f) #[] #[]) (hf : Tryd.prog.funcs[f]? = some fn) (hn : (fn.name == "runtime.NumGoroutine") = false) (hb : fn.body.isNone = false) (hv : args.map a.eval = vs)
    (h : ∀ v w', NewT w w' → c.pred v w' → K (a.put o.dst v) w') : o.wp Tryd.prog a w K Q :=
  opr_callW ho hx hf hn hb hv (hc.mono fun _ _ ⟨v, h1, h2, h3⟩ => ⟨v, h1, h v _ h2 h3⟩)
theorem wpList_yes {P : Program} {ops : Array Oper} {Q : Exit → Act → World → Prop} {a : Act} {w : World} {rest : List Oper} {o : Oper} (hw : Region.wanted o (yielded ops a.tmps) = true) (h : ∀ K : Act → World → Prop, (∀ a w, wpList P ops Q rest a w → K a w) → o.wp P a w K Q) : wpList P ops Q (o :: rest) a w :=
  wpList_step fun K hK => by rw [if_pos hw]; exact h K hK
/-- Rows of sagas, in blocks from B on. -/
def svOwE (B : Nat) (fs : List (Nat → Value)) : SV NewT := ⟨fun v w => OwnE 59 10 w B v fs, fun _ _ _ h hT => h.new hT⟩
/-- A saga's row whose steps lie in a block from B on. -/
def sgEB (B : Nat) (w : World) (f : Nat → Value) (p : Ug) : Prop := ∃ sv, f = sgF sv p.2 ∧ RdPB w B sv p.1
instance (B : Nat) : StbE (sgEB B) := ⟨fun ⟨sv, h1, h2⟩ hN => ⟨sv, h1, h2.new hN⟩⟩
/-- Sagas that lie in blocks from B on, with their steps. -/
def RdUB (w : World) (B : Nat) (v : Value) (L : List Ug) : Prop := (∀ k, v.ownBlock = some k → B ≤ k) ∧ RdL 10 (sgEB B) w v L
theorem RdUB.rd {w : World} {B : Nat} {v : Value} {L : List Ug} (h : RdUB w B v L) : RdU w v L := by
  obtain ⟨_, fs, h1, h2, h3⟩ := h
  refine ⟨fs, h1, h2, fun i p hp => ?_⟩
  obtain ⟨f, e1, sv, e2, e3⟩ := h3 i p hp
  exact ⟨f, e1, sv, e2, e3.1⟩
theorem RdUB.new {w w' : World} {B : Nat} {v : Value} {L : List Ug} (h : RdUB w B v L) (hN : NewT w w') : RdUB w' B v L := ⟨h.1, h.2.new hN⟩
theorem RdUB.mono {w : World} {B B' : Nat} {v : Value} {L : List Ug} (h : RdUB w B v L) (hB : B' ≤ B) : RdUB w B' v L := by
  obtain ⟨h0, fs, h1, h2, h3⟩ := h
  refine ⟨fun k hk => Nat.le_trans hB (h0 k hk), fs, h1, h2, fun i p hp => ?_⟩
  obtain ⟨f, e1, sv, e2, e3⟩ := h3 i p hp
  exact ⟨f, e1, sv, e2, e3.mono hB⟩
theorem rdUB_nil (w : World) (B : Nat) : RdUB w B (.slice none 0 0) [] := ⟨fun k (hk : (none : Option Nat) = some k) => absurd hk (by simp), rdL_nil w⟩
theorem ptr_own {v : Value} {R : Nat} {A : Option Addr} {n c b o : Nat} (hne : v.ownBlock ≠ some R) (hv : v = .slice A n c) (hA : A = some ⟨b, o, none⟩) : b ≠ R := by
  subst hv hA
  intro e
  subst e
  exact hne rfl
theorem RdE.rt {n R : Nat} {w w' : World} {v : Value} {l : List (Nat → Value)} (h : RdE n w v l) (hT : RT R w w') (hne : v.ownBlock ≠ some R) : RdE n w' v l := by
  obtain ⟨A, c, hv, h1, h2, h3⟩ := h
  refine ⟨A, c, hv, h1, h2, fun h0 => ?_⟩
  obtain ⟨b, o, hA, hc⟩ := h3 h0
  refine ⟨b, o, hA, fun i d hd j hj => hT.keep.cell (a := ⟨b, o + i * n + j, none⟩) ?_ (hc i d hd j hj)⟩
  have := ptr_own hne hv hA
  simpa using this
theorem RdUB.rt {w w' : World} {R B : Nat} {v : Value} {L : List Ug} (h : RdUB w B v L) (hT : RT R w w') (hR : R < B) : RdUB w' B v L := by
  obtain ⟨h0, fs, h1, h2, h3⟩ := h
  refine ⟨h0, fs, h1.rt hT (fun e => by have := h0 R e; omega), h2, fun i p hp => ?_⟩
  obtain ⟨f, e1, sv, e2, e3⟩ := h3 i p hp
  exact ⟨f, e1, sv, e2, e3.rt hT hR⟩
def BkVB (w : World) (B : Nat) (v : Value) (bk : Bk) : Prop := ∃ sv, v = .agg (rowA 5 (bkF bk.ep sv)) ∧ RdUB w B sv bk.sg
theorem BkVB.new {w w' : World} {B : Nat} {v : Value} {bk : Bk} (h : BkVB w B v bk) (hN : NewT w w') : BkVB w' B v bk := by
  obtain ⟨sv, h1, h2⟩ := h; exact ⟨sv, h1, h2.new hN⟩
theorem BkVB.mono {w : World} {B B' : Nat} {v : Value} {bk : Bk} (h : BkVB w B v bk) (hB : B' ≤ B) : BkVB w B' v bk := by
  obtain ⟨sv, h1, h2⟩ := h; exact ⟨sv, h1, h2.mono hB⟩
theorem BkVB.rd {w : World} {B : Nat} {v : Value} {bk : Bk} (h : BkVB w B v bk) : BkV w v bk := by
  obtain ⟨sv, h1, h2⟩ := h; exact ⟨sv, h1, h2.rd⟩
def svBkB (B : Nat) (bk : Bk) : SV NewT := ⟨fun v w => BkVB w B v bk, fun _ _ _ h hT => h.new hT⟩
def svBkRB (B : Nat) (bk : Bk) (u : Value) : SV NewT := ⟨fun v w => ∃ b, v = .tuple #[b, u] ∧ BkVB w B b bk, fun _ _ _ ⟨b, h1, h2⟩ hT => ⟨b, h1, h2.new hT⟩⟩
section
variable {a : Act} {w : World} {o : Oper} {K : Act → World → Prop} {Q : Exit → Act → World → Prop} {x : Operand} {B : Nat}
theorem opr_extKB0 {L : Bk} {u : Value} (ho : o.op = .extract x 0) (hx : (svBkRB B L u).pred (a.eval x) w) (h : ∀ v, (svBkB B L).pred v w → K (a.put o.dst v) w) : o.wp Tryd.prog a w K Q := by
  obtain ⟨b, h1, h2⟩ := hx
  exact opr_ext ho h1 rfl (h b h2)
theorem opr_extKB1 {L : Bk} {u : Value} (ho : o.op = .extract x 1) (hx : (svBkRB B L u).pred (a.eval x) w) (h : K (a.put o.dst u) w) : o.wp Tryd.prog a w K Q := by
  obtain ⟨b, h1, h2⟩ := hx
  exact opr_ext ho h1 rfl h
end
/-- What a way finds: the book at g, its sagas in a row of the call's own, whose steps and the record lie in elder memory. -/
structure WayPre (D : Nat) (w WE : World) (B g : Nat) (sv : Value) (fs : List (Nat → Value)) (bk : Bk) : Prop where
  size : WE.heap.size ≤ B
  elder : NewT WE w
  row : w.rowIs g 37 5 (bkF bk.ep sv)
  at_ : B ≤ g
  own : OwnE 59 10 w B sv fs
  apart : ∀ k, sv.ownBlock = some k → g < k
  len : fs.length = bk.sg.length
  els : ∀ (i : Nat) (p : Ug), bk.sg[i]? = some p → ∃ f : Nat → Value, fs[i]? = some f ∧ sgEB D WE f p
/-- The sagas that it leaves: in the row that was there or a new one, their steps in elder or new memory. -/
def WayOut (D : Nat) (w' WE : World) (C : Nat) (sv0 sv : Value) (L : List Ug) : Prop :=
  (∀ k, sv.ownBlock = some k → sv0.ownBlock = some k ∨ C ≤ k) ∧ ∃ fs : List (Nat → Value), RdE 10 w' sv fs ∧ fs.length = L.length ∧ ∀ (i : Nat) (p : Ug), L[i]? = some p → ∃ tv, fs[i]? = some (sgF tv p.2) ∧ (RdPB WE D tv p.1 ∨ RdPB w' C tv p.1)
/-- What it leaves. -/
def WayPost (D : Nat) (WE : World) (B g : Nat) (w : World) (sv0 : Value) (ok : Bool) (bk : Bk) (e : Ending) (w' : World) : Prop := ∃ sv, e = .returned (.bool ok) ∧ Below B w w' ∧ KeepBut (g :: sv0.ownBlock.toList) w w' ∧ w'.rowIs g 37 5 (bkF bk.ep sv) ∧ WayOut D w' WE w.heap.size sv0 sv bk.sg
theorem WayOut.mono {D0 : Nat} {w' WE : World} {C D : Nat} {sv0 sv : Value} {L : List Ug} (h : WayOut D0 w' WE D sv0 sv L) (hC : C ≤ D) : WayOut D0 w' WE C sv0 sv L := by
  obtain ⟨h1, fs, h2, h3, h4⟩ := h
  refine ⟨fun k hk => (h1 k hk).imp id (fun h => Nat.le_trans hC h), fs, h2, h3, fun i p hp => ?_⟩
  obtain ⟨tv, e1, e2⟩ := h4 i p hp
  exact ⟨tv, e1, e2.imp id fun h => h.mono hC⟩
theorem WayOut.new {D0 : Nat} {w w' WE : World} {C : Nat} {sv0 sv : Value} {L : List Ug} (h : WayOut D0 w WE C sv0 sv L) (hN : NewT w w') : WayOut D0 w' WE C sv0 sv L := by
  obtain ⟨h1, fs, h2, h3, h4⟩ := h
  refine ⟨h1, fs, h2.new hN, h3, fun i p hp => ?_⟩
  obtain ⟨tv, e1, e2⟩ := h4 i p hp
  exact ⟨tv, e1, e2.imp id fun h => h.new hN⟩
theorem WayOut.rd {D0 : Nat} {w WE : World} {C : Nat} {sv0 sv : Value} {L : List Ug} (h : WayOut D0 w WE C sv0 sv L) (hN : NewT WE w) (hD : D0 ≤ C) (h0 : ∀ k, sv0.ownBlock = some k → D0 ≤ k) : RdUB w D0 sv L := by
  obtain ⟨h1, fs, h2, h3, h4⟩ := h
  refine ⟨fun k hk => (h1 k hk).elim (h0 k) (fun h => Nat.le_trans hD h), fs, h2, h3, fun i p hp => ?_⟩
  obtain ⟨tv, e1, e2⟩ := h4 i p hp
  exact ⟨_, e1, tv, rfl, e2.elim (fun h => h.new hN) (fun h => h.mono hD)⟩
theorem WayOut.rt {D0 : Nat} {w w' WE : World} {C R : Nat} {sv0 sv : Value} {L : List Ug} (h : WayOut D0 w WE C sv0 sv L) (hT : RT R w w') (hne : sv0.ownBlock ≠ some R) (hC : R < C) (hN : NewT WE w') (hD : D0 ≤ C) (h0 : ∀ k, sv0.ownBlock = some k → D0 ≤ k) : RdUB w' D0 sv L := by
  have hs : sv.ownBlock ≠ some R := fun e => by
    rcases h.1 R e with h' | h'
    · exact hne h'
    · omega
  obtain ⟨h1, fs, h2, h3, h4⟩ := h
  refine ⟨fun k hk => (h1 k hk).elim (h0 k) (fun h => Nat.le_trans hD h), fs, h2.rt hT hs, h3, fun i p hp => ?_⟩
  obtain ⟨tv, e1, e2⟩ := h4 i p hp
  exact ⟨_, e1, tv, rfl, e2.elim (fun h => h.new hN) (fun h => (h.rt hT hC).mono hD)⟩
theorem wayOut_own {D0 : Nat} {w w' WE : World} {B C g : Nat} {sv : Value} {fs : List (Nat → Value)} {bk : Bk} (hp : WayPre D0 w WE B g sv fs bk) (ho : RdE 10 w' sv fs) : WayOut D0 w' WE C sv sv bk.sg :=
  ⟨fun k hk => .inl hk, fs, ho, hp.len, fun i p h => by obtain ⟨f, h1, tv, rfl, h3⟩ := hp.els i p h; exact ⟨tv, h1, .inl h3⟩⟩
theorem wayOut_snoc {D0 : Nat} {w w' WE : World} {B C g : Nat} {sv sv2 v : Value} {fs : List (Nat → Value)} {bk : Bk} {p : Ug} (hp : WayPre D0 w WE B g sv fs bk) (hr : RdE 10 w' v (fs ++ [sgF sv2 p.2])) (hs : RdPB w' C sv2 p.1) (hk : ∀ k, v.ownBlock = some k → sv.ownBlock = some k ∨ C ≤ k) : WayOut D0 w' WE C sv v (bk.sg ++ [p]) := by
  refine ⟨hk, _, hr, by simp [hp.len], fun i q hq => ?_⟩
  have hl := hp.len
  by_cases hi : i < bk.sg.length
  · rw [List.getElem?_append_left hi] at hq
    obtain ⟨f, h1, tv, rfl, h3⟩ := hp.els i q hq
    exact ⟨tv, by rw [List.getElem?_append_left (by omega)]; exact h1, .inl h3⟩
  · have hi2 : i < bk.sg.length + 1 := by have := (List.getElem?_eq_some_iff.1 hq).1; simpa using this
    obtain rfl : i = bk.sg.length := by omega
    simp at hq
    subst hq
    exact ⟨sv2, by rw [← hl]; simp, .inr hs⟩
theorem wayOut_set {D0 : Nat} {w w' WE : World} {B C g k : Nat} {sv sv2 : Value} {fs : List (Nat → Value)} {bk : Bk} {p : Ug} (hp : WayPre D0 w WE B g sv fs bk) (hr : RdE 10 w' sv (fs.set k (sgF sv2 p.2))) (hs : RdPB WE D0 sv2 p.1) : WayOut D0 w' WE C sv sv (bk.sg.set k p) := by
  refine ⟨fun k hk => .inl hk, _, hr, by simp [hp.len], fun i q hq => ?_⟩
  have hl := hp.len
  by_cases hi : i = k
  · subst hi
    have hlt : i < bk.sg.length := by have := (List.getElem?_eq_some_iff.1 hq).1; simpa using this
    rw [List.getElem?_set_self hlt] at hq
    cases hq
    exact ⟨sv2, by rw [List.getElem?_set_self (by omega)], .inl hs⟩
  · rw [List.getElem?_set_ne (Ne.symm hi)] at hq
    obtain ⟨f, h1, tv, rfl, h3⟩ := hp.els i q hq
    exact ⟨tv, by rw [List.getElem?_set_ne (Ne.symm hi)]; exact h1, .inl h3⟩
theorem WayPre.rd {D0 : Nat} {w WE : World} {B g : Nat} {sv : Value} {fs : List (Nat → Value)} {bk : Bk} (h : WayPre D0 w WE B g sv fs bk) : RdU w sv bk.sg :=
  ⟨fs, h.own.rd, h.len, fun i p hp => by obtain ⟨f, h1, sv', h2, h3⟩ := h.els i p hp; exact ⟨f, h1, sv', h2, h.elder.pairs h3.1⟩⟩
theorem WayPre.one {D0 : Nat} {w WE : World} {B g : Nat} {sv : Value} {fs : List (Nat → Value)} {bk : Bk} (h : WayPre D0 w WE B g sv fs bk) : OneE 10 fs := by
  intro f hf j _
  obtain ⟨i, hi, rfl⟩ := List.mem_iff_getElem.1 hf
  have hl := h.len
  obtain ⟨f', h1, sv', h2, h3⟩ := h.els i _ (List.getElem?_eq_getElem (by omega))
  rw [List.getElem?_eq_getElem hi] at h1
  cases h1
  rw [h2]
  exact sgF_one sv' _ (oneP h3.1) j
end Go.Proofs.YtilmeffmdgcblaaDoor
/- Books behind records, on lists: how many go, the book behind them, and that its numbers are small. No program is named here. -/
namespace Go.Proofs.YtilmeffmdgcblaaDoor
open Go Go.RowKit
set_option maxRecDepth 8000
set_option linter.all false
/-- The book behind records. -/
def upK (lim : Int) (K : Bk) (l : List Rc) : Bk := l.foldl (wentK lim) K
/-- How many records go. -/
def nOf (lim : Int) : Bk → List Rc → Nat
  | _, [] => 0
  | K, x :: t => bif goesK lim K x then nOf lim (wentK lim K x) t + 1 else 0
theorem nOf_cons_t {lim : Int} {K : Bk} {x : Rc} {t : List Rc} (h : goesK lim K x = true) : nOf lim K (x :: t) = nOf lim (wentK lim K x) t + 1 := by
  show (bif goesK lim K x then _ else _) = _; rw [h]; rfl
theorem nOf_cons_f {lim : Int} {K : Bk} {x : Rc} {t : List Rc} (h : goesK lim K x = false) : nOf lim K (x :: t) = 0 := by
  show (bif goesK lim K x then _ else _) = _; rw [h]; rfl
theorem nOf_le (lim : Int) : ∀ (l : List Rc) (K : Bk), nOf lim K l ≤ l.length
  | [], K => Nat.le_refl _
  | x :: t, K => by
    cases h : goesK lim K x with
    | true => rw [nOf_cons_t h]; have := nOf_le lim t (wentK lim K x); simp; omega
    | false => rw [nOf_cons_f h]; omega
theorem nOf_take (lim : Int) : ∀ (l : List Rc) (K : Bk) (k : Nat), k ≤ nOf lim K l → nOf lim K (l.take k) = k
  | [], K, k, hk => by have : k = 0 := by simpa [nOf] using hk
                       subst this; rfl
  | x :: t, K, 0, _ => rfl
  | x :: t, K, k + 1, hk => by
    cases h : goesK lim K x with
    | true =>
      rw [nOf_cons_t h] at hk
      rw [List.take_succ_cons, nOf_cons_t h, nOf_take lim t _ k (by omega)]
    | false => rw [nOf_cons_f h] at hk; omega
theorem nOf_stop (lim : Int) : ∀ (l : List Rc) (K : Bk) (k : Nat) (x : Rc), l[k]? = some x → nOf lim K (l.take k) = k → goesK lim (upK lim K (l.take k)) x = false → nOf lim K l = k
  | [], K, k, x, hx, _, _ => by simp at hx
  | y :: t, K, 0, x, hx, _, hg => by
    simp at hx; subst hx
    exact nOf_cons_f hg
  | y :: t, K, k + 1, x, hx, hn, hg => by
    cases h : goesK lim K y with
    | true =>
      rw [List.take_succ_cons, nOf_cons_t h] at hn
      rw [nOf_cons_t h, nOf_stop lim t _ k x (by simpa using hx) (by omega) (by simpa [upK] using hg)]
    | false => rw [List.take_succ_cons, nOf_cons_f h] at hn; omega
theorem nOf_succ (lim : Int) : ∀ (l : List Rc) (K : Bk) (k : Nat) (x : Rc), l[k]? = some x → nOf lim K (l.take k) = k → goesK lim (upK lim K (l.take k)) x = true → nOf lim K (l.take (k + 1)) = k + 1
  | [], K, k, x, hx, _, _ => by simp at hx
  | y :: t, K, 0, x, hx, _, hg => by
    simp at hx; subst hx
    rw [List.take_succ_cons, nOf_cons_t (show goesK lim K y = true from hg)]; rfl
  | y :: t, K, k + 1, x, hx, hn, hg => by
    cases h : goesK lim K y with
    | true =>
      rw [List.take_succ_cons, nOf_cons_t h] at hn
      rw [List.take_succ_cons, nOf_cons_t h, nOf_succ lim t _ k x (by simpa using hx) (by omega) (by simpa [upK] using hg)]
    | false => rw [List.take_succ_cons, nOf_cons_f h] at hn; omega
theorem nOf_goes (lim : Int) : ∀ (l : List Rc) (K : Bk) (k : Nat) (x : Rc), l[k]? = some x → k < nOf lim K l → goesK lim (upK lim K (l.take k)) x = true
  | [], K, k, x, hx, _ => by simp at hx
  | y :: t, K, 0, x, hx, hn => by
    simp at hx; subst hx
    cases h : goesK lim K y with
    | true => exact h
    | false => rw [nOf_cons_f h] at hn; omega
  | y :: t, K, k + 1, x, hx, hn => by
    cases h : goesK lim K y with
    | true =>
      rw [nOf_cons_t h] at hn
      have := nOf_goes lim t (wentK lim K y) k x (by simpa using hx) (by omega)
      simpa [upK] using this
    | false => rw [nOf_cons_f h] at hn; omega
theorem upK_succ {lim : Int} {K : Bk} {l : List Rc} {k : Nat} {x : Rc} (hx : l[k]? = some x) : upK lim K (l.take (k + 1)) = wentK lim (upK lim K (l.take k)) x := by
  unfold upK
  rw [List.take_add_one, hx, List.foldl_append]
  rfl
theorem went_goes {lim : Int} {K : Bk} {x : Rc} (h : goesK lim K x = true) : wentK lim K x = wayK lim K x := by unfold wentK; rw [if_pos h]
theorem goes_lim {lim : Int} {K : Bk} {x : Rc} (h : goesK lim K x = true) : (1 ≤ lim ∧ lim ≤ 9) ∧ rightB x = true ∧ wayB lim K x = true := by
  unfold goesK at h
  rw [Bool.and_eq_true, Bool.and_eq_true] at h
  exact ⟨(inR_iff _ _ _).1 h.1.1, h.1.2, h.2⟩
/-- How a saga stands behind at most n records. -/
def GoodS (lim : Int) (n : Nat) (p : Ug) : Prop := mayL p.1 = true ∧ ∃ (s : St) (q : Nat), p.2 = ofSt s (q : Int) ∧ Inv (kks p.1) lim.toNat s ∧ 1 ≤ q ∧ q ≤ n
structure Good (lim : Int) (n : Nat) (K : Bk) : Prop where
  limOk : n = 0 ∨ (1 ≤ lim ∧ lim ≤ 9)
  sg : ∀ p ∈ K.sg, GoodS lim n p
  len : K.sg.length ≤ 12 ∧ K.sg.length ≤ n
  ep : ∀ i, 0 ≤ K.ep i ∧ K.ep i ≤ n
theorem good_zero (lim : Int) : Good lim 0 zK := ⟨.inl rfl, fun p hp => (by cases hp), ⟨by simp [zK], by simp [zK]⟩, fun i => (by simp [zK])⟩
theorem GoodS.more {lim : Int} {n m : Nat} {p : Ug} (h : GoodS lim n p) (hn : n ≤ m) : GoodS lim m p := by
  obtain ⟨h1, s, q, h2, h3, h4, h5⟩ := h; exact ⟨h1, s, q, h2, h3, h4, by omega⟩
/-- What goes of a saga that is there. -/
theorem on_goes {lim : Int} {K : Bk} {x : Rc} (hr : rightB x = true) (h : onB lim K x = true) : ∃ (k : Nat) (p : Ug), x.saga = (k : Int) ∧ K.sg[k]? = some p ∧ goesB p.1 lim p.2 x = true ∧ onK lim K x = { K with sg := K.sg.set k (p.1, wentG p.1 lim p.2 x) } := by
  unfold onB at h
  split at h
  next h1 =>
    obtain ⟨k, hk⟩ : ∃ k : Nat, x.saga = (k : Int) := ⟨x.saga.toNat, by have := (right_saga hr).1; omega⟩
    rw [hk, Int.toNat_natCast] at h
    refine ⟨k, sgAt K k, hk, sgAt_some (by omega), h, ?_⟩
    unfold onK
    rw [if_pos h1, hk, Int.toNat_natCast]
  next => cases h
theorem way_cases {lim : Int} {K : Bk} {x : Rc} (hr : rightB x = true) (h : wayB lim K x = true) :
    (x.kind = 1 ∧ x.saga = (K.sg.length : Int) ∧ mayL x.steps = true ∧ wayK lim K x = { K with sg := K.sg ++ [(x.steps, ofSt st0 1)] }) ∨
    (x.kind = 6 ∧ x.epoch = K.ep x.part.toNat + 1 ∧ wayK lim K x = rotK K x) ∨
    ((x.kind = 2 ∨ x.kind = 3 ∨ x.kind = 4 ∨ x.kind = 5) ∧ ∃ (k : Nat) (p : Ug), x.saga = (k : Int) ∧ K.sg[k]? = some p ∧ goesB p.1 lim p.2 x = true ∧ wayK lim K x = { K with sg := K.sg.set k (p.1, wentG p.1 lim p.2 x) }) := by
  have hkd := right_kind x hr
  unfold wayB at h
  unfold wayK
  by_cases h1 : x.kind = 1
  · rw [if_pos h1] at h ⊢
    unfold begB at h
    split at h
    next h2 =>
      refine .inl ⟨h1, h2, h, ?_⟩
      unfold begK newL newG
      rw [if_pos h, if_pos h]
    next => cases h
  · rw [if_neg h1] at h ⊢
    by_cases h6 : x.kind = 6
    · rw [if_neg (by omega), if_pos h6] at h
      rw [if_pos h6]
      unfold rotB at h
      exact .inr (.inl ⟨h6, eq_of_beq h, rfl⟩)
    · rw [if_neg h6]
      have hon : onB lim K x = true := by
        by_cases h3 : x.kind = 3
        · rw [if_pos h3] at h
          unfold ansB at h
          rw [Bool.and_eq_true] at h
          exact h.2
        · rw [if_neg h3, if_neg h6] at h; exact h
      obtain ⟨k, p, e1, e2, e3, e4⟩ := on_goes hr hon
      exact .inr (.inr ⟨by omega, k, p, e1, e2, e3, e4⟩)
theorem good_step {lim : Int} {n : Nat} {K : Bk} {x : Rc} (hG : Good lim n K) (h : goesK lim K x = true) : Good lim (n + 1) (wentK lim K x) := by
  obtain ⟨hl, hr, hw⟩ := goes_lim h
  rw [went_goes h]
  have hlt : lim = (lim.toNat : Int) := by omega
  rcases way_cases hr hw with ⟨h1, h2, h3, e⟩ | ⟨h1, h2, e⟩ | ⟨h1, k, p, h2, h3, h4, e⟩
  · rw [e]
    refine ⟨.inr hl, fun p hp => ?_, ?_, fun i => ?_⟩
    · rcases List.mem_append.1 hp with hp | hp
      · exact (hG.sg p hp).more (by omega)
      · simp at hp
        subst hp
        exact ⟨h3, st0, 1, rfl, inv_st0 _, Nat.le_refl _, by omega⟩
    · have := right_saga hr
      have := hG.len
      simp
      omega
    · have := hG.ep i
      show 0 ≤ K.ep i ∧ K.ep i ≤ ((n + 1 : Nat) : Int)
      omega
  · rw [e]
    refine ⟨.inr hl, fun p hp => (hG.sg p hp).more (by omega), ⟨hG.len.1, by have := hG.len.2; show K.sg.length ≤ n + 1; omega⟩, fun i => ?_⟩
    show 0 ≤ (if i = x.part.toNat then x.epoch else K.ep i) ∧ (if i = x.part.toNat then x.epoch else K.ep i) ≤ ((n + 1 : Nat) : Int)
    have h5 := hG.ep i
    have h6 := hG.ep x.part.toNat
    split <;> omega
  · rw [e]
    have hm := hG.sg p (List.mem_of_getElem? h3)
    refine ⟨.inr hl, fun r hr2 => ?_, by simpa using ⟨hG.len.1, by have := hG.len.2; omega⟩, fun i => by have := hG.ep i; show 0 ≤ K.ep i ∧ K.ep i ≤ ((n + 1 : Nat) : Int); omega⟩
    rcases List.mem_or_eq_of_mem_set hr2 with hr2 | rfl
    · exact (hG.sg r hr2).more (by omega)
    · obtain ⟨hm1, s, q, e2, hi, hq1, hq2⟩ := hm
      rw [hlt, e2] at h4
      obtain ⟨s', e3, hi'⟩ := goes_st hm1 hi (by omega) (by omega) (right_good hr) h4
      refine ⟨hm1, s', q + 1, ?_, hi', by omega, by omega⟩
      show wentG p.1 lim p.2 x = _
      rw [e2]
      rw [← hlt] at e3
      rw [e3]
      congr 1
theorem good_ok {lim : Int} {n : Nat} {K : Bk} (hG : Good lim n K) (hn : n ≤ 1000000) : OkK K := by
  refine ⟨by have := hG.len; omega, fun p hp => ?_, fun i => by have := hG.ep i; omega⟩
  have hpos : 0 < K.sg.length := List.length_pos_of_mem hp
  have hl := hG.limOk
  have := hG.len
  obtain ⟨h1, s, q, e, hi, hq1, hq2⟩ := hG.sg p hp
  rw [e]
  exact ok_st h1 hi (by omega) (by omega)
theorem good_up {lim : Int} {l : List Rc} : ∀ (k : Nat), nOf lim zK (l.take k) = k → k ≤ l.length → Good lim k (upK lim zK (l.take k))
  | 0, _, _ => good_zero lim
  | k + 1, h, hk => by
    have hx : l[k]? = some l[k] := List.getElem?_eq_getElem (by omega)
    have h1 : nOf lim zK (l.take k) = k := by
      have := nOf_take lim (l.take (k + 1)) zK k (by omega)
      rwa [List.take_take, Nat.min_eq_left (by omega)] at this
    rw [upK_succ hx]
    refine good_step (good_up k h1 (by omega)) ?_
    have := nOf_goes lim (l.take (k + 1)) zK k l[k] (by rw [List.getElem?_take_of_lt (by omega)]; exact hx) (by omega)
    rwa [List.take_take, Nat.min_eq_left (by omega)] at this
/-- The book of records, as far as they go. -/
def bkOf (lim : Int) (l : List Rc) : Bk := upK lim zK (l.take (nOf lim zK l))
theorem good_of (lim : Int) (l : List Rc) : Good lim (nOf lim zK l) (bkOf lim l) := good_up _ (nOf_take lim l zK _ (Nat.le_refl _)) (nOf_le lim l zK)
end Go.Proofs.YtilmeffmdgcblaaDoor
/- What package book says of lists: compared, reported, picked; on lists. -/
namespace Go.Proofs.YtilmeffmdgcblaaDoor
open Go Go.RowKit
set_option maxRecDepth 8000
set_option linter.all false
/-- Lists compared, thing by thing. -/
def sameLs {α : Type} (d : α) (e : α → α → Bool) (L M : List α) : Bool := if L.length = M.length then (List.range L.length).all fun i => e (L.getD i d) (M.getD i d) else false
theorem getD_of {α : Type} {L : List α} {d p : α} {k : Nat} (h : L[k]? = some p) : L.getD k d = p := by simp [List.getD, h]
theorem sameLs_len {α : Type} {d : α} {e : α → α → Bool} {L M : List α} (h : L.length ≠ M.length) : sameLs d e L M = false := by unfold sameLs; rw [if_neg h]
theorem sameLs_no {α : Type} {d p q : α} {e : α → α → Bool} {L M : List α} {k : Nat} (hp : L[k]? = some p) (hq : M[k]? = some q) (he : e p q = false) : sameLs d e L M = false := by
  unfold sameLs
  by_cases h : L.length = M.length
  · rw [if_pos h, List.all_eq_false]
    exact ⟨k, by simpa using (List.getElem?_eq_some_iff.1 hp).1, by rw [getD_of hp, getD_of hq, he]; simp⟩
  · rw [if_neg h]
theorem sameLs_yes {α : Type} {d : α} {e : α → α → Bool} {L M : List α} (h : L.length = M.length) (ha : ∀ i, i < L.length → e (L.getD i d) (M.getD i d) = true) : sameLs d e L M = true := by
  unfold sameLs
  rw [if_pos h, List.all_eq_true]
  exact fun i hi => ha i (by simpa using hi)
theorem sameLs_self {α : Type} {d : α} {e : α → α → Bool} (L : List α) (h : ∀ p, e p p = true) : sameLs d e L L = true := sameLs_yes rfl fun i _ => h _
def eqU (p q : Ug) : Bool := sameG p.1 q.1 p.2 q.2
def eqN (p q : Int × Int) : Bool := decide (p = q)
theorem eqU_self (p : Ug) : eqU p p = true := sameG_self p.1 p.2
theorem epB_self (p : Nat → Int) : epB p p = true := by simp [epB]
def zU : Ug := ([], zG)
def sameK (K M : Bk) : Bool := epB K.ep M.ep && sameLs zU eqU K.sg M.sg
theorem sameK_self (K : Bk) : sameK K K = true := by unfold sameK; rw [epB_self, sameLs_self _ eqU_self]; rfl
/-- A saga's line. -/
def lineOf (p : Ug) : Int × Int := (p.2.ph, missG p.2)
def repL (L : List Ug) : List (Int × Int) := L.map lineOf
def cleanL (l : List (Int × Int)) : Bool := l.all fun p => p.1 == 2 || p.1 == 3
/-- Is a kind's record a saga's? -/
def ofB (k : Int) : Bool := inR k 1 5
def isOf (n : Int) (x : Rc) : Bool := ofB x.kind && x.saga == n
def onlyL (l : List Rc) (n : Int) : List Rc := l.filter (isOf n)
def greatR (x : Rc) : Bool := decide ((30 : Int) < (x.steps.length : Int)) || decide ((300 : Int) < (x.data.length : Int))
def greatL (l : List Rc) : Bool := decide ((150 : Int) < (l.length : Int)) || l.any greatR
theorem great_not {l : List Rc} (h : greatL l = false) : l.length ≤ 150 ∧ ∀ x ∈ l, x.steps.length ≤ 30 ∧ x.data.length ≤ 300 := by
  unfold greatL at h
  rw [Bool.or_eq_false_iff, List.any_eq_false] at h
  refine ⟨by have := of_decide_eq_false h.1; omega, fun x hx => ?_⟩
  have := h.2 x hx
  unfold greatR at this
  simp only [Bool.or_eq_true, decide_eq_true_eq] at this
  omega
theorem take_all {α : Type} {f : α → Bool} {l : List α} {k : Nat} {x : α} (hx : l[k]? = some x) (h : (l.take k).all f = true) (hf : f x = true) : (l.take (k + 1)).all f = true := by
  rw [List.take_add_one, hx, List.all_append, h]; simp [hf]
theorem take_any {α : Type} {f : α → Bool} {l : List α} {k : Nat} {x : α} (hx : l[k]? = some x) (h : (l.take k).any f = false) (hf : f x = false) : (l.take (k + 1)).any f = false := by
  rw [List.take_add_one, hx, List.any_append, h]; simp [hf]
theorem take_filter {α : Type} {f : α → Bool} {l : List α} {k : Nat} {x : α} (hx : l[k]? = some x) : (l.take (k + 1)).filter f = (l.take k).filter f ++ (if f x = true then [x] else []) := by
  rw [List.take_add_one, hx, List.filter_append]
  congr 1
  cases h : f x <;> simp [h]
section
variable {a : Act} {w : World} {o : Oper} {K : Act → World → Prop} {Q : Exit → Act → World → Prop} {x : Operand}
end
end Go.Proofs.YtilmeffmdgcblaaDoor
/- Package rec: Same; the reference's Same. -/
namespace Go.Proofs.YtilmeffmdgcblaaDoor
open Go Go.RowKit
set_option maxRecDepth 8000
set_option linter.all false
set_option maxHeartbeats 2000000 in
theorem Same_cv (v1 v2 : Value) (x y : Rc) (w : World) (h1 : RecV w v1 x) (h2 : RecV w v2 y) : Cv 30 #[v1, v2] w (.eq (.bool (sameB x y))) := by
  obtain ⟨sv, dv, rfl, hs, hd⟩ := h1
  obtain ⟨su, du, rfl, hu, he⟩ := h2
  unfold Cv
  go_enter Tryd.func30, Tryd.ntmps30
  go_upto_region 1 with fail
  have r1 := (rowIs_box w 32 109 (recF x sv dv)).alloc (.cells (rowA 109 (recF y su du)) 32)
  have r2 := rowIs_box (w.alloc (.cells (rowA 109 (recF x sv dv)) 32)) 32 109 (recF y su du)
  have hN : NewT w ((w.alloc (.cells (rowA 109 (recF x sv dv)) 32)).alloc (.cells (rowA 109 (recF y su du)) 32)) := NewT.trans _ _ _ (NewT.alloc _ _) (NewT.alloc _ _)
  rw [World.size_alloc] at r2
  change Code.wp _ _ _ _ ((w.alloc (.cells (rowA 109 (recF x sv dv)) 32)).alloc (.cells (rowA 109 (recF y su du)) 32))
  generalize (w.alloc (.cells (rowA 109 (recF x sv dv)) 32)).alloc (.cells (rowA 109 (recF y su du)) 32) = W0 at r1 r2 hN ⊢
  have HS := Lib.hid (hN.pairs hs)
  have HD := Lib.hid (hN.rd hd)
  have HU := Lib.hid (hN.pairs hu)
  have HE := Lib.hid (hN.rd he)
  have R1 := Lib.hid r1
  have R2 := Lib.hid r2
  have HN := Lib.hid hN
  clear hs hd hu he r1 r2 hN
  obtain ⟨q1_1, Q1_1⟩ : ∃ bq_, ((x.kind == y.kind) && (x.saga == y.saga)) = bq_ := ⟨_, rfl⟩
  obtain ⟨q2_1, Q2_1⟩ : ∃ bq_, ((q1_1 && (x.seq == y.seq)) && (x.step == y.step)) = bq_ := ⟨_, rfl⟩
  obtain ⟨q3_1, Q3_1⟩ : ∃ bq_, ((q2_1 && (x.tr == y.tr)) && (x.back == y.back)) = bq_ := ⟨_, rfl⟩
  obtain ⟨q4_1, Q4_1⟩ : ∃ bq_, ((q3_1 && (x.good == y.good)) && (x.nd == y.nd)) = bq_ := ⟨_, rfl⟩
  obtain ⟨q5_1, Q5_1⟩ : ∃ bq_, ((q4_1 && (x.part == y.part)) && (x.epoch == y.epoch)) = bq_ := ⟨_, rfl⟩
  obtain ⟨q6_1, Q6_1⟩ : ∃ bq_, ((q5_1 && (eqH (x.tag) (y.tag))) && (decide (x.steps = y.steps))) = bq_ := ⟨_, rfl⟩
  obtain ⟨q7_1, Q7_1⟩ : ∃ bq_, (q6_1 && (decide (x.data = y.data))) = bq_ := ⟨_, rfl⟩
  obtain ⟨q8_1, Q8_1⟩ : ∃ bq_, (q7_1 && (eqH (x.salt) (y.salt))) = bq_ := ⟨_, rfl⟩
  obtain ⟨q9_1, Q9_1⟩ : ∃ bq_, ((q8_1 && (x.gone == y.gone)) && (eqH (x.com) (y.com))) = bq_ := ⟨_, rfl⟩
  refine wp_region_steps0 NewT [SV.eq (.pointer (some ⟨w.heap.size, 0, none⟩)), SV.eq (.int .i64 (x.kind)), SV.eq (.pointer (some ⟨w.heap.size + 1, 0, none⟩)), SV.eq (.int .i64 (y.kind)), SV.eq (.bool (x.kind == y.kind)), SV.eq (.bool (x.kind == y.kind)), svIf (x.kind == y.kind) (SV.eq (.pointer (some ⟨w.heap.size, 1, none⟩))), svIf (x.kind == y.kind) (SV.eq (.int .i64 (x.saga))), svIf (x.kind == y.kind) (SV.eq (.pointer (some ⟨w.heap.size + 1, 1, none⟩))), svIf (x.kind == y.kind) (SV.eq (.int .i64 (y.saga))), svIf (x.kind == y.kind) (SV.eq (.bool (x.saga == y.saga))), SV.eq (.bool (q1_1)), SV.eq (.bool (q1_1)), svIf q1_1 (SV.eq (.pointer (some ⟨w.heap.size, 2, none⟩))), svIf q1_1 (SV.eq (.int .i64 (x.seq))), svIf q1_1 (SV.eq (.pointer (some ⟨w.heap.size + 1, 2, none⟩))), svIf q1_1 (SV.eq (.int .i64 (y.seq))), svIf q1_1 (SV.eq (.bool (x.seq == y.seq))), SV.eq (.bool (q1_1 && (x.seq == y.seq))), SV.eq (.bool (q1_1 && (x.seq == y.seq))), svIf (q1_1 && (x.seq == y.seq)) (SV.eq (.pointer (some ⟨w.heap.size, 3, none⟩))), svIf (q1_1 && (x.seq == y.seq)) (SV.eq (.int .i64 (x.step))), svIf (q1_1 && (x.seq == y.seq)) (SV.eq (.pointer (some ⟨w.heap.size + 1, 3, none⟩))), svIf (q1_1 && (x.seq == y.seq)) (SV.eq (.int .i64 (y.step))), svIf (q1_1 && (x.seq == y.seq)) (SV.eq (.bool (x.step == y.step))), SV.eq (.bool (q2_1)), SV.eq (.bool (q2_1)), svIf q2_1 (SV.eq (.pointer (some ⟨w.heap.size, 4, none⟩))), svIf q2_1 (SV.eq (.int .i64 (x.tr))), svIf q2_1 (SV.eq (.pointer (some ⟨w.heap.size + 1, 4, none⟩))), svIf q2_1 (SV.eq (.int .i64 (y.tr))), svIf q2_1 (SV.eq (.bool (x.tr == y.tr))), SV.eq (.bool (q2_1 && (x.tr == y.tr))), SV.eq (.bool (q2_1 && (x.tr == y.tr))), svIf (q2_1 && (x.tr == y.tr)) (SV.eq (.pointer (some ⟨w.heap.size, 5, none⟩))), svIf (q2_1 && (x.tr == y.tr)) (SV.eq (.bool (x.back))), svIf (q2_1 && (x.tr == y.tr)) (SV.eq (.pointer (some ⟨w.heap.size + 1, 5, none⟩))), svIf (q2_1 && (x.tr == y.tr)) (SV.eq (.bool (y.back))), svIf (q2_1 && (x.tr == y.tr)) (SV.eq (.bool (x.back == y.back))), SV.eq (.bool (q3_1)), SV.eq (.bool (q3_1)), svIf q3_1 (SV.eq (.pointer (some ⟨w.heap.size, 6, none⟩))), svIf q3_1 (SV.eq (.bool (x.good))), svIf q3_1 (SV.eq (.pointer (some ⟨w.heap.size + 1, 6, none⟩))), svIf q3_1 (SV.eq (.bool (y.good))), svIf q3_1 (SV.eq (.bool (x.good == y.good))), SV.eq (.bool (q3_1 && (x.good == y.good))), SV.eq (.bool (q3_1 && (x.good == y.good))), svIf (q3_1 && (x.good == y.good)) (SV.eq (.pointer (some ⟨w.heap.size, 7, none⟩))), svIf (q3_1 && (x.good == y.good)) (SV.eq (.int .i64 (x.nd))), svIf (q3_1 && (x.good == y.good)) (SV.eq (.pointer (some ⟨w.heap.size + 1, 7, none⟩))), svIf (q3_1 && (x.good == y.good)) (SV.eq (.int .i64 (y.nd))), svIf (q3_1 && (x.good == y.good)) (SV.eq (.bool (x.nd == y.nd))), SV.eq (.bool (q4_1)), SV.eq (.bool (q4_1)), svIf q4_1 (SV.eq (.pointer (some ⟨w.heap.size, 8, none⟩))), svIf q4_1 (SV.eq (.int .i64 (x.part))), svIf q4_1 (SV.eq (.pointer (some ⟨w.heap.size + 1, 8, none⟩))), svIf q4_1 (SV.eq (.int .i64 (y.part))), svIf q4_1 (SV.eq (.bool (x.part == y.part))), SV.eq (.bool (q4_1 && (x.part == y.part))), SV.eq (.bool (q4_1 && (x.part == y.part))), svIf (q4_1 && (x.part == y.part)) (SV.eq (.pointer (some ⟨w.heap.size, 9, none⟩))), svIf (q4_1 && (x.part == y.part)) (SV.eq (.int .i64 (x.epoch))), svIf (q4_1 && (x.part == y.part)) (SV.eq (.pointer (some ⟨w.heap.size + 1, 9, none⟩))), svIf (q4_1 && (x.part == y.part)) (SV.eq (.int .i64 (y.epoch))), svIf (q4_1 && (x.part == y.part)) (SV.eq (.bool (x.epoch == y.epoch))), SV.eq (.bool (q5_1)), SV.eq (.bool (q5_1)), svIf q5_1 (SV.eq (.pointer (some ⟨w.heap.size, 10, none⟩))), svIf q5_1 (SV.eq (.agg (rowA 32 (bF (x.tag))))), svIf q5_1 (SV.eq (.pointer (some ⟨w.heap.size + 1, 10, none⟩))), svIf q5_1 (SV.eq (.agg (rowA 32 (bF (y.tag))))), svIf q5_1 (SV.eq (.bool (eqH (x.tag) (y.tag)))), SV.eq (.bool (q5_1 && (eqH (x.tag) (y.tag)))), SV.eq (.bool (q5_1 && (eqH (x.tag) (y.tag)))), svIf (q5_1 && (eqH (x.tag) (y.tag))) (SV.eq (.pointer (some ⟨w.heap.size, 42, none⟩))), svIf (q5_1 && (eqH (x.tag) (y.tag))) (SV.eq (sv)), svIf (q5_1 && (eqH (x.tag) (y.tag))) (SV.eq (.pointer (some ⟨w.heap.size + 1, 42, none⟩))), svIf (q5_1 && (eqH (x.tag) (y.tag))) (SV.eq (su)), svIf (q5_1 && (eqH (x.tag) (y.tag))) (SV.eq (.bool (decide (x.steps = y.steps)))), SV.eq (.bool (q6_1)), SV.eq (.bool (q6_1)), svIf q6_1 (SV.eq (.pointer (some ⟨w.heap.size, 43, none⟩))), svIf q6_1 (SV.eq (dv)), svIf q6_1 (SV.eq (.pointer (some ⟨w.heap.size + 1, 43, none⟩))), svIf q6_1 (SV.eq (du)), svIf q6_1 (SV.eq (.bool (decide (x.data = y.data)))), SV.eq (.bool (q7_1)), SV.eq (.bool (q7_1)), svIf q7_1 (SV.eq (.pointer (some ⟨w.heap.size, 44, none⟩))), svIf q7_1 (SV.eq (.agg (rowA 32 (bF (x.salt))))), svIf q7_1 (SV.eq (.pointer (some ⟨w.heap.size + 1, 44, none⟩))), svIf q7_1 (SV.eq (.agg (rowA 32 (bF (y.salt))))), svIf q7_1 (SV.eq (.bool (eqH (x.salt) (y.salt)))), SV.eq (.bool (q8_1)), SV.eq (.bool (q8_1)), svIf q8_1 (SV.eq (.pointer (some ⟨w.heap.size, 76, none⟩))), svIf q8_1 (SV.eq (.bool (x.gone))), svIf q8_1 (SV.eq (.pointer (some ⟨w.heap.size + 1, 76, none⟩))), svIf q8_1 (SV.eq (.bool (y.gone))), svIf q8_1 (SV.eq (.bool (x.gone == y.gone))), SV.eq (.bool (q8_1 && (x.gone == y.gone))), SV.eq (.bool (q8_1 && (x.gone == y.gone))), svIf (q8_1 && (x.gone == y.gone)) (SV.eq (.pointer (some ⟨w.heap.size, 77, none⟩))), svIf (q8_1 && (x.gone == y.gone)) (SV.eq (.agg (rowA 32 (bF (x.com))))), svIf (q8_1 && (x.gone == y.gone)) (SV.eq (.pointer (some ⟨w.heap.size + 1, 77, none⟩))), svIf (q8_1 && (x.gone == y.gone)) (SV.eq (.agg (rowA 32 (bF (y.com))))), svIf (q8_1 && (x.gone == y.gone)) (SV.eq (.bool (eqH (x.com) (y.com)))), SV.eq (.bool (q9_1))] [([(2, none)], none), ([(5, some 0)], none), ([(3, none)], none), ([(7, some 2)], none), ([(6, some 1), (8, some 3)], none), ([(9, some 4)], none), ([(2, none), (10, some 5)], some (10, true)), ([(11, some 6), (10, some 5)], some (10, true)), ([(3, none), (10, some 5)], some (10, true)), ([(13, some 8), (10, some 5)], some (10, true)), ([(12, some 7), (14, some 9), (10, some 5)], some (10, true)), ([(10, some 5), (15, some 10)], none), ([(16, some 11)], none), ([(2, none), (17, some 12)], some (17, true)), ([(18, some 13), (17, some 12)], some (17, true)), ([(3, none), (17, some 12)], some (17, true)), ([(20, some 15), (17, some 12)], some (17, true)), ([(19, some 14), (21, some 16), (17, some 12)], some (17, true)), ([(17, some 12), (22, some 17)], none), ([(23, some 18)], none), ([(2, none), (24, some 19)], some (24, true)), ([(25, some 20), (24, some 19)], some (24, true)), ([(3, none), (24, some 19)], some (24, true)), ([(27, some 22), (24, some 19)], some (24, true)), ([(26, some 21), (28, some 23), (24, some 19)], some (24, true)), ([(24, some 19), (29, some 24)], none), ([(30, some 25)], none), ([(2, none), (31, some 26)], some (31, true)), ([(32, some 27), (31, some 26)], some (31, true)), ([(3, none), (31, some 26)], some (31, true)), ([(34, some 29), (31, some 26)], some (31, true)), ([(33, some 28), (35, some 30), (31, some 26)], some (31, true)), ([(31, some 26), (36, some 31)], none), ([(37, some 32)], none), ([(2, none), (38, some 33)], some (38, true)), ([(39, some 34), (38, some 33)], some (38, true)), ([(3, none), (38, some 33)], some (38, true)), ([(41, some 36), (38, some 33)], some (38, true)), ([(40, some 35), (42, some 37), (38, some 33)], some (38, true)), ([(38, some 33), (43, some 38)], none), ([(44, some 39)], none), ([(2, none), (45, some 40)], some (45, true)), ([(46, some 41), (45, some 40)], some (45, true)), ([(3, none), (45, some 40)], some (45, true)), ([(48, some 43), (45, some 40)], some (45, true)), ([(47, some 42), (49, some 44), (45, some 40)], some (45, true)), ([(45, some 40), (50, some 45)], none), ([(51, some 46)], none), ([(2, none), (52, some 47)], some (52, true)), ([(53, some 48), (52, some 47)], some (52, true)), ([(3, none), (52, some 47)], some (52, true)), ([(55, some 50), (52, some 47)], some (52, true)), ([(54, some 49), (56, some 51), (52, some 47)], some (52, true)), ([(52, some 47), (57, some 52)], none), ([(58, some 53)], none), ([(2, none), (59, some 54)], some (59, true)), ([(60, some 55), (59, some 54)], some (59, true)), ([(3, none), (59, some 54)], some (59, true)), ([(62, some 57), (59, some 54)], some (59, true)), ([(61, some 56), (63, some 58), (59, some 54)], some (59, true)), ([(59, some 54), (64, some 59)], none), ([(65, some 60)], none), ([(2, none), (66, some 61)], some (66, true)), ([(67, some 62), (66, some 61)], some (66, true)), ([(3, none), (66, some 61)], some (66, true)), ([(69, some 64), (66, some 61)], some (66, true)), ([(68, some 63), (70, some 65), (66, some 61)], some (66, true)), ([(66, some 61), (71, some 66)], none), ([(72, some 67)], none), ([(2, none), (73, some 68)], some (73, true)), ([(74, some 69), (73, some 68)], some (73, true)), ([(3, none), (73, some 68)], some (73, true)), ([(76, some 71), (73, some 68)], some (73, true)), ([(75, some 70), (77, some 72), (73, some 68)], some (73, true)), ([(73, some 68), (78, some 73)], none), ([(79, some 74)], none), ([(2, none), (80, some 75)], some (80, true)), ([(81, some 76), (80, some 75)], some (80, true)), ([(3, none), (80, some 75)], some (80, true)), ([(83, some 78), (80, some 75)], some (80, true)), ([(82, some 77), (84, some 79), (80, some 75)], some (80, true)), ([(80, some 75), (85, some 80)], none), ([(86, some 81)], none), ([(2, none), (87, some 82)], some (87, true)), ([(88, some 83), (87, some 82)], some (87, true)), ([(3, none), (87, some 82)], some (87, true)), ([(90, some 85), (87, some 82)], some (87, true)), ([(89, some 84), (91, some 86), (87, some 82)], some (87, true)), ([(87, some 82), (92, some 87)], none), ([(93, some 88)], none), ([(2, none), (94, some 89)], some (94, true)), ([(95, some 90), (94, some 89)], some (94, true)), ([(3, none), (94, some 89)], some (94, true)), ([(97, some 92), (94, some 89)], some (94, true)), ([(96, some 91), (98, some 93), (94, some 89)], some (94, true)), ([(94, some 89), (99, some 94)], none), ([(100, some 95)], none), ([(2, none), (101, some 96)], some (101, true)), ([(102, some 97), (101, some 96)], some (101, true)), ([(3, none), (101, some 96)], some (101, true)), ([(104, some 99), (101, some 96)], some (101, true)), ([(103, some 98), (105, some 100), (101, some 96)], some (101, true)), ([(101, some 96), (106, some 101)], none), ([(107, some 102)], none), ([(2, none), (108, some 103)], some (108, true)), ([(109, some 104), (108, some 103)], some (108, true)), ([(3, none), (108, some 103)], some (108, true)), ([(111, some 106), (108, some 103)], some (108, true)), ([(110, some 105), (112, some 107), (108, some 103)], some (108, true)), ([(108, some 103), (113, some 108)], none)] 115 110 rfl rfl (by kernel_rfl) NewT.trans (NewT.refl _) (Nat.le_of_ble_eq_true rfl) ⟨?_, ?_, ?_, ?_, ?_, ?_, ?_, ?_, ?_, ?_, ?_, ?_, ?_, ?_, ?_, ?_, ?_, ?_, ?_, ?_, ?_, ?_, ?_, ?_, ?_, ?_, ?_, ?_, ?_, ?_, ?_, ?_, ?_, ?_, ?_, ?_, ?_, ?_, ?_, ?_, ?_, ?_, ?_, ?_, ?_, ?_, ?_, ?_, ?_, ?_, ?_, ?_, ?_, ?_, ?_, ?_, ?_, ?_, ?_, ?_, ?_, ?_, ?_, ?_, ?_, ?_, ?_, ?_, ?_, ?_, ?_, ?_, ?_, ?_, ?_, ?_, ?_, ?_, ?_, ?_, ?_, ?_, ?_, ?_, ?_, ?_, ?_, ?_, ?_, ?_, ?_, ?_, ?_, ?_, ?_, ?_, ?_, ?_, ?_, ?_, ?_, ?_, ?_, ?_, ?_, ?_, ?_, ?_, ?_, ?_, trivial⟩ ?_
  · exact fun a wx hT hF K hK => rely_wp rfl (opr_fldR (by decide) rfl hF.1 (hK _ _ (NewT.refl _) rfl))
  · exact fun a wx hT hF K hK => rely_wp rfl (opr_ldI (hT.row R1.out) (by decide) rfl rfl hF.1 (hK _ _ (NewT.refl _) rfl))
  · exact fun a wx hT hF K hK => rely_wp rfl (opr_fldR (by decide) rfl hF.1 (hK _ _ (NewT.refl _) rfl))
  · exact fun a wx hT hF K hK => rely_wp rfl (opr_ldI (hT.row R2.out) (by decide) rfl rfl hF.1 (hK _ _ (NewT.refl _) rfl))
  · exact fun a wx hT hF K hK => rely_wp rfl (opr_cmp (b := x.kind == y.kind) (.inl ⟨rfl, rfl⟩) Tryd.underlying3 rfl hF.1 hF.2.1 (hK _ _ (NewT.refl _) rfl))
  · exact fun a wx hT hF K hK => rely_wp rfl (opr_move (.inl rfl) (hK _ _ (NewT.refl _) hF.1))
  · exact fun a wx hT hF K hK => rely_if (rely_gt hF.2.1) (NewT.refl _) hK fun hE hK => opr_fldR (by decide) rfl hF.1 (hK _ _ (NewT.refl _) rfl)
  · exact fun a wx hT hF K hK => rely_if (rely_gt hF.2.1) (NewT.refl _) hK fun hE hK => opr_ldI (hT.row R1.out) (by decide) rfl rfl (hF.1 hE) (hK _ _ (NewT.refl _) rfl)
  · exact fun a wx hT hF K hK => rely_if (rely_gt hF.2.1) (NewT.refl _) hK fun hE hK => opr_fldR (by decide) rfl hF.1 (hK _ _ (NewT.refl _) rfl)
  · exact fun a wx hT hF K hK => rely_if (rely_gt hF.2.1) (NewT.refl _) hK fun hE hK => opr_ldI (hT.row R2.out) (by decide) rfl rfl (hF.1 hE) (hK _ _ (NewT.refl _) rfl)
  · exact fun a wx hT hF K hK => rely_if (rely_gt hF.2.2.1) (NewT.refl _) hK fun hE hK => opr_cmp (b := x.saga == y.saga) (.inl ⟨rfl, rfl⟩) Tryd.underlying3 rfl (hF.1 hE) (hF.2.1 hE) (hK _ _ (NewT.refl _) rfl)
  · exact fun a wx hT hF K hK => rely_wp rfl (opr_pick_b rfl hF.1 (fun hb => hK _ _ (NewT.refl _) (pn_and1 Q1_1 (hF.2.1 hb) hb)) (fun hb => hK _ _ (NewT.refl _) (pn_and0 Q1_1 hb)))
  · exact fun a wx hT hF K hK => rely_wp rfl (opr_move (.inl rfl) (hK _ _ (NewT.refl _) hF.1))
  · exact fun a wx hT hF K hK => rely_if (rely_gt hF.2.1) (NewT.refl _) hK fun hE hK => opr_fldR (by decide) rfl hF.1 (hK _ _ (NewT.refl _) rfl)
  · exact fun a wx hT hF K hK => rely_if (rely_gt hF.2.1) (NewT.refl _) hK fun hE hK => opr_ldI (hT.row R1.out) (by decide) rfl rfl (hF.1 hE) (hK _ _ (NewT.refl _) rfl)
  · exact fun a wx hT hF K hK => rely_if (rely_gt hF.2.1) (NewT.refl _) hK fun hE hK => opr_fldR (by decide) rfl hF.1 (hK _ _ (NewT.refl _) rfl)
  · exact fun a wx hT hF K hK => rely_if (rely_gt hF.2.1) (NewT.refl _) hK fun hE hK => opr_ldI (hT.row R2.out) (by decide) rfl rfl (hF.1 hE) (hK _ _ (NewT.refl _) rfl)
  · exact fun a wx hT hF K hK => rely_if (rely_gt hF.2.2.1) (NewT.refl _) hK fun hE hK => opr_cmp (b := x.seq == y.seq) (.inl ⟨rfl, rfl⟩) Tryd.underlying3 rfl (hF.1 hE) (hF.2.1 hE) (hK _ _ (NewT.refl _) rfl)
  · exact fun a wx hT hF K hK => rely_wp rfl (opr_pick_b rfl hF.1 (fun hb => hK _ _ (NewT.refl _) (pk_and1 (hF.2.1 hb) hb)) (fun hb => hK _ _ (NewT.refl _) (pk_and0 hb)))
  · exact fun a wx hT hF K hK => rely_wp rfl (opr_move (.inl rfl) (hK _ _ (NewT.refl _) hF.1))
  · exact fun a wx hT hF K hK => rely_if (rely_gt hF.2.1) (NewT.refl _) hK fun hE hK => opr_fldR (by decide) rfl hF.1 (hK _ _ (NewT.refl _) rfl)
  · exact fun a wx hT hF K hK => rely_if (rely_gt hF.2.1) (NewT.refl _) hK fun hE hK => opr_ldI (hT.row R1.out) (by decide) rfl rfl (hF.1 hE) (hK _ _ (NewT.refl _) rfl)
  · exact fun a wx hT hF K hK => rely_if (rely_gt hF.2.1) (NewT.refl _) hK fun hE hK => opr_fldR (by decide) rfl hF.1 (hK _ _ (NewT.refl _) rfl)
  · exact fun a wx hT hF K hK => rely_if (rely_gt hF.2.1) (NewT.refl _) hK fun hE hK => opr_ldI (hT.row R2.out) (by decide) rfl rfl (hF.1 hE) (hK _ _ (NewT.refl _) rfl)
  · exact fun a wx hT hF K hK => rely_if (rely_gt hF.2.2.1) (NewT.refl _) hK fun hE hK => opr_cmp (b := x.step == y.step) (.inl ⟨rfl, rfl⟩) Tryd.underlying3 rfl (hF.1 hE) (hF.2.1 hE) (hK _ _ (NewT.refl _) rfl)
  · exact fun a wx hT hF K hK => rely_wp rfl (opr_pick_b rfl hF.1 (fun hb => hK _ _ (NewT.refl _) (pn_and1 Q2_1 (hF.2.1 hb) hb)) (fun hb => hK _ _ (NewT.refl _) (pn_and0 Q2_1 hb)))
  · exact fun a wx hT hF K hK => rely_wp rfl (opr_move (.inl rfl) (hK _ _ (NewT.refl _) hF.1))
  · exact fun a wx hT hF K hK => rely_if (rely_gt hF.2.1) (NewT.refl _) hK fun hE hK => opr_fldR (by decide) rfl hF.1 (hK _ _ (NewT.refl _) rfl)
  · exact fun a wx hT hF K hK => rely_if (rely_gt hF.2.1) (NewT.refl _) hK fun hE hK => opr_ldI (hT.row R1.out) (by decide) rfl rfl (hF.1 hE) (hK _ _ (NewT.refl _) rfl)
  · exact fun a wx hT hF K hK => rely_if (rely_gt hF.2.1) (NewT.refl _) hK fun hE hK => opr_fldR (by decide) rfl hF.1 (hK _ _ (NewT.refl _) rfl)
  · exact fun a wx hT hF K hK => rely_if (rely_gt hF.2.1) (NewT.refl _) hK fun hE hK => opr_ldI (hT.row R2.out) (by decide) rfl rfl (hF.1 hE) (hK _ _ (NewT.refl _) rfl)
  · exact fun a wx hT hF K hK => rely_if (rely_gt hF.2.2.1) (NewT.refl _) hK fun hE hK => opr_cmp (b := x.tr == y.tr) (.inl ⟨rfl, rfl⟩) Tryd.underlying3 rfl (hF.1 hE) (hF.2.1 hE) (hK _ _ (NewT.refl _) rfl)
  · exact fun a wx hT hF K hK => rely_wp rfl (opr_pick_b rfl hF.1 (fun hb => hK _ _ (NewT.refl _) (pk_and1 (hF.2.1 hb) hb)) (fun hb => hK _ _ (NewT.refl _) (pk_and0 hb)))
  · exact fun a wx hT hF K hK => rely_wp rfl (opr_move (.inl rfl) (hK _ _ (NewT.refl _) hF.1))
  · exact fun a wx hT hF K hK => rely_if (rely_gt hF.2.1) (NewT.refl _) hK fun hE hK => opr_fldR (by decide) rfl hF.1 (hK _ _ (NewT.refl _) rfl)
  · exact fun a wx hT hF K hK => rely_if (rely_gt hF.2.1) (NewT.refl _) hK fun hE hK => opr_ldQ (hT.row R1.out) (by decide) rfl rfl (hF.1 hE) (hK _ _ (NewT.refl _) rfl)
  · exact fun a wx hT hF K hK => rely_if (rely_gt hF.2.1) (NewT.refl _) hK fun hE hK => opr_fldR (by decide) rfl hF.1 (hK _ _ (NewT.refl _) rfl)
  · exact fun a wx hT hF K hK => rely_if (rely_gt hF.2.1) (NewT.refl _) hK fun hE hK => opr_ldQ (hT.row R2.out) (by decide) rfl rfl (hF.1 hE) (hK _ _ (NewT.refl _) rfl)
  · exact fun a wx hT hF K hK => rely_if (rely_gt hF.2.2.1) (NewT.refl _) hK fun hE hK => opr_eqlQ (b := x.back == y.back) (rfl) rfl (hF.1 hE) (hF.2.1 hE) (hK _ _ (NewT.refl _) rfl)
  · exact fun a wx hT hF K hK => rely_wp rfl (opr_pick_b rfl hF.1 (fun hb => hK _ _ (NewT.refl _) (pn_and1 Q3_1 (hF.2.1 hb) hb)) (fun hb => hK _ _ (NewT.refl _) (pn_and0 Q3_1 hb)))
  · exact fun a wx hT hF K hK => rely_wp rfl (opr_move (.inl rfl) (hK _ _ (NewT.refl _) hF.1))
  · exact fun a wx hT hF K hK => rely_if (rely_gt hF.2.1) (NewT.refl _) hK fun hE hK => opr_fldR (by decide) rfl hF.1 (hK _ _ (NewT.refl _) rfl)
  · exact fun a wx hT hF K hK => rely_if (rely_gt hF.2.1) (NewT.refl _) hK fun hE hK => opr_ldQ (hT.row R1.out) (by decide) rfl rfl (hF.1 hE) (hK _ _ (NewT.refl _) rfl)
  · exact fun a wx hT hF K hK => rely_if (rely_gt hF.2.1) (NewT.refl _) hK fun hE hK => opr_fldR (by decide) rfl hF.1 (hK _ _ (NewT.refl _) rfl)
  · exact fun a wx hT hF K hK => rely_if (rely_gt hF.2.1) (NewT.refl _) hK fun hE hK => opr_ldQ (hT.row R2.out) (by decide) rfl rfl (hF.1 hE) (hK _ _ (NewT.refl _) rfl)
  · exact fun a wx hT hF K hK => rely_if (rely_gt hF.2.2.1) (NewT.refl _) hK fun hE hK => opr_eqlQ (b := x.good == y.good) (rfl) rfl (hF.1 hE) (hF.2.1 hE) (hK _ _ (NewT.refl _) rfl)
  · exact fun a wx hT hF K hK => rely_wp rfl (opr_pick_b rfl hF.1 (fun hb => hK _ _ (NewT.refl _) (pk_and1 (hF.2.1 hb) hb)) (fun hb => hK _ _ (NewT.refl _) (pk_and0 hb)))
  · exact fun a wx hT hF K hK => rely_wp rfl (opr_move (.inl rfl) (hK _ _ (NewT.refl _) hF.1))
  · exact fun a wx hT hF K hK => rely_if (rely_gt hF.2.1) (NewT.refl _) hK fun hE hK => opr_fldR (by decide) rfl hF.1 (hK _ _ (NewT.refl _) rfl)
  · exact fun a wx hT hF K hK => rely_if (rely_gt hF.2.1) (NewT.refl _) hK fun hE hK => opr_ldI (hT.row R1.out) (by decide) rfl rfl (hF.1 hE) (hK _ _ (NewT.refl _) rfl)
  · exact fun a wx hT hF K hK => rely_if (rely_gt hF.2.1) (NewT.refl _) hK fun hE hK => opr_fldR (by decide) rfl hF.1 (hK _ _ (NewT.refl _) rfl)
  · exact fun a wx hT hF K hK => rely_if (rely_gt hF.2.1) (NewT.refl _) hK fun hE hK => opr_ldI (hT.row R2.out) (by decide) rfl rfl (hF.1 hE) (hK _ _ (NewT.refl _) rfl)
  · exact fun a wx hT hF K hK => rely_if (rely_gt hF.2.2.1) (NewT.refl _) hK fun hE hK => opr_cmp (b := x.nd == y.nd) (.inl ⟨rfl, rfl⟩) Tryd.underlying3 rfl (hF.1 hE) (hF.2.1 hE) (hK _ _ (NewT.refl _) rfl)
  · exact fun a wx hT hF K hK => rely_wp rfl (opr_pick_b rfl hF.1 (fun hb => hK _ _ (NewT.refl _) (pn_and1 Q4_1 (hF.2.1 hb) hb)) (fun hb => hK _ _ (NewT.refl _) (pn_and0 Q4_1 hb)))
  · exact fun a wx hT hF K hK => rely_wp rfl (opr_move (.inl rfl) (hK _ _ (NewT.refl _) hF.1))
  · exact fun a wx hT hF K hK => rely_if (rely_gt hF.2.1) (NewT.refl _) hK fun hE hK => opr_fldR (by decide) rfl hF.1 (hK _ _ (NewT.refl _) rfl)
  · exact fun a wx hT hF K hK => rely_if (rely_gt hF.2.1) (NewT.refl _) hK fun hE hK => opr_ldI (hT.row R1.out) (by decide) rfl rfl (hF.1 hE) (hK _ _ (NewT.refl _) rfl)
  · exact fun a wx hT hF K hK => rely_if (rely_gt hF.2.1) (NewT.refl _) hK fun hE hK => opr_fldR (by decide) rfl hF.1 (hK _ _ (NewT.refl _) rfl)
  · exact fun a wx hT hF K hK => rely_if (rely_gt hF.2.1) (NewT.refl _) hK fun hE hK => opr_ldI (hT.row R2.out) (by decide) rfl rfl (hF.1 hE) (hK _ _ (NewT.refl _) rfl)
  · exact fun a wx hT hF K hK => rely_if (rely_gt hF.2.2.1) (NewT.refl _) hK fun hE hK => opr_cmp (b := x.part == y.part) (.inl ⟨rfl, rfl⟩) Tryd.underlying3 rfl (hF.1 hE) (hF.2.1 hE) (hK _ _ (NewT.refl _) rfl)
  · exact fun a wx hT hF K hK => rely_wp rfl (opr_pick_b rfl hF.1 (fun hb => hK _ _ (NewT.refl _) (pk_and1 (hF.2.1 hb) hb)) (fun hb => hK _ _ (NewT.refl _) (pk_and0 hb)))
  · exact fun a wx hT hF K hK => rely_wp rfl (opr_move (.inl rfl) (hK _ _ (NewT.refl _) hF.1))
  · exact fun a wx hT hF K hK => rely_if (rely_gt hF.2.1) (NewT.refl _) hK fun hE hK => opr_fldR (by decide) rfl hF.1 (hK _ _ (NewT.refl _) rfl)
  · exact fun a wx hT hF K hK => rely_if (rely_gt hF.2.1) (NewT.refl _) hK fun hE hK => opr_ldI (hT.row R1.out) (by decide) rfl rfl (hF.1 hE) (hK _ _ (NewT.refl _) rfl)
  · exact fun a wx hT hF K hK => rely_if (rely_gt hF.2.1) (NewT.refl _) hK fun hE hK => opr_fldR (by decide) rfl hF.1 (hK _ _ (NewT.refl _) rfl)
  · exact fun a wx hT hF K hK => rely_if (rely_gt hF.2.1) (NewT.refl _) hK fun hE hK => opr_ldI (hT.row R2.out) (by decide) rfl rfl (hF.1 hE) (hK _ _ (NewT.refl _) rfl)
  · exact fun a wx hT hF K hK => rely_if (rely_gt hF.2.2.1) (NewT.refl _) hK fun hE hK => opr_cmp (b := x.epoch == y.epoch) (.inl ⟨rfl, rfl⟩) Tryd.underlying3 rfl (hF.1 hE) (hF.2.1 hE) (hK _ _ (NewT.refl _) rfl)
  · exact fun a wx hT hF K hK => rely_wp rfl (opr_pick_b rfl hF.1 (fun hb => hK _ _ (NewT.refl _) (pn_and1 Q5_1 (hF.2.1 hb) hb)) (fun hb => hK _ _ (NewT.refl _) (pn_and0 Q5_1 hb)))
  · exact fun a wx hT hF K hK => rely_wp rfl (opr_move (.inl rfl) (hK _ _ (NewT.refl _) hF.1))
  · exact fun a wx hT hF K hK => rely_if (rely_gt hF.2.1) (NewT.refl _) hK fun hE hK => opr_fldR (by decide) rfl hF.1 (hK _ _ (NewT.refl _) rfl)
  · exact fun a wx hT hF K hK => rely_if (rely_gt hF.2.1) (NewT.refl _) hK fun hE hK => opr_ldH (hT.row R1.out) (by decide) (recF_tag x _ _) rfl (hF.1 hE) (hK _ _ (NewT.refl _) rfl)
  · exact fun a wx hT hF K hK => rely_if (rely_gt hF.2.1) (NewT.refl _) hK fun hE hK => opr_fldR (by decide) rfl hF.1 (hK _ _ (NewT.refl _) rfl)
  · exact fun a wx hT hF K hK => rely_if (rely_gt hF.2.1) (NewT.refl _) hK fun hE hK => opr_ldH (hT.row R2.out) (by decide) (recF_tag y _ _) rfl (hF.1 hE) (hK _ _ (NewT.refl _) rfl)
  · exact fun a wx hT hF K hK => rely_if (rely_gt hF.2.2.1) (NewT.refl _) hK fun hE hK => opr_eql_hash (b := eqH (x.tag) (y.tag)) rfl (hF.1 hE) (hF.2.1 hE) (rfl) (hK _ _ (NewT.refl _) rfl)
  · exact fun a wx hT hF K hK => rely_wp rfl (opr_pick_b rfl hF.1 (fun hb => hK _ _ (NewT.refl _) (pk_and1 (hF.2.1 hb) hb)) (fun hb => hK _ _ (NewT.refl _) (pk_and0 hb)))
  · exact fun a wx hT hF K hK => rely_wp rfl (opr_move (.inl rfl) (hK _ _ (NewT.refl _) hF.1))
  · exact fun a wx hT hF K hK => rely_if (rely_gt hF.2.1) (NewT.refl _) hK fun hE hK => opr_fldR (by decide) rfl hF.1 (hK _ _ (NewT.refl _) rfl)
  · exact fun a wx hT hF K hK => rely_if (rely_gt hF.2.1) (NewT.refl _) hK fun hE hK => opr_ldS (hT.row R1.out) (by decide) rfl rfl (hF.1 hE) (hK _ _ (NewT.refl _) rfl)
  · exact fun a wx hT hF K hK => rely_if (rely_gt hF.2.1) (NewT.refl _) hK fun hE hK => opr_fldR (by decide) rfl hF.1 (hK _ _ (NewT.refl _) rfl)
  · exact fun a wx hT hF K hK => rely_if (rely_gt hF.2.1) (NewT.refl _) hK fun hE hK => opr_ldS (hT.row R2.out) (by decide) rfl rfl (hF.1 hE) (hK _ _ (NewT.refl _) rfl)
  · exact fun a wx hT hF K hK => rely_if (rely_gt hF.2.2.1) (NewT.refl _) hK fun hE hK => opr_cv (SlEq_cv _ _ x.steps y.steps wx (hT.pairs HS.out) (hT.pairs HU.out)) rfl Tryd.func33 (by kernel_rfl) (by kernel_rfl) (evs2 (hF.1 hE) (hF.2.1 hE)) hK
  · exact fun a wx hT hF K hK => rely_wp rfl (opr_pick_b rfl hF.1 (fun hb => hK _ _ (NewT.refl _) (pn_and1 Q6_1 (hF.2.1 hb) hb)) (fun hb => hK _ _ (NewT.refl _) (pn_and0 Q6_1 hb)))
  · exact fun a wx hT hF K hK => rely_wp rfl (opr_move (.inl rfl) (hK _ _ (NewT.refl _) hF.1))
  · exact fun a wx hT hF K hK => rely_if (rely_gt hF.2.1) (NewT.refl _) hK fun hE hK => opr_fldR (by decide) rfl hF.1 (hK _ _ (NewT.refl _) rfl)
  · exact fun a wx hT hF K hK => rely_if (rely_gt hF.2.1) (NewT.refl _) hK fun hE hK => opr_ldB (hT.row R1.out) (by decide) rfl rfl (hF.1 hE) (hK _ _ (NewT.refl _) rfl)
  · exact fun a wx hT hF K hK => rely_if (rely_gt hF.2.1) (NewT.refl _) hK fun hE hK => opr_fldR (by decide) rfl hF.1 (hK _ _ (NewT.refl _) rfl)
  · exact fun a wx hT hF K hK => rely_if (rely_gt hF.2.1) (NewT.refl _) hK fun hE hK => opr_ldB (hT.row R2.out) (by decide) rfl rfl (hF.1 hE) (hK _ _ (NewT.refl _) rfl)
  · exact fun a wx hT hF K hK => rely_if (rely_gt hF.2.2.1) (NewT.refl _) hK fun hE hK => opr_cv (BEqual_cv _ _ x.data y.data wx (hT.rd HD.out) (hT.rd HE.out)) rfl Tryd.func44 (by kernel_rfl) (by kernel_rfl) (evs2 (hF.1 hE) (hF.2.1 hE)) hK
  · exact fun a wx hT hF K hK => rely_wp rfl (opr_pick_b rfl hF.1 (fun hb => hK _ _ (NewT.refl _) (pn_and1 Q7_1 (hF.2.1 hb) hb)) (fun hb => hK _ _ (NewT.refl _) (pn_and0 Q7_1 hb)))
  · exact fun a wx hT hF K hK => rely_wp rfl (opr_move (.inl rfl) (hK _ _ (NewT.refl _) hF.1))
  · exact fun a wx hT hF K hK => rely_if (rely_gt hF.2.1) (NewT.refl _) hK fun hE hK => opr_fldR (by decide) rfl hF.1 (hK _ _ (NewT.refl _) rfl)
  · exact fun a wx hT hF K hK => rely_if (rely_gt hF.2.1) (NewT.refl _) hK fun hE hK => opr_ldH (hT.row R1.out) (by decide) (recF_salt x _ _) rfl (hF.1 hE) (hK _ _ (NewT.refl _) rfl)
  · exact fun a wx hT hF K hK => rely_if (rely_gt hF.2.1) (NewT.refl _) hK fun hE hK => opr_fldR (by decide) rfl hF.1 (hK _ _ (NewT.refl _) rfl)
  · exact fun a wx hT hF K hK => rely_if (rely_gt hF.2.1) (NewT.refl _) hK fun hE hK => opr_ldH (hT.row R2.out) (by decide) (recF_salt y _ _) rfl (hF.1 hE) (hK _ _ (NewT.refl _) rfl)
  · exact fun a wx hT hF K hK => rely_if (rely_gt hF.2.2.1) (NewT.refl _) hK fun hE hK => opr_eql_hash (b := eqH (x.salt) (y.salt)) rfl (hF.1 hE) (hF.2.1 hE) (rfl) (hK _ _ (NewT.refl _) rfl)
  · exact fun a wx hT hF K hK => rely_wp rfl (opr_pick_b rfl hF.1 (fun hb => hK _ _ (NewT.refl _) (pn_and1 Q8_1 (hF.2.1 hb) hb)) (fun hb => hK _ _ (NewT.refl _) (pn_and0 Q8_1 hb)))
  · exact fun a wx hT hF K hK => rely_wp rfl (opr_move (.inl rfl) (hK _ _ (NewT.refl _) hF.1))
  · exact fun a wx hT hF K hK => rely_if (rely_gt hF.2.1) (NewT.refl _) hK fun hE hK => opr_fldR (by decide) rfl hF.1 (hK _ _ (NewT.refl _) rfl)
  · exact fun a wx hT hF K hK => rely_if (rely_gt hF.2.1) (NewT.refl _) hK fun hE hK => opr_ldQ (hT.row R1.out) (by decide) rfl rfl (hF.1 hE) (hK _ _ (NewT.refl _) rfl)
  · exact fun a wx hT hF K hK => rely_if (rely_gt hF.2.1) (NewT.refl _) hK fun hE hK => opr_fldR (by decide) rfl hF.1 (hK _ _ (NewT.refl _) rfl)
  · exact fun a wx hT hF K hK => rely_if (rely_gt hF.2.1) (NewT.refl _) hK fun hE hK => opr_ldQ (hT.row R2.out) (by decide) rfl rfl (hF.1 hE) (hK _ _ (NewT.refl _) rfl)
  · exact fun a wx hT hF K hK => rely_if (rely_gt hF.2.2.1) (NewT.refl _) hK fun hE hK => opr_eqlQ (b := x.gone == y.gone) (rfl) rfl (hF.1 hE) (hF.2.1 hE) (hK _ _ (NewT.refl _) rfl)
  · exact fun a wx hT hF K hK => rely_wp rfl (opr_pick_b rfl hF.1 (fun hb => hK _ _ (NewT.refl _) (pk_and1 (hF.2.1 hb) hb)) (fun hb => hK _ _ (NewT.refl _) (pk_and0 hb)))
  · exact fun a wx hT hF K hK => rely_wp rfl (opr_move (.inl rfl) (hK _ _ (NewT.refl _) hF.1))
  · exact fun a wx hT hF K hK => rely_if (rely_gt hF.2.1) (NewT.refl _) hK fun hE hK => opr_fldR (by decide) rfl hF.1 (hK _ _ (NewT.refl _) rfl)
  · exact fun a wx hT hF K hK => rely_if (rely_gt hF.2.1) (NewT.refl _) hK fun hE hK => opr_ldH (hT.row R1.out) (by decide) (recF_com x _ _) rfl (hF.1 hE) (hK _ _ (NewT.refl _) rfl)
  · exact fun a wx hT hF K hK => rely_if (rely_gt hF.2.1) (NewT.refl _) hK fun hE hK => opr_fldR (by decide) rfl hF.1 (hK _ _ (NewT.refl _) rfl)
  · exact fun a wx hT hF K hK => rely_if (rely_gt hF.2.1) (NewT.refl _) hK fun hE hK => opr_ldH (hT.row R2.out) (by decide) (recF_com y _ _) rfl (hF.1 hE) (hK _ _ (NewT.refl _) rfl)
  · exact fun a wx hT hF K hK => rely_if (rely_gt hF.2.2.1) (NewT.refl _) hK fun hE hK => opr_eql_hash (b := eqH (x.com) (y.com)) rfl (hF.1 hE) (hF.2.1 hE) (rfl) (hK _ _ (NewT.refl _) rfl)
  · exact fun a wx hT hF K hK => rely_wp rfl (opr_pick_b rfl hF.1 (fun hb => hK _ _ (NewT.refl _) (pn_and1 Q9_1 (hF.2.1 hb) hb)) (fun hb => hK _ _ (NewT.refl _) (pn_and0 Q9_1 hb)))
  · intro wx hT
    iterate 6 (intro u h; obtain rfl := Eq.symm (h (by simp)); clear h)
    iterate 5 (intro _ _)
    iterate 2 (intro u h; obtain rfl := Eq.symm (h (by simp)); clear h)
    iterate 5 (intro _ _)
    iterate 2 (intro u h; obtain rfl := Eq.symm (h (by simp)); clear h)
    iterate 5 (intro _ _)
    iterate 2 (intro u h; obtain rfl := Eq.symm (h (by simp)); clear h)
    iterate 5 (intro _ _)
    iterate 2 (intro u h; obtain rfl := Eq.symm (h (by simp)); clear h)
    iterate 5 (intro _ _)
    iterate 2 (intro u h; obtain rfl := Eq.symm (h (by simp)); clear h)
    iterate 5 (intro _ _)
    iterate 2 (intro u h; obtain rfl := Eq.symm (h (by simp)); clear h)
    iterate 5 (intro _ _)
    iterate 2 (intro u h; obtain rfl := Eq.symm (h (by simp)); clear h)
    iterate 5 (intro _ _)
    iterate 2 (intro u h; obtain rfl := Eq.symm (h (by simp)); clear h)
    iterate 5 (intro _ _)
    iterate 2 (intro u h; obtain rfl := Eq.symm (h (by simp)); clear h)
    iterate 5 (intro _ _)
    iterate 2 (intro u h; obtain rfl := Eq.symm (h (by simp)); clear h)
    iterate 5 (intro _ _)
    iterate 2 (intro u h; obtain rfl := Eq.symm (h (by simp)); clear h)
    iterate 5 (intro _ _)
    iterate 2 (intro u h; obtain rfl := Eq.symm (h (by simp)); clear h)
    iterate 5 (intro _ _)
    iterate 2 (intro u h; obtain rfl := Eq.symm (h (by simp)); clear h)
    iterate 5 (intro _ _)
    iterate 2 (intro u h; obtain rfl := Eq.symm (h (by simp)); clear h)
    iterate 5 (intro _ _)
    intro u h; obtain rfl := Eq.symm (h (by simp)); clear h
    subst Q9_1 Q8_1 Q7_1 Q6_1 Q5_1 Q4_1 Q3_1 Q2_1 Q1_1
    refine relyEnd_nil rfl ?_
    simp only [Act.put, List.setIfInBounds_toArray, List.set_cons_zero, List.set_cons_succ]
    refine wpList_plain rfl (fun K hK => ?_)
    refine opr_move (.inr rfl) (hK _ _ ?_)
    refine wpList_end rfl ?_
    go_simp
    go_wp2
    go_ret
    exact ⟨_, rfl, NewT.trans _ _ _ HN.out hT, rfl⟩
end Go.Proofs.YtilmeffmdgcblaaDoor
/- Package rec: inRange. -/
namespace Go.Proofs.YtilmeffmdgcblaaDoor
open Go Go.RowKit
set_option maxRecDepth 8000
set_option linter.all false
set_option maxHeartbeats 2000000 in
theorem inRange_cv (v : Value) (x : Rc) (w : World) (h : RecV w v x) : Cv 29 #[v] w (.eq (.bool (inRg x))) := by
  obtain ⟨sv, dv, rfl, hs, hd⟩ := h
  unfold Cv
  have HX : Hid (RecV w (.agg (rowA 109 (recF x sv dv))) x) := Lib.hid ⟨sv, dv, rfl, hs, hd⟩
  have HS := Lib.hid hs
  have HD := Lib.hid hd
  clear hs hd
  by_cases hk : x.kind = 1
  · have hI : inRg x = ((inR x.saga 0 11 && stepsOk x.steps) && decide ((x.data.length : Int) ≤ 60)) := by unfold inRg; simp only [hk]; simp
    rw [hI]
    clear hI
    go_enter Tryd.func29, Tryd.ntmps29
    go_upto_region 1 with fail
    have r1 := rowIs_box w 32 109 (recF x sv dv)
    have hN := NewT.alloc w (.cells (rowA 109 (recF x sv dv)) 32)
    change Code.wp _ _ _ _ (w.alloc (.cells (rowA 109 (recF x sv dv)) 32))
    generalize w.alloc (.cells (rowA 109 (recF x sv dv)) 32) = W0 at r1 hN ⊢
    have R1 := Lib.hid r1
    have HN := Lib.hid hN
    replace HX := Lib.hid (hN.recV HX.out)
    replace HS := Lib.hid (hN.pairs HS.out)
    replace HD := Lib.hid (hN.rd HD.out)
    clear r1 hN
    have c0 : W0.cell? ⟨w.heap.size, 0, none⟩ = some (.int .i64 x.kind) := R1.out.cell (by omega)
    rw [hk] at c0
    go_upto_region 8 with fail
    clear c0
    obtain ⟨q1_8, Q1_8⟩ : ∃ bq_, ((inR x.saga 0 11) && (stepsOk x.steps)) = bq_ := ⟨_, rfl⟩
    obtain ⟨q2_8, Q2_8⟩ : ∃ bq_, (q1_8 && (decide (((List.length (x.data) : Int)) ≤ 60))) = bq_ := ⟨_, rfl⟩
    refine wp_region_steps0 NewT [SV.eq (.pointer (some ⟨w.heap.size, 1, none⟩)), SV.eq (.int .i64 (x.saga)), SV.eq (.bool (inR x.saga 0 11)), SV.eq (.bool (inR x.saga 0 11)), svIf (inR x.saga 0 11) (SV.eq (.pointer (some ⟨w.heap.size, 42, none⟩))), svIf (inR x.saga 0 11) (SV.eq (sv)), svIf (inR x.saga 0 11) (SV.eq (.bool (stepsOk x.steps))), SV.eq (.bool (q1_8)), SV.eq (.bool (q1_8)), svIf q1_8 (SV.eq (.pointer (some ⟨w.heap.size, 43, none⟩))), svIf q1_8 (SV.eq (dv)), svIf q1_8 (SV.eq (.int .i64 ((List.length (x.data) : Int)))), svIf q1_8 (SV.eq (.bool (decide (((List.length (x.data) : Int)) ≤ 60)))), SV.eq (.bool (q2_8)), SV.eq (.bool (q2_8))] [([(1, none)], none), ([(16, some 0)], none), ([(17, some 1)], none), ([(18, some 2)], none), ([(1, none), (19, some 3)], some (19, true)), ([(20, some 4), (19, some 3)], some (19, true)), ([(21, some 5), (19, some 3)], some (19, true)), ([(19, some 3), (22, some 6)], none), ([(23, some 7)], none), ([(1, none), (24, some 8)], some (24, true)), ([(25, some 9), (24, some 8)], some (24, true)), ([(26, some 10), (24, some 8)], some (24, true)), ([(27, some 11), (24, some 8)], some (24, true)), ([(24, some 8), (28, some 12)], none), ([(29, some 13)], none)] 79 15 rfl rfl (by kernel_rfl) NewT.trans (NewT.refl _) (Nat.le_of_ble_eq_true rfl) ⟨?_, ?_, ?_, ?_, ?_, ?_, ?_, ?_, ?_, ?_, ?_, ?_, ?_, ?_, ?_, trivial⟩ ?_
    · exact fun a wx hT hF K hK => rely_wp rfl (opr_fldR (by decide) rfl hF.1 (hK _ _ (NewT.refl _) rfl))
    · exact fun a wx hT hF K hK => rely_wp rfl (opr_ldI (hT.row R1.out) (by decide) rfl rfl hF.1 (hK _ _ (NewT.refl _) rfl))
    · exact fun a wx hT hF K hK => rely_wp rfl (opr_cv (isSaga_cv x.saga wx) rfl Tryd.func39 (by kernel_rfl) (by kernel_rfl) (evs1 hF.1) hK)
    · exact fun a wx hT hF K hK => rely_wp rfl (opr_move (.inl rfl) (hK _ _ (NewT.refl _) hF.1))
    · exact fun a wx hT hF K hK => rely_if (rely_gt hF.2.1) (NewT.refl _) hK fun hE hK => opr_fldR (by decide) rfl hF.1 (hK _ _ (NewT.refl _) rfl)
    · exact fun a wx hT hF K hK => rely_if (rely_gt hF.2.1) (NewT.refl _) hK fun hE hK => opr_ldS (hT.row R1.out) (by decide) rfl rfl (hF.1 hE) (hK _ _ (NewT.refl _) rfl)
    · exact fun a wx hT hF K hK => rely_if (rely_gt hF.2.1) (NewT.refl _) hK fun hE hK => opr_cv (areSteps_cv _ x.steps wx (hT.pairs HS.out)) rfl Tryd.func40 (by kernel_rfl) (by kernel_rfl) (evs1 (hF.1 hE)) hK
    · exact fun a wx hT hF K hK => rely_wp rfl (opr_pick_b rfl hF.1 (fun hb => hK _ _ (NewT.refl _) (pn_and1 Q1_8 (hF.2.1 hb) hb)) (fun hb => hK _ _ (NewT.refl _) (pn_and0 Q1_8 hb)))
    · exact fun a wx hT hF K hK => rely_wp rfl (opr_move (.inl rfl) (hK _ _ (NewT.refl _) hF.1))
    · exact fun a wx hT hF K hK => rely_if (rely_gt hF.2.1) (NewT.refl _) hK fun hE hK => opr_fldR (by decide) rfl hF.1 (hK _ _ (NewT.refl _) rfl)
    · exact fun a wx hT hF K hK => rely_if (rely_gt hF.2.1) (NewT.refl _) hK fun hE hK => opr_ldB (hT.row R1.out) (by decide) rfl rfl (hF.1 hE) (hK _ _ (NewT.refl _) rfl)
    · intro a wx hT hF K hK
      obtain ⟨f26, f24, _⟩ := hF
      have f26 : q1_8 = true → a.tmps.getD 26 undef = dv := f26
      have f24 : a.tmps.getD 24 undef = .bool (q1_8) := f24
      refine rely_if (rely_gt f24) (NewT.refl _) hK (fun hE hK => ?_)
      exact opr_len_rd rfl (by rw [eval_tmp, (f26 hE)]; exact (hT.rd HD.out)) (hK _ _ (NewT.refl _) rfl)
    · exact fun a wx hT hF K hK => rely_if (rely_gt hF.2.1) (NewT.refl _) hK fun hE hK => opr_cmp (b := decide (((List.length (x.data) : Int)) ≤ 60)) (.inr (.inr (.inl ⟨rfl, rfl⟩))) Tryd.underlying3 rfl (hF.1 hE) rfl (hK _ _ (NewT.refl _) rfl)
    · exact fun a wx hT hF K hK => rely_wp rfl (opr_pick_b rfl hF.1 (fun hb => hK _ _ (NewT.refl _) (pn_and1 Q2_8 (hF.2.1 hb) hb)) (fun hb => hK _ _ (NewT.refl _) (pn_and0 Q2_8 hb)))
    · exact fun a wx hT hF K hK => rely_wp rfl (opr_move (.inr rfl) (hK _ _ (NewT.refl _) hF.1))
    · intro wx hT
      iterate 4 (intro u h; obtain rfl := Eq.symm (h (by simp)); clear h)
      iterate 3 (intro _ _)
      iterate 2 (intro u h; obtain rfl := Eq.symm (h (by simp)); clear h)
      iterate 4 (intro _ _)
      iterate 2 (intro u h; obtain rfl := Eq.symm (h (by simp)); clear h)
      subst Q2_8 Q1_8
      refine relyEnd_nil rfl ?_
      refine wpList_end rfl ?_
      simp only [Act.put, List.setIfInBounds_toArray, List.set_cons_zero, List.set_cons_succ]
      go_simp
      go_wp2
      go_ret
      exact ⟨_, rfl, NewT.trans _ _ _ HN.out hT, rfl⟩
  have k1 := hk
  clear hk
  by_cases hk : x.kind = 3
  · have hI : inRg x = ((!((!inR x.part 0 3) || !inR x.epoch 0 400)) && (((inR x.saga 0 11 && inR x.seq 1 400) && inR x.step 0 5) && inR x.tr 1 9)) := by unfold inRg; simp only [hk]; simp
    rw [hI]
    clear hI
    go_enter Tryd.func29, Tryd.ntmps29
    go_upto_region 1 with fail
    have r1 := rowIs_box w 32 109 (recF x sv dv)
    have hN := NewT.alloc w (.cells (rowA 109 (recF x sv dv)) 32)
    change Code.wp _ _ _ _ (w.alloc (.cells (rowA 109 (recF x sv dv)) 32))
    generalize w.alloc (.cells (rowA 109 (recF x sv dv)) 32) = W0 at r1 hN ⊢
    have R1 := Lib.hid r1
    have HN := Lib.hid hN
    replace HX := Lib.hid (hN.recV HX.out)
    replace HS := Lib.hid (hN.pairs HS.out)
    replace HD := Lib.hid (hN.rd HD.out)
    clear r1 hN
    have c0 : W0.cell? ⟨w.heap.size, 0, none⟩ = some (.int .i64 x.kind) := R1.out.cell (by omega)
    rw [hk] at c0
    go_upto_region 9 with fail
    clear c0
    obtain ⟨q1_9, Q1_9⟩ : ∃ bq_, ((!(inR x.part 0 3)) || (!(inR x.epoch 0 400))) = bq_ := ⟨_, rfl⟩
    refine wp_region_steps0 NewT [SV.eq (.pointer (some ⟨w.heap.size, 8, none⟩)), SV.eq (.int .i64 (x.part)), SV.eq (.bool (inR x.part 0 3)), SV.eq (.bool (!(inR x.part 0 3))), SV.eq (.bool (!(inR x.part 0 3))), svIf ((!(!(inR x.part 0 3)))) (SV.eq (.pointer (some ⟨w.heap.size, 9, none⟩))), svIf ((!(!(inR x.part 0 3)))) (SV.eq (.int .i64 (x.epoch))), svIf ((!(!(inR x.part 0 3)))) (SV.eq (.bool (inR x.epoch 0 400))), svIf ((!(!(inR x.part 0 3)))) (SV.eq (.bool (!(inR x.epoch 0 400)))), SV.eq (.bool (q1_9))] [([(1, none)], none), ([(30, some 0)], none), ([(31, some 1)], none), ([(32, some 2)], none), ([(33, some 3)], none), ([(1, none), (34, some 4)], some (34, false)), ([(35, some 5), (34, some 4)], some (34, false)), ([(36, some 6), (34, some 4)], some (34, false)), ([(37, some 7), (34, some 4)], some (34, false)), ([(34, some 4), (38, some 8)], none)] 79 10 rfl rfl (by kernel_rfl) NewT.trans (NewT.refl _) (Nat.le_of_ble_eq_true rfl) ⟨?_, ?_, ?_, ?_, ?_, ?_, ?_, ?_, ?_, ?_, trivial⟩ ?_
    · exact fun a wx hT hF K hK => rely_wp rfl (opr_fldR (by decide) rfl hF.1 (hK _ _ (NewT.refl _) rfl))
    · exact fun a wx hT hF K hK => rely_wp rfl (opr_ldI (hT.row R1.out) (by decide) rfl rfl hF.1 (hK _ _ (NewT.refl _) rfl))
    · exact fun a wx hT hF K hK => rely_wp rfl (opr_cv (isPart_cv x.part wx) rfl Tryd.func41 (by kernel_rfl) (by kernel_rfl) (evs1 hF.1) hK)
    · exact fun a wx hT hF K hK => rely_wp rfl (opr_not rfl hF.1 (hK _ _ (NewT.refl _) rfl))
    · exact fun a wx hT hF K hK => rely_wp rfl (opr_move (.inl rfl) (hK _ _ (NewT.refl _) hF.1))
    · exact fun a wx hT hF K hK => rely_if (rely_gf hF.2.1) (NewT.refl _) hK fun hE hK => opr_fldR (by decide) rfl hF.1 (hK _ _ (NewT.refl _) rfl)
    · exact fun a wx hT hF K hK => rely_if (rely_gf hF.2.1) (NewT.refl _) hK fun hE hK => opr_ldI (hT.row R1.out) (by decide) rfl rfl (hF.1 hE) (hK _ _ (NewT.refl _) rfl)
    · exact fun a wx hT hF K hK => rely_if (rely_gf hF.2.1) (NewT.refl _) hK fun hE hK => opr_cv (within_cv x.epoch 0 400 wx) rfl Tryd.func42 (by kernel_rfl) (by kernel_rfl) (evs3 (hF.1 hE) rfl rfl) hK
    · exact fun a wx hT hF K hK => rely_if (rely_gf hF.2.1) (NewT.refl _) hK fun hE hK => opr_not rfl (hF.1 hE) (hK _ _ (NewT.refl _) rfl)
    · exact fun a wx hT hF K hK => rely_wp rfl (opr_pick_b rfl hF.1 (fun hb => hK _ _ (NewT.refl _) (pn_or1 Q1_9 hb)) (fun hb => hK _ _ (NewT.refl _) (pn_or0 Q1_9 (hF.2.1 (bnot hb)) hb)))
    · intro w9 h9
      iterate 5 (intro u h; obtain rfl := Eq.symm (h (by simp)); clear h)
      iterate 4 (intro _ _)
      intro u h; obtain rfl := Eq.symm (h (by simp)); clear h
      subst Q1_9
      refine relyEnd_nil rfl ?_
      refine wpList_end rfl ?_
      simp only [Act.put, List.setIfInBounds_toArray, List.set_cons_zero, List.set_cons_succ]
      go_simp
      cases hb : ((!inR x.part 0 3) || !inR x.epoch 0 400)
      · go_upto_region 11 with fail
        obtain ⟨q1_11, Q1_11⟩ : ∃ bq_, ((inR x.saga 0 11) && (inR x.seq 1 400)) = bq_ := ⟨_, rfl⟩
        obtain ⟨q2_11, Q2_11⟩ : ∃ bq_, ((q1_11 && (inR x.step 0 5)) && (inR x.tr 1 9)) = bq_ := ⟨_, rfl⟩
        refine wp_region_steps0 NewT [SV.eq (.pointer (some ⟨w.heap.size, 1, none⟩)), SV.eq (.int .i64 (x.saga)), SV.eq (.bool (inR x.saga 0 11)), SV.eq (.bool (inR x.saga 0 11)), svIf (inR x.saga 0 11) (SV.eq (.pointer (some ⟨w.heap.size, 2, none⟩))), svIf (inR x.saga 0 11) (SV.eq (.int .i64 (x.seq))), svIf (inR x.saga 0 11) (SV.eq (.bool (inR x.seq 1 400))), SV.eq (.bool (q1_11)), SV.eq (.bool (q1_11)), svIf q1_11 (SV.eq (.pointer (some ⟨w.heap.size, 3, none⟩))), svIf q1_11 (SV.eq (.int .i64 (x.step))), svIf q1_11 (SV.eq (.bool (inR x.step 0 5))), SV.eq (.bool (q1_11 && (inR x.step 0 5))), SV.eq (.bool (q1_11 && (inR x.step 0 5))), svIf (q1_11 && (inR x.step 0 5)) (SV.eq (.pointer (some ⟨w.heap.size, 4, none⟩))), svIf (q1_11 && (inR x.step 0 5)) (SV.eq (.int .i64 (x.tr))), svIf (q1_11 && (inR x.step 0 5)) (SV.eq (.bool (inR x.tr 1 9))), SV.eq (.bool (q2_11)), SV.eq (.bool (q2_11))] [([(1, none)], none), ([(40, some 0)], none), ([(41, some 1)], none), ([(42, some 2)], none), ([(1, none), (43, some 3)], some (43, true)), ([(44, some 4), (43, some 3)], some (43, true)), ([(45, some 5), (43, some 3)], some (43, true)), ([(43, some 3), (46, some 6)], none), ([(47, some 7)], none), ([(1, none), (48, some 8)], some (48, true)), ([(49, some 9), (48, some 8)], some (48, true)), ([(50, some 10), (48, some 8)], some (48, true)), ([(48, some 8), (51, some 11)], none), ([(52, some 12)], none), ([(1, none), (53, some 13)], some (53, true)), ([(54, some 14), (53, some 13)], some (53, true)), ([(55, some 15), (53, some 13)], some (53, true)), ([(53, some 13), (56, some 16)], none), ([(57, some 17)], none)] 79 19 rfl rfl (by kernel_rfl) NewT.trans (NewT.refl _) (Nat.le_of_ble_eq_true rfl) ⟨?_, ?_, ?_, ?_, ?_, ?_, ?_, ?_, ?_, ?_, ?_, ?_, ?_, ?_, ?_, ?_, ?_, ?_, ?_, trivial⟩ ?_
        · exact fun a wx hT hF K hK => rely_wp rfl (opr_fldR (by decide) rfl hF.1 (hK _ _ (NewT.refl _) rfl))
        · exact fun a wx hT hF K hK => rely_wp rfl (opr_ldI (hT.row (NewT.row h9 R1.out)) (by decide) rfl rfl hF.1 (hK _ _ (NewT.refl _) rfl))
        · exact fun a wx hT hF K hK => rely_wp rfl (opr_cv (isSaga_cv x.saga wx) rfl Tryd.func39 (by kernel_rfl) (by kernel_rfl) (evs1 hF.1) hK)
        · exact fun a wx hT hF K hK => rely_wp rfl (opr_move (.inl rfl) (hK _ _ (NewT.refl _) hF.1))
        · exact fun a wx hT hF K hK => rely_if (rely_gt hF.2.1) (NewT.refl _) hK fun hE hK => opr_fldR (by decide) rfl hF.1 (hK _ _ (NewT.refl _) rfl)
        · exact fun a wx hT hF K hK => rely_if (rely_gt hF.2.1) (NewT.refl _) hK fun hE hK => opr_ldI (hT.row (NewT.row h9 R1.out)) (by decide) rfl rfl (hF.1 hE) (hK _ _ (NewT.refl _) rfl)
        · exact fun a wx hT hF K hK => rely_if (rely_gt hF.2.1) (NewT.refl _) hK fun hE hK => opr_cv (isSeq_cv x.seq wx) rfl Tryd.func43 (by kernel_rfl) (by kernel_rfl) (evs1 (hF.1 hE)) hK
        · exact fun a wx hT hF K hK => rely_wp rfl (opr_pick_b rfl hF.1 (fun hb => hK _ _ (NewT.refl _) (pn_and1 Q1_11 (hF.2.1 hb) hb)) (fun hb => hK _ _ (NewT.refl _) (pn_and0 Q1_11 hb)))
        · exact fun a wx hT hF K hK => rely_wp rfl (opr_move (.inl rfl) (hK _ _ (NewT.refl _) hF.1))
        · exact fun a wx hT hF K hK => rely_if (rely_gt hF.2.1) (NewT.refl _) hK fun hE hK => opr_fldR (by decide) rfl hF.1 (hK _ _ (NewT.refl _) rfl)
        · exact fun a wx hT hF K hK => rely_if (rely_gt hF.2.1) (NewT.refl _) hK fun hE hK => opr_ldI (hT.row (NewT.row h9 R1.out)) (by decide) rfl rfl (hF.1 hE) (hK _ _ (NewT.refl _) rfl)
        · exact fun a wx hT hF K hK => rely_if (rely_gt hF.2.1) (NewT.refl _) hK fun hE hK => opr_cv (within_cv x.step 0 5 wx) rfl Tryd.func42 (by kernel_rfl) (by kernel_rfl) (evs3 (hF.1 hE) rfl rfl) hK
        · exact fun a wx hT hF K hK => rely_wp rfl (opr_pick_b rfl hF.1 (fun hb => hK _ _ (NewT.refl _) (pk_and1 (hF.2.1 hb) hb)) (fun hb => hK _ _ (NewT.refl _) (pk_and0 hb)))
        · exact fun a wx hT hF K hK => rely_wp rfl (opr_move (.inl rfl) (hK _ _ (NewT.refl _) hF.1))
        · exact fun a wx hT hF K hK => rely_if (rely_gt hF.2.1) (NewT.refl _) hK fun hE hK => opr_fldR (by decide) rfl hF.1 (hK _ _ (NewT.refl _) rfl)
        · exact fun a wx hT hF K hK => rely_if (rely_gt hF.2.1) (NewT.refl _) hK fun hE hK => opr_ldI (hT.row (NewT.row h9 R1.out)) (by decide) rfl rfl (hF.1 hE) (hK _ _ (NewT.refl _) rfl)
        · exact fun a wx hT hF K hK => rely_if (rely_gt hF.2.1) (NewT.refl _) hK fun hE hK => opr_cv (within_cv x.tr 1 9 wx) rfl Tryd.func42 (by kernel_rfl) (by kernel_rfl) (evs3 (hF.1 hE) rfl rfl) hK
        · exact fun a wx hT hF K hK => rely_wp rfl (opr_pick_b rfl hF.1 (fun hb => hK _ _ (NewT.refl _) (pn_and1 Q2_11 (hF.2.1 hb) hb)) (fun hb => hK _ _ (NewT.refl _) (pn_and0 Q2_11 hb)))
        · exact fun a wx hT hF K hK => rely_wp rfl (opr_move (.inr rfl) (hK _ _ (NewT.refl _) hF.1))
        · intro wx hT
          iterate 4 (intro u h; obtain rfl := Eq.symm (h (by simp)); clear h)
          iterate 3 (intro _ _)
          iterate 2 (intro u h; obtain rfl := Eq.symm (h (by simp)); clear h)
          iterate 3 (intro _ _)
          iterate 2 (intro u h; obtain rfl := Eq.symm (h (by simp)); clear h)
          iterate 3 (intro _ _)
          iterate 2 (intro u h; obtain rfl := Eq.symm (h (by simp)); clear h)
          subst Q2_11 Q1_11
          refine relyEnd_nil rfl ?_
          refine wpList_end rfl ?_
          simp only [Act.put, List.setIfInBounds_toArray, List.set_cons_zero, List.set_cons_succ]
          go_simp
          go_wp2
          go_ret
          exact ⟨_, rfl, NewT.trans _ _ _ HN.out (NewT.trans _ _ _ h9 hT), rfl⟩
      · go_wp2
        go_ret
        exact ⟨_, rfl, NewT.trans _ _ _ HN.out h9, rfl⟩
  have k3 := hk
  clear hk
  by_cases hk : x.kind = 2
  · have hI : inRg x = (((inR x.saga 0 11 && inR x.seq 1 400) && inR x.step 0 5) && inR x.tr 1 9) := by unfold inRg; simp only [hk]; simp
    rw [hI]
    clear hI
    go_enter Tryd.func29, Tryd.ntmps29
    go_upto_region 1 with fail
    have r1 := rowIs_box w 32 109 (recF x sv dv)
    have hN := NewT.alloc w (.cells (rowA 109 (recF x sv dv)) 32)
    change Code.wp _ _ _ _ (w.alloc (.cells (rowA 109 (recF x sv dv)) 32))
    generalize w.alloc (.cells (rowA 109 (recF x sv dv)) 32) = W0 at r1 hN ⊢
    have R1 := Lib.hid r1
    have HN := Lib.hid hN
    replace HX := Lib.hid (hN.recV HX.out)
    replace HS := Lib.hid (hN.pairs HS.out)
    replace HD := Lib.hid (hN.rd HD.out)
    clear r1 hN
    have c0 : W0.cell? ⟨w.heap.size, 0, none⟩ = some (.int .i64 x.kind) := R1.out.cell (by omega)
    rw [hk] at c0
    go_upto_region 11 with fail
    clear c0
    obtain ⟨q1_11, Q1_11⟩ : ∃ bq_, ((inR x.saga 0 11) && (inR x.seq 1 400)) = bq_ := ⟨_, rfl⟩
    obtain ⟨q2_11, Q2_11⟩ : ∃ bq_, ((q1_11 && (inR x.step 0 5)) && (inR x.tr 1 9)) = bq_ := ⟨_, rfl⟩
    refine wp_region_steps0 NewT [SV.eq (.pointer (some ⟨w.heap.size, 1, none⟩)), SV.eq (.int .i64 (x.saga)), SV.eq (.bool (inR x.saga 0 11)), SV.eq (.bool (inR x.saga 0 11)), svIf (inR x.saga 0 11) (SV.eq (.pointer (some ⟨w.heap.size, 2, none⟩))), svIf (inR x.saga 0 11) (SV.eq (.int .i64 (x.seq))), svIf (inR x.saga 0 11) (SV.eq (.bool (inR x.seq 1 400))), SV.eq (.bool (q1_11)), SV.eq (.bool (q1_11)), svIf q1_11 (SV.eq (.pointer (some ⟨w.heap.size, 3, none⟩))), svIf q1_11 (SV.eq (.int .i64 (x.step))), svIf q1_11 (SV.eq (.bool (inR x.step 0 5))), SV.eq (.bool (q1_11 && (inR x.step 0 5))), SV.eq (.bool (q1_11 && (inR x.step 0 5))), svIf (q1_11 && (inR x.step 0 5)) (SV.eq (.pointer (some ⟨w.heap.size, 4, none⟩))), svIf (q1_11 && (inR x.step 0 5)) (SV.eq (.int .i64 (x.tr))), svIf (q1_11 && (inR x.step 0 5)) (SV.eq (.bool (inR x.tr 1 9))), SV.eq (.bool (q2_11)), SV.eq (.bool (q2_11))] [([(1, none)], none), ([(40, some 0)], none), ([(41, some 1)], none), ([(42, some 2)], none), ([(1, none), (43, some 3)], some (43, true)), ([(44, some 4), (43, some 3)], some (43, true)), ([(45, some 5), (43, some 3)], some (43, true)), ([(43, some 3), (46, some 6)], none), ([(47, some 7)], none), ([(1, none), (48, some 8)], some (48, true)), ([(49, some 9), (48, some 8)], some (48, true)), ([(50, some 10), (48, some 8)], some (48, true)), ([(48, some 8), (51, some 11)], none), ([(52, some 12)], none), ([(1, none), (53, some 13)], some (53, true)), ([(54, some 14), (53, some 13)], some (53, true)), ([(55, some 15), (53, some 13)], some (53, true)), ([(53, some 13), (56, some 16)], none), ([(57, some 17)], none)] 79 19 rfl rfl (by kernel_rfl) NewT.trans (NewT.refl _) (Nat.le_of_ble_eq_true rfl) ⟨?_, ?_, ?_, ?_, ?_, ?_, ?_, ?_, ?_, ?_, ?_, ?_, ?_, ?_, ?_, ?_, ?_, ?_, ?_, trivial⟩ ?_
    · exact fun a wx hT hF K hK => rely_wp rfl (opr_fldR (by decide) rfl hF.1 (hK _ _ (NewT.refl _) rfl))
    · exact fun a wx hT hF K hK => rely_wp rfl (opr_ldI (hT.row R1.out) (by decide) rfl rfl hF.1 (hK _ _ (NewT.refl _) rfl))
    · exact fun a wx hT hF K hK => rely_wp rfl (opr_cv (isSaga_cv x.saga wx) rfl Tryd.func39 (by kernel_rfl) (by kernel_rfl) (evs1 hF.1) hK)
    · exact fun a wx hT hF K hK => rely_wp rfl (opr_move (.inl rfl) (hK _ _ (NewT.refl _) hF.1))
    · exact fun a wx hT hF K hK => rely_if (rely_gt hF.2.1) (NewT.refl _) hK fun hE hK => opr_fldR (by decide) rfl hF.1 (hK _ _ (NewT.refl _) rfl)
    · exact fun a wx hT hF K hK => rely_if (rely_gt hF.2.1) (NewT.refl _) hK fun hE hK => opr_ldI (hT.row R1.out) (by decide) rfl rfl (hF.1 hE) (hK _ _ (NewT.refl _) rfl)
    · exact fun a wx hT hF K hK => rely_if (rely_gt hF.2.1) (NewT.refl _) hK fun hE hK => opr_cv (isSeq_cv x.seq wx) rfl Tryd.func43 (by kernel_rfl) (by kernel_rfl) (evs1 (hF.1 hE)) hK
    · exact fun a wx hT hF K hK => rely_wp rfl (opr_pick_b rfl hF.1 (fun hb => hK _ _ (NewT.refl _) (pn_and1 Q1_11 (hF.2.1 hb) hb)) (fun hb => hK _ _ (NewT.refl _) (pn_and0 Q1_11 hb)))
    · exact fun a wx hT hF K hK => rely_wp rfl (opr_move (.inl rfl) (hK _ _ (NewT.refl _) hF.1))
    · exact fun a wx hT hF K hK => rely_if (rely_gt hF.2.1) (NewT.refl _) hK fun hE hK => opr_fldR (by decide) rfl hF.1 (hK _ _ (NewT.refl _) rfl)
    · exact fun a wx hT hF K hK => rely_if (rely_gt hF.2.1) (NewT.refl _) hK fun hE hK => opr_ldI (hT.row R1.out) (by decide) rfl rfl (hF.1 hE) (hK _ _ (NewT.refl _) rfl)
    · exact fun a wx hT hF K hK => rely_if (rely_gt hF.2.1) (NewT.refl _) hK fun hE hK => opr_cv (within_cv x.step 0 5 wx) rfl Tryd.func42 (by kernel_rfl) (by kernel_rfl) (evs3 (hF.1 hE) rfl rfl) hK
    · exact fun a wx hT hF K hK => rely_wp rfl (opr_pick_b rfl hF.1 (fun hb => hK _ _ (NewT.refl _) (pk_and1 (hF.2.1 hb) hb)) (fun hb => hK _ _ (NewT.refl _) (pk_and0 hb)))
    · exact fun a wx hT hF K hK => rely_wp rfl (opr_move (.inl rfl) (hK _ _ (NewT.refl _) hF.1))
    · exact fun a wx hT hF K hK => rely_if (rely_gt hF.2.1) (NewT.refl _) hK fun hE hK => opr_fldR (by decide) rfl hF.1 (hK _ _ (NewT.refl _) rfl)
    · exact fun a wx hT hF K hK => rely_if (rely_gt hF.2.1) (NewT.refl _) hK fun hE hK => opr_ldI (hT.row R1.out) (by decide) rfl rfl (hF.1 hE) (hK _ _ (NewT.refl _) rfl)
    · exact fun a wx hT hF K hK => rely_if (rely_gt hF.2.1) (NewT.refl _) hK fun hE hK => opr_cv (within_cv x.tr 1 9 wx) rfl Tryd.func42 (by kernel_rfl) (by kernel_rfl) (evs3 (hF.1 hE) rfl rfl) hK
    · exact fun a wx hT hF K hK => rely_wp rfl (opr_pick_b rfl hF.1 (fun hb => hK _ _ (NewT.refl _) (pn_and1 Q2_11 (hF.2.1 hb) hb)) (fun hb => hK _ _ (NewT.refl _) (pn_and0 Q2_11 hb)))
    · exact fun a wx hT hF K hK => rely_wp rfl (opr_move (.inr rfl) (hK _ _ (NewT.refl _) hF.1))
    · intro wx hT
      iterate 4 (intro u h; obtain rfl := Eq.symm (h (by simp)); clear h)
      iterate 3 (intro _ _)
      iterate 2 (intro u h; obtain rfl := Eq.symm (h (by simp)); clear h)
      iterate 3 (intro _ _)
      iterate 2 (intro u h; obtain rfl := Eq.symm (h (by simp)); clear h)
      iterate 3 (intro _ _)
      iterate 2 (intro u h; obtain rfl := Eq.symm (h (by simp)); clear h)
      subst Q2_11 Q1_11
      refine relyEnd_nil rfl ?_
      refine wpList_end rfl ?_
      simp only [Act.put, List.setIfInBounds_toArray, List.set_cons_zero, List.set_cons_succ]
      go_simp
      go_wp2
      go_ret
      exact ⟨_, rfl, NewT.trans _ _ _ HN.out hT, rfl⟩
  have k2 := hk
  clear hk
  by_cases hk : x.kind = 4
  · have hI : inRg x = (((inR x.saga 0 11 && inR x.seq 1 400) && inR x.step 0 5) && inR x.tr 1 9) := by unfold inRg; simp only [hk]; simp
    rw [hI]
    clear hI
    go_enter Tryd.func29, Tryd.ntmps29
    go_upto_region 1 with fail
    have r1 := rowIs_box w 32 109 (recF x sv dv)
    have hN := NewT.alloc w (.cells (rowA 109 (recF x sv dv)) 32)
    change Code.wp _ _ _ _ (w.alloc (.cells (rowA 109 (recF x sv dv)) 32))
    generalize w.alloc (.cells (rowA 109 (recF x sv dv)) 32) = W0 at r1 hN ⊢
    have R1 := Lib.hid r1
    have HN := Lib.hid hN
    replace HX := Lib.hid (hN.recV HX.out)
    replace HS := Lib.hid (hN.pairs HS.out)
    replace HD := Lib.hid (hN.rd HD.out)
    clear r1 hN
    have c0 : W0.cell? ⟨w.heap.size, 0, none⟩ = some (.int .i64 x.kind) := R1.out.cell (by omega)
    rw [hk] at c0
    go_upto_region 11 with fail
    clear c0
    obtain ⟨q1_11, Q1_11⟩ : ∃ bq_, ((inR x.saga 0 11) && (inR x.seq 1 400)) = bq_ := ⟨_, rfl⟩
    obtain ⟨q2_11, Q2_11⟩ : ∃ bq_, ((q1_11 && (inR x.step 0 5)) && (inR x.tr 1 9)) = bq_ := ⟨_, rfl⟩
    refine wp_region_steps0 NewT [SV.eq (.pointer (some ⟨w.heap.size, 1, none⟩)), SV.eq (.int .i64 (x.saga)), SV.eq (.bool (inR x.saga 0 11)), SV.eq (.bool (inR x.saga 0 11)), svIf (inR x.saga 0 11) (SV.eq (.pointer (some ⟨w.heap.size, 2, none⟩))), svIf (inR x.saga 0 11) (SV.eq (.int .i64 (x.seq))), svIf (inR x.saga 0 11) (SV.eq (.bool (inR x.seq 1 400))), SV.eq (.bool (q1_11)), SV.eq (.bool (q1_11)), svIf q1_11 (SV.eq (.pointer (some ⟨w.heap.size, 3, none⟩))), svIf q1_11 (SV.eq (.int .i64 (x.step))), svIf q1_11 (SV.eq (.bool (inR x.step 0 5))), SV.eq (.bool (q1_11 && (inR x.step 0 5))), SV.eq (.bool (q1_11 && (inR x.step 0 5))), svIf (q1_11 && (inR x.step 0 5)) (SV.eq (.pointer (some ⟨w.heap.size, 4, none⟩))), svIf (q1_11 && (inR x.step 0 5)) (SV.eq (.int .i64 (x.tr))), svIf (q1_11 && (inR x.step 0 5)) (SV.eq (.bool (inR x.tr 1 9))), SV.eq (.bool (q2_11)), SV.eq (.bool (q2_11))] [([(1, none)], none), ([(40, some 0)], none), ([(41, some 1)], none), ([(42, some 2)], none), ([(1, none), (43, some 3)], some (43, true)), ([(44, some 4), (43, some 3)], some (43, true)), ([(45, some 5), (43, some 3)], some (43, true)), ([(43, some 3), (46, some 6)], none), ([(47, some 7)], none), ([(1, none), (48, some 8)], some (48, true)), ([(49, some 9), (48, some 8)], some (48, true)), ([(50, some 10), (48, some 8)], some (48, true)), ([(48, some 8), (51, some 11)], none), ([(52, some 12)], none), ([(1, none), (53, some 13)], some (53, true)), ([(54, some 14), (53, some 13)], some (53, true)), ([(55, some 15), (53, some 13)], some (53, true)), ([(53, some 13), (56, some 16)], none), ([(57, some 17)], none)] 79 19 rfl rfl (by kernel_rfl) NewT.trans (NewT.refl _) (Nat.le_of_ble_eq_true rfl) ⟨?_, ?_, ?_, ?_, ?_, ?_, ?_, ?_, ?_, ?_, ?_, ?_, ?_, ?_, ?_, ?_, ?_, ?_, ?_, trivial⟩ ?_
    · exact fun a wx hT hF K hK => rely_wp rfl (opr_fldR (by decide) rfl hF.1 (hK _ _ (NewT.refl _) rfl))
    · exact fun a wx hT hF K hK => rely_wp rfl (opr_ldI (hT.row R1.out) (by decide) rfl rfl hF.1 (hK _ _ (NewT.refl _) rfl))
    · exact fun a wx hT hF K hK => rely_wp rfl (opr_cv (isSaga_cv x.saga wx) rfl Tryd.func39 (by kernel_rfl) (by kernel_rfl) (evs1 hF.1) hK)
    · exact fun a wx hT hF K hK => rely_wp rfl (opr_move (.inl rfl) (hK _ _ (NewT.refl _) hF.1))
    · exact fun a wx hT hF K hK => rely_if (rely_gt hF.2.1) (NewT.refl _) hK fun hE hK => opr_fldR (by decide) rfl hF.1 (hK _ _ (NewT.refl _) rfl)
    · exact fun a wx hT hF K hK => rely_if (rely_gt hF.2.1) (NewT.refl _) hK fun hE hK => opr_ldI (hT.row R1.out) (by decide) rfl rfl (hF.1 hE) (hK _ _ (NewT.refl _) rfl)
    · exact fun a wx hT hF K hK => rely_if (rely_gt hF.2.1) (NewT.refl _) hK fun hE hK => opr_cv (isSeq_cv x.seq wx) rfl Tryd.func43 (by kernel_rfl) (by kernel_rfl) (evs1 (hF.1 hE)) hK
    · exact fun a wx hT hF K hK => rely_wp rfl (opr_pick_b rfl hF.1 (fun hb => hK _ _ (NewT.refl _) (pn_and1 Q1_11 (hF.2.1 hb) hb)) (fun hb => hK _ _ (NewT.refl _) (pn_and0 Q1_11 hb)))
    · exact fun a wx hT hF K hK => rely_wp rfl (opr_move (.inl rfl) (hK _ _ (NewT.refl _) hF.1))
    · exact fun a wx hT hF K hK => rely_if (rely_gt hF.2.1) (NewT.refl _) hK fun hE hK => opr_fldR (by decide) rfl hF.1 (hK _ _ (NewT.refl _) rfl)
    · exact fun a wx hT hF K hK => rely_if (rely_gt hF.2.1) (NewT.refl _) hK fun hE hK => opr_ldI (hT.row R1.out) (by decide) rfl rfl (hF.1 hE) (hK _ _ (NewT.refl _) rfl)
    · exact fun a wx hT hF K hK => rely_if (rely_gt hF.2.1) (NewT.refl _) hK fun hE hK => opr_cv (within_cv x.step 0 5 wx) rfl Tryd.func42 (by kernel_rfl) (by kernel_rfl) (evs3 (hF.1 hE) rfl rfl) hK
    · exact fun a wx hT hF K hK => rely_wp rfl (opr_pick_b rfl hF.1 (fun hb => hK _ _ (NewT.refl _) (pk_and1 (hF.2.1 hb) hb)) (fun hb => hK _ _ (NewT.refl _) (pk_and0 hb)))
    · exact fun a wx hT hF K hK => rely_wp rfl (opr_move (.inl rfl) (hK _ _ (NewT.refl _) hF.1))
    · exact fun a wx hT hF K hK => rely_if (rely_gt hF.2.1) (NewT.refl _) hK fun hE hK => opr_fldR (by decide) rfl hF.1 (hK _ _ (NewT.refl _) rfl)
    · exact fun a wx hT hF K hK => rely_if (rely_gt hF.2.1) (NewT.refl _) hK fun hE hK => opr_ldI (hT.row R1.out) (by decide) rfl rfl (hF.1 hE) (hK _ _ (NewT.refl _) rfl)
    · exact fun a wx hT hF K hK => rely_if (rely_gt hF.2.1) (NewT.refl _) hK fun hE hK => opr_cv (within_cv x.tr 1 9 wx) rfl Tryd.func42 (by kernel_rfl) (by kernel_rfl) (evs3 (hF.1 hE) rfl rfl) hK
    · exact fun a wx hT hF K hK => rely_wp rfl (opr_pick_b rfl hF.1 (fun hb => hK _ _ (NewT.refl _) (pn_and1 Q2_11 (hF.2.1 hb) hb)) (fun hb => hK _ _ (NewT.refl _) (pn_and0 Q2_11 hb)))
    · exact fun a wx hT hF K hK => rely_wp rfl (opr_move (.inr rfl) (hK _ _ (NewT.refl _) hF.1))
    · intro wx hT
      iterate 4 (intro u h; obtain rfl := Eq.symm (h (by simp)); clear h)
      iterate 3 (intro _ _)
      iterate 2 (intro u h; obtain rfl := Eq.symm (h (by simp)); clear h)
      iterate 3 (intro _ _)
      iterate 2 (intro u h; obtain rfl := Eq.symm (h (by simp)); clear h)
      iterate 3 (intro _ _)
      iterate 2 (intro u h; obtain rfl := Eq.symm (h (by simp)); clear h)
      subst Q2_11 Q1_11
      refine relyEnd_nil rfl ?_
      refine wpList_end rfl ?_
      simp only [Act.put, List.setIfInBounds_toArray, List.set_cons_zero, List.set_cons_succ]
      go_simp
      go_wp2
      go_ret
      exact ⟨_, rfl, NewT.trans _ _ _ HN.out hT, rfl⟩
  have k4 := hk
  clear hk
  by_cases hk : x.kind = 5
  · have hI : inRg x = ((inR x.saga 0 11 && inR x.seq 1 400) && inR x.nd 2 4) := by unfold inRg; simp only [hk]; simp
    rw [hI]
    clear hI
    go_enter Tryd.func29, Tryd.ntmps29
    go_upto_region 1 with fail
    have r1 := rowIs_box w 32 109 (recF x sv dv)
    have hN := NewT.alloc w (.cells (rowA 109 (recF x sv dv)) 32)
    change Code.wp _ _ _ _ (w.alloc (.cells (rowA 109 (recF x sv dv)) 32))
    generalize w.alloc (.cells (rowA 109 (recF x sv dv)) 32) = W0 at r1 hN ⊢
    have R1 := Lib.hid r1
    have HN := Lib.hid hN
    replace HX := Lib.hid (hN.recV HX.out)
    replace HS := Lib.hid (hN.pairs HS.out)
    replace HD := Lib.hid (hN.rd HD.out)
    clear r1 hN
    have c0 : W0.cell? ⟨w.heap.size, 0, none⟩ = some (.int .i64 x.kind) := R1.out.cell (by omega)
    rw [hk] at c0
    go_upto_region 12 with fail
    clear c0
    obtain ⟨q1_12, Q1_12⟩ : ∃ bq_, ((inR x.saga 0 11) && (inR x.seq 1 400)) = bq_ := ⟨_, rfl⟩
    refine wp_region_steps0 NewT [SV.eq (.pointer (some ⟨w.heap.size, 1, none⟩)), SV.eq (.int .i64 (x.saga)), SV.eq (.bool (inR x.saga 0 11)), SV.eq (.bool (inR x.saga 0 11)), svIf (inR x.saga 0 11) (SV.eq (.pointer (some ⟨w.heap.size, 2, none⟩))), svIf (inR x.saga 0 11) (SV.eq (.int .i64 (x.seq))), svIf (inR x.saga 0 11) (SV.eq (.bool (inR x.seq 1 400))), SV.eq (.bool (q1_12)), SV.eq (.bool (q1_12)), svIf q1_12 (SV.eq (.pointer (some ⟨w.heap.size, 7, none⟩))), svIf q1_12 (SV.eq (.int .i64 (x.nd))), svIf q1_12 (SV.eq (.bool (inR x.nd 2 4))), SV.eq (.bool (q1_12 && (inR x.nd 2 4))), SV.eq (.bool (q1_12 && (inR x.nd 2 4)))] [([(1, none)], none), ([(58, some 0)], none), ([(59, some 1)], none), ([(60, some 2)], none), ([(1, none), (61, some 3)], some (61, true)), ([(62, some 4), (61, some 3)], some (61, true)), ([(63, some 5), (61, some 3)], some (61, true)), ([(61, some 3), (64, some 6)], none), ([(65, some 7)], none), ([(1, none), (66, some 8)], some (66, true)), ([(67, some 9), (66, some 8)], some (66, true)), ([(68, some 10), (66, some 8)], some (66, true)), ([(66, some 8), (69, some 11)], none), ([(70, some 12)], none)] 79 14 rfl rfl (by kernel_rfl) NewT.trans (NewT.refl _) (Nat.le_of_ble_eq_true rfl) ⟨?_, ?_, ?_, ?_, ?_, ?_, ?_, ?_, ?_, ?_, ?_, ?_, ?_, ?_, trivial⟩ ?_
    · exact fun a wx hT hF K hK => rely_wp rfl (opr_fldR (by decide) rfl hF.1 (hK _ _ (NewT.refl _) rfl))
    · exact fun a wx hT hF K hK => rely_wp rfl (opr_ldI (hT.row R1.out) (by decide) rfl rfl hF.1 (hK _ _ (NewT.refl _) rfl))
    · exact fun a wx hT hF K hK => rely_wp rfl (opr_cv (isSaga_cv x.saga wx) rfl Tryd.func39 (by kernel_rfl) (by kernel_rfl) (evs1 hF.1) hK)
    · exact fun a wx hT hF K hK => rely_wp rfl (opr_move (.inl rfl) (hK _ _ (NewT.refl _) hF.1))
    · exact fun a wx hT hF K hK => rely_if (rely_gt hF.2.1) (NewT.refl _) hK fun hE hK => opr_fldR (by decide) rfl hF.1 (hK _ _ (NewT.refl _) rfl)
    · exact fun a wx hT hF K hK => rely_if (rely_gt hF.2.1) (NewT.refl _) hK fun hE hK => opr_ldI (hT.row R1.out) (by decide) rfl rfl (hF.1 hE) (hK _ _ (NewT.refl _) rfl)
    · exact fun a wx hT hF K hK => rely_if (rely_gt hF.2.1) (NewT.refl _) hK fun hE hK => opr_cv (isSeq_cv x.seq wx) rfl Tryd.func43 (by kernel_rfl) (by kernel_rfl) (evs1 (hF.1 hE)) hK
    · exact fun a wx hT hF K hK => rely_wp rfl (opr_pick_b rfl hF.1 (fun hb => hK _ _ (NewT.refl _) (pn_and1 Q1_12 (hF.2.1 hb) hb)) (fun hb => hK _ _ (NewT.refl _) (pn_and0 Q1_12 hb)))
    · exact fun a wx hT hF K hK => rely_wp rfl (opr_move (.inl rfl) (hK _ _ (NewT.refl _) hF.1))
    · exact fun a wx hT hF K hK => rely_if (rely_gt hF.2.1) (NewT.refl _) hK fun hE hK => opr_fldR (by decide) rfl hF.1 (hK _ _ (NewT.refl _) rfl)
    · exact fun a wx hT hF K hK => rely_if (rely_gt hF.2.1) (NewT.refl _) hK fun hE hK => opr_ldI (hT.row R1.out) (by decide) rfl rfl (hF.1 hE) (hK _ _ (NewT.refl _) rfl)
    · exact fun a wx hT hF K hK => rely_if (rely_gt hF.2.1) (NewT.refl _) hK fun hE hK => opr_cv (within_cv x.nd 2 4 wx) rfl Tryd.func42 (by kernel_rfl) (by kernel_rfl) (evs3 (hF.1 hE) rfl rfl) hK
    · exact fun a wx hT hF K hK => rely_wp rfl (opr_pick_b rfl hF.1 (fun hb => hK _ _ (NewT.refl _) (pk_and1 (hF.2.1 hb) hb)) (fun hb => hK _ _ (NewT.refl _) (pk_and0 hb)))
    · exact fun a wx hT hF K hK => rely_wp rfl (opr_move (.inr rfl) (hK _ _ (NewT.refl _) hF.1))
    · intro wx hT
      iterate 4 (intro u h; obtain rfl := Eq.symm (h (by simp)); clear h)
      iterate 3 (intro _ _)
      iterate 2 (intro u h; obtain rfl := Eq.symm (h (by simp)); clear h)
      iterate 3 (intro _ _)
      iterate 2 (intro u h; obtain rfl := Eq.symm (h (by simp)); clear h)
      subst Q1_12
      refine relyEnd_nil rfl ?_
      refine wpList_end rfl ?_
      simp only [Act.put, List.setIfInBounds_toArray, List.set_cons_zero, List.set_cons_succ]
      go_simp
      go_wp2
      go_ret
      exact ⟨_, rfl, NewT.trans _ _ _ HN.out hT, rfl⟩
  have k5 := hk
  clear hk
  by_cases hk : x.kind = 6
  · have hI : inRg x = (inR x.part 0 3 && inR x.epoch 1 400) := by unfold inRg; simp only [hk]; simp
    rw [hI]
    clear hI
    go_enter Tryd.func29, Tryd.ntmps29
    go_upto_region 1 with fail
    have r1 := rowIs_box w 32 109 (recF x sv dv)
    have hN := NewT.alloc w (.cells (rowA 109 (recF x sv dv)) 32)
    change Code.wp _ _ _ _ (w.alloc (.cells (rowA 109 (recF x sv dv)) 32))
    generalize w.alloc (.cells (rowA 109 (recF x sv dv)) 32) = W0 at r1 hN ⊢
    have R1 := Lib.hid r1
    have HN := Lib.hid hN
    replace HX := Lib.hid (hN.recV HX.out)
    replace HS := Lib.hid (hN.pairs HS.out)
    replace HD := Lib.hid (hN.rd HD.out)
    clear r1 hN
    have c0 : W0.cell? ⟨w.heap.size, 0, none⟩ = some (.int .i64 x.kind) := R1.out.cell (by omega)
    rw [hk] at c0
    go_upto_region 13 with fail
    clear c0
    obtain ⟨q1_13, Q1_13⟩ : ∃ bq_, ((inR x.part 0 3) && (inR x.epoch 1 400)) = bq_ := ⟨_, rfl⟩
    refine wp_region_steps0 NewT [SV.eq (.pointer (some ⟨w.heap.size, 8, none⟩)), SV.eq (.int .i64 (x.part)), SV.eq (.bool (inR x.part 0 3)), SV.eq (.bool (inR x.part 0 3)), svIf (inR x.part 0 3) (SV.eq (.pointer (some ⟨w.heap.size, 9, none⟩))), svIf (inR x.part 0 3) (SV.eq (.int .i64 (x.epoch))), svIf (inR x.part 0 3) (SV.eq (.bool (inR x.epoch 1 400))), SV.eq (.bool (q1_13)), SV.eq (.bool (q1_13))] [([(1, none)], none), ([(71, some 0)], none), ([(72, some 1)], none), ([(73, some 2)], none), ([(1, none), (74, some 3)], some (74, true)), ([(75, some 4), (74, some 3)], some (74, true)), ([(76, some 5), (74, some 3)], some (74, true)), ([(74, some 3), (77, some 6)], none), ([(78, some 7)], none)] 79 9 rfl rfl (by kernel_rfl) NewT.trans (NewT.refl _) (Nat.le_of_ble_eq_true rfl) ⟨?_, ?_, ?_, ?_, ?_, ?_, ?_, ?_, ?_, trivial⟩ ?_
    · exact fun a wx hT hF K hK => rely_wp rfl (opr_fldR (by decide) rfl hF.1 (hK _ _ (NewT.refl _) rfl))
    · exact fun a wx hT hF K hK => rely_wp rfl (opr_ldI (hT.row R1.out) (by decide) rfl rfl hF.1 (hK _ _ (NewT.refl _) rfl))
    · exact fun a wx hT hF K hK => rely_wp rfl (opr_cv (isPart_cv x.part wx) rfl Tryd.func41 (by kernel_rfl) (by kernel_rfl) (evs1 hF.1) hK)
    · exact fun a wx hT hF K hK => rely_wp rfl (opr_move (.inl rfl) (hK _ _ (NewT.refl _) hF.1))
    · exact fun a wx hT hF K hK => rely_if (rely_gt hF.2.1) (NewT.refl _) hK fun hE hK => opr_fldR (by decide) rfl hF.1 (hK _ _ (NewT.refl _) rfl)
    · exact fun a wx hT hF K hK => rely_if (rely_gt hF.2.1) (NewT.refl _) hK fun hE hK => opr_ldI (hT.row R1.out) (by decide) rfl rfl (hF.1 hE) (hK _ _ (NewT.refl _) rfl)
    · exact fun a wx hT hF K hK => rely_if (rely_gt hF.2.1) (NewT.refl _) hK fun hE hK => opr_cv (within_cv x.epoch 1 400 wx) rfl Tryd.func42 (by kernel_rfl) (by kernel_rfl) (evs3 (hF.1 hE) rfl rfl) hK
    · exact fun a wx hT hF K hK => rely_wp rfl (opr_pick_b rfl hF.1 (fun hb => hK _ _ (NewT.refl _) (pn_and1 Q1_13 (hF.2.1 hb) hb)) (fun hb => hK _ _ (NewT.refl _) (pn_and0 Q1_13 hb)))
    · exact fun a wx hT hF K hK => rely_wp rfl (opr_move (.inr rfl) (hK _ _ (NewT.refl _) hF.1))
    · intro wx hT
      iterate 4 (intro u h; obtain rfl := Eq.symm (h (by simp)); clear h)
      iterate 3 (intro _ _)
      iterate 2 (intro u h; obtain rfl := Eq.symm (h (by simp)); clear h)
      subst Q1_13
      refine relyEnd_nil rfl ?_
      refine wpList_end rfl ?_
      simp only [Act.put, List.setIfInBounds_toArray, List.set_cons_zero, List.set_cons_succ]
      go_simp
      go_wp2
      go_ret
      exact ⟨_, rfl, NewT.trans _ _ _ HN.out hT, rfl⟩
  have k6 := hk
  clear hk
  have hI : inRg x = false := by unfold inRg; simp [k1, k2, k3, k4, k5, k6]
  rw [hI]
  clear hI
  go_enter Tryd.func29, Tryd.ntmps29
  go_upto_region 1 with fail
  have r1 := rowIs_box w 32 109 (recF x sv dv)
  have hN := NewT.alloc w (.cells (rowA 109 (recF x sv dv)) 32)
  change Code.wp _ _ _ _ (w.alloc (.cells (rowA 109 (recF x sv dv)) 32))
  generalize w.alloc (.cells (rowA 109 (recF x sv dv)) 32) = W0 at r1 hN ⊢
  have R1 := Lib.hid r1
  have HN := Lib.hid hN
  replace HX := Lib.hid (hN.recV HX.out)
  replace HS := Lib.hid (hN.pairs HS.out)
  replace HD := Lib.hid (hN.rd HD.out)
  clear r1 hN
  have c0 : W0.cell? ⟨w.heap.size, 0, none⟩ = some (.int .i64 x.kind) := R1.out.cell (by omega)
  have q1 : (x.kind == 1) = false := by simpa using k1
  have q2 : (x.kind == 2) = false := by simpa using k2
  have q3 : (x.kind == 3) = false := by simpa using k3
  have q4 : (x.kind == 4) = false := by simpa using k4
  have q5 : (x.kind == 5) = false := by simpa using k5
  have q6 : (x.kind == 6) = false := by simpa using k6
  generalize x.kind = kd at c0 q1 q2 q3 q4 q5 q6
  clear k1 k2 k3 k4 k5 k6
  go_wp2
  go_ret
  exact ⟨_, rfl, HN.out, rfl⟩
end Go.Proofs.YtilmeffmdgcblaaDoor
/- A region that draws its order and makes two arrays: beside the conditions of single operations a relation on the frame that each step keeps. -/
namespace Go.Proofs.YtilmeffmdgcblaaDoor
open Go Go.RowKit
set_option maxRecDepth 8000
set_option linter.all false

section
variable {P : Program} {ops : Array Oper} {Q : Exit → Act → World → Prop} {T : World → World → Prop} {V : List (SV T)} {J : Act → World → Prop} {a0 : Act} {w0 : World} {n : Nat} {D : Deps} {init tail : List Oper}
theorem rely_next (hn : a0.tmps.size = n) (ht : ∀ a b c : World, T a b → T b c → T a c) {i : Nat} {o : Oper} {dp : List (Tmp × Option Nat)} {g : Option (Tmp × Bool)} {listed : Array Bool} {a : Act} {w : World}
    (ho : ops[i]? = some o) (h1 : relyOne ops n i o dp g = true) (h0 : listed.getD i true = false)
    (hall : ∀ e ∈ o.after, Region.binds .any e = true → listed.getD e.on false = true) (inv : RelyInv ops T V a0 w0 listed a w) :
    relyFacts V a0 a w dp ∧ Region.wanted o (yielded ops a.tmps) = relyGuard g a ∧ ∀ v w', T w w' → (V.getD i SV.any).pred v w' → RelyInv ops T V a0 w0 (listed.setIfInBounds i true) (a.put o.dst v) w' := by
  simp only [relyOne, Bool.and_eq_true] at h1
  obtain ⟨⟨⟨hdst, hafter⟩, hdp⟩, hg⟩ := h1
  have waits : ∀ j, Region.waitsFor .any ops i j = true → listed.getD j false = true := fun j hj => by
    obtain ⟨oi, hoi, e, he, hb, hon⟩ := Region.waitsFor_spec hj
    have : oi = o := Option.some.inj (hoi.symm.trans ho)
    subst this
    rw [← hon]
    exact hall e he hb
  have i0 : listed.getD i false = false := getD_both h0
  have hfacts : relyFacts V a0 a w dp := by
      induction dp with
    | nil => trivial
    | cons x r ih2 =>
      simp only [List.all_cons, Bool.and_eq_true] at hdp
      obtain ⟨hx, hr⟩ := hdp
      obtain ⟨d, j⟩ := x
      cases j with
      | some j =>
        simp only [Bool.and_eq_true, beq_iff_eq] at hx
        exact ⟨inv.new j d hx.1 (waits j hx.2), ih2 hr⟩
      | none =>
        refine ⟨inv.old d fun j hj => ?_, ih2 hr⟩
        have hjlt : j < ops.size := by
          unfold relyDst at hj
          cases hoj : ops[j]? with
          | none => simp [hoj] at hj
          | some oj => exact (Array.getElem?_eq_some_iff.1 hoj).1
        have h2 := List.all_eq_true.1 hx j (List.mem_range.2 hjlt)
        simp only [hj, bne_self_eq_false, Bool.false_or, Bool.or_eq_true, decide_eq_true_eq] at h2
        rcases h2 with rfl | h2
        · exact i0
        · cases hlj : listed.getD j false with
          | false => rfl
          | true =>
            obtain ⟨oj, hoj, e, he, hb, hon⟩ := Region.waitsFor_spec h2
            have := inv.closed j oj hoj hlj e he hb
            rw [hon, i0] at this
            cases this
  have hguard : Region.wanted o (yielded ops a.tmps) = relyGuard g a := by
    unfold Region.wanted
    cases hgo : o.guard with
    | none =>
      rw [hgo] at hg
      cases g with
      | none => rfl
      | some x => cases hg
    | some kb =>
      obtain ⟨k, b⟩ := kb
      rw [hgo] at hg
      cases g with
      | none => cases hg
      | some x =>
        obtain ⟨d, b'⟩ := x
        simp only [Bool.and_eq_true, beq_iff_eq, decide_eq_true_eq] at hg
        obtain ⟨⟨⟨rfl, hd⟩, _⟩, hlt⟩ := hg
        have hlt' : d < a.tmps.size := by rw [inv.slots, hn]; exact hlt
        have hd' : (ops[k]?).bind (·.dst) = some d := hd
        simp only [yielded, hd', Option.bind_some, relyGuard, Array.getD_eq_getD_getElem?, Array.getElem?_eq_getElem hlt', Option.getD_some]
        cases a.tmps[d] <;> simp
        all_goals (rename_i x; cases x <;> cases b <;> rfl)
  have next : ∀ v w', T w w' → (V.getD i SV.any).pred v w' → RelyInv ops T V a0 w0 (listed.setIfInBounds i true) (a.put o.dst v) w' := fun v w' hT hv => by
    have hilt : i < listed.size := by rw [inv.size]; exact (Array.getElem?_eq_some_iff.1 ho).1
    refine ⟨by simp [inv.size], fun j oj hj hlj e he hb => ?_, ht _ _ _ inv.now hT, by cases o.dst <;> simp [Act.put, inv.slots], by cases o.dst <;> simp [Act.put, inv.defers], fun j d hj hlj => ?_, fun d hno => ?_⟩
    · by_cases hij : i = j
      · subst hij
        have : oj = o := Option.some.inj (hj.symm.trans ho)
        subst this
        exact getD_set_true (hall e he hb)
      · rw [getD_set_ne false hij] at hlj
        exact getD_set_true (inv.closed j oj hj hlj e he hb)
    · by_cases hij : i = j
      · subst hij
        have hd : o.dst = some d := by simpa [relyDst, ho] using hj
        rw [hd] at hdst
        simp only [Bool.and_eq_true, decide_eq_true_eq] at hdst
        have hlt : d < a.tmps.size := by rw [inv.slots, hn]; exact hdst.1
        rw [hd]
        simpa [Act.put, hlt] using hv
      · rw [getD_set_ne false hij] at hlj
        have h3 := (V.getD j SV.any).stable _ _ _ (inv.new j d hj hlj) hT
        cases hod : o.dst with
        | none => exact h3
        | some d0 =>
          rw [hod] at hdst
          simp only [Bool.and_eq_true, decide_eq_true_eq] at hdst
          have hjlt : j < ops.size := by
            unfold relyDst at hj
            cases hoj : ops[j]? with
            | none => simp [hoj] at hj
            | some oj => exact (Array.getElem?_eq_some_iff.1 hoj).1
          have h4 := List.all_eq_true.1 hdst.2 j (List.mem_range.2 hjlt)
          simp only [Bool.or_eq_true, decide_eq_true_eq, bne_iff_ne, ne_eq] at h4
          have hne : d0 ≠ d := fun e => by
            subst e
            rcases h4 with h4 | h4
            · exact hij h4.symm
            · exact h4 hj
          simpa [Act.put, Array.getElem?_setIfInBounds_ne hne] using h3
    · have hni : o.dst ≠ some d := fun hd => by
        have := hno i (by simp [relyDst, ho, hd])
        simp [hilt] at this
      have hold := inv.old d fun j hj => by
        have hij : i ≠ j := fun e => by subst e; exact hni (by simpa [relyDst, ho] using hj)
        have := hno j hj
        rwa [getD_set_ne false hij] at this
      cases hod : o.dst with
      | none => exact hold
      | some d0 =>
        have hne : d0 ≠ d := fun e => hni (by rw [hod, e])
        simpa [Act.put, Array.getElem?_setIfInBounds_ne hne] using hold
  exact ⟨hfacts, hguard, next⟩
end
/-- Two slots hold pointers to different blocks, both there. -/
def TwoPtr (p q : Tmp) (a : Act) (w : World) : Prop :=
  (∀ g, a.tmps.getD p undef = .pointer (some ⟨g, 0, none⟩) → g < w.heap.size) ∧ (∀ g, a.tmps.getD q undef = .pointer (some ⟨g, 0, none⟩) → g < w.heap.size) ∧
    ∀ g g', a.tmps.getD p undef = .pointer (some ⟨g, 0, none⟩) → a.tmps.getD q undef = .pointer (some ⟨g', 0, none⟩) → g ≠ g'
theorem put_other {a : Act} {d : Option Tmp} {p : Tmp} (v : Value) (h : d ≠ some p) : (a.put d v).tmps.getD p undef = a.tmps.getD p undef := by
  cases d with
  | none => rfl
  | some d =>
    have hne : d ≠ p := fun e => h (by rw [e])
    simp [Act.put, Array.getElem?_setIfInBounds_ne hne]
theorem TwoPtr.keep {p q : Tmp} {a : Act} {w w' : World} {d : Option Tmp} {v : Value} (h : TwoPtr p q a w) (hp : d ≠ some p) (hq : d ≠ some q) (hT : NewT w w') : TwoPtr p q (a.put d v) w' := by
  unfold TwoPtr
  rw [put_other v hp, put_other v hq]
  exact ⟨fun g hg => Nat.lt_of_lt_of_le (h.1 g hg) hT.out.size, fun g hg => Nat.lt_of_lt_of_le (h.2.1 g hg) hT.out.size, h.2.2⟩
theorem put_same {a : Act} {p : Tmp} {g g' : Nat} (h : (a.put (some p) (.pointer (some ⟨g, 0, none⟩))).tmps.getD p undef = .pointer (some ⟨g', 0, none⟩)) : g' = g := by
  rcases Nat.lt_or_ge p a.tmps.size with hlt | hge
  · simp [Act.put, hlt] at h; exact h.symm
  · simp [Act.put, undef, Nat.not_lt.2 hge] at h
theorem TwoPtr.first {p q : Tmp} {a : Act} {w : World} {o : Obj} (h : TwoPtr p q a w) (hpq : p ≠ q) : TwoPtr p q (a.put (some p) (.pointer (some ⟨w.heap.size, 0, none⟩))) (w.alloc o) := by
  unfold TwoPtr
  rw [put_other (p := q) (d := some p) _ (by simpa using hpq)]
  refine ⟨fun g hg => by rw [put_same hg]; simp, fun g hg => by have := h.2.1 g hg; simp; omega, fun g g' hg hg' => ?_⟩
  have := h.2.1 g' hg'
  rw [put_same hg]; omega
end Go.Proofs.YtilmeffmdgcblaaDoor
/- A region that draws its order, some of whose operations turn a state one behind the other (each waits for the one ahead): beside the conditions of single operations a statement on the world for each phase. No program is named here. -/
namespace Go.Proofs.YtilmeffmdgcblaaDoor
open Go Go.RowKit
set_option maxRecDepth 8000
set_option linter.all false

/-- One operation: it turns phase k into the next one (some k), or keeps whatever phase there is (none). -/
def relyStepP (P : Program) (Q : Exit → Act → World → Prop) (T : World → World → Prop) (V : List (SV T)) (J : Nat → World → Prop) (a0 : Act) (w0 : World) (o : Oper) (dp : List (Tmp × Option Nat)) (g : Option (Tmp × Bool)) (c : SV T) : Option Nat → Prop
  | none => ∀ (a : Act) (w : World), T w0 w → relyFacts V a0 a w dp → ∀ K : Act → World → Prop, (∀ v w', T w w' → (∀ k, J k w → J k w') → c.pred v w' → K (a.put o.dst v) w') →
    if relyGuard g a then o.wp P a w K Q else K (a.put o.dst undef) w
  | some k => ∀ (a : Act) (w : World), T w0 w → relyFacts V a0 a w dp → J k w → ∀ K : Act → World → Prop, (∀ v w', T w w' → J (k + 1) w' → c.pred v w' → K (a.put o.dst v) w') →
    if relyGuard g a then o.wp P a w K Q else K (a.put o.dst undef) w
def relyAllP (P : Program) (Q : Exit → Act → World → Prop) (T : World → World → Prop) (V : List (SV T)) (J : Nat → World → Prop) (a0 : Act) (w0 : World) : List Oper → Deps → List (SV T) → List (Option Nat) → Prop
  | [], _, _, _ => True
  | o :: r, (dp, g) :: D, c :: C, s :: S => relyStepP P Q T V J a0 w0 o dp g c s ∧ relyAllP P Q T V J a0 w0 r D C S
  | _, _, _, _ => False
/-- Each of the path's operations waits for the one ahead. -/
def pathB (ops : Array Oper) : List Nat → Bool
  | i :: j :: r => Region.waitsFor .any ops j i && pathB ops (j :: r)
  | _ => true
def placesB (path : List Nat) (S : List (Option Nat)) : Bool := decide path.Nodup && (List.range S.length).all fun i => S.getD i none == path.findIdx? (· == i)
section
variable {P : Program} {ops : Array Oper} {Q : Exit → Act → World → Prop} {T : World → World → Prop} {V : List (SV T)} {J : Nat → World → Prop} {a0 : Act} {w0 : World} {n : Nat} {D : Deps} {S : List (Option Nat)} {path : List Nat} {init : List Oper} {last : Oper}
theorem pathB_at : ∀ (path : List Nat) (j i i' : Nat), pathB ops path = true → path[j]? = some i → path[j + 1]? = some i' → Region.waitsFor .any ops i' i = true
  | [], _, _, _, _, h, _ => by simp at h
  | [x], j, _, _, _, _, h => by simp at h
  | x :: y :: r, 0, i, i', h, h1, h2 => by
    simp only [pathB, Bool.and_eq_true] at h
    simp at h1 h2
    subst h1 h2
    exact h.1
  | x :: y :: r, j + 1, i, i', h, h1, h2 => by
    simp only [pathB, Bool.and_eq_true] at h
    exact pathB_at (y :: r) j i i' h.2 (by simpa using h1) (by simpa using h2)
theorem relyAllP_at : ∀ (l : List Oper) (D : Deps) (C : List (SV T)) (S : List (Option Nat)) (k : Nat) (o : Oper) dp g, relyAllP P Q T V J a0 w0 l D C S → l[k]? = some o → D[k]? = some (dp, g) → relyStepP P Q T V J a0 w0 o dp g (C.getD k SV.any) (S.getD k none)
  | [], _, _, _, _, _, _, _, _, h, _ => by simp at h
  | x :: r, [], _, _, _, _, _, _, h, _, _ => h.elim
  | x :: r, y :: D, [], _, _, _, _, _, h, _, _ => h.elim
  | x :: r, y :: D, c :: C, [], _, _, _, _, h, _, _ => h.elim
  | x :: r, (dp, g) :: D, c :: C, s :: S, 0, o, dp', g', h, ho, hD => by
    simp at ho hD
    obtain ⟨rfl, rfl⟩ := hD
    subst ho
    exact h.1
  | x :: r, (dp, g) :: D, c :: C, s :: S, k + 1, o, dp', g', h, ho, hD => by
    have := relyAllP_at r D C S k o dp' g' h.2 (by simpa using ho) (by simpa using hD)
    simpa using this
/-- So many of the path's operations have come up. -/
structure PhInv (path : List Nat) (J : Nat → World → Prop) (listed : Array Bool) (w : World) (k : Nat) : Prop where
  le : k ≤ path.length
  done : ∀ j i, j < k → path[j]? = some i → listed.getD i false = true
  left : ∀ j i, k ≤ j → path[j]? = some i → listed.getD i false = false
  now : J k w
theorem ph_other {listed : Array Bool} {w w' : World} {k i : Nat} (h : PhInv path J listed w k) (hi : i ∉ path) (hJ : J k w') : PhInv path J (listed.setIfInBounds i true) w' k := by
  have hne : ∀ (j x : Nat), path[j]? = some x → i ≠ x := fun j x hx e => hi (e ▸ List.mem_of_getElem? hx)
  exact ⟨h.le, fun j x hj hx => by rw [getD_set_ne false (hne j x hx)]; exact h.done j x hj hx, fun j x hj hx => by rw [getD_set_ne false (hne j x hx)]; exact h.left j x hj hx, hJ⟩
theorem ph_own (hnd : path.Nodup) {listed : Array Bool} {w w' : World} {k i : Nat} (hlt : i < listed.size) (h : PhInv path J listed w k) (hi : path[k]? = some i) (hJ : J (k + 1) w') : PhInv path J (listed.setIfInBounds i true) w' (k + 1) := by
  have hk : k < path.length := (List.getElem?_eq_some_iff.1 hi).1
  have hinj : ∀ (j x : Nat), path[j]? = some x → j ≠ k → i ≠ x := fun j x hx hjk e => by
    subst e
    obtain ⟨h1, h2⟩ := List.getElem?_eq_some_iff.1 hx
    obtain ⟨h3, h4⟩ := List.getElem?_eq_some_iff.1 hi
    exact hjk ((List.getElem_inj hnd).1 (h2.trans h4.symm))
  refine ⟨hk, fun j x hj hx => ?_, fun j x hj hx => ?_, hJ⟩
  · by_cases e : j = k
    · subst e
      rw [hi] at hx
      cases hx
      simp [hlt]
    · rw [getD_set_ne false (hinj j x hx e)]; exact h.done j x (by omega) hx
  · rw [getD_set_ne false (hinj j x hx (by omega))]; exact h.left j x (by omega) hx
theorem wpAny_relyP {Q2 : Exit → Act → World → Prop} (hQ : ∀ (o : Oper) (a : Act) (w : World) (K : Act → World → Prop), a.defers = a0.defers → o.wp P a w K Q2 → o.wp P a w K Q) (hsplit : ops.toList = init ++ [last]) (hn : a0.tmps.size = n) (hB : relyB ops n 0 init D = true) (hlast : lastB ops last init.length = true) (hg : last.guard = none) (ht : ∀ a b c : World, T a b → T b c → T a c)
    (hpath : pathB ops path = true) (hplace : placesB path S = true) (hSl : S.length = init.length) (hpl : ∀ i ∈ path, i < init.length)
    (hl : init.length ≤ V.length) (hA : relyAllP P Q2 T V J a0 w0 init D V S) (hE : ∀ w, T w0 w → J path.length w → relyEnd (fun _ a w => last.wp P a w (fun a' w' => Q .normal a' w') Q) T init V a0 w) :
    ∀ (fuel : Nat) (listed : Array Bool) (a : Act) (w : World) (k : Nat), (unl ops listed).length = fuel → listed.getD init.length true = false → RelyInv ops T V a0 w0 listed a w → PhInv path J listed w k → wpAny P .any ops Q fuel listed a w := by
  obtain ⟨hlo, hsz, hpre⟩ := last_at hsplit
  simp only [lastB, Bool.and_eq_true] at hlast
  simp only [placesB, Bool.and_eq_true, decide_eq_true_eq] at hplace
  obtain ⟨hnd, hpos⟩ := hplace
  have hS : ∀ i, i < init.length → S.getD i none = path.findIdx? (· == i) := fun i hi => by
    have := List.all_eq_true.1 hpos i (List.mem_range.2 (by omega))
    simpa using this
  have hat : ∀ i o, init[i]? = some o → ∃ dp g, relyOne ops n i o dp g = true ∧ relyStepP P Q2 T V J a0 w0 o dp g (V.getD i SV.any) (path.findIdx? (· == i)) := fun i o hi => by
    obtain ⟨dp, g, hD, h1⟩ := relyB_at init D 0 i o hB hi
    rw [Nat.zero_add] at h1
    refine ⟨dp, g, h1, ?_⟩
    rw [← hS i (List.getElem?_eq_some_iff.1 hi).1]
    exact relyAllP_at _ _ _ _ i o dp g hA hi hD
  intro fuel
  induction fuel with
  | zero =>
    intro listed a w k hu hun inv _
    have : init.length ∈ unl ops listed := by
      unfold unl; rw [List.mem_filter]; exact ⟨List.mem_range.2 (by omega), by rw [hun]; rfl⟩
    rw [List.eq_nil_of_length_eq_zero hu] at this
    cases this
  | succ fuel ih =>
    intro listed a w k hu hun inv ph
    refine ⟨fun hr => ?_, fun i hi => ?_⟩
    · exfalso
      have all : ∀ i, i < init.length → listed.getD i false = true := fun i => by
        induction i using Nat.strongRecOn with
        | _ i ih =>
          intro hi
          cases hli : listed.getD i false with
          | true => rfl
          | false =>
            exfalso
            have hmem : i ∈ Region.ready .any ops listed := by
              rw [mem_ready]
              refine ⟨getD_in (by rw [inv.size]; omega) hli, init[i], hpre i _ (List.getElem?_eq_getElem hi), fun e he hb => ?_⟩
              obtain ⟨dp, g, h1, _⟩ := hat i init[i] (List.getElem?_eq_getElem hi)
              simp only [relyOne, Bool.and_eq_true] at h1
              have h2 := (Array.all_eq_true_iff_forall_mem.1 h1.1.1.2) e he
              simp only [hb, Bool.not_true, Bool.false_or, decide_eq_true_eq] at h2
              exact ih e.on h2 (by omega)
            rw [hr] at hmem
            cases hmem
      have hmem : init.length ∈ Region.ready .any ops listed := by
        rw [mem_ready]
        refine ⟨hun, last, hlo, fun e he hb => ?_⟩
        have h2 := (Array.all_eq_true_iff_forall_mem.1 hlast.2) e he
        simp only [hb, Bool.not_true, Bool.false_or, decide_eq_true_eq] at h2
        exact all e.on h2
      rw [hr] at hmem
      cases hmem
    · obtain ⟨h0, o, ho, hall⟩ := mem_ready.1 hi
      have hilt := (Array.getElem?_eq_some_iff.1 ho).1
      by_cases him : i = init.length
      · subst him
        have hol : o = last := Option.some.inj (ho.symm.trans hlo)
        subst hol
        have hdone : ∀ (d j : Nat), init.length - j = d → j < init.length → listed.getD j false = true := fun d => by
          induction d using Nat.strongRecOn with
          | _ d ihd =>
            intro j hd hj
            have h1 := List.all_eq_true.1 hlast.1 j (List.mem_range.2 hj)
            obtain ⟨t, ht1, ht2⟩ := List.any_eq_true.1 h1
            simp only [Bool.and_eq_true, decide_eq_true_eq] at ht2
            obtain ⟨ot, hot, e, he, hb, hon⟩ := Region.waitsFor_spec ht2.2
            have htle : t ≤ init.length := by have := List.mem_range.1 ht1; omega
            rw [← hon]
            by_cases htm : t = init.length
            · subst htm
              have : ot = o := Option.some.inj (hot.symm.trans ho)
              subst this
              exact hall e he hb
            · exact inv.closed t ot hot (ihd (init.length - t) (by omega) t rfl (by omega)) e he hb
        replace hdone : ∀ j, j < init.length → listed.getD j false = true := fun j hj => hdone _ j rfl hj
        have hk : k = path.length := by
          rcases Nat.lt_or_ge k path.length with h | h
          · exfalso
            have h1 := ph.left k path[k] (Nat.le_refl _) (List.getElem?_eq_getElem h)
            rw [hdone _ (hpl _ (List.getElem_mem h))] at h1
            cases h1
          · have := ph.le; omega
        subst hk
        have hJ := ph.now
        have h1 : o.wp P a w (fun a' w' => Q .normal a' w') Q := rely_all (Q' := fun a w => o.wp P a w (fun a' w' => Q .normal a' w') Q) inv
          (fun k o hk => ⟨hpre k o hk, hdone k (List.getElem?_eq_some_iff.1 hk).1⟩) (fun j hj => by
            rcases Nat.lt_or_ge j init.length with h | h
            · exact h
            · rcases Nat.eq_or_lt_of_le h with h | h
              · subst h; rw [getD_both hun] at hj; cases hj
              · have : listed.getD j false = false := by simp [Array.getElem?_eq_none (show listed.size ≤ j by rw [inv.size]; omega)]
                rw [this] at hj; cases hj) hl (hE w inv.now hJ)
        have hK : ∀ a' w', Q .normal a' w' → wpAny P .any ops Q fuel (listed.setIfInBounds init.length true) a' w' := fun a' w' h => wpAny_done (ready_none fun j hj => by
          by_cases hj2 : j = init.length
          · subst hj2; simp [show init.length < listed.size by rw [inv.size]; exact hj]
          · exact getD_set_true (hdone j (by omega))) h _
        unfold wpOp
        simp only [hlo, Region.wanted, hg, if_true]
        exact .inl (Oper.wp_mono hK h1)
      · have hi' : i < init.length := by omega
        have hio : init[i]? = some o := by
          have := hpre i init[i] (List.getElem?_eq_getElem hi')
          rw [ho] at this
          rw [List.getElem?_eq_getElem hi', Option.some.inj this]
        obtain ⟨dp, g, h1, hstep⟩ := hat i o hio
        obtain ⟨hfacts, hguard, next⟩ := rely_next hn ht ho h1 h0 hall inv
        have i0 : listed.getD i false = false := getD_both h0
        have hs : if relyGuard g a then o.wp P a w (fun a' w' => wpAny P .any ops Q fuel (listed.setIfInBounds i true) a' w') Q2 else wpAny P .any ops Q fuel (listed.setIfInBounds i true) (a.put o.dst undef) w := by
          cases hf : path.findIdx? (· == i) with
          | none =>
            rw [hf] at hstep
            have hni : i ∉ path := fun hm => by
              rw [List.findIdx?_eq_none_iff] at hf
              have := hf i hm
              simp at this
            exact hstep a w inv.now hfacts (fun a' w' => wpAny P .any ops Q fuel (listed.setIfInBounds i true) a' w') (fun v w' hT hJ hv => ih _ _ w' k (by have := unl_set inv.size h0; omega) (by rw [getD_set_ne true him]; exact hun) (next v w' hT hv) (ph_other ph hni (hJ k ph.now)))
          | some j =>
            rw [hf] at hstep
            have hpj : path[j]? = some i := by
              obtain ⟨h1, h2, _⟩ := List.findIdx?_eq_some_iff_getElem.1 hf
              rw [List.getElem?_eq_getElem h1]
              simpa using h2
            have hkj : k = j := by
              rcases Nat.lt_trichotomy j k with h | h | h
              · have := ph.done j i h hpj
                rw [i0] at this; cases this
              · exact h.symm
              · exfalso
                obtain ⟨j', rfl⟩ : ∃ j', j = j' + 1 := ⟨j - 1, by omega⟩
                have hlj : j' < path.length := by have := (List.getElem?_eq_some_iff.1 hpj).1; omega
                have hw := pathB_at path j' path[j'] i hpath (List.getElem?_eq_getElem hlj) hpj
                obtain ⟨oi, hoi, e, he, hb, hon⟩ := Region.waitsFor_spec hw
                have : oi = o := Option.some.inj (hoi.symm.trans ho)
                subst this
                have h2 := hall e he hb
                rw [hon, ph.left j' _ (by omega) (List.getElem?_eq_getElem hlj)] at h2
                cases h2
            subst hkj
            exact hstep a w inv.now hfacts ph.now (fun a' w' => wpAny P .any ops Q fuel (listed.setIfInBounds i true) a' w') (fun v w' hT hJ hv => ih _ _ w' (k + 1) (by have := unl_set inv.size h0; omega) (by rw [getD_set_ne true him]; exact hun) (next v w' hT hv) (ph_own hnd (by rw [inv.size]; exact hilt) ph hpj hJ))
        unfold wpOp
        simp only [ho, hguard]
        split
        · rename_i hw; rw [if_pos hw] at hs; exact .inl (hQ _ _ _ _ inv.defers hs)
        · rename_i hw; rw [if_neg hw] at hs; exact hs
/-- **A region that draws its order and turns a state step by step.** -/
theorem wp_region_relyQ {id : Nat} {Q2 : Exit → Act → World → Prop} (hQ : ∀ (o : Oper) (a : Act) (w : World) (K : Act → World → Prop), a.defers = a0.defers → o.wp P a w K Q2 → o.wp P a w K Q) (T : World → World → Prop) (J : Nat → World → Prop) (V : List (SV T)) (D : Deps) (S : List (Option Nat)) (path : List Nat) (n : Nat) (hla : ops.toList.getLast? = some last) (hm : P.follows .mixedOrders = true) (hn : a0.tmps.size = n) (hB : relyB ops n 0 ops.toList.dropLast D = true)
    (hlast : lastB ops last ops.toList.dropLast.length = true) (hg : last.guard = none) (hpath : (pathB ops path && placesB path S && decide (S.length = ops.toList.dropLast.length) && path.all fun i => decide (i < ops.toList.dropLast.length)) = true)
    (ht : ∀ a b c : World, T a b → T b c → T a c) (hd : T w0 w0.drew) (hJ : J 0 w0.drew) (hl : ops.toList.dropLast.length ≤ V.length)
    (hA : relyAllP P Q2 T V J a0 w0 ops.toList.dropLast D V S) (hE : ∀ w, T w0 w → J path.length w → relyEnd (fun _ a w => last.wp P a w (fun a' w' => Q .normal a' w') Q) T ops.toList.dropLast V a0 w) : (Code.region id ops true).wp P Q a0 w0 := by
  have hsplit := split_last hla
  obtain ⟨_, hsz, _⟩ := last_at hsplit
  simp only [Bool.and_eq_true, decide_eq_true_eq] at hpath
  obtain ⟨⟨⟨h1, h2⟩, h3⟩, h4⟩ := hpath
  refine wp_region_any hm ?_
  exact wpAny_relyP hQ hsplit hn hB hlast hg ht h1 h2 h3 (fun i hi => by simpa using List.all_eq_true.1 h4 i hi) hl hA hE ops.size _ a0 w0.drew 0 unl_start (by
    have hlt : ops.toList.dropLast.length < ops.size := by omega
    generalize ops.toList.dropLast.length = m at hlt
    simp [hlt]) (rely_start hd) ⟨Nat.zero_le _, fun j i hj => by omega, fun j i _ _ => getD_replicate_false .., hJ⟩
theorem wp_region_relyP {id : Nat} (T : World → World → Prop) (J : Nat → World → Prop) (V : List (SV T)) (D : Deps) (S : List (Option Nat)) (path : List Nat) (n : Nat) (hla : ops.toList.getLast? = some last) (hm : P.follows .mixedOrders = true) (hn : a0.tmps.size = n) (hB : relyB ops n 0 ops.toList.dropLast D = true)
    (hlast : lastB ops last ops.toList.dropLast.length = true) (hg : last.guard = none) (hpath : (pathB ops path && placesB path S && decide (S.length = ops.toList.dropLast.length) && path.all fun i => decide (i < ops.toList.dropLast.length)) = true)
    (ht : ∀ a b c : World, T a b → T b c → T a c) (hd : T w0 w0.drew) (hJ : J 0 w0.drew) (hl : ops.toList.dropLast.length ≤ V.length)
    (hA : relyAllP P Q T V J a0 w0 ops.toList.dropLast D V S) (hE : ∀ w, T w0 w → J path.length w → relyEnd (fun _ a w => last.wp P a w (fun a' w' => Q .normal a' w') Q) T ops.toList.dropLast V a0 w) : (Code.region id ops true).wp P Q a0 w0 :=
  wp_region_relyQ (fun _ _ _ _ _ h => h) T J V D S path n hla hm hn hB hlast hg hpath ht hd hJ hl hA hE
end
end Go.Proofs.YtilmeffmdgcblaaDoor
