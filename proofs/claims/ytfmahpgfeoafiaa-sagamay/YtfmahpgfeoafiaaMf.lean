/- The reference's sagas: whether steps may be, new ones, sets asked by halving, the step that is undone next. -/
import Derived.Test.YtfmahpgfeoafiaaMd
import Derived.Test.YtfmahpgfeoafiaaMc
import Derived.Test.YtfmahpgfeoafiaaMe
set_option linter.all false
namespace Go.Proofs.Ytfmahpgfeoafiaa
open Go Go.RowKit
set_option maxRecDepth 8000
set_option linter.all false
set_option maxHeartbeats 4000000 in
theorem rMay_cv (v : Value) (l : List (Int × Int)) (w : World) (h : RdP w v l) : Cv 10 #[v] w (.eq (.bool (mayL l))) := by
  unfold Cv
  have HS := Lib.hid h
  obtain ⟨A0, cap, rfl, h1, h2, h3⟩ := h
  unfold maxLen at h2
  clear h3
  obtain ⟨n, hn⟩ : ∃ n, l.length = n := ⟨_, rfl⟩
  rw [hn] at h1 HS ⊢
  have Hn := Lib.hid hn
  clear hn
  go_enter Try.func10, Try.ntmps10
  go_upto_region 1 with fail
  have HM := Lib.hid (NewT.refl w)
  go_upto_region 1 with fail
  obtain ⟨q1_1, Q1_1⟩ : ∃ bq_, ((decide (((List.length (l) : Int)) < 1)) || (decide (6 < ((List.length (l) : Int))))) = bq_ := ⟨_, rfl⟩
  refine wp_region_steps0 NewT [SV.eq ((.slice A0 n cap)), SV.eq (.int .i64 ((List.length (l) : Int))), SV.eq (.bool (decide (((List.length (l) : Int)) < 1))), SV.eq (.bool (decide (((List.length (l) : Int)) < 1))), svIf ((!(decide (((List.length (l) : Int)) < 1)))) (SV.eq ((.slice A0 n cap))), svIf ((!(decide (((List.length (l) : Int)) < 1)))) (SV.eq (.int .i64 ((List.length (l) : Int)))), svIf ((!(decide (((List.length (l) : Int)) < 1)))) (SV.eq (.bool (decide (6 < ((List.length (l) : Int)))))), SV.eq (.bool (q1_1))] [([(0, none)], none), ([(4, some 0)], none), ([(5, some 1)], none), ([(6, some 2)], none), ([(0, none), (7, some 3)], some (7, false)), ([(8, some 4), (7, some 3)], some (7, false)), ([(9, some 5), (7, some 3)], some (7, false)), ([(7, some 3), (10, some 6)], none)] 81 8 rfl rfl (by kernel_rfl) NewT.trans (NewT.refl _) (Nat.le_of_ble_eq_true rfl) ⟨?_, ?_, ?_, ?_, ?_, ?_, ?_, ?_, trivial⟩ ?_
  · exact fun a wx hT hF K hK => rely_wp rfl (opr_move (.inl rfl) (hK _ _ (NewT.refl _) hF.1))
  · intro a wx hT hF K hK
    obtain ⟨f4, _⟩ := hF
    have f4 : a.tmps.getD 4 undef = (.slice A0 n cap) := f4
    refine rely_wp rfl ?_
    exact opr_len_pairs rfl (by rw [eval_tmp, f4]; exact ((NewT.trans _ _ _ HM.out hT).pairs HS.out)) (hK _ _ (NewT.refl _) rfl)
  · exact fun a wx hT hF K hK => rely_wp rfl (opr_cmp (b := decide (((List.length (l) : Int)) < 1)) (.inr (.inr (.inr (.inl ⟨rfl, rfl⟩)))) Try.underlying3 rfl hF.1 rfl (hK _ _ (NewT.refl _) rfl))
  · exact fun a wx hT hF K hK => rely_wp rfl (opr_move (.inl rfl) (hK _ _ (NewT.refl _) hF.1))
  · exact fun a wx hT hF K hK => rely_if (rely_gf hF.2.1) (NewT.refl _) hK fun hE hK => opr_move (.inl rfl) (hK _ _ (NewT.refl _) hF.1)
  · intro a wx hT hF K hK
    obtain ⟨f8, f7, _⟩ := hF
    have f8 : ((!(decide (((List.length (l) : Int)) < 1)))) = true → a.tmps.getD 8 undef = (.slice A0 n cap) := f8
    have f7 : a.tmps.getD 7 undef = .bool (decide (((List.length (l) : Int)) < 1)) := f7
    refine rely_if (rely_gf f7) (NewT.refl _) hK (fun hE hK => ?_)
    exact opr_len_pairs rfl (by rw [eval_tmp, (f8 hE)]; exact ((NewT.trans _ _ _ HM.out hT).pairs HS.out)) (hK _ _ (NewT.refl _) rfl)
  · exact fun a wx hT hF K hK => rely_if (rely_gf hF.2.1) (NewT.refl _) hK fun hE hK => opr_cmp (b := decide (6 < ((List.length (l) : Int)))) (.inr (.inr (.inr (.inr (.inl ⟨rfl, rfl⟩))))) Try.underlying3 rfl (hF.1 hE) rfl (hK _ _ (NewT.refl _) rfl)
  · exact fun a wx hT hF K hK => rely_wp rfl (opr_pick_b rfl hF.1 (fun hb => hK _ _ (NewT.refl _) (pn_or1 Q1_1 hb)) (fun hb => hK _ _ (NewT.refl _) (pn_or0 Q1_1 (hF.2.1 (bnot hb)) hb)))
  · intro w1 k1
    iterate 4 (intro u h; obtain rfl := Eq.symm (h (by simp)); clear h)
    iterate 3 (intro _ _)
    intro u h; obtain rfl := Eq.symm (h (by simp)); clear h
    subst Q1_1
    refine relyEnd_nil rfl ?_
    refine wpList_end rfl ?_
    simp only [Act.put, List.setIfInBounds_toArray, List.set_cons_zero, List.set_cons_succ]
    go_simp
    replace HM := Lib.hid (NewT.trans _ _ _ HM.out k1)
    clear k1
    rw [Hn.out]
    cases hq : (decide ((n : Int) < 1) || decide (6 < (n : Int)))
    · have hr : 1 ≤ n ∧ n ≤ 6 := by
        rw [Bool.or_eq_false_iff, decide_eq_false_iff_not, decide_eq_false_iff_not] at hq
        omega
      have HR := Lib.hid hr
      clear hq
      go_wp2_with fail
      go_loopw [3] (fun i wr => ∃ k : Nat, k ≤ n ∧ i = .int .i64 k ∧ Hid (upMay l k = true) ∧ Hid (NewT w wr)) (fun i _ => n - (intOf i).toNat)
      case atStart => exact ⟨0, by omega, rfl, Lib.hid rfl, HM⟩
      case round =>
        clear HM
        obtain ⟨k, hk, rfl, HU, HM⟩ := hrel
        by_cases hlt : k < n
        · have HKL : Hid (k < l.length) := Lib.hid (by rw [Hn.out]; exact hlt)
          obtain ⟨d, HDD⟩ := hid_ex (l.getD k (0, 0))
          have it : (k : Int) < (n : Int) := by omega
          go_upto_region 6 with fail
          obtain ⟨q1_6, Q1_6⟩ : ∃ bq_, ((decide (((d).1) < 0)) || (decide (3 < ((d).1)))) = bq_ := ⟨_, rfl⟩
          obtain ⟨q2_6, Q2_6⟩ : ∃ bq_, ((q1_6 || (decide (((d).2) < 1))) || (decide (3 < ((d).2)))) = bq_ := ⟨_, rfl⟩
          refine wp_region_steps0 NewT [SV.eq ((.slice A0 n cap)), SV.eq (.int .i64 ((k : Int))), svStp (d), svIp (d).1, SV.eq (.int .i64 ((d).1)), SV.eq (.bool (decide (((d).1) < 0))), SV.eq (.bool (decide (((d).1) < 0))), svIf ((!(decide (((d).1) < 0)))) (SV.eq ((.slice A0 n cap))), svIf ((!(decide (((d).1) < 0)))) (SV.eq (.int .i64 ((k : Int)))), svIf ((!(decide (((d).1) < 0)))) (svStp (d)), svIf ((!(decide (((d).1) < 0)))) (svIp (d).1), svIf ((!(decide (((d).1) < 0)))) (SV.eq (.int .i64 ((d).1))), svIf ((!(decide (((d).1) < 0)))) (SV.eq (.bool (decide (3 < ((d).1))))), SV.eq (.bool (q1_6)), SV.eq (.bool (q1_6)), svIf ((!q1_6)) (SV.eq ((.slice A0 n cap))), svIf ((!q1_6)) (SV.eq (.int .i64 ((k : Int)))), svIf ((!q1_6)) (svStp (d)), svIf ((!q1_6)) (svIp (d).2), svIf ((!q1_6)) (SV.eq (.int .i64 ((d).2))), svIf ((!q1_6)) (SV.eq (.bool (decide (((d).2) < 1)))), SV.eq (.bool (q1_6 || (decide (((d).2) < 1)))), SV.eq (.bool (q1_6 || (decide (((d).2) < 1)))), svIf ((!(q1_6 || (decide (((d).2) < 1))))) (SV.eq ((.slice A0 n cap))), svIf ((!(q1_6 || (decide (((d).2) < 1))))) (SV.eq (.int .i64 ((k : Int)))), svIf ((!(q1_6 || (decide (((d).2) < 1))))) (svStp (d)), svIf ((!(q1_6 || (decide (((d).2) < 1))))) (svIp (d).2), svIf ((!(q1_6 || (decide (((d).2) < 1))))) (SV.eq (.int .i64 ((d).2))), svIf ((!(q1_6 || (decide (((d).2) < 1))))) (SV.eq (.bool (decide (3 < ((d).2))))), SV.eq (.bool (q2_6))] [([(0, none)], none), ([(3, none)], none), ([(18, some 0), (19, some 1)], none), ([(20, some 2)], none), ([(21, some 3)], none), ([(22, some 4)], none), ([(23, some 5)], none), ([(0, none), (24, some 6)], some (24, false)), ([(3, none), (24, some 6)], some (24, false)), ([(25, some 7), (26, some 8), (24, some 6)], some (24, false)), ([(27, some 9), (24, some 6)], some (24, false)), ([(28, some 10), (24, some 6)], some (24, false)), ([(29, some 11), (24, some 6)], some (24, false)), ([(24, some 6), (30, some 12)], none), ([(31, some 13)], none), ([(0, none), (32, some 14)], some (32, false)), ([(3, none), (32, some 14)], some (32, false)), ([(33, some 15), (34, some 16), (32, some 14)], some (32, false)), ([(35, some 17), (32, some 14)], some (32, false)), ([(36, some 18), (32, some 14)], some (32, false)), ([(37, some 19), (32, some 14)], some (32, false)), ([(32, some 14), (38, some 20)], none), ([(39, some 21)], none), ([(0, none), (40, some 22)], some (40, false)), ([(3, none), (40, some 22)], some (40, false)), ([(41, some 23), (42, some 24), (40, some 22)], some (40, false)), ([(43, some 25), (40, some 22)], some (40, false)), ([(44, some 26), (40, some 22)], some (40, false)), ([(45, some 27), (40, some 22)], some (40, false)), ([(40, some 22), (46, some 28)], none)] 81 30 rfl rfl (by kernel_rfl) NewT.trans (NewT.refl _) (Nat.le_of_ble_eq_true rfl) ⟨?_, ?_, ?_, ?_, ?_, ?_, ?_, ?_, ?_, ?_, ?_, ?_, ?_, ?_, ?_, ?_, ?_, ?_, ?_, ?_, ?_, ?_, ?_, ?_, ?_, ?_, ?_, ?_, ?_, ?_, trivial⟩ ?_
          · exact fun a wx hT hF K hK => rely_wp rfl (opr_move (.inl rfl) (hK _ _ (NewT.refl _) hF.1))
          · exact fun a wx hT hF K hK => rely_wp rfl (opr_move (.inl rfl) (hK _ _ (NewT.refl _) hF.1))
          · intro a wx hT hF K hK
            obtain ⟨f18, f19, _⟩ := hF
            have f18 : a.tmps.getD 18 undef = (.slice A0 n cap) := f18
            have f19 : a.tmps.getD 19 undef = .int .i64 ((k : Int)) := f19
            refine rely_wp rfl ?_
            exact opr_idxSt (k := k) (d := d) (⟨HKL.out, HDD.out⟩) (rfl) rfl (by rw [eval_tmp, f18]; exact ((NewT.trans _ _ _ HM.out hT).pairs HS.out)) f19 (fun v hv => hK v _ (NewT.refl _) hv)
          · exact fun a wx hT hF K hK => rely_wp rfl (opr_fldSt0 rfl hF.1 (fun u hu => hK u _ (NewT.refl _) hu))
          · exact fun a wx hT hF K hK => rely_wp rfl (opr_ldIp rfl hF.1 (hK _ _ (NewT.refl _) rfl))
          · exact fun a wx hT hF K hK => rely_wp rfl (opr_cmp (b := decide (((d).1) < 0)) (.inr (.inr (.inr (.inl ⟨rfl, rfl⟩)))) Try.underlying3 rfl hF.1 rfl (hK _ _ (NewT.refl _) rfl))
          · exact fun a wx hT hF K hK => rely_wp rfl (opr_move (.inl rfl) (hK _ _ (NewT.refl _) hF.1))
          · exact fun a wx hT hF K hK => rely_if (rely_gf hF.2.1) (NewT.refl _) hK fun hE hK => opr_move (.inl rfl) (hK _ _ (NewT.refl _) hF.1)
          · exact fun a wx hT hF K hK => rely_if (rely_gf hF.2.1) (NewT.refl _) hK fun hE hK => opr_move (.inl rfl) (hK _ _ (NewT.refl _) hF.1)
          · intro a wx hT hF K hK
            obtain ⟨f25, f26, f24, _⟩ := hF
            have f25 : ((!(decide (((d).1) < 0)))) = true → a.tmps.getD 25 undef = (.slice A0 n cap) := f25
            have f26 : ((!(decide (((d).1) < 0)))) = true → a.tmps.getD 26 undef = .int .i64 ((k : Int)) := f26
            have f24 : a.tmps.getD 24 undef = .bool (decide (((d).1) < 0)) := f24
            refine rely_if (rely_gf f24) (NewT.refl _) hK (fun hE hK => ?_)
            exact opr_idxSt (k := k) (d := d) (⟨HKL.out, HDD.out⟩) (rfl) rfl (by rw [eval_tmp, (f25 hE)]; exact ((NewT.trans _ _ _ HM.out hT).pairs HS.out)) (f26 hE) (fun v hv => hK v _ (NewT.refl _) hv)
          · exact fun a wx hT hF K hK => rely_if (rely_gf hF.2.1) (NewT.refl _) hK fun hE hK => opr_fldSt0 rfl (hF.1 hE) (fun u hu => hK u _ (NewT.refl _) hu)
          · exact fun a wx hT hF K hK => rely_if (rely_gf hF.2.1) (NewT.refl _) hK fun hE hK => opr_ldIp rfl (hF.1 hE) (hK _ _ (NewT.refl _) rfl)
          · exact fun a wx hT hF K hK => rely_if (rely_gf hF.2.1) (NewT.refl _) hK fun hE hK => opr_cmp (b := decide (3 < ((d).1))) (.inr (.inr (.inr (.inr (.inl ⟨rfl, rfl⟩))))) Try.underlying3 rfl (hF.1 hE) rfl (hK _ _ (NewT.refl _) rfl)
          · exact fun a wx hT hF K hK => rely_wp rfl (opr_pick_b rfl hF.1 (fun hb => hK _ _ (NewT.refl _) (pn_or1 Q1_6 hb)) (fun hb => hK _ _ (NewT.refl _) (pn_or0 Q1_6 (hF.2.1 (bnot hb)) hb)))
          · exact fun a wx hT hF K hK => rely_wp rfl (opr_move (.inl rfl) (hK _ _ (NewT.refl _) hF.1))
          · exact fun a wx hT hF K hK => rely_if (rely_gf hF.2.1) (NewT.refl _) hK fun hE hK => opr_move (.inl rfl) (hK _ _ (NewT.refl _) hF.1)
          · exact fun a wx hT hF K hK => rely_if (rely_gf hF.2.1) (NewT.refl _) hK fun hE hK => opr_move (.inl rfl) (hK _ _ (NewT.refl _) hF.1)
          · intro a wx hT hF K hK
            obtain ⟨f33, f34, f32, _⟩ := hF
            have f33 : ((!q1_6)) = true → a.tmps.getD 33 undef = (.slice A0 n cap) := f33
            have f34 : ((!q1_6)) = true → a.tmps.getD 34 undef = .int .i64 ((k : Int)) := f34
            have f32 : a.tmps.getD 32 undef = .bool (q1_6) := f32
            refine rely_if (rely_gf f32) (NewT.refl _) hK (fun hE hK => ?_)
            exact opr_idxSt (k := k) (d := d) (⟨HKL.out, HDD.out⟩) (rfl) rfl (by rw [eval_tmp, (f33 hE)]; exact ((NewT.trans _ _ _ HM.out hT).pairs HS.out)) (f34 hE) (fun v hv => hK v _ (NewT.refl _) hv)
          · exact fun a wx hT hF K hK => rely_if (rely_gf hF.2.1) (NewT.refl _) hK fun hE hK => opr_fldSt1 rfl (hF.1 hE) (fun u hu => hK u _ (NewT.refl _) hu)
          · exact fun a wx hT hF K hK => rely_if (rely_gf hF.2.1) (NewT.refl _) hK fun hE hK => opr_ldIp rfl (hF.1 hE) (hK _ _ (NewT.refl _) rfl)
          · exact fun a wx hT hF K hK => rely_if (rely_gf hF.2.1) (NewT.refl _) hK fun hE hK => opr_cmp (b := decide (((d).2) < 1)) (.inr (.inr (.inr (.inl ⟨rfl, rfl⟩)))) Try.underlying3 rfl (hF.1 hE) rfl (hK _ _ (NewT.refl _) rfl)
          · exact fun a wx hT hF K hK => rely_wp rfl (opr_pick_b rfl hF.1 (fun hb => hK _ _ (NewT.refl _) (pk_or1 hb)) (fun hb => hK _ _ (NewT.refl _) (pk_or0 (hF.2.1 (bnot hb)) hb)))
          · exact fun a wx hT hF K hK => rely_wp rfl (opr_move (.inl rfl) (hK _ _ (NewT.refl _) hF.1))
          · exact fun a wx hT hF K hK => rely_if (rely_gf hF.2.1) (NewT.refl _) hK fun hE hK => opr_move (.inl rfl) (hK _ _ (NewT.refl _) hF.1)
          · exact fun a wx hT hF K hK => rely_if (rely_gf hF.2.1) (NewT.refl _) hK fun hE hK => opr_move (.inl rfl) (hK _ _ (NewT.refl _) hF.1)
          · intro a wx hT hF K hK
            obtain ⟨f41, f42, f40, _⟩ := hF
            have f41 : ((!(q1_6 || (decide (((d).2) < 1))))) = true → a.tmps.getD 41 undef = (.slice A0 n cap) := f41
            have f42 : ((!(q1_6 || (decide (((d).2) < 1))))) = true → a.tmps.getD 42 undef = .int .i64 ((k : Int)) := f42
            have f40 : a.tmps.getD 40 undef = .bool (q1_6 || (decide (((d).2) < 1))) := f40
            refine rely_if (rely_gf f40) (NewT.refl _) hK (fun hE hK => ?_)
            exact opr_idxSt (k := k) (d := d) (⟨HKL.out, HDD.out⟩) (rfl) rfl (by rw [eval_tmp, (f41 hE)]; exact ((NewT.trans _ _ _ HM.out hT).pairs HS.out)) (f42 hE) (fun v hv => hK v _ (NewT.refl _) hv)
          · exact fun a wx hT hF K hK => rely_if (rely_gf hF.2.1) (NewT.refl _) hK fun hE hK => opr_fldSt1 rfl (hF.1 hE) (fun u hu => hK u _ (NewT.refl _) hu)
          · exact fun a wx hT hF K hK => rely_if (rely_gf hF.2.1) (NewT.refl _) hK fun hE hK => opr_ldIp rfl (hF.1 hE) (hK _ _ (NewT.refl _) rfl)
          · exact fun a wx hT hF K hK => rely_if (rely_gf hF.2.1) (NewT.refl _) hK fun hE hK => opr_cmp (b := decide (3 < ((d).2))) (.inr (.inr (.inr (.inr (.inl ⟨rfl, rfl⟩))))) Try.underlying3 rfl (hF.1 hE) rfl (hK _ _ (NewT.refl _) rfl)
          · exact fun a wx hT hF K hK => rely_wp rfl (opr_pick_b rfl hF.1 (fun hb => hK _ _ (NewT.refl _) (pn_or1 Q2_6 hb)) (fun hb => hK _ _ (NewT.refl _) (pn_or0 Q2_6 (hF.2.1 (bnot hb)) hb)))
          · intro w2 k2
            iterate 2 (intro u h; obtain rfl := Eq.symm (h (by simp)); clear h)
            iterate 2 (intro _ _)
            iterate 3 (intro u h; obtain rfl := Eq.symm (h (by simp)); clear h)
            iterate 6 (intro _ _)
            iterate 2 (intro u h; obtain rfl := Eq.symm (h (by simp)); clear h)
            iterate 6 (intro _ _)
            iterate 2 (intro u h; obtain rfl := Eq.symm (h (by simp)); clear h)
            iterate 6 (intro _ _)
            intro u h; obtain rfl := Eq.symm (h (by simp)); clear h
            subst Q2_6 Q1_6
            refine relyEnd_nil rfl ?_
            refine wpList_end rfl ?_
            simp only [Act.put, List.setIfInBounds_toArray, List.set_cons_zero, List.set_cons_succ]
            go_simp
            replace HM := Lib.hid (NewT.trans _ _ _ HM.out k2)
            clear k2
            cases h6 : (((((decide (((d).1) < 0)) || (decide (3 < ((d).1)))) || (decide (((d).2) < 1))) || (decide (3 < ((d).2)))))
            · skip
              have HPK : Hid ((0 ≤ ptL l k ∧ ptL l k ≤ 3) ∧ (1 ≤ kdL l k ∧ kdL l k ≤ 3)) := Lib.hid (by
                unfold ptL kdL
                rw [HDD.out]
                simp only [Bool.or_eq_false_iff, decide_eq_false_iff_not] at h6
                omega)
              clear h6
              cases k with
              | zero =>
                go_upto_region 8 with fail
                refine wp_region_rely (NewT) [SV.eq (.int .i64 (((0 : Nat) : Int))), SV.eq (.bool false), SV.eq (.bool false), SV.eq (undef), SV.eq (undef), SV.eq (undef), SV.eq (undef), SV.eq (undef), SV.eq (undef), SV.eq (undef), SV.eq (undef), SV.eq (undef), SV.eq (undef), SV.eq (undef), SV.eq (undef), SV.eq (undef), SV.eq (undef), SV.eq (undef), SV.eq (undef), SV.eq (undef), SV.eq (undef), SV.eq (undef), SV.eq (undef), SV.eq (undef), SV.eq (undef), SV.eq (undef), SV.eq (undef), SV.eq (undef), SV.eq (undef), SV.eq (undef), SV.eq (undef), SV.eq (undef)] [([(3, none)], none), ([(48, some 0)], none), ([(49, some 1)], none), ([(0, none), (50, some 2)], some (50, true)), ([(3, none), (50, some 2)], some (50, true)), ([(51, some 3), (52, some 4), (50, some 2)], some (50, true)), ([(53, some 5), (50, some 2)], some (50, true)), ([(54, some 6), (50, some 2)], some (50, true)), ([(0, none), (50, some 2)], some (50, true)), ([(3, none), (50, some 2)], some (50, true)), ([(57, some 9), (50, some 2)], some (50, true)), ([(56, some 8), (58, some 10), (50, some 2)], some (50, true)), ([(59, some 11), (50, some 2)], some (50, true)), ([(60, some 12), (50, some 2)], some (50, true)), ([(55, some 7), (61, some 13), (50, some 2)], some (50, true)), ([(62, some 14), (50, some 2)], some (50, true)), ([(0, none), (63, some 15)], some (63, false)), ([(3, none), (63, some 15)], some (63, false)), ([(64, some 16), (65, some 17), (63, some 15)], some (63, false)), ([(66, some 18), (63, some 15)], some (63, false)), ([(67, some 19), (63, some 15)], some (63, false)), ([(68, some 20), (63, some 15)], some (63, false)), ([(69, some 21), (63, some 15)], some (63, false)), ([(0, none), (70, some 22)], some (70, true)), ([(3, none), (70, some 22)], some (70, true)), ([(72, some 24), (70, some 22)], some (70, true)), ([(71, some 23), (73, some 25), (70, some 22)], some (70, true)), ([(74, some 26), (70, some 22)], some (70, true)), ([(75, some 27), (70, some 22)], some (70, true)), ([(76, some 28), (70, some 22)], some (70, true)), ([(70, some 22), (77, some 29), (63, some 15)], some (63, false)), ([(63, some 15), (78, some 30), (50, some 2)], some (50, true))] 81 rfl (by kernel_rfl) rfl (by kernel_rfl) (by kernel_rfl) rfl NewT.trans (NewT.drew _) (Nat.le_of_ble_eq_true rfl) ⟨?_, ?_, ?_, ?_, ?_, ?_, ?_, ?_, ?_, ?_, ?_, ?_, ?_, ?_, ?_, ?_, ?_, ?_, ?_, ?_, ?_, ?_, ?_, ?_, ?_, ?_, ?_, ?_, ?_, ?_, ?_, ?_, trivial⟩ ?_
                · exact fun a wx hT hF K hK => rely_wp rfl (opr_move (.inl rfl) (hK _ _ (NewT.refl _) hF.1))
                · exact fun a wx hT hF K hK => rely_wp rfl (opr_cmp (b := false) (.inr (.inr (.inr (.inr (.inl ⟨rfl, (by decide)⟩))))) Try.underlying3 rfl hF.1 rfl (hK _ _ (NewT.refl _) rfl))
                · exact fun a wx hT hF K hK => rely_wp rfl (opr_move (.inl rfl) (hK _ _ (NewT.refl _) hF.1))
                · exact fun a wx hT hF K hK => rely_skip (rely_guard_no hF.2.1 (by decide)) (hK _ _ (NewT.refl _) rfl)
                · exact fun a wx hT hF K hK => rely_skip (rely_guard_no hF.2.1 (by decide)) (hK _ _ (NewT.refl _) rfl)
                · exact fun a wx hT hF K hK => rely_skip (rely_guard_no hF.2.2.1 (by decide)) (hK _ _ (NewT.refl _) rfl)
                · exact fun a wx hT hF K hK => rely_skip (rely_guard_no hF.2.1 (by decide)) (hK _ _ (NewT.refl _) rfl)
                · exact fun a wx hT hF K hK => rely_skip (rely_guard_no hF.2.1 (by decide)) (hK _ _ (NewT.refl _) rfl)
                · exact fun a wx hT hF K hK => rely_skip (rely_guard_no hF.2.1 (by decide)) (hK _ _ (NewT.refl _) rfl)
                · exact fun a wx hT hF K hK => rely_skip (rely_guard_no hF.2.1 (by decide)) (hK _ _ (NewT.refl _) rfl)
                · exact fun a wx hT hF K hK => rely_skip (rely_guard_no hF.2.1 (by decide)) (hK _ _ (NewT.refl _) rfl)
                · exact fun a wx hT hF K hK => rely_skip (rely_guard_no hF.2.2.1 (by decide)) (hK _ _ (NewT.refl _) rfl)
                · exact fun a wx hT hF K hK => rely_skip (rely_guard_no hF.2.1 (by decide)) (hK _ _ (NewT.refl _) rfl)
                · exact fun a wx hT hF K hK => rely_skip (rely_guard_no hF.2.1 (by decide)) (hK _ _ (NewT.refl _) rfl)
                · exact fun a wx hT hF K hK => rely_skip (rely_guard_no hF.2.2.1 (by decide)) (hK _ _ (NewT.refl _) rfl)
                · exact fun a wx hT hF K hK => rely_skip (rely_guard_no hF.2.1 (by decide)) (hK _ _ (NewT.refl _) rfl)
                · exact fun a wx hT hF K hK => rely_skip (rely_guard_undef hF.2.1) (hK _ _ (NewT.refl _) rfl)
                · exact fun a wx hT hF K hK => rely_skip (rely_guard_undef hF.2.1) (hK _ _ (NewT.refl _) rfl)
                · exact fun a wx hT hF K hK => rely_skip (rely_guard_undef hF.2.2.1) (hK _ _ (NewT.refl _) rfl)
                · exact fun a wx hT hF K hK => rely_skip (rely_guard_undef hF.2.1) (hK _ _ (NewT.refl _) rfl)
                · exact fun a wx hT hF K hK => rely_skip (rely_guard_undef hF.2.1) (hK _ _ (NewT.refl _) rfl)
                · exact fun a wx hT hF K hK => rely_skip (rely_guard_undef hF.2.1) (hK _ _ (NewT.refl _) rfl)
                · exact fun a wx hT hF K hK => rely_skip (rely_guard_undef hF.2.1) (hK _ _ (NewT.refl _) rfl)
                · exact fun a wx hT hF K hK => rely_skip (rely_guard_undef hF.2.1) (hK _ _ (NewT.refl _) rfl)
                · exact fun a wx hT hF K hK => rely_skip (rely_guard_undef hF.2.1) (hK _ _ (NewT.refl _) rfl)
                · exact fun a wx hT hF K hK => rely_skip (rely_guard_undef hF.2.1) (hK _ _ (NewT.refl _) rfl)
                · exact fun a wx hT hF K hK => rely_skip (rely_guard_undef hF.2.2.1) (hK _ _ (NewT.refl _) rfl)
                · exact fun a wx hT hF K hK => rely_skip (rely_guard_undef hF.2.1) (hK _ _ (NewT.refl _) rfl)
                · exact fun a wx hT hF K hK => rely_skip (rely_guard_undef hF.2.1) (hK _ _ (NewT.refl _) rfl)
                · exact fun a wx hT hF K hK => rely_skip (rely_guard_undef hF.2.1) (hK _ _ (NewT.refl _) rfl)
                · exact fun a wx hT hF K hK => rely_skip (rely_guard_undef hF.2.2.1) (hK _ _ (NewT.refl _) rfl)
                · exact fun a wx hT hF K hK => rely_skip (rely_guard_no hF.2.2.1 (by decide)) (hK _ _ (NewT.refl _) rfl)
                · intro w3 k3
                  iterate 32 (intro u h; obtain rfl := Eq.symm (h (by simp)); clear h)
                  refine relyEnd_nil rfl ?_
                  simp only [Act.put, List.setIfInBounds_toArray, List.set_cons_zero, List.set_cons_succ]
                  refine opr_pick_false rfl rfl ?_
                  go_simp
                  replace HM := Lib.hid (NewT.trans _ _ _ HM.out k3)
                  clear k3
                  have HUN : Hid (upMay l (0 + 1) = true) := Lib.hid (by rw [upMay_succ, HU.out]; unfold stepMay; exact decide_eq_true ⟨HPK.out.1, HPK.out.2, fun h => absurd h (by omega)⟩)
                  go_wp2
                  go_roundw
                  case rel => exact ⟨0 + 1, by omega, by go_num, HUN, HM⟩
                  case measure => simp [intOf]; omega
              | succ j =>
                obtain ⟨e, HDE⟩ := hid_ex (l.getD j (0, 0))
                go_upto_region 8 with fail
                obtain ⟨q1_8, Q1_8⟩ : ∃ bq_, ((decide (((d).2) < ((e).2))) || ((((d).2) == 2) && (((e).2) == 2))) = bq_ := ⟨_, rfl⟩
                refine wp_region_rely (NewT) [SV.eq (.int .i64 (((j + 1 : Nat) : Int))), SV.eq (.bool true), SV.eq (.bool true), SV.eq ((.slice A0 n cap)), SV.eq (.int .i64 (((j + 1 : Nat) : Int))), svStp (d), svIp (d).2, SV.eq (.int .i64 ((d).2)), SV.eq ((.slice A0 n cap)), SV.eq (.int .i64 (((j + 1 : Nat) : Int))), SV.eq (.int .i64 ((j : Int))), svStp (e), svIp (e).2, SV.eq (.int .i64 ((e).2)), SV.eq (.bool (decide (((d).2) < ((e).2)))), SV.eq (.bool (decide (((d).2) < ((e).2)))), svIf ((!(decide (((d).2) < ((e).2))))) (SV.eq ((.slice A0 n cap))), svIf ((!(decide (((d).2) < ((e).2))))) (SV.eq (.int .i64 (((j + 1 : Nat) : Int)))), svIf ((!(decide (((d).2) < ((e).2))))) (svStp (d)), svIf ((!(decide (((d).2) < ((e).2))))) (svIp (d).2), svIf ((!(decide (((d).2) < ((e).2))))) (SV.eq (.int .i64 ((d).2))), svIf ((!(decide (((d).2) < ((e).2))))) (SV.eq (.bool (((d).2) == 2))), SV.eq (gV ((!(decide (((d).2) < ((e).2))))) (((d).2) == 2)), svIf ((!(decide (((d).2) < ((e).2)))) && ((d).2) == 2) (SV.eq ((.slice A0 n cap))), svIf ((!(decide (((d).2) < ((e).2)))) && ((d).2) == 2) (SV.eq (.int .i64 (((j + 1 : Nat) : Int)))), svIf ((!(decide (((d).2) < ((e).2)))) && ((d).2) == 2) (SV.eq (.int .i64 ((j : Int)))), svIf ((!(decide (((d).2) < ((e).2)))) && ((d).2) == 2) (svStp (e)), svIf ((!(decide (((d).2) < ((e).2)))) && ((d).2) == 2) (svIp (e).2), svIf ((!(decide (((d).2) < ((e).2)))) && ((d).2) == 2) (SV.eq (.int .i64 ((e).2))), svIf ((!(decide (((d).2) < ((e).2)))) && ((d).2) == 2) (SV.eq (.bool (((e).2) == 2))), svIf ((!(decide (((d).2) < ((e).2))))) (SV.eq (.bool ((((d).2) == 2) && (((e).2) == 2)))), SV.eq (.bool (q1_8))] [([(3, none)], none), ([(48, some 0)], none), ([(49, some 1)], none), ([(0, none), (50, some 2)], some (50, true)), ([(3, none), (50, some 2)], some (50, true)), ([(51, some 3), (52, some 4), (50, some 2)], some (50, true)), ([(53, some 5), (50, some 2)], some (50, true)), ([(54, some 6), (50, some 2)], some (50, true)), ([(0, none), (50, some 2)], some (50, true)), ([(3, none), (50, some 2)], some (50, true)), ([(57, some 9), (50, some 2)], some (50, true)), ([(56, some 8), (58, some 10), (50, some 2)], some (50, true)), ([(59, some 11), (50, some 2)], some (50, true)), ([(60, some 12), (50, some 2)], some (50, true)), ([(55, some 7), (61, some 13), (50, some 2)], some (50, true)), ([(62, some 14), (50, some 2)], some (50, true)), ([(0, none), (63, some 15)], some (63, false)), ([(3, none), (63, some 15)], some (63, false)), ([(64, some 16), (65, some 17), (63, some 15)], some (63, false)), ([(66, some 18), (63, some 15)], some (63, false)), ([(67, some 19), (63, some 15)], some (63, false)), ([(68, some 20), (63, some 15)], some (63, false)), ([(69, some 21), (63, some 15)], some (63, false)), ([(0, none), (70, some 22)], some (70, true)), ([(3, none), (70, some 22)], some (70, true)), ([(72, some 24), (70, some 22)], some (70, true)), ([(71, some 23), (73, some 25), (70, some 22)], some (70, true)), ([(74, some 26), (70, some 22)], some (70, true)), ([(75, some 27), (70, some 22)], some (70, true)), ([(76, some 28), (70, some 22)], some (70, true)), ([(70, some 22), (77, some 29), (63, some 15)], some (63, false)), ([(63, some 15), (78, some 30), (50, some 2)], some (50, true))] 81 rfl (by kernel_rfl) rfl (by kernel_rfl) (by kernel_rfl) rfl NewT.trans (NewT.drew _) (Nat.le_of_ble_eq_true rfl) ⟨?_, ?_, ?_, ?_, ?_, ?_, ?_, ?_, ?_, ?_, ?_, ?_, ?_, ?_, ?_, ?_, ?_, ?_, ?_, ?_, ?_, ?_, ?_, ?_, ?_, ?_, ?_, ?_, ?_, ?_, ?_, ?_, trivial⟩ ?_
                · exact fun a wx hT hF K hK => rely_wp rfl (opr_move (.inl rfl) (hK _ _ (NewT.refl _) hF.1))
                · exact fun a wx hT hF K hK => rely_wp rfl (opr_cmp (b := true) (.inr (.inr (.inr (.inr (.inl ⟨rfl, (by exact decide_eq_true (by omega))⟩))))) Try.underlying3 rfl hF.1 rfl (hK _ _ (NewT.refl _) rfl))
                · exact fun a wx hT hF K hK => rely_wp rfl (opr_move (.inl rfl) (hK _ _ (NewT.refl _) hF.1))
                · exact fun a wx hT hF K hK => rely_wp (rely_guard hF.2.1) (opr_move (.inl rfl) (hK _ _ (NewT.refl _) hF.1))
                · exact fun a wx hT hF K hK => rely_wp (rely_guard hF.2.1) (opr_move (.inl rfl) (hK _ _ (NewT.refl _) hF.1))
                · intro a wx hT hF K hK
                  obtain ⟨f51, f52, f50, _⟩ := hF
                  have f51 : a.tmps.getD 51 undef = (.slice A0 n cap) := f51
                  have f52 : a.tmps.getD 52 undef = .int .i64 (((j + 1 : Nat) : Int)) := f52
                  have f50 : a.tmps.getD 50 undef = .bool true := f50
                  refine rely_wp (rely_guard f50) ?_
                  exact opr_idxSt (k := j + 1) (d := d) (⟨HKL.out, HDD.out⟩) (rfl) rfl (by rw [eval_tmp, f51]; exact ((NewT.trans _ _ _ HM.out hT).pairs HS.out)) f52 (fun v hv => hK v _ (NewT.refl _) hv)
                · exact fun a wx hT hF K hK => rely_wp (rely_guard hF.2.1) (opr_fldSt1 rfl hF.1 (fun u hu => hK u _ (NewT.refl _) hu))
                · exact fun a wx hT hF K hK => rely_wp (rely_guard hF.2.1) (opr_ldIp rfl hF.1 (hK _ _ (NewT.refl _) rfl))
                · exact fun a wx hT hF K hK => rely_wp (rely_guard hF.2.1) (opr_move (.inl rfl) (hK _ _ (NewT.refl _) hF.1))
                · exact fun a wx hT hF K hK => rely_wp (rely_guard hF.2.1) (opr_move (.inl rfl) (hK _ _ (NewT.refl _) hF.1))
                · exact fun a wx hT hF K hK => rely_wp (rely_guard hF.2.1) (opr_sub (r := (j : Int)) Try.underlying3 (by have := HKL.out; have := HR.out; have := Hn.out; unfold wrap64; omega) rfl hF.1 rfl (hK _ _ (NewT.refl _) rfl))
                · intro a wx hT hF K hK
                  obtain ⟨f56, f58, f50, _⟩ := hF
                  have f56 : a.tmps.getD 56 undef = (.slice A0 n cap) := f56
                  have f58 : a.tmps.getD 58 undef = .int .i64 ((j : Int)) := f58
                  have f50 : a.tmps.getD 50 undef = .bool true := f50
                  refine rely_wp (rely_guard f50) ?_
                  exact opr_idxSt (k := j) (d := e) (⟨by have := HKL.out; omega, HDE.out⟩) (rfl) rfl (by rw [eval_tmp, f56]; exact ((NewT.trans _ _ _ HM.out hT).pairs HS.out)) f58 (fun v hv => hK v _ (NewT.refl _) hv)
                · exact fun a wx hT hF K hK => rely_wp (rely_guard hF.2.1) (opr_fldSt1 rfl hF.1 (fun u hu => hK u _ (NewT.refl _) hu))
                · exact fun a wx hT hF K hK => rely_wp (rely_guard hF.2.1) (opr_ldIp rfl hF.1 (hK _ _ (NewT.refl _) rfl))
                · exact fun a wx hT hF K hK => rely_wp (rely_guard hF.2.2.1) (opr_cmp (b := decide (((d).2) < ((e).2))) (.inr (.inr (.inr (.inl ⟨rfl, rfl⟩)))) Try.underlying3 rfl hF.1 hF.2.1 (hK _ _ (NewT.refl _) rfl))
                · exact fun a wx hT hF K hK => rely_wp (rely_guard hF.2.1) (opr_move (.inl rfl) (hK _ _ (NewT.refl _) hF.1))
                · exact fun a wx hT hF K hK => rely_if (rely_gf hF.2.1) (NewT.refl _) hK fun hE hK => opr_move (.inl rfl) (hK _ _ (NewT.refl _) hF.1)
                · exact fun a wx hT hF K hK => rely_if (rely_gf hF.2.1) (NewT.refl _) hK fun hE hK => opr_move (.inl rfl) (hK _ _ (NewT.refl _) hF.1)
                · intro a wx hT hF K hK
                  obtain ⟨f64, f65, f63, _⟩ := hF
                  have f64 : ((!(decide (((d).2) < ((e).2))))) = true → a.tmps.getD 64 undef = (.slice A0 n cap) := f64
                  have f65 : ((!(decide (((d).2) < ((e).2))))) = true → a.tmps.getD 65 undef = .int .i64 (((j + 1 : Nat) : Int)) := f65
                  have f63 : a.tmps.getD 63 undef = .bool (decide (((d).2) < ((e).2))) := f63
                  refine rely_if (rely_gf f63) (NewT.refl _) hK (fun hE hK => ?_)
                  exact opr_idxSt (k := j + 1) (d := d) (⟨HKL.out, HDD.out⟩) (rfl) rfl (by rw [eval_tmp, (f64 hE)]; exact ((NewT.trans _ _ _ HM.out hT).pairs HS.out)) (f65 hE) (fun v hv => hK v _ (NewT.refl _) hv)
                · exact fun a wx hT hF K hK => rely_if (rely_gf hF.2.1) (NewT.refl _) hK fun hE hK => opr_fldSt1 rfl (hF.1 hE) (fun u hu => hK u _ (NewT.refl _) hu)
                · exact fun a wx hT hF K hK => rely_if (rely_gf hF.2.1) (NewT.refl _) hK fun hE hK => opr_ldIp rfl (hF.1 hE) (hK _ _ (NewT.refl _) rfl)
                · exact fun a wx hT hF K hK => rely_if (rely_gf hF.2.1) (NewT.refl _) hK fun hE hK => opr_cmp (b := ((d).2) == 2) (.inl ⟨rfl, rfl⟩) Try.underlying3 rfl (hF.1 hE) rfl (hK _ _ (NewT.refl _) rfl)
                · exact fun a wx hT hF K hK => rely_ifg (rely_gf hF.2.1) (NewT.refl _) hK fun hE hK => opr_move (.inl rfl) (hK _ _ (NewT.refl _) (hF.1 hE))
                · exact fun a wx hT hF K hK => rely_if (rely_ggt hF.2.1) (NewT.refl _) hK fun hE hK => opr_move (.inl rfl) (hK _ _ (NewT.refl _) hF.1)
                · exact fun a wx hT hF K hK => rely_if (rely_ggt hF.2.1) (NewT.refl _) hK fun hE hK => opr_move (.inl rfl) (hK _ _ (NewT.refl _) hF.1)
                · exact fun a wx hT hF K hK => rely_if (rely_ggt hF.2.1) (NewT.refl _) hK fun hE hK => opr_sub (r := (j : Int)) Try.underlying3 (by have := HKL.out; have := HR.out; have := Hn.out; unfold wrap64; omega) rfl (hF.1 hE) rfl (hK _ _ (NewT.refl _) rfl)
                · intro a wx hT hF K hK
                  obtain ⟨f71, f73, f70, _⟩ := hF
                  have f71 : ((!(decide (((d).2) < ((e).2)))) && ((d).2) == 2) = true → a.tmps.getD 71 undef = (.slice A0 n cap) := f71
                  have f73 : ((!(decide (((d).2) < ((e).2)))) && ((d).2) == 2) = true → a.tmps.getD 73 undef = .int .i64 ((j : Int)) := f73
                  have f70 : a.tmps.getD 70 undef = gV ((!(decide (((d).2) < ((e).2))))) (((d).2) == 2) := f70
                  refine rely_if (rely_ggt f70) (NewT.refl _) hK (fun hE hK => ?_)
                  exact opr_idxSt (k := j) (d := e) (⟨by have := HKL.out; omega, HDE.out⟩) (rfl) rfl (by rw [eval_tmp, (f71 hE)]; exact ((NewT.trans _ _ _ HM.out hT).pairs HS.out)) (f73 hE) (fun v hv => hK v _ (NewT.refl _) hv)
                · exact fun a wx hT hF K hK => rely_if (rely_ggt hF.2.1) (NewT.refl _) hK fun hE hK => opr_fldSt1 rfl (hF.1 hE) (fun u hu => hK u _ (NewT.refl _) hu)
                · exact fun a wx hT hF K hK => rely_if (rely_ggt hF.2.1) (NewT.refl _) hK fun hE hK => opr_ldIp rfl (hF.1 hE) (hK _ _ (NewT.refl _) rfl)
                · exact fun a wx hT hF K hK => rely_if (rely_ggt hF.2.1) (NewT.refl _) hK fun hE hK => opr_cmp (b := ((e).2) == 2) (.inl ⟨rfl, rfl⟩) Try.underlying3 rfl (hF.1 hE) rfl (hK _ _ (NewT.refl _) rfl)
                · exact fun a wx hT hF K hK => rely_if (rely_gf hF.2.2.1) (NewT.refl _) hK fun hE hK => opr_pick_b rfl (hF.1.trans (gV_on hE)) (fun hb => hK _ _ (NewT.refl _) (pk_and1 (hF.2.1 (band hE hb)) hb)) (fun hb => hK _ _ (NewT.refl _) (pk_and0 hb))
                · exact fun a wx hT hF K hK => rely_wp (rely_guard hF.2.2.1) (opr_pick_b rfl hF.1 (fun hb => hK _ _ (NewT.refl _) (pn_or1 Q1_8 hb)) (fun hb => hK _ _ (NewT.refl _) (pn_or0 Q1_8 (hF.2.1 (bnot hb)) hb)))
                · intro w4 k4
                  iterate 5 (intro u h; obtain rfl := Eq.symm (h (by simp)); clear h)
                  iterate 2 (intro _ _)
                  iterate 4 (intro u h; obtain rfl := Eq.symm (h (by simp)); clear h)
                  iterate 2 (intro _ _)
                  iterate 3 (intro u h; obtain rfl := Eq.symm (h (by simp)); clear h)
                  iterate 15 (intro _ _)
                  intro u h; obtain rfl := Eq.symm (h (by simp)); clear h
                  subst Q1_8
                  refine relyEnd_nil rfl ?_
                  simp only [Act.put, List.setIfInBounds_toArray, List.set_cons_zero, List.set_cons_succ]
                  refine opr_pick_true rfl rfl ?_
                  go_simp
                  replace HM := Lib.hid (NewT.trans _ _ _ HM.out k4)
                  clear k4
                  cases h8 : (((decide (((d).2) < ((e).2))) || ((((d).2) == 2) && (((e).2) == 2))))
                  · have HUN : Hid (upMay l (j + 1 + 1) = true) := Lib.hid (by
                      rw [upMay_succ, HU.out]
                      unfold stepMay
                      refine decide_eq_true ⟨HPK.out.1, HPK.out.2, fun _ => ?_⟩
                      rw [Nat.add_sub_cancel]
                      unfold kdL
                      rw [HDD.out, HDE.out]
                      simp only [Bool.or_eq_false_iff, Bool.and_eq_false_iff, decide_eq_false_iff_not, beq_eq_false_iff_ne] at h8
                      omega)
                    clear h8
                    go_wp2
                    go_roundw
                    case rel => exact ⟨j + 1 + 1, by omega, by go_num, HUN, HM⟩
                    case measure => simp [intOf]; omega
                  · have HE : Hid (mayL l = false) := Lib.hid (by
                      have hs : stepMay l (j + 1) = false := by
                        unfold stepMay
                        refine decide_eq_false fun hh => ?_
                        have h3 := hh.2.2 (by omega)
                        rw [Nat.add_sub_cancel] at h3
                        unfold kdL at h3
                        rw [HDD.out, HDE.out] at h3
                        simp only [Bool.or_eq_true, Bool.and_eq_true, decide_eq_true_eq, beq_iff_eq] at h8
                        omega
                      unfold mayL; rw [upMay_no HKL.out hs, Bool.and_false])
                    clear h8
                    go_wp2
                    go_ret
                    exact ⟨_, rfl, HM.out, by show _ = Value.bool _; rw [HE.out]; first | done | rfl⟩
            · have HE : Hid (mayL l = false) := Lib.hid (by
                have hs : stepMay l k = false := by
                  unfold stepMay
                  refine decide_eq_false fun hh => ?_
                  have h1 := hh.1
                  have h2 := hh.2.1
                  unfold ptL at h1
                  unfold kdL at h2
                  rw [HDD.out] at h1 h2
                  simp only [Bool.or_eq_true, decide_eq_true_eq] at h6
                  omega
                unfold mayL; rw [upMay_no HKL.out hs, Bool.and_false])
              clear h6
              go_wp2
              go_ret
              exact ⟨_, rfl, HM.out, by show _ = Value.bool _; rw [HE.out]; first | done | rfl⟩
        · obtain rfl : k = n := by omega
          have HE : Hid (mayL l = true) := Lib.hid (by unfold mayL; rw [Hn.out, HU.out, (inR_iff _ _ _).2 (by have := HR.out; omega)]; rfl)
          go_wp2
          go_ret
          exact ⟨_, rfl, HM.out, by show _ = Value.bool _; rw [HE.out]; first | done | rfl⟩
    · have HE : Hid (mayL l = false) := Lib.hid (by
        have hf : inR (n : Int) 1 6 = false := by
          cases hf : inR (n : Int) 1 6 with
          | false => rfl
          | true =>
            have := (inR_iff _ _ _).1 hf
            rw [Bool.or_eq_true, decide_eq_true_eq, decide_eq_true_eq] at hq
            omega
        unfold mayL; rw [Hn.out, hf]; rfl)
      clear hq
      go_wp2
      go_ret
      exact ⟨_, rfl, HM.out, by show _ = Value.bool _; rw [HE.out]; first | done | rfl⟩
theorem run_bsS0 (w : World) : (Instr.buildSlice 22 0 #[]).run Try.prog w = .ok (.slice (some ⟨w.heap.size, 0, none⟩) 0 0) (w.alloc (.cells #[] 34)) := by kernel_rfl
theorem rdPB_own {W : World} {base : Nat} {v : Value} {l : List (Int × Int)} (h : W.ownsRow base 34 2 v l.length (pc l)) : RdPB W base v l :=
  ⟨rdP_own h, fun h0 a n c e => (h.lt a.block (by rw [e]; rfl)).1⟩
/-- 'append([]api.Step{}, l...)' of few steps. -/
theorem append_new {w : World} {u : Value} {l : List (Int × Int)} (hu : RdP w u l) (h1 : 1 ≤ l.length) (h2 : l.length ≤ 900000) (B : Nat) (hB : B ≤ w.heap.size) : ∃ v' w', (Builtin.append_ #[22, 22] 22 #[.slice (some ⟨w.heap.size, 0, none⟩) 0 0, u]).run Try.prog (w.alloc (.cells #[] 34)) = .ok v' w' ∧ RdPB w' B v' l ∧ NewT w w' := by
  have hN := NewT.alloc w (.cells #[] 34)
  have o0 : (w.alloc (.cells #[] 34)).ownsRow w.heap.size 34 2 (.slice (some ⟨w.heap.size, 0, none⟩) 0 0) ([] : List (Int × Int)).length (pc []) :=
    ⟨rfl, .inr ⟨w.heap.size, 0, #[], rfl, Nat.le_refl _, World.alloc_heap_new _ _, Nat.le_refl _, by unfold maxLen; omega, rfl, rfl⟩⟩
  obtain ⟨v', w', hr, ho', hg⟩ := run_append_steps o0 (hN.pairs hu) (fun n c h => by
    obtain ⟨A1, c1, e, _, _, h3⟩ := hu
    obtain ⟨b, o, hA, _⟩ := h3 (by omega)
    rw [e, hA] at h; cases h) (by simp; omega) hN.out.size 22
  exact ⟨v', w', hr, (rdPB_own ho').mono hB, NewT.of (hN.out.grown hg hN.out.size (fun k e => by simp [Value.ownBlock] at e; omega))⟩
set_option maxHeartbeats 4000000 in
theorem rNew_cv (v : Value) (l : List (Int × Int)) (w : World) (h : RdP w v l) : Cv 13 #[v] w (svSgN w.heap.size (newL l) (newG l)) := by
  unfold Cv
  have HS := Lib.hid h
  clear h
  go_enter Try.func13, Try.ntmps13
  go_upto_region 1 with fail
  have r_g1 := rowIs_box w 27 10 (sgF (.slice none 0 0) zG)
  have hN : NewT w (w.alloc (.cells (rowA 10 (sgF (.slice none 0 0) zG)) 27)) := NewT.alloc _ _
  change Code.wp _ _ _ _ (w.alloc (.cells (rowA 10 (sgF (.slice none 0 0) zG)) 27))
  generalize (w.alloc (.cells (rowA 10 (sgF (.slice none 0 0) zG)) 27)) = W0 at r_g1 hN ⊢
  obtain ⟨g1, h_g1⟩ : ∃ g_, w.heap.size = g_ := ⟨_, rfl⟩
  have HG : Hid (w.heap.size ≤ g1) := Lib.hid (by omega)
  rw [h_g1] at r_g1
  simp only [h_g1]
  have Rg1 := Lib.hid r_g1
  have HM := Lib.hid hN
  clear r_g1 hN h_g1
  go_upto_region 1 with fail
  refine wp_region_steps0 NewT [SV.eq (v), SV.eq (.bool (mayL l)), SV.eq (.bool (!(mayL l)))] [([(0, none)], none), ([(3, some 0)], none), ([(4, some 1)], none)] 11 3 rfl rfl (by kernel_rfl) NewT.trans (NewT.refl _) (Nat.le_of_ble_eq_true rfl) ⟨?_, ?_, ?_, trivial⟩ ?_
  · exact fun a wx hT hF K hK => rely_wp rfl (opr_move (.inl rfl) (hK _ _ (NewT.refl _) hF.1))
  · exact fun a wx hT hF K hK => rely_wp rfl (opr_cv (rMay_cv _ l wx ((NewT.trans _ _ _ HM.out hT).pairs HS.out)) rfl Try.func10 (by kernel_rfl) (by kernel_rfl) (evs1 hF.1) hK)
  · exact fun a wx hT hF K hK => rely_wp rfl (opr_not rfl hF.1 (hK _ _ (NewT.refl _) rfl))
  · intro w1 k1
    iterate 3 (intro u h; obtain rfl := Eq.symm (h (by simp)); clear h)
    refine relyEnd_nil rfl ?_
    refine wpList_end rfl ?_
    simp only [Act.put, List.setIfInBounds_toArray, List.set_cons_zero, List.set_cons_succ]
    go_simp
    replace Rg1 := Lib.hid (k1.row Rg1.out)
    replace HM := Lib.hid (NewT.trans _ _ _ HM.out k1)
    clear k1
    cases hb : mayL l
    · have HE : Hid (newL l = [] ∧ newG l = zG) := Lib.hid ⟨by unfold newL; rw [hb, if_neg (by simp)], by unfold newG; rw [hb, if_neg (by simp)]⟩
      clear hb
      go_upto_region 2 with fail
      refine wp_region_steps0 NewT [SV.eq ((.agg (rowA 10 (sgF (.slice none 0 0) zG))))] [([], none)] 11 1 rfl rfl (by kernel_rfl) NewT.trans (NewT.refl _) (Nat.le_of_ble_eq_true rfl) ⟨?_, trivial⟩ ?_
      · exact fun a wx hT hF K hK => rely_wp rfl (opr_build (pv := #[]) rfl (by simp) (build_saga0 wx) (hK _ _ (NewT.refl _) rfl))
      · intro w2 k2
        intro u h; obtain rfl := Eq.symm (h (by simp)); clear h
        refine relyEnd_nil rfl ?_
        simp only [Act.put, List.setIfInBounds_toArray, List.set_cons_zero, List.set_cons_succ]
        refine wpList_plain rfl (fun K hK => ?_)
        refine opr_putm (g := g1) (o0 := 0) (m := 10) (f := sgF (.slice none 0 0) zG) (F := sgF (.slice none 0 0) zG) rfl rfl rfl (k2.row Rg1.out) (by decide) info_saga (sgF_one _ _ rfl) (put_allN _ _ _) ?_
        intro W2 hR2 rr2
        refine hK _ _ ?_
        clear hK K
        refine wpList_end rfl ?_
        simp only [Act.put, List.setIfInBounds_toArray, List.set_cons_zero, List.set_cons_succ]
        go_simp
        replace Rg1 := Lib.hid rr2
        replace HM := Lib.hid (NewT.rt (NewT.trans _ _ _ HM.out k2) hR2 (by have h_0 := HG.out; omega))
        clear k2 hR2 rr2
        go_wp2
        exact bodyPost_ret (results_agg rfl _ rfl Rg1.out Try.underlying27 rfl info_saga) rfl ⟨_, rfl, HM.out, by rw [HE.out.1, HE.out.2]; exact ⟨_, rfl, rdPB_nil _ _⟩⟩
    · have HE : Hid (newL l = l ∧ newG l = ofSt st0 1) := Lib.hid ⟨by unfold newL; rw [hb, if_pos rfl], by unfold newG; rw [hb, if_pos rfl]⟩
      have hlen := may_len hb
      clear hb
      have hsz : g1 + 1 ≤ w1.heap.size := Nat.succ_le_of_lt Rg1.out.lt
      obtain ⟨v5, w5, hrun, hr5, hn5⟩ := append_new (HM.out.pairs HS.out) hlen.1 (by omega) (g1 + 1) hsz
      clear hlen hsz
      go_upto_region 3 with fail
      refine wp_region_lit ?_
      refine wpList_plain rfl (fun K hK => ?_)
      refine opr_val (s := Instr.buildSlice 22 0 #[]) (by simp [execOp]) (run_bsS0 w1) (hK _ _ ?_)
      clear hK K
      simp only [Act.put, List.setIfInBounds_toArray, List.set_cons_zero, List.set_cons_succ]
      refine wpList_plain rfl (fun K hK => ?_)
      refine opr_move (.inl rfl) (hK _ _ ?_)
      clear hK K
      simp only [Act.put, List.setIfInBounds_toArray, List.set_cons_zero, List.set_cons_succ]
      refine wpList_plain rfl (fun K hK => ?_)
      refine opr_append rfl rfl rfl hrun (hK _ _ ?_)
      clear hK K hrun
      simp only [Act.put, List.setIfInBounds_toArray, List.set_cons_zero, List.set_cons_succ]
      refine wpList_plain rfl (fun K hK => ?_)
      refine opr_bldU2 (B := g1 + 1) rfl hr5 (fun u5 hu5 => hK _ _ ?_)
      clear hK K
      obtain ⟨sv, rfl, hsv⟩ := hu5
      simp only [Act.put, List.setIfInBounds_toArray, List.set_cons_zero, List.set_cons_succ]
      refine wpList_plain rfl (fun K hK => ?_)
      refine opr_putm (g := g1) (o0 := 0) (m := 10) (f := sgF sv (ofSt st0 1)) (F := sgF sv (ofSt st0 1)) rfl rfl rfl (hn5.row Rg1.out) (by decide) info_saga (sgF_one _ _ (oneP hsv.1)) (put_allN _ _ _) ?_
      intro w6 hR6 r6
      refine hK _ _ ?_
      clear hK K
      refine wpList_end rfl ?_
      simp only [Act.put, List.setIfInBounds_toArray, List.set_cons_zero, List.set_cons_succ]
      go_simp
      replace Rg1 := Lib.hid r6
      replace HM := Lib.hid (NewT.rt (NewT.trans _ _ _ HM.out hn5) hR6 (by have h_0 := HG.out; omega))
      have hsf := (hsv.rt hR6 (Nat.lt_succ_self _)).mono (B' := w.heap.size) (by have h_0 := HG.out; omega)
      clear hn5 hr5 hsv hR6 r6
      go_wp2
      exact bodyPost_ret (results_agg rfl _ rfl Rg1.out Try.underlying27 rfl info_saga) rfl ⟨_, rfl, HM.out, by rw [HE.out.1, HE.out.2]; exact ⟨_, rfl, hsf⟩⟩
end Go.Proofs.Ytfmahpgfeoafiaa
/- The law SagaMay, walked: whether all steps may be a saga's, and the saga that begins with them, are the document's. -/
namespace Go.Proofs.Ytfmahpgfeoafiaa
open Go Go.RowKit
set_option maxRecDepth 8000
set_option linter.all false
theorem rNew_cvB (v : Value) (l : List (Int × Int)) (B : Nat) (w : World) (hB : B ≤ w.heap.size) (h : RdP w v l) : Cv 13 #[v] w (svSgN B (newL l) (newG l)) :=
  (rNew_cv v l w h).mono fun _ _ ⟨v', h1, h2, sv, h3, h4⟩ => ⟨v', h1, h2, sv, h3, h4.mono hB⟩
theorem Same_new (v u : Value) (l : List (Int × Int)) (g : Sg) (B C : Nat) (w : World) (hv : SgVN w B v l g) (hu : SgVN w C u l g) : Cv 11 #[v, u] w (.eq (.bool true)) := by
  obtain ⟨sv, rfl, h1⟩ := hv
  obtain ⟨tv, rfl, h2⟩ := hu
  have := sSame_cv sv tv l l g g w h1.1 h2.1
  rwa [sameG_self] at this
set_option maxHeartbeats 4000000 in
theorem SagaMay_walk (v : Value) (l : List (Int × Int)) (w : World) (h : RdP w v l) : Calls Try.prog 3 #[v] w fun e w' => e = .returned (.bool true) ∧ Below w.heap.size w w' := by
  have HS := Lib.hid h
  clear h
  go_enter Try.func3, Try.ntmps3
  go_upto_region 1 with fail
  have HM := Lib.hid (NewT.refl w)
  refine wp_region_steps0 NewT [SV.eq (.bool true), SV.eq (.bool false)] [([], none), ([(3, some 0)], none)] 22 2 rfl rfl (by kernel_rfl) NewT.trans (NewT.refl _) (Nat.le_of_ble_eq_true rfl) ⟨?_, ?_, trivial⟩ ?_
  · exact fun a wx hT hF K hK => rely_wp rfl (opr_cv (alive11_c wx) rfl Try.func8 (by kernel_rfl) (by kernel_rfl) evs0 hK)
  · exact fun a wx hT hF K hK => rely_wp rfl (opr_not rfl hF.1 (hK _ _ (NewT.refl _) rfl))
  · intro w1 k1
    iterate 2 (intro u h; obtain rfl := Eq.symm (h (by simp)); clear h)
    refine relyEnd_nil rfl ?_
    refine wpList_end rfl ?_
    simp only [Act.put, List.setIfInBounds_toArray, List.set_cons_zero, List.set_cons_succ]
    go_simp
    replace HM := Lib.hid (NewT.trans _ _ _ HM.out k1)
    clear k1
    go_upto_region 3 with fail
    obtain ⟨q1_3, Q1_3⟩ : ∃ bq_, ((decide (30 < ((List.length (l) : Int)))) || (((mayL l) == (mayL l)) && true)) = bq_ := ⟨_, rfl⟩
    refine wp_region_steps0 NewT [SV.eq (v), SV.eq (.int .i64 ((List.length (l) : Int))), SV.eq (.bool (decide (30 < ((List.length (l) : Int))))), SV.eq (.bool (decide (30 < ((List.length (l) : Int))))), svIf ((!(decide (30 < ((List.length (l) : Int)))))) (SV.eq (v)), svIf ((!(decide (30 < ((List.length (l) : Int)))))) (SV.eq (.bool (mayL l))), svIf ((!(decide (30 < ((List.length (l) : Int)))))) (SV.eq (v)), svIf ((!(decide (30 < ((List.length (l) : Int)))))) (SV.eq (.bool (mayL l))), svIf ((!(decide (30 < ((List.length (l) : Int)))))) (SV.eq (.bool ((mayL l) == (mayL l)))), SV.eq (gV ((!(decide (30 < ((List.length (l) : Int)))))) ((mayL l) == (mayL l))), svIf ((!(decide (30 < ((List.length (l) : Int))))) && (mayL l) == (mayL l)) (SV.eq (v)), svIf ((!(decide (30 < ((List.length (l) : Int))))) && (mayL l) == (mayL l)) (svSgN 0 (newL l) (newG l)), svIf ((!(decide (30 < ((List.length (l) : Int))))) && (mayL l) == (mayL l)) (SV.eq (v)), svIf ((!(decide (30 < ((List.length (l) : Int))))) && (mayL l) == (mayL l)) (svSgN 0 (newL l) (newG l)), svIf ((!(decide (30 < ((List.length (l) : Int))))) && (mayL l) == (mayL l)) (SV.eq (.bool true)), svIf ((!(decide (30 < ((List.length (l) : Int)))))) (SV.eq (.bool (((mayL l) == (mayL l)) && true))), SV.eq (.bool (q1_3)), SV.eq (.bool (q1_3))] [([(0, none)], none), ([(5, some 0)], none), ([(6, some 1)], none), ([(7, some 2)], none), ([(0, none), (8, some 3)], some (8, false)), ([(9, some 4), (8, some 3)], some (8, false)), ([(0, none), (8, some 3)], some (8, false)), ([(11, some 6), (8, some 3)], some (8, false)), ([(10, some 5), (12, some 7), (8, some 3)], some (8, false)), ([(13, some 8), (8, some 3)], some (8, false)), ([(0, none), (14, some 9)], some (14, true)), ([(15, some 10), (14, some 9)], some (14, true)), ([(0, none), (14, some 9)], some (14, true)), ([(17, some 12), (14, some 9)], some (14, true)), ([(16, some 11), (18, some 13), (14, some 9)], some (14, true)), ([(14, some 9), (19, some 14), (8, some 3)], some (8, false)), ([(8, some 3), (20, some 15)], none), ([(21, some 16)], none)] 22 18 rfl rfl (by kernel_rfl) NewT.trans (NewT.refl _) (Nat.le_of_ble_eq_true rfl) ⟨?_, ?_, ?_, ?_, ?_, ?_, ?_, ?_, ?_, ?_, ?_, ?_, ?_, ?_, ?_, ?_, ?_, ?_, trivial⟩ ?_
    · exact fun a wx hT hF K hK => rely_wp rfl (opr_move (.inl rfl) (hK _ _ (NewT.refl _) hF.1))
    · intro a wx hT hF K hK
      obtain ⟨f5, _⟩ := hF
      have f5 : a.tmps.getD 5 undef = v := f5
      refine rely_wp rfl ?_
      exact opr_len_pairs rfl (by rw [eval_tmp, f5]; exact ((NewT.trans _ _ _ HM.out hT).pairs HS.out)) (hK _ _ (NewT.refl _) rfl)
    · exact fun a wx hT hF K hK => rely_wp rfl (opr_cmp (b := decide (30 < ((List.length (l) : Int)))) (.inr (.inr (.inr (.inr (.inl ⟨rfl, rfl⟩))))) Try.underlying3 rfl hF.1 rfl (hK _ _ (NewT.refl _) rfl))
    · exact fun a wx hT hF K hK => rely_wp rfl (opr_move (.inl rfl) (hK _ _ (NewT.refl _) hF.1))
    · exact fun a wx hT hF K hK => rely_if (rely_gf hF.2.1) (NewT.refl _) hK fun hE hK => opr_move (.inl rfl) (hK _ _ (NewT.refl _) hF.1)
    · exact fun a wx hT hF K hK => rely_if (rely_gf hF.2.1) (NewT.refl _) hK fun hE hK => opr_cv (gMay_cv _ l wx ((NewT.trans _ _ _ HM.out hT).pairs HS.out)) rfl Try.func9 (by kernel_rfl) (by kernel_rfl) (evs1 (hF.1 hE)) hK
    · exact fun a wx hT hF K hK => rely_if (rely_gf hF.2.1) (NewT.refl _) hK fun hE hK => opr_move (.inl rfl) (hK _ _ (NewT.refl _) hF.1)
    · exact fun a wx hT hF K hK => rely_if (rely_gf hF.2.1) (NewT.refl _) hK fun hE hK => opr_cv (rMay_cv _ l wx ((NewT.trans _ _ _ HM.out hT).pairs HS.out)) rfl Try.func10 (by kernel_rfl) (by kernel_rfl) (evs1 (hF.1 hE)) hK
    · exact fun a wx hT hF K hK => rely_if (rely_gf hF.2.2.1) (NewT.refl _) hK fun hE hK => opr_eqlQ (b := (mayL l) == (mayL l)) (rfl) rfl (hF.1 hE) (hF.2.1 hE) (hK _ _ (NewT.refl _) rfl)
    · exact fun a wx hT hF K hK => rely_ifg (rely_gf hF.2.1) (NewT.refl _) hK fun hE hK => opr_move (.inl rfl) (hK _ _ (NewT.refl _) (hF.1 hE))
    · exact fun a wx hT hF K hK => rely_if (rely_ggt hF.2.1) (NewT.refl _) hK fun hE hK => opr_move (.inl rfl) (hK _ _ (NewT.refl _) hF.1)
    · exact fun a wx hT hF K hK => rely_if (rely_ggt hF.2.1) (NewT.refl _) hK fun hE hK => opr_cv (gNew_cvB _ l 0 wx (Nat.zero_le _) ((NewT.trans _ _ _ HM.out hT).pairs HS.out)) rfl Try.func12 (by kernel_rfl) (by kernel_rfl) (evs1 (hF.1 hE)) hK
    · exact fun a wx hT hF K hK => rely_if (rely_ggt hF.2.1) (NewT.refl _) hK fun hE hK => opr_move (.inl rfl) (hK _ _ (NewT.refl _) hF.1)
    · exact fun a wx hT hF K hK => rely_if (rely_ggt hF.2.1) (NewT.refl _) hK fun hE hK => opr_cv (rNew_cvB _ l 0 wx (Nat.zero_le _) ((NewT.trans _ _ _ HM.out hT).pairs HS.out)) rfl Try.func13 (by kernel_rfl) (by kernel_rfl) (evs1 (hF.1 hE)) hK
    · exact fun a wx hT hF K hK => rely_if (rely_ggt hF.2.2.1) (NewT.refl _) hK fun hE hK => opr_cv (Same_new _ _ (newL l) (newG l) 0 0 wx (hF.1 hE) (hF.2.1 hE)) rfl Try.func11 (by kernel_rfl) (by kernel_rfl) (evs2 rfl rfl) hK
    · exact fun a wx hT hF K hK => rely_if (rely_gf hF.2.2.1) (NewT.refl _) hK fun hE hK => opr_pick_b rfl (hF.1.trans (gV_on hE)) (fun hb => hK _ _ (NewT.refl _) (pk_and1 (hF.2.1 (band hE hb)) hb)) (fun hb => hK _ _ (NewT.refl _) (pk_and0 hb))
    · exact fun a wx hT hF K hK => rely_wp rfl (opr_pick_b rfl hF.1 (fun hb => hK _ _ (NewT.refl _) (pn_or1 Q1_3 hb)) (fun hb => hK _ _ (NewT.refl _) (pn_or0 Q1_3 (hF.2.1 (bnot hb)) hb)))
    · exact fun a wx hT hF K hK => rely_wp rfl (opr_move (.inr rfl) (hK _ _ (NewT.refl _) hF.1))
    · intro w2 k2
      iterate 4 (intro u h; obtain rfl := Eq.symm (h (by simp)); clear h)
      iterate 12 (intro _ _)
      iterate 2 (intro u h; obtain rfl := Eq.symm (h (by simp)); clear h)
      subst Q1_3
      refine relyEnd_nil rfl ?_
      refine wpList_end rfl ?_
      simp only [Act.put, List.setIfInBounds_toArray, List.set_cons_zero, List.set_cons_succ]
      go_simp
      replace HM := Lib.hid (NewT.trans _ _ _ HM.out k2)
      clear k2
      go_wp2
      go_ret
      exact ⟨by show Ending.returned (.bool _) = _; simp, HM.out.out⟩
end Go.Proofs.Ytfmahpgfeoafiaa
