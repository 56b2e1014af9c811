/- The law BookTwice, walked: no record goes twice, one behind itself. -/
import Derived.Test.YtilmeffmdgcblaaMh
import Derived.Test.YtilmeffmdgcblaaMg
set_option linter.all false
namespace Go.Proofs.Ytilmeffmdgcblaa
open Go Go.RowKit
set_option maxRecDepth 8000
set_option linter.all false
set_option maxHeartbeats 8000000 in
theorem BookTwice_walk (v : Value) (l : List Rc) (lim : Int) (w : World) (h : RdR w v l) : Calls Try.prog 6 #[v, .int .i64 lim] w fun e w' => e = .returned (.bool true) ∧ Below w.heap.size w w' := by
  have HV := Lib.hid h
  clear h
  go_enter Try.func6, Try.ntmps6
  go_upto_region 1 with fail
  have HB := Lib.hid (NewT.refl w)
  have HM := Lib.hid (NewT.refl w)
  refine wp_region_steps0 NewT [SV.eq (.bool true), SV.eq (.bool false)] [([], none), ([(9, some 0)], none)] 39 2 rfl rfl (by kernel_rfl) NewT.trans (NewT.refl _) (Nat.le_of_ble_eq_true rfl) ⟨?_, ?_, trivial⟩ ?_
  · exact fun a wx hT hF K hK => rely_wp rfl (opr_cv (alive12_c wx) rfl Try.func8 (by kernel_rfl) (by kernel_rfl) evs0 hK)
  · exact fun a wx hT hF K hK => rely_wp rfl (opr_not rfl hF.1 (hK _ _ (NewT.refl _) rfl))
  · intro w1 k1
    iterate 2 (intro u h; obtain rfl := Eq.symm (h (by simp)); clear h)
    refine relyEnd_nil rfl ?_
    refine wpList_end rfl ?_
    simp only [Act.put, List.setIfInBounds_toArray, List.set_cons_zero, List.set_cons_succ]
    go_simp
    replace HM := Lib.hid (NewT.trans _ _ _ HM.out k1)
    clear k1
    go_upto_region 3 with fail
    refine wp_region_steps0 NewT [SV.eq (v), SV.eq (.bool (greatL l))] [([(0, none)], none), ([(11, some 0)], none)] 39 2 rfl rfl (by kernel_rfl) NewT.trans (NewT.refl _) (Nat.le_of_ble_eq_true rfl) ⟨?_, ?_, trivial⟩ ?_
    · exact fun a wx hT hF K hK => rely_wp rfl (opr_move (.inl rfl) (hK _ _ (NewT.refl _) hF.1))
    · exact fun a wx hT hF K hK => rely_wp rfl (opr_cv (Great_cv _ l wx ((HV.out.new (NewT.trans _ _ _ HM.out hT)))) rfl Try.func9 (by kernel_rfl) (by kernel_rfl) (evs1 hF.1) hK)
    · intro w2 k2
      iterate 2 (intro u h; obtain rfl := Eq.symm (h (by simp)); clear h)
      refine relyEnd_nil rfl ?_
      refine wpList_end rfl ?_
      simp only [Act.put, List.setIfInBounds_toArray, List.set_cons_zero, List.set_cons_succ]
      go_simp
      replace HM := Lib.hid (NewT.trans _ _ _ HM.out k2)
      clear k2
      cases hq : greatL l
      rotate_left
      · clear hq
        go_wp2
        go_ret
        exact ⟨rfl, (NewT.trans _ _ _ HB.out HM.out).out⟩
      have HL150 := Lib.hid (great_not hq).1
      have HXL := Lib.hid (great_not hq).2
      have HNL : Hid (nOf lim zK l ≤ 150 ∧ nOf lim zK l ≤ l.length) := Lib.hid (by have h1 := nOf_le lim l zK; have h2 := (great_not hq).1; omega)
      have HGD := Lib.hid (good_of lim l)
      have HOK : Hid (OkK (bkOf lim l)) := Lib.hid (good_ok (good_of lim l) (by have h1 := nOf_le lim l zK; have h2 := (great_not hq).1; omega))
      clear hq
      obtain ⟨bk, hbk⟩ := hid_ex (bkOf lim l)
      obtain ⟨m, hm⟩ := hid_ex (nOf lim zK l)
      rw [hbk.out] at HOK HGD
      rw [hm.out] at HNL HGD
      go_upto_region 5 with fail
      refine wp_region_steps0 NewT [SV.eq (v), SV.eq (.int .i64 (lim)), svBkRB 0 (bk) (.int .i64 ((m : Int))), svBkRB 0 (bk) (.int .i64 ((m : Int))), svBkB (0) bk, SV.eq (.int .i64 ((m : Int)))] [([(0, none)], none), ([(1, none)], none), ([(14, some 0), (15, some 1)], none), ([(16, some 2)], none), ([(13, some 3)], none), ([(13, some 3)], none)] 39 6 rfl rfl (by kernel_rfl) NewT.trans (NewT.refl _) (Nat.le_of_ble_eq_true rfl) ⟨?_, ?_, ?_, ?_, ?_, ?_, trivial⟩ ?_
      · exact fun a wx hT hF K hK => rely_wp rfl (opr_move (.inl rfl) (hK _ _ (NewT.refl _) hF.1))
      · exact fun a wx hT hF K hK => rely_wp rfl (opr_move (.inl rfl) (hK _ _ (NewT.refl _) hF.1))
      · exact fun a wx hT hF K hK => rely_wp rfl (opr_cv (svBkRB_le (Of_cv _ l lim wx ((HV.out.new (NewT.trans _ _ _ HM.out hT))) (by have := HL150.out; omega)) (hbk.out) (by rw [hm.out])) rfl Try.func10 (by kernel_rfl) (by kernel_rfl) (evs2 hF.1 hF.2.1) hK)
      · exact fun a wx hT hF K hK => rely_wp rfl (opr_move (.inl rfl) (hK _ _ (NewT.refl _) hF.1))
      · exact fun a wx hT hF K hK => rely_wp rfl (opr_extKB0 rfl hF.1 (fun u hu => hK u _ (NewT.refl _) hu))
      · exact fun a wx hT hF K hK => rely_wp rfl (opr_extKB1 rfl hF.1 (hK _ _ (NewT.refl _) rfl))
      · intro w3 k3
        iterate 2 (intro u h; obtain rfl := Eq.symm (h (by simp)); clear h)
        iterate 2 (intro _ _)
        intro u17 h; have g17 := h (by simp); clear h; replace g17 := show (svBkB (0) bk).pred u17 w3 from g17
        intro u h; obtain rfl := Eq.symm (h (by simp)); clear h
        refine relyEnd_nil rfl ?_
        simp only [Act.put, List.setIfInBounds_toArray, List.set_cons_zero, List.set_cons_succ]
        obtain ⟨s5, rfl, hs5⟩ := (show BkVB w3 (0) u17 bk from g17)
        refine wpList_new (n := 5) (f := bkF bk.ep s5) rfl rfl rfl rfl rfl rfl (by first | (simp; done) | simp [Act.put]) run_alloc_book info_book (bkF_one _ _ hs5.rd.one) rfl ?_
        intro W3 hn3 rr3
        simp only [Act.put, List.setIfInBounds_toArray, List.set_cons_zero, List.set_cons_succ]
        refine wpList_plain rfl (fun K hK => ?_)
        refine opr_move (.inr rfl) (hK _ _ ?_)
        clear hK K
        refine wpList_end rfl ?_
        simp only [Act.put, List.setIfInBounds_toArray, List.set_cons_zero, List.set_cons_succ]
        go_simp
        obtain ⟨g5, h_g5⟩ : ∃ g_, w3.heap.size = g_ := ⟨_, rfl⟩
        rw [h_g5] at rr3
        simp only [h_g5]
        have HGg5 : Hid (w.heap.size ≤ g5) := Lib.hid (by rw [← h_g5]; exact (NewT.trans _ _ _ HM.out k3).out.size)
        have q3 := NewT.trans _ _ _ k3 hn3
        have HS5 := Lib.hid (hs5.new hn3)
        clear hs5
        clear k3 hn3 h_g5
        replace HM := Lib.hid (NewT.trans _ _ _ HM.out q3)
        clear q3
        have Rg5 := Lib.hid rr3
        clear rr3
        replace HV := Lib.hid (HV.out.new HM.out)
        replace HB := Lib.hid (NewT.trans _ _ _ HB.out HM.out)
        replace HM := Lib.hid (NewT.refl W3)
        go_upto_region 6 with fail
        refine wp_region_steps0 NewT [SV.eq (.int .i64 ((m : Int))), SV.eq (.bool (((m : Int)) == 0))] [([(6, none)], none), ([(19, some 0)], none)] 39 2 rfl rfl (by kernel_rfl) NewT.trans (NewT.refl _) (Nat.le_of_ble_eq_true rfl) ⟨?_, ?_, trivial⟩ ?_
        · exact fun a wx hT hF K hK => rely_wp rfl (opr_move (.inl rfl) (hK _ _ (NewT.refl _) hF.1))
        · exact fun a wx hT hF K hK => rely_wp rfl (opr_cmp (b := ((m : Int)) == 0) (.inl ⟨rfl, rfl⟩) Try.underlying3 rfl hF.1 rfl (hK _ _ (NewT.refl _) rfl))
        · intro w4 k4
          iterate 2 (intro u h; obtain rfl := Eq.symm (h (by simp)); clear h)
          refine relyEnd_nil rfl ?_
          refine wpList_end rfl ?_
          simp only [Act.put, List.setIfInBounds_toArray, List.set_cons_zero, List.set_cons_succ]
          go_simp
          replace Rg5 := Lib.hid (k4.row Rg5.out)
          replace HM := Lib.hid (NewT.trans _ _ _ HM.out k4)
          clear k4
          cases hz : ((m : Int) == 0)
          rotate_left
          · clear hz
            go_wp2
            go_ret
            exact ⟨rfl, (NewT.trans _ _ _ HB.out HM.out).out⟩
          obtain ⟨j, hj⟩ : ∃ j, m = j + 1 := ⟨m - 1, by have := beq_eq_false_iff_ne.1 hz; omega⟩
          have HJ := Lib.hid hj
          obtain ⟨x, hx⟩ : ∃ x, l[j]? = some x := ⟨_, List.getElem?_eq_getElem (by have := HNL.out; omega)⟩
          have HPP := Lib.hid hx
          have HNG : Hid (goesK lim bk x = false) := Lib.hid (by rw [← hbk.out]; exact once (m := j) (by rw [hm.out, hj]) hx)
          have HWK : Hid (wentK lim bk x = bk) := Lib.hid (by unfold wentK; rw [HNG.out, if_neg (by simp)])
          have HMY : Hid (MayAll bk.sg) := Lib.hid (good_may HGD.out)
          clear hz hj hx
          go_upto_region 8 with fail
          refine wp_region_relyA0 (BelM w4) (JV 7 w4 28 5 (bkF zK.ep (.slice none 0 0)) (fun w F => ∃ s7, F = bkF bk.ep s7 ∧ RdU w s7 bk.sg)) [SV.eq (.agg (rowA 5 (bkF bk.ep s5))), SV.eq (v), SV.eq (.int .i64 ((m : Int))), SV.eq (.int .i64 ((j : Int))), svAt w4 (svEl 109 rcE x), svAt w4 (svRec x), SV.eq (.int .i64 (lim)), svBkMR w4 bk HMY.out (.bool false), svBkMR w4 bk HMY.out (.bool false), svBkM w4 bk HMY.out, SV.eq (.bool false), svPtV, SV.any] [([(5, none)], none), ([(0, none)], none), ([(6, none)], none), ([(24, some 2)], none), ([(23, some 1), (25, some 3)], none), ([(26, some 4)], none), ([(1, none)], none), ([(22, some 0), (27, some 5), (28, some 6)], none), ([(29, some 7)], none), ([(21, some 8)], none), ([(21, some 8)], none), ([], none), ([(7, some 11), (30, some 9)], none)] [none, none, none, none, none, none, none, none, none, none, none, some 0, some 1] [11, 12] 39 rfl (by kernel_rfl) rfl (by kernel_rfl) (by kernel_rfl) rfl (by kernel_rfl) (BelM.trans w4) (BelM.drew w4 _) (.inl rfl) (Nat.le_of_ble_eq_true rfl) ⟨?_, ?_, ?_, ?_, ?_, ?_, ?_, ?_, ?_, ?_, ?_, ?_, ?_, trivial⟩ ?_
          · intro a wx hT hF K hK
            replace hT : NewT w4 wx := hT.below
            replace hK := fun v w' (hN : NewT wx w') hv => hK v w' (BelM.new hT hN) (fun k h => JV.keep h (by simp) hN (fun F ⟨s7, h1, h2⟩ => ⟨s7, h1, h2.new hN⟩)) hv
            obtain ⟨f5, _⟩ := hF
            have f5 : a.tmps.getD 5 undef = .pointer (some ⟨g5, 0, none⟩) := f5
            refine rely_wp rfl ?_
            exact opr_ldK (hT.row Rg5.out) rfl f5 (hK _ _ (NewT.refl _) rfl)
          · intro a wx hT hF K hK
            replace hT : NewT w4 wx := hT.below
            replace hK := fun v w' (hN : NewT wx w') hv => hK v w' (BelM.new hT hN) (fun k h => JV.keep h (by simp) hN (fun F ⟨s7, h1, h2⟩ => ⟨s7, h1, h2.new hN⟩)) hv
            obtain ⟨f0, _⟩ := hF
            have f0 : a.tmps.getD 0 undef = v := f0
            refine rely_wp rfl ?_
            exact opr_move (.inl rfl) (hK _ _ (NewT.refl _) f0)
          · intro a wx hT hF K hK
            replace hT : NewT w4 wx := hT.below
            replace hK := fun v w' (hN : NewT wx w') hv => hK v w' (BelM.new hT hN) (fun k h => JV.keep h (by simp) hN (fun F ⟨s7, h1, h2⟩ => ⟨s7, h1, h2.new hN⟩)) hv
            obtain ⟨f6, _⟩ := hF
            have f6 : a.tmps.getD 6 undef = .int .i64 ((m : Int)) := f6
            refine rely_wp rfl ?_
            exact opr_move (.inl rfl) (hK _ _ (NewT.refl _) f6)
          · intro a wx hT hF K hK
            replace hT : NewT w4 wx := hT.below
            replace hK := fun v w' (hN : NewT wx w') hv => hK v w' (BelM.new hT hN) (fun k h => JV.keep h (by simp) hN (fun F ⟨s7, h1, h2⟩ => ⟨s7, h1, h2.new hN⟩)) hv
            obtain ⟨f24, _⟩ := hF
            have f24 : a.tmps.getD 24 undef = .int .i64 ((m : Int)) := f24
            refine rely_wp rfl ?_
            exact opr_sub (r := (j : Int)) Try.underlying3 (by have := HJ.out; have := HNL.out; unfold wrap64; omega) rfl f24 rfl (hK _ _ (NewT.refl _) rfl)
          · intro a wx hT hF K hK
            replace hT : NewT w4 wx := hT.below
            replace hK := fun v w' (hN : NewT wx w') hv => hK v w' (BelM.new hT hN) (fun k h => JV.keep h (by simp) hN (fun F ⟨s7, h1, h2⟩ => ⟨s7, h1, h2.new hN⟩)) hv
            obtain ⟨f23, f25, _⟩ := hF
            have f23 : a.tmps.getD 23 undef = v := f23
            have f25 : a.tmps.getD 25 undef = .int .i64 ((j : Int)) := f25
            refine rely_wp rfl ?_
            exact opr_idxLW (W := w4) recEl HPP.out rfl rfl (by rw [eval_tmp, f23]; exact HV.out.new HM.out) f25 (fun v hv => hK v _ (NewT.refl _) hv)
          · intro a wx hT hF K hK
            replace hT : NewT w4 wx := hT.below
            replace hK := fun v w' (hN : NewT wx w') hv => hK v w' (BelM.new hT hN) (fun k h => JV.keep h (by simp) hN (fun F ⟨s7, h1, h2⟩ => ⟨s7, h1, h2.new hN⟩)) hv
            obtain ⟨f26, _⟩ := hF
            replace f26 := show (svAt w4 (svEl 109 rcE x)).pred (a.tmps.getD 26 undef) wx from f26
            refine rely_wp rfl ?_
            exact opr_ldRcW hT rfl f26 (fun v hv => hK v _ (NewT.refl _) hv)
          · intro a wx hT hF K hK
            replace hT : NewT w4 wx := hT.below
            replace hK := fun v w' (hN : NewT wx w') hv => hK v w' (BelM.new hT hN) (fun k h => JV.keep h (by simp) hN (fun F ⟨s7, h1, h2⟩ => ⟨s7, h1, h2.new hN⟩)) hv
            obtain ⟨f1, _⟩ := hF
            have f1 : a.tmps.getD 1 undef = .int .i64 (lim) := f1
            refine rely_wp rfl ?_
            exact opr_move (.inl rfl) (hK _ _ (NewT.refl _) f1)
          · intro a wx hT hF K hK
            replace hT : NewT w4 wx := hT.below
            replace hK := fun v w' (hN : NewT wx w') hv => hK v w' (BelM.new hT hN) (fun k h => JV.keep h (by simp) hN (fun F ⟨s7, h1, h2⟩ => ⟨s7, h1, h2.new hN⟩)) hv
            obtain ⟨f22, f27, f28, _⟩ := hF
            have f22 : a.tmps.getD 22 undef = .agg (rowA 5 (bkF bk.ep s5)) := f22
            replace f27 := show (svAt w4 (svRec x)).pred (a.tmps.getD 27 undef) wx from f27
            have f28 : a.tmps.getD 28 undef = .int .i64 (lim) := f28
            refine rely_wp rfl ?_
            refine opr_cv (HWK.out ▸ HNG.out ▸ bGo_cv 0 _ _ bk x lim wx ⟨s5, rfl, HS5.out.new (NewT.trans _ _ _ HM.out hT)⟩ (hT.recV f27) HOK.out (Nat.zero_le _)) rfl Try.func24 (by kernel_rfl) (by kernel_rfl) (by simp only [List.map_toArray, List.map_cons, List.map_nil, eval_tmp, f22, f28]) (fun v w' hN hv => hK v w' hN (by obtain ⟨b, h1, h2⟩ := hv; exact ⟨b, h1, h2.rd⟩))
          · intro a wx hT hF K hK
            replace hT : NewT w4 wx := hT.below
            replace hK := fun v w' (hN : NewT wx w') hv => hK v w' (BelM.new hT hN) (fun k h => JV.keep h (by simp) hN (fun F ⟨s7, h1, h2⟩ => ⟨s7, h1, h2.new hN⟩)) hv
            obtain ⟨f29, _⟩ := hF
            replace f29 := show (svBkMR w4 bk HMY.out (.bool false)).pred (a.tmps.getD 29 undef) wx from f29
            refine rely_wp rfl ?_
            exact opr_move (.inl rfl) (hK _ _ (NewT.refl _) f29)
          · intro a wx hT hF K hK
            replace hT : NewT w4 wx := hT.below
            replace hK := fun v w' (hN : NewT wx w') hv => hK v w' (BelM.new hT hN) (fun k h => JV.keep h (by simp) hN (fun F ⟨s7, h1, h2⟩ => ⟨s7, h1, h2.new hN⟩)) hv
            obtain ⟨f21, _⟩ := hF
            replace f21 := show (svBkMR w4 bk HMY.out (.bool false)).pred (a.tmps.getD 21 undef) wx from f21
            refine rely_wp rfl ?_
            obtain ⟨b, h1, h2⟩ := f21
            exact opr_ext rfl h1 rfl (hK _ _ (NewT.refl _) h2)
          · intro a wx hT hF K hK
            replace hT : NewT w4 wx := hT.below
            replace hK := fun v w' (hN : NewT wx w') hv => hK v w' (BelM.new hT hN) (fun k h => JV.keep h (by simp) hN (fun F ⟨s7, h1, h2⟩ => ⟨s7, h1, h2.new hN⟩)) hv
            obtain ⟨f21, _⟩ := hF
            replace f21 := show (svBkMR w4 bk HMY.out (.bool false)).pred (a.tmps.getD 21 undef) wx from f21
            refine rely_wp rfl ?_
            obtain ⟨b, h1, h2⟩ := f21
            exact opr_ext rfl h1 rfl (hK _ _ (NewT.refl _) rfl)
          · intro a wx hT hF hJ K hK
            replace hT : NewT w4 wx := hT.below
            refine rely_wp rfl ?_
            refine opr_allocV rfl run_alloc_book ?_
            exact hK _ _ (BelM.new hT (NewT.alloc _ _)) (JV.make hT) ⟨_, rfl⟩
          · intro a wx hT hF hJ K hK
            replace hT : NewT w4 wx := hT.below
            obtain ⟨f7, f30, _⟩ := hF
            replace f7 := show (svPtV).pred (a.tmps.getD 7 undef) wx from f7
            replace f30 := show (svBkM w4 bk HMY.out).pred (a.tmps.getD 30 undef) wx from f30
            refine rely_wp rfl ?_
            obtain ⟨gv, hgv⟩ := f7
            obtain ⟨hB1, hr1⟩ := JV.at1 hJ hgv
            obtain ⟨s7, hb7, hs7⟩ := (show BkV wx (a.tmps.getD 30 undef) bk from f30)
            have hone := bkF_one bk.ep s7 hs7.one
            replace f30 : a.tmps.getD 30 undef = .agg (rowA 5 (bkF bk.ep s7)) := hb7
            refine opr_putm (g := gv) (o0 := 0) (m := 5) (f := bkF bk.ep s7) (F := bkF bk.ep s7) rfl hgv f30 hr1 (by decide) info_book hone (put_allN _ _ _) ?_
            intro w' hR hr2
            exact hK _ _ (BelM.store hB1 hr1 hR) (JV.mk2 hgv hB1 hr2 (⟨s7, rfl, by obtain ⟨s8, e8, h8⟩ := (BelM.store hB1 hr1 hR : BelM w4 wx w').keep (.agg (rowA 5 (bkF bk.ep s7))) bk HMY.out ⟨s7, rfl, hs7⟩; have e9 := congrArg (fun v => match v with | Value.agg c => c.getD 4 undef | _ => undef) e8; have e10 : s7 = s8 := e9; rw [e10]; exact h8⟩)) trivial
          · intro w5 k5
            iterate 4 (intro u h; obtain rfl := Eq.symm (h (by simp)); clear h)
            iterate 2 (intro _ _)
            intro u h; obtain rfl := Eq.symm (h (by simp)); clear h
            iterate 3 (intro _ _)
            intro u h; obtain rfl := Eq.symm (h (by simp)); clear h
            intro u h; obtain ⟨p7, hv⟩ := (h (by simp)); clear h; subst hv
            intro _ _
            refine relyEnd_nil rfl ?_
            intro hJ
            simp only [Act.put, List.setIfInBounds_toArray, List.set_cons_zero, List.set_cons_succ]
            obtain ⟨Fz, hBz, hrz, hGz⟩ := JV.at2 (g := p7) hJ (by kernel_rfl)
            refine opr_move (.inr rfl) ?_
            go_simp
            obtain ⟨s7, rfl, hs7⟩ := hGz
            replace k5 : NewT w4 w5 := k5.below
            obtain ⟨g7, h_g7⟩ : ∃ g_, p7 = g_ := ⟨_, rfl⟩
            rw [h_g7] at hrz hBz
            simp only [h_g7]
            have HGg7 : Hid (g5 < g7 ∧ W3.heap.size ≤ g7) := Lib.hid ⟨Nat.lt_of_lt_of_le Rg5.out.lt hBz, Nat.le_trans HM.out.out.size hBz⟩
            clear h_g7 hBz hJ
            replace Rg5 := Lib.hid (k5.row Rg5.out)
            replace HM := Lib.hid (NewT.trans _ _ _ HM.out k5)
            clear k5
            have Rg7 := Lib.hid hrz
            clear hrz
            have HS7 := Lib.hid hs7
            clear hs7
            replace HS5 := Lib.hid (HS5.out.new HM.out)
            replace HB := Lib.hid (NewT.trans _ _ _ HB.out HM.out)
            replace HM := Lib.hid (NewT.refl w5)
            go_upto_region 9 with fail
            refine wp_region_steps0 NewT [SV.eq (.bool false), SV.eq (.bool true), SV.eq (.bool true), SV.eq (.agg (rowA 5 (bkF bk.ep s5))), SV.eq (.agg (rowA 5 (bkF bk.ep s7))), SV.eq (.bool true), SV.eq (.bool true), SV.eq (.bool true)] [([(8, none)], none), ([(32, some 0)], none), ([(33, some 1)], none), ([(5, none), (34, some 2)], some (34, true)), ([(7, none), (34, some 2)], some (34, true)), ([(35, some 3), (36, some 4), (34, some 2)], some (34, true)), ([(34, some 2), (37, some 5)], none), ([(38, some 6)], none)] 39 8 rfl rfl (by kernel_rfl) NewT.trans (NewT.refl _) (Nat.le_of_ble_eq_true rfl) ⟨?_, ?_, ?_, ?_, ?_, ?_, ?_, ?_, trivial⟩ ?_
            · exact fun a wx hT hF K hK => rely_wp rfl (opr_move (.inl rfl) (hK _ _ (NewT.refl _) hF.1))
            · exact fun a wx hT hF K hK => rely_wp rfl (opr_not rfl hF.1 (hK _ _ (NewT.refl _) rfl))
            · exact fun a wx hT hF K hK => rely_wp rfl (opr_move (.inl rfl) (hK _ _ (NewT.refl _) hF.1))
            · exact fun a wx hT hF K hK => rely_wp (rely_guard hF.2.1) (opr_ldK (hT.row Rg5.out) rfl hF.1 (hK _ _ (NewT.refl _) rfl))
            · exact fun a wx hT hF K hK => rely_wp (rely_guard hF.2.1) (opr_ldK (hT.row Rg7.out) rfl hF.1 (hK _ _ (NewT.refl _) rfl))
            · exact fun a wx hT hF K hK => rely_wp (rely_guard hF.2.2.1) (opr_cv ((sameK_self bk) ▸ rSameK_cv _ _ bk bk wx (BkVB.rd ⟨s5, rfl, HS5.out.new (NewT.trans _ _ _ HM.out hT)⟩) (⟨s7, rfl, HS7.out.new (NewT.trans _ _ _ HM.out hT)⟩) (by have := HOK.out.len; omega)) rfl Try.func16 (by kernel_rfl) (by kernel_rfl) (evs2 hF.1 hF.2.1) hK)
            · exact fun a wx hT hF K hK => rely_wp rfl (opr_pick_true rfl hF.1 (hK _ _ (NewT.refl _) hF.2.1))
            · exact fun a wx hT hF K hK => rely_wp rfl (opr_move (.inr rfl) (hK _ _ (NewT.refl _) hF.1))
            · intro w6 k6
              iterate 8 (intro u h; obtain rfl := Eq.symm (h (by simp)); clear h)
              refine relyEnd_nil rfl ?_
              refine wpList_end rfl ?_
              simp only [Act.put, List.setIfInBounds_toArray, List.set_cons_zero, List.set_cons_succ]
              go_simp
              replace Rg5 := Lib.hid (k6.row Rg5.out)
              replace Rg7 := Lib.hid (k6.row Rg7.out)
              replace HM := Lib.hid (NewT.trans _ _ _ HM.out k6)
              clear k6
              go_wp2
              go_ret
              exact ⟨rfl, (NewT.trans _ _ _ HB.out HM.out).out⟩
end Go.Proofs.Ytilmeffmdgcblaa
