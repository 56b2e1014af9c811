/- What layer 10's laws say of checkpoints, on lists. -/
import Derived.Test.YtcfogkimjbgjgaaDoorMb
import Derived.Test.YtcfogkimjbgjgaaDoorMf
set_option linter.all false
namespace Go.Proofs.YtcfogkimjbgjgaaDoor
open Go
set_option maxRecDepth 8000
set_option linter.all false
section
variable {tg : Hs → Hs → Hs} {pf : Int → Hs → Hs} {ps ws : List Hs} {need size : Int} {root : Hs}
theorem bare_check (sg : Nat → Hs) (h : (mayB ps ws need && inR size 0 400) = true) : checkI ps ws need size sg [] = 8 := by
  refine checkI_few h (decide_eq_true ?_)
  have := (mayB_iff ps ws need).1 (Bool.and_eq_true _ _ |>.mp h).1
  simp; omega
theorem bare_nine (sg : Nat → Hs) (t : Hs) (h : (mayB ps ws need && inR size 0 400) = true) : checkI ps ws need size sg [(0, t), (9, z32)] = 8 := by
  refine checkI_bad h (okTo_bad (k := 1) (s := (9, z32)) rfl ?_)
  have := (mayB_iff ps ws need).1 (Bool.and_eq_true _ _ |>.mp h).1
  unfold okAt
  rw [show inR 9 0 ((ws.length : Int) - 1) = false from by rw [← Bool.not_eq_true, inR_iff]; omega]
  rfl
theorem sign_out (size : Int) (root : Hs) : eqH (signH tg pf ps ws need (ws.length : Int) size root) z32 = true := by
  unfold signH mayS
  rw [show inR (ws.length : Int) 0 ((ws.length : Int) - 1) = false from by rw [← Bool.not_eq_true, inR_iff]; omega, Bool.and_false, Bool.false_and]
  exact eqH_same _
end
end Go.Proofs.YtcfogkimjbgjgaaDoor
/- The law KeysBare, walked: a checkpoint that nobody signed doesn't hold, and what others signed doesn't matter to a witness's tag. -/
namespace Go.Proofs.YtcfogkimjbgjgaaDoor
open Go Go.RowKit
set_option maxRecDepth 8000
set_option linter.all false
set_option maxHeartbeats 4000000 in
theorem KeysBare_walk (v : Value) (ps ws : List Hs) (need size : Int) (root : Hs) (w : World) (hT : Tables w) (hk : KeysV w v ps ws need) : Calls Tryd.prog 8 #[v, .int .i64 size, .agg (rowA 32 (bF root))] w fun e w' => e = .returned (.bool true) ∧ Below w.heap.size w w' := by
  obtain ⟨kf, tg, pf, hX⟩ := keyH_ex
  obtain ⟨pv, wv, rfl, hpv, hwv⟩ := hk
  have HT := Lib.hid hT
  have HK : Hid (KeysV w (.agg (rowA 3 (keyF pv wv need))) ps ws need) := Lib.hid ⟨pv, wv, rfl, hpv, hwv⟩
  have HP := Lib.hid hpv
  have HW := Lib.hid hwv
  clear hT hpv hwv
  go_enter Tryd.func8, Tryd.ntmps8
  go_upto_region 1 with fail
  have rk := (rowIs_box w 24 3 (keyF pv wv need)).alloc (.cells (rowA 32 (bF root)) 26)
  have r2 := rowIs_box (w.alloc (.cells (rowA 3 (keyF pv wv need)) 24)) 26 32 (bF root)
  have hN : NewT w ((w.alloc (.cells (rowA 3 (keyF pv wv need)) 24)).alloc (.cells (rowA 32 (bF root)) 26)) := NewT.trans _ _ _ (NewT.alloc _ _) (NewT.alloc _ _)
  rw [World.size_alloc] at r2
  change Code.wp _ _ _ _ ((w.alloc (.cells (rowA 3 (keyF pv wv need)) 24)).alloc (.cells (rowA 32 (bF root)) 26))
  generalize (w.alloc (.cells (rowA 3 (keyF pv wv need)) 24)).alloc (.cells (rowA 32 (bF root)) 26) = W0 at rk r2 hN ⊢
  obtain ⟨g1, hg1⟩ : ∃ g1, w.heap.size = g1 := ⟨_, rfl⟩
  obtain ⟨g2, hg2⟩ : ∃ g2, w.heap.size + 1 = g2 := ⟨_, rfl⟩
  have HG12 : Hid (g1 < g2 ∧ w.heap.size ≤ g1) := Lib.hid (by omega)
  rw [hg1] at rk
  rw [hg2] at r2
  rw [hg2]
  simp only [hg1]
  have RK := Lib.hid rk
  have RH := Lib.hid r2
  have HM := Lib.hid hN
  clear rk r2 hN hg1 hg2
  refine wp_region_steps0 NewT [SV.eq (.bool true), SV.eq (.bool false)] [([], none), ([(9, some 0)], none)] 70 2 rfl rfl (by kernel_rfl) NewT.trans (NewT.refl _) (Nat.le_of_ble_eq_true rfl) ⟨?_, ?_, trivial⟩ ?_
  · exact fun a wx hT hF K hK => rely_wp rfl (opr_cv (alive10_c wx ((NewT.trans _ _ _ HM.out hT).tables HT.out)) rfl Tryd.func10 (by kernel_rfl) (by kernel_rfl) evs0 hK)
  · exact fun a wx hT hF K hK => rely_wp rfl (opr_not rfl hF.1 (hK _ _ (NewT.refl _) rfl))
  · intro w1 k1
    iterate 2 (intro u h; obtain rfl := Eq.symm (h (by simp)); clear h)
    refine relyEnd_nil rfl ?_
    refine wpList_end rfl ?_
    simp only [Act.put, List.setIfInBounds_toArray, List.set_cons_zero, List.set_cons_succ]
    go_simp
    replace RK := Lib.hid (k1.row RK.out)
    replace RH := Lib.hid (k1.row RH.out)
    replace HM := Lib.hid (NewT.trans _ _ _ HM.out k1)
    clear k1
    go_upto_region 3 with fail
    obtain ⟨q1_3, Q1_3⟩ : ∃ bq_, ((decide (20 < ((List.length (ps) : Int)))) || (decide (20 < ((List.length (ws) : Int))))) = bq_ := ⟨_, rfl⟩
    obtain ⟨q2_3, Q2_3⟩ : ∃ bq_, ((q1_3 || (!(mayB ps ws need))) || (decide (size < 0))) = bq_ := ⟨_, rfl⟩
    refine wp_region_steps0 NewT [SV.eq (.pointer (some ⟨g1, 0, none⟩)), SV.eq (pv), SV.eq (.int .i64 ((List.length (ps) : Int))), SV.eq (.bool (decide (20 < ((List.length (ps) : Int))))), SV.eq (.bool (decide (20 < ((List.length (ps) : Int))))), svIf ((!(decide (20 < ((List.length (ps) : Int)))))) (SV.eq (.pointer (some ⟨g1, 1, none⟩))), svIf ((!(decide (20 < ((List.length (ps) : Int)))))) (SV.eq (wv)), svIf ((!(decide (20 < ((List.length (ps) : Int)))))) (SV.eq (.int .i64 ((List.length (ws) : Int)))), svIf ((!(decide (20 < ((List.length (ps) : Int)))))) (SV.eq (.bool (decide (20 < ((List.length (ws) : Int)))))), SV.eq (.bool (q1_3)), SV.eq (.bool (q1_3)), svIf ((!q1_3)) (SV.eq (.agg (rowA 3 (keyF pv wv need)))), svIf ((!q1_3)) (SV.eq (.bool (mayB ps ws need))), svIf ((!q1_3)) (SV.eq (.bool (!(mayB ps ws need)))), SV.eq (.bool (q1_3 || (!(mayB ps ws need)))), SV.eq (.bool (q1_3 || (!(mayB ps ws need)))), svIf ((!(q1_3 || (!(mayB ps ws need))))) (SV.eq (.int .i64 (size))), svIf ((!(q1_3 || (!(mayB ps ws need))))) (SV.eq (.bool (decide (size < 0)))), SV.eq (.bool (q2_3)), SV.eq (.bool (q2_3)), svIf ((!q2_3)) (SV.eq (.int .i64 (size))), svIf ((!q2_3)) (SV.eq (.bool (decide (400 < size)))), SV.eq (.bool (q2_3 || (decide (400 < size))))] [([(3, none)], none), ([(11, some 0)], none), ([(12, some 1)], none), ([(13, some 2)], none), ([(14, some 3)], none), ([(3, none), (15, some 4)], some (15, false)), ([(16, some 5), (15, some 4)], some (15, false)), ([(17, some 6), (15, some 4)], some (15, false)), ([(18, some 7), (15, some 4)], some (15, false)), ([(15, some 4), (19, some 8)], none), ([(20, some 9)], none), ([(3, none), (21, some 10)], some (21, false)), ([(22, some 11), (21, some 10)], some (21, false)), ([(23, some 12), (21, some 10)], some (21, false)), ([(21, some 10), (24, some 13)], none), ([(25, some 14)], none), ([(1, none), (26, some 15)], some (26, false)), ([(27, some 16), (26, some 15)], some (26, false)), ([(26, some 15), (28, some 17)], none), ([(29, some 18)], none), ([(1, none), (30, some 19)], some (30, false)), ([(31, some 20), (30, some 19)], some (30, false)), ([(30, some 19), (32, some 21)], none)] 70 23 rfl rfl (by kernel_rfl) NewT.trans (NewT.refl _) (Nat.le_of_ble_eq_true rfl) ⟨?_, ?_, ?_, ?_, ?_, ?_, ?_, ?_, ?_, ?_, ?_, ?_, ?_, ?_, ?_, ?_, ?_, ?_, ?_, ?_, ?_, ?_, ?_, trivial⟩ ?_
    · exact fun a wx hT hF K hK => rely_wp rfl (opr_fldY0 rfl hF.1 (hK _ _ (NewT.refl _) rfl))
    · exact fun a wx hT hF K hK => rely_wp rfl (opr_ldHs (hT.row RK.out) (by decide) rfl rfl hF.1 (hK _ _ (NewT.refl _) rfl))
    · intro a wx hT hF K hK
      obtain ⟨f12, _⟩ := hF
      have f12 : a.tmps.getD 12 undef = pv := f12
      refine rely_wp rfl ?_
      exact opr_len_h rfl (by rw [eval_tmp, f12]; exact ((NewT.trans _ _ _ HM.out hT).hs HP.out)) (hK _ _ (NewT.refl _) rfl)
    · exact fun a wx hT hF K hK => rely_wp rfl (opr_cmp (b := decide (20 < ((List.length (ps) : Int)))) (.inr (.inr (.inr (.inr (.inl ⟨rfl, rfl⟩))))) Tryd.underlying3 rfl hF.1 rfl (hK _ _ (NewT.refl _) rfl))
    · exact fun a wx hT hF K hK => rely_wp rfl (opr_move (.inl rfl) (hK _ _ (NewT.refl _) hF.1))
    · exact fun a wx hT hF K hK => rely_if (rely_gf hF.2.1) (NewT.refl _) hK fun hE hK => opr_fldY1 rfl hF.1 (hK _ _ (NewT.refl _) rfl)
    · exact fun a wx hT hF K hK => rely_if (rely_gf hF.2.1) (NewT.refl _) hK fun hE hK => opr_ldHs (hT.row RK.out) (by decide) rfl rfl (hF.1 hE) (hK _ _ (NewT.refl _) rfl)
    · intro a wx hT hF K hK
      obtain ⟨f17, f15, _⟩ := hF
      have f17 : ((!(decide (20 < ((List.length (ps) : Int)))))) = true → a.tmps.getD 17 undef = wv := f17
      have f15 : a.tmps.getD 15 undef = .bool (decide (20 < ((List.length (ps) : Int)))) := f15
      refine rely_if (rely_gf f15) (NewT.refl _) hK (fun hE hK => ?_)
      exact opr_len_h rfl (by rw [eval_tmp, (f17 hE)]; exact ((NewT.trans _ _ _ HM.out hT).hs HW.out)) (hK _ _ (NewT.refl _) rfl)
    · exact fun a wx hT hF K hK => rely_if (rely_gf hF.2.1) (NewT.refl _) hK fun hE hK => opr_cmp (b := decide (20 < ((List.length (ws) : Int)))) (.inr (.inr (.inr (.inr (.inl ⟨rfl, rfl⟩))))) Tryd.underlying3 rfl (hF.1 hE) rfl (hK _ _ (NewT.refl _) rfl)
    · exact fun a wx hT hF K hK => rely_wp rfl (opr_pick_b rfl hF.1 (fun hb => hK _ _ (NewT.refl _) (pn_or1 Q1_3 hb)) (fun hb => hK _ _ (NewT.refl _) (pn_or0 Q1_3 (hF.2.1 (bnot hb)) hb)))
    · exact fun a wx hT hF K hK => rely_wp rfl (opr_move (.inl rfl) (hK _ _ (NewT.refl _) hF.1))
    · exact fun a wx hT hF K hK => rely_if (rely_gf hF.2.1) (NewT.refl _) hK fun hE hK => opr_ldY (hT.row RK.out) rfl hF.1 (hK _ _ (NewT.refl _) rfl)
    · exact fun a wx hT hF K hK => rely_if (rely_gf hF.2.1) (NewT.refl _) hK fun hE hK => opr_cv (May_cv _ ps ws need wx ((NewT.trans _ _ _ HM.out hT).keysV HK.out)) rfl Tryd.func12 (by kernel_rfl) (by kernel_rfl) (evs1 (hF.1 hE)) hK
    · exact fun a wx hT hF K hK => rely_if (rely_gf hF.2.1) (NewT.refl _) hK fun hE hK => opr_not rfl (hF.1 hE) (hK _ _ (NewT.refl _) rfl)
    · exact fun a wx hT hF K hK => rely_wp rfl (opr_pick_b rfl hF.1 (fun hb => hK _ _ (NewT.refl _) (pk_or1 hb)) (fun hb => hK _ _ (NewT.refl _) (pk_or0 (hF.2.1 (bnot hb)) hb)))
    · exact fun a wx hT hF K hK => rely_wp rfl (opr_move (.inl rfl) (hK _ _ (NewT.refl _) hF.1))
    · exact fun a wx hT hF K hK => rely_if (rely_gf hF.2.1) (NewT.refl _) hK fun hE hK => opr_move (.inl rfl) (hK _ _ (NewT.refl _) hF.1)
    · exact fun a wx hT hF K hK => rely_if (rely_gf hF.2.1) (NewT.refl _) hK fun hE hK => opr_cmp (b := decide (size < 0)) (.inr (.inr (.inr (.inl ⟨rfl, rfl⟩)))) Tryd.underlying3 rfl (hF.1 hE) rfl (hK _ _ (NewT.refl _) rfl)
    · exact fun a wx hT hF K hK => rely_wp rfl (opr_pick_b rfl hF.1 (fun hb => hK _ _ (NewT.refl _) (pn_or1 Q2_3 hb)) (fun hb => hK _ _ (NewT.refl _) (pn_or0 Q2_3 (hF.2.1 (bnot hb)) hb)))
    · exact fun a wx hT hF K hK => rely_wp rfl (opr_move (.inl rfl) (hK _ _ (NewT.refl _) hF.1))
    · exact fun a wx hT hF K hK => rely_if (rely_gf hF.2.1) (NewT.refl _) hK fun hE hK => opr_move (.inl rfl) (hK _ _ (NewT.refl _) hF.1)
    · exact fun a wx hT hF K hK => rely_if (rely_gf hF.2.1) (NewT.refl _) hK fun hE hK => opr_cmp (b := decide (400 < size)) (.inr (.inr (.inr (.inr (.inl ⟨rfl, rfl⟩))))) Tryd.underlying3 rfl (hF.1 hE) rfl (hK _ _ (NewT.refl _) rfl)
    · exact fun a wx hT hF K hK => rely_wp rfl (opr_pick_b rfl hF.1 (fun hb => hK _ _ (NewT.refl _) (pk_or1 hb)) (fun hb => hK _ _ (NewT.refl _) (pk_or0 (hF.2.1 (bnot hb)) hb)))
    · intro w3 k3
      iterate 5 (intro u h; obtain rfl := Eq.symm (h (by simp)); clear h)
      iterate 4 (intro _ _)
      iterate 2 (intro u h; obtain rfl := Eq.symm (h (by simp)); clear h)
      iterate 3 (intro _ _)
      iterate 2 (intro u h; obtain rfl := Eq.symm (h (by simp)); clear h)
      iterate 2 (intro _ _)
      iterate 2 (intro u h; obtain rfl := Eq.symm (h (by simp)); clear h)
      iterate 2 (intro _ _)
      intro u h; obtain rfl := Eq.symm (h (by simp)); clear h
      subst Q2_3 Q1_3
      refine relyEnd_nil rfl ?_
      refine wpList_end rfl ?_
      simp only [Act.put, List.setIfInBounds_toArray, List.set_cons_zero, List.set_cons_succ]
      go_simp
      replace RK := Lib.hid (k3.row RK.out)
      replace RH := Lib.hid (k3.row RH.out)
      replace HM := Lib.hid (NewT.trans _ _ _ HM.out k3)
      clear k3
      cases hq : (((((decide (20 < ((List.length (ps) : Int)))) || (decide (20 < ((List.length (ws) : Int))))) || (!(mayB ps ws need))) || (decide (size < 0))) || (decide (400 < size)))
      · have hb : (mayB ps ws need && inR size 0 400) = true := by
          simp only [Bool.or_eq_false_iff, decide_eq_false_iff_not, Bool.not_eq_false'] at hq
          rw [hq.1.1.2, Bool.true_and, inR_iff]
          omega
        have HC0 := Lib.hid (bare_check (sgH tg pf ws size root) hb)
        obtain ⟨t0, HT0⟩ := hid_ex (signH tg pf ps ws need 0 size root)
        have HC2 := Lib.hid (bare_nine (sgH tg pf ws size root) t0 hb)
        clear hq hb
        go_upto_region 5 with fail
        refine wp_region_steps0 NewT [SV.eq (.int .i64 (size)), SV.eq (.agg (rowA 32 (bF (root)))), SV.eq ((.agg (rowA 34 (ptF size root (.slice none 0 0)))))] [([(1, none)], none), ([(5, none)], none), ([(34, some 0), (35, some 1)], none)] 70 3 rfl rfl (by kernel_rfl) NewT.trans (NewT.refl _) (Nat.le_of_ble_eq_true rfl) ⟨?_, ?_, ?_, trivial⟩ ?_
        · exact fun a wx hT hF K hK => rely_wp rfl (opr_move (.inl rfl) (hK _ _ (NewT.refl _) hF.1))
        · exact fun a wx hT hF K hK => rely_wp rfl (opr_load_hash rfl hF.1 (hT.row RH.out) (hK _ _ (NewT.refl _) rfl))
        · exact fun a wx hT hF K hK => rely_wp rfl (opr_bldZ rfl hF.1 hF.2.1 (hK _ _ (NewT.refl _) rfl))
        · intro wa ka
          iterate 3 (intro u h; obtain rfl := Eq.symm (h (by simp)); clear h)
          refine relyEnd_nil rfl ?_
          simp only [Act.put, List.setIfInBounds_toArray, List.set_cons_zero, List.set_cons_succ]
          refine wpList_new (n := 34) (f := ptF size root (.slice none 0 0)) rfl rfl rfl rfl rfl rfl (by first | (simp; done) | simp [Act.put]) run_alloc_pt info_pt (ptF_one (l := []) (rdS_nil wa)) rfl ?_
          intro wb hnb rp
          refine wpList_end rfl ?_
          simp only [Act.put, List.setIfInBounds_toArray, List.set_cons_zero, List.set_cons_succ]
          go_simp
          have kb := NewT.trans _ _ _ ka hnb
          obtain ⟨g7, hg7⟩ : ∃ g7, wa.heap.size = g7 := ⟨_, rfl⟩
          rw [hg7] at rp ⊢
          have HG7 : Hid (g1 < g7 ∧ g2 < g7 ∧ w.heap.size ≤ g7) := Lib.hid (by rw [← hg7]; exact ⟨(ka.row RK.out).lt, (ka.row RH.out).lt, (NewT.trans _ _ _ HM.out ka).out.size⟩)
          have RP := Lib.hid rp
          replace RK := Lib.hid (kb.row RK.out)
          replace RH := Lib.hid (kb.row RH.out)
          replace HM := Lib.hid (NewT.trans _ _ _ HM.out kb)
          clear ka kb hnb rp hg7
          go_upto_region 6 with fail
          refine wp_region_steps0 NewT [SV.eq (.agg (rowA 3 (keyF pv wv need))), SV.eq (.agg (rowA 34 (ptF size root (.slice none 0 0)))), SV.eq (.int .i64 (8)), SV.eq (.bool false)] [([(3, none)], none), ([(7, none)], none), ([(37, some 0), (38, some 1)], none), ([(39, some 2)], none)] 70 4 rfl rfl (by kernel_rfl) NewT.trans (NewT.refl _) (Nat.le_of_ble_eq_true rfl) ⟨?_, ?_, ?_, ?_, trivial⟩ ?_
          · exact fun a wx hT hF K hK => rely_wp rfl (opr_ldY (hT.row RK.out) rfl hF.1 (hK _ _ (NewT.refl _) rfl))
          · exact fun a wx hT hF K hK => rely_wp rfl (opr_ldZ (hT.row RP.out) rfl hF.1 (hK _ _ (NewT.refl _) rfl))
          · exact fun a wx hT hF K hK => rely_wp rfl (opr_cv (HC0.out ▸ Check_cv hX _ _ ps ws need size root [] wx ((NewT.trans _ _ _ HM.out hT).tables HT.out) ((NewT.trans _ _ _ HM.out hT).keysV HK.out) (⟨(.slice none 0 0), rfl, rdS_nil wx⟩ : PointV wx (.agg (rowA 34 (ptF size root (.slice none 0 0)))) size root [])) rfl Tryd.func22 (by kernel_rfl) (by kernel_rfl) (evs2 hF.1 hF.2.1) hK)
          · exact fun a wx hT hF K hK => rely_wp rfl (opr_cmp (b := false) (.inr (.inl ⟨rfl, (by decide)⟩)) Tryd.underlying42 rfl hF.1 rfl (hK _ _ (NewT.refl _) rfl))
          · intro wc kc
            iterate 4 (intro u h; obtain rfl := Eq.symm (h (by simp)); clear h)
            refine relyEnd_nil rfl ?_
            refine wpList_end rfl ?_
            simp only [Act.put, List.setIfInBounds_toArray, List.set_cons_zero, List.set_cons_succ]
            go_simp
            replace RK := Lib.hid (kc.row RK.out)
            replace RH := Lib.hid (kc.row RH.out)
            replace RP := Lib.hid (kc.row RP.out)
            replace HM := Lib.hid (NewT.trans _ _ _ HM.out kc)
            clear kc
            go_upto_region 8 with fail
            refine wp_region_steps0 NewT [SV.eq (.agg (rowA 3 (keyF pv wv need))), SV.eq (.agg (rowA 34 (ptF size root (.slice none 0 0)))), SV.eq (.agg (rowA 32 (bF (t0))))] [([(3, none)], none), ([(7, none)], none), ([(41, some 0), (42, some 1)], none)] 70 3 rfl rfl (by kernel_rfl) NewT.trans (NewT.refl _) (Nat.le_of_ble_eq_true rfl) ⟨?_, ?_, ?_, trivial⟩ ?_
            · exact fun a wx hT hF K hK => rely_wp rfl (opr_ldY (hT.row RK.out) rfl hF.1 (hK _ _ (NewT.refl _) rfl))
            · exact fun a wx hT hF K hK => rely_wp rfl (opr_ldZ (hT.row RP.out) rfl hF.1 (hK _ _ (NewT.refl _) rfl))
            · exact fun a wx hT hF K hK => rely_wp rfl (opr_cv (HT0.out ▸ Sign_cv hX _ _ ps ws need 0 size root [] wx ((NewT.trans _ _ _ HM.out hT).tables HT.out) ((NewT.trans _ _ _ HM.out hT).keysV HK.out) (⟨(.slice none 0 0), rfl, rdS_nil wx⟩ : PointV wx (.agg (rowA 34 (ptF size root (.slice none 0 0)))) size root [])) rfl Tryd.func20 (by kernel_rfl) (by kernel_rfl) (evs3 hF.1 rfl hF.2.1) hK)
            · intro wd kd
              iterate 3 (intro u h; obtain rfl := Eq.symm (h (by simp)); clear h)
              refine relyEnd_nil rfl ?_
              simp only [Act.put, List.setIfInBounds_toArray, List.set_cons_zero, List.set_cons_succ]
              refine wpList_new (n := 32) (f := bF t0) rfl rfl rfl rfl rfl rfl (by first | (simp; done) | simp [Act.put]) run_alloc_hash info31 (fun _ => rfl) rfl ?_
              intro we hne r8
              refine wpList_end rfl ?_
              simp only [Act.put, List.setIfInBounds_toArray, List.set_cons_zero, List.set_cons_succ]
              go_simp
              have kb := NewT.trans _ _ _ kd hne
              obtain ⟨g8, hg8⟩ : ∃ g8, wd.heap.size = g8 := ⟨_, rfl⟩
              rw [hg8] at r8 ⊢
              have HG8 : Hid (g7 < g8) := Lib.hid (by rw [← hg8]; exact (kd.row RP.out).lt)
              have R8 := Lib.hid r8
              replace RK := Lib.hid (kb.row RK.out)
              replace RH := Lib.hid (kb.row RH.out)
              replace RP := Lib.hid (kb.row RP.out)
              replace HM := Lib.hid (NewT.trans _ _ _ HM.out kb)
              clear kd kb hne r8 hg8
              go_upto_region 9 with fail
              refine wp_region_steps0 NewT [SV.eq (.agg (rowA 32 (bF (t0)))), SV.eq ((.agg (rowA 33 (sigF (0, t0))))), SV.eq ((.agg (rowA 33 (sigF (9, z32))))), svGN (g7 + 1) [(0, t0), (9, z32)], SV.eq (.pointer (some ⟨g7, 33, none⟩))] [([(8, none)], none), ([(44, some 0)], none), ([], none), ([(45, some 1), (46, some 2)], none), ([(7, none)], none)] 70 5 rfl rfl (by kernel_rfl) NewT.trans (NewT.refl _) (Nat.le_of_ble_eq_true rfl) ⟨?_, ?_, ?_, ?_, ?_, trivial⟩ ?_
              · exact fun a wx hT hF K hK => rely_wp rfl (opr_load_hash rfl hF.1 (hT.row R8.out) (hK _ _ (NewT.refl _) rfl))
              · exact fun a wx hT hF K hK => rely_wp rfl (opr_bldX rfl rfl hF.1 (hK _ _ (NewT.refl _) rfl))
              · intro a wx hT hF K hK
                refine rely_wp rfl ?_
                exact opr_build (pv := #[(0, .int .i64 9)]) rfl (by simp only [List.map_toArray, List.map_cons, List.map_nil, eval_const]) (run_bld_sg0 9 wx) (hK _ _ (NewT.refl _) rfl)
              · exact fun a wx hT hF K hK => rely_wp rfl (opr_bsG2F (B := g7 + 1) (Nat.lt_of_lt_of_le RP.out.lt hT.out.size) rfl hF.1 hF.2.1 hK)
              · exact fun a wx hT hF K hK => rely_wp rfl (opr_fldZ2 rfl hF.1 (hK _ _ (NewT.refl _) rfl))
              · intro wf kf_
                iterate 3 (intro u h; obtain rfl := Eq.symm (h (by simp)); clear h)
                intro u47 h; have g47 := h (by simp); clear h; replace g47 := show (svGN (g7 + 1) [(0, t0), (9, z32)]).pred u47 wf from g47
                intro u h; obtain rfl := Eq.symm (h (by simp)); clear h
                refine relyEnd_nil rfl ?_
                simp only [Act.put, List.setIfInBounds_toArray, List.set_cons_zero, List.set_cons_succ]
                obtain ⟨A47, c47, hv47⟩ := rdS_form g47.1
                subst hv47
                refine wpList_plain rfl (fun K hK => ?_)
                refine opr_put1 (g := g7) (o0 := 33) (F := ptF size root (.slice A47 (List.length [((0 : Int), t0), (9, z32)]) c47)) rfl rfl rfl (kf_.row RP.out) (by decide) info_ssl1 rfl (fun i hi => ptF_sigs _ _ _ _ i hi) ?_
                intro wg hRg rpg
                refine hK _ _ ?_
                refine wpList_end rfl ?_
                simp only [Act.put, List.setIfInBounds_toArray, List.set_cons_zero, List.set_cons_succ]
                go_simp
                have HG : Hid (RdSB (g7 + 1) wg (.slice A47 2 c47) [(0, t0), (9, z32)]) := Lib.hid (RdSB.rt g47 (Nat.lt_succ_self _) hRg)
                have HPT : Hid (PointV wg (.agg (rowA 34 (ptF size root (.slice A47 2 c47)))) size root [(0, t0), (9, z32)]) := Lib.hid ⟨_, rfl, HG.out.1⟩
                replace RP : Hid (wg.rowIs g7 40 34 (ptF size root (.slice A47 2 c47))) := Lib.hid rpg
                replace RK := Lib.hid (hRg.row (by have := HG7.out; omega) (kf_.row RK.out))
                replace RH := Lib.hid (hRg.row (by have := HG7.out; omega) (kf_.row RH.out))
                replace R8 := Lib.hid (hRg.row (by have := HG8.out; omega) (kf_.row R8.out))
                replace HM := Lib.hid (NewT.rt (NewT.trans _ _ _ HM.out kf_) hRg (by have := HG7.out; omega))
                clear kf_ hRg rpg g47
                go_upto_region 10 with fail
                refine wp_region_rely (NewT) [SV.eq (.agg (rowA 3 (keyF pv wv need))), SV.eq (.agg (rowA 34 (ptF size root (.slice A47 2 c47)))), SV.eq (.agg (rowA 32 (bF (t0)))), SV.eq (.agg (rowA 32 (bF (t0)))), SV.eq (.bool true), SV.eq (.bool true), SV.eq (.agg (rowA 3 (keyF pv wv need))), SV.eq (.agg (rowA 34 (ptF size root (.slice A47 2 c47)))), SV.eq (.int .i64 (8)), SV.eq (.bool true), SV.eq (.bool true), SV.eq (.bool true), SV.eq (.agg (rowA 3 (keyF pv wv need))), SV.eq (.pointer (some ⟨g1, 1, none⟩)), SV.eq (wv), SV.eq (.int .i64 ((List.length (ws) : Int))), SV.eq (.agg (rowA 34 (ptF size root (.slice A47 2 c47)))), SV.eq (.agg (rowA 32 (bF (signH tg pf ps ws need ((List.length (ws) : Int)) size root)))), SV.eq (.agg (rowA 32 (bF (z32)))), SV.eq (.bool true), SV.eq (.bool true)] [([(3, none)], none), ([(7, none)], none), ([(49, some 0), (50, some 1)], none), ([(8, none)], none), ([(51, some 2), (52, some 3)], none), ([(53, some 4)], none), ([(3, none), (54, some 5)], some (54, true)), ([(7, none), (54, some 5)], some (54, true)), ([(55, some 6), (56, some 7), (54, some 5)], some (54, true)), ([(57, some 8), (54, some 5)], some (54, true)), ([(54, some 5), (58, some 9)], none), ([(59, some 10)], none), ([(3, none), (60, some 11)], some (60, true)), ([(3, none), (60, some 11)], some (60, true)), ([(62, some 13), (60, some 11)], some (60, true)), ([(63, some 14), (60, some 11)], some (60, true)), ([(7, none), (60, some 11)], some (60, true)), ([(61, some 12), (64, some 15), (65, some 16), (60, some 11)], some (60, true)), ([(60, some 11)], some (60, true)), ([(66, some 17), (67, some 18), (60, some 11)], some (60, true)), ([(60, some 11), (68, some 19)], none)] 70 rfl (by kernel_rfl) rfl (by kernel_rfl) (by kernel_rfl) rfl NewT.trans (NewT.drew _) (Nat.le_of_ble_eq_true rfl) ⟨?_, ?_, ?_, ?_, ?_, ?_, ?_, ?_, ?_, ?_, ?_, ?_, ?_, ?_, ?_, ?_, ?_, ?_, ?_, ?_, ?_, trivial⟩ ?_
                · exact fun a wx hT hF K hK => rely_wp rfl (opr_ldY (hT.row RK.out) rfl hF.1 (hK _ _ (NewT.refl _) rfl))
                · exact fun a wx hT hF K hK => rely_wp rfl (opr_ldZ (hT.row RP.out) rfl hF.1 (hK _ _ (NewT.refl _) rfl))
                · exact fun a wx hT hF K hK => rely_wp rfl (opr_cv (HT0.out ▸ Sign_cv hX _ _ ps ws need 0 size root [(0, t0), (9, z32)] wx ((NewT.trans _ _ _ HM.out hT).tables HT.out) ((NewT.trans _ _ _ HM.out hT).keysV HK.out) (hT.pointV HPT.out)) rfl Tryd.func20 (by kernel_rfl) (by kernel_rfl) (evs3 hF.1 rfl hF.2.1) hK)
                · exact fun a wx hT hF K hK => rely_wp rfl (opr_load_hash rfl hF.1 (hT.row R8.out) (hK _ _ (NewT.refl _) rfl))
                · exact fun a wx hT hF K hK => rely_wp rfl (opr_eql_hash (b := true) rfl hF.1 hF.2.1 (eqH_same t0) (hK _ _ (NewT.refl _) rfl))
                · exact fun a wx hT hF K hK => rely_wp rfl (opr_move (.inl rfl) (hK _ _ (NewT.refl _) hF.1))
                · exact fun a wx hT hF K hK => rely_wp (rely_guard hF.2.1) (opr_ldY (hT.row RK.out) rfl hF.1 (hK _ _ (NewT.refl _) rfl))
                · exact fun a wx hT hF K hK => rely_wp (rely_guard hF.2.1) (opr_ldZ (hT.row RP.out) rfl hF.1 (hK _ _ (NewT.refl _) rfl))
                · exact fun a wx hT hF K hK => rely_wp (rely_guard hF.2.2.1) (opr_cv (HC2.out ▸ Check_cv hX _ _ ps ws need size root [(0, t0), (9, z32)] wx ((NewT.trans _ _ _ HM.out hT).tables HT.out) ((NewT.trans _ _ _ HM.out hT).keysV HK.out) (hT.pointV HPT.out)) rfl Tryd.func22 (by kernel_rfl) (by kernel_rfl) (evs2 hF.1 hF.2.1) hK)
                · exact fun a wx hT hF K hK => rely_wp (rely_guard hF.2.1) (opr_cmp (b := true) (.inl ⟨rfl, (by decide)⟩) Tryd.underlying42 rfl hF.1 rfl (hK _ _ (NewT.refl _) rfl))
                · exact fun a wx hT hF K hK => rely_wp rfl (opr_pick_true rfl hF.1 (hK _ _ (NewT.refl _) hF.2.1))
                · exact fun a wx hT hF K hK => rely_wp rfl (opr_move (.inl rfl) (hK _ _ (NewT.refl _) hF.1))
                · exact fun a wx hT hF K hK => rely_wp (rely_guard hF.2.1) (opr_ldY (hT.row RK.out) rfl hF.1 (hK _ _ (NewT.refl _) rfl))
                · exact fun a wx hT hF K hK => rely_wp (rely_guard hF.2.1) (opr_fldY1 rfl hF.1 (hK _ _ (NewT.refl _) rfl))
                · exact fun a wx hT hF K hK => rely_wp (rely_guard hF.2.1) (opr_ldHs (hT.row RK.out) (by decide) rfl rfl hF.1 (hK _ _ (NewT.refl _) rfl))
                · intro a wx hT hF K hK
                  obtain ⟨f63, f60, _⟩ := hF
                  have f63 : a.tmps.getD 63 undef = wv := f63
                  have f60 : a.tmps.getD 60 undef = .bool true := f60
                  refine rely_wp (rely_guard f60) ?_
                  exact opr_len_h rfl (by rw [eval_tmp, f63]; exact ((NewT.trans _ _ _ HM.out hT).hs HW.out)) (hK _ _ (NewT.refl _) rfl)
                · exact fun a wx hT hF K hK => rely_wp (rely_guard hF.2.1) (opr_ldZ (hT.row RP.out) rfl hF.1 (hK _ _ (NewT.refl _) rfl))
                · exact fun a wx hT hF K hK => rely_wp (rely_guard hF.2.2.2.1) (opr_cv (Sign_cv hX _ _ ps ws need ((List.length (ws) : Int)) size root ([(0, t0), (9, z32)]) wx ((NewT.trans _ _ _ HM.out hT).tables HT.out) ((NewT.trans _ _ _ HM.out hT).keysV HK.out) (hT.pointV HPT.out)) rfl Tryd.func20 (by kernel_rfl) (by kernel_rfl) (evs3 hF.1 hF.2.1 hF.2.2.1) hK)
                · exact fun a wx hT hF K hK => rely_wp (rely_guard hF.1) (opr_build (pv := #[]) rfl (by simp) (build_z32 wx) (hK _ _ (NewT.refl _) rfl))
                · exact fun a wx hT hF K hK => rely_wp (rely_guard hF.2.2.1) (opr_eql_hash (b := true) rfl hF.1 hF.2.1 (sign_out size root) (hK _ _ (NewT.refl _) rfl))
                · exact fun a wx hT hF K hK => rely_wp rfl (opr_pick_true rfl hF.1 (hK _ _ (NewT.refl _) hF.2.1))
                · intro wi ki
                  iterate 21 (intro u h; obtain rfl := Eq.symm (h (by simp)); clear h)
                  refine relyEnd_nil rfl ?_
                  simp only [Act.put, List.setIfInBounds_toArray, List.set_cons_zero, List.set_cons_succ]
                  refine opr_move (.inr rfl) ?_
                  go_simp
                  go_wp2
                  go_ret
                  exact ⟨rfl, (NewT.trans _ _ _ HM.out ki).out⟩
      · clear hq
        go_wp2
        go_ret
        exact ⟨rfl, HM.out.out⟩
end Go.Proofs.YtcfogkimjbgjgaaDoor
