/- Package rec: Get, of what was put, and of an unknown kind. -/
import Derived.Test.YthgblcpekhiphaaDoorMe
import Derived.Test.YthgblcpekhiphaaDoorMb
import Derived.Test.YthgblcpekhiphaaDoorMc
set_option linter.all false
namespace Go.Proofs.YthgblcpekhiphaaDoor
open Go Go.RowKit
set_option maxRecDepth 8000
theorem Done_0 (R : Nat) (w : World) (h : Rdr w R [] 0) : Cv 43 #[.pointer (some ⟨R, 0, none⟩)] w (.eq (.int .i64 0)) := by simpa using Done_any R [] 0 w h
theorem Done_2 (R : Nat) (w : World) (h : Rdr w R [] 2) : Cv 43 #[.pointer (some ⟨R, 0, none⟩)] w (.eq (.int .i64 2)) := by simpa using Done_any R [] 2 w h
theorem build_zero (w : World) : (Instr.build 27 #[]).run Tryd.prog w = .ok (.agg (rowA 109 (recF zR (.slice none 0 0) (.slice none 0 0)))) w := by kernel_rfl
theorem nine : outN [9] = (9, [], 0) := by decide +kernel
set_option maxHeartbeats 1000000 in
/-- An unknown kind. -/
theorem RRead_nine (R : Nat) (w : World) (h : Rdr w R [9] 0) :
    Calls Tryd.prog 26 #[.pointer (some ⟨R, 0, none⟩)] w fun e w' => e = .returned (.agg (rowA 109 (recF zR (.slice none 0 0) (.slice none 0 0)))) ∧ RT R w w' ∧ Rdr w' R [] 2 := by
  have hRl := h.lt
  have Hr := Lib.hid h
  have HW : inR 9 1 6 = false := by decide
  clear h
  go_enter Tryd.func26, Tryd.ntmps26
  go_upto_region 1 with fail
  have r2 := rowIs_box w 27 109 (recF zR (.slice none 0 0) (.slice none 0 0))
  have hN := NewT.alloc w (.cells (rowA 109 (recF zR (.slice none 0 0) (.slice none 0 0))) 27)
  change Code.wp _ _ _ _ (w.alloc (.cells (rowA 109 (recF zR (.slice none 0 0) (.slice none 0 0))) 27))
  generalize w.alloc (.cells (rowA 109 (recF zR (.slice none 0 0) (.slice none 0 0))) 27) = W0 at r2 hN ⊢
  replace Hr := Lib.hid (Rdr.new Hr.out hN)
  have hne : w.heap.size ≠ R := by omega
  go_upto_region 4 with (first
    | (go_at_call 44; refine (RNum_good R [9] W0 Hr.out (by decide)).mono ?_; rintro _ w1 ⟨rfl, hT1, hr1⟩; rw [nine] at hr1 ⊢; simp only at hr1 ⊢; have Hr1 := Lib.hid hr1; clear hr1)
    | (go_at_call 45; refine (within_cv 9 1 6 w1).eq.mono ?_; rintro _ w2 ⟨rfl, hB2⟩; rw [HW]; have Hr2 := Lib.hid (Hr1.out.new hB2))
    | (go_at_call 46; refine (Fail_good R [] 2 (by decide) w2 Hr2.out).mono ?_; rintro _ w3 ⟨rfl, hT3, hr3⟩; have Hr3 := Lib.hid hr3; clear hr3))
  have X2 := Lib.hid (hT3.row hne (NewT.row hB2 (hT1.row hne r2)))
  have HRT := Lib.hid (RT.trans _ _ _ (RT.trans _ _ _ (RT.trans _ _ _ (RT.new hRl hN) hT1) (RT.new Hr1.out.lt hB2)) hT3)
  refine wp_region_steps0 NewT [SV.eq (.agg (rowA 109 (recF zR (.slice none 0 0) (.slice none 0 0))))] [([], none)] 31 1 rfl rfl (by kernel_rfl) NewT.trans (NewT.refl _) (Nat.le_of_ble_eq_true rfl) ⟨?_, trivial⟩ ?_
  · intro a wx hT hF K hK
    refine rely_wp rfl ?_
    exact opr_build (pv := #[]) rfl (by simp) (build_zero wx) (hK _ _ (NewT.refl _) rfl)
  · intro wf kf
    intro u h; obtain rfl := Eq.symm (h (by simp)); clear h
    refine relyEnd_nil rfl ?_
    simp only [Act.put, List.setIfInBounds_toArray, List.set_cons_zero, List.set_cons_succ]
    refine wpList_plain rfl (fun K hK => ?_)
    refine opr_putm rfl rfl rfl (kf.row X2.out) (by decide) info_rec (recF_one _ _ _ rfl rfl) (put_all _ _) ?_
    intro wq hTq rq
    refine hK _ _ ?_
    refine wpList_end rfl ?_
    go_simp
    go_wp2
    exact bodyPost_ret (results_agg rfl _ rfl rq Tryd.underlying27 rfl info_rec) rfl ⟨rfl, RT.late2 (RT.trans _ _ _ HRT.out (RT.new Hr3.out.lt kf)) (Nat.le_refl _) hRl hTq, Rdr.rt (Hr3.out.new kf) hTq hRl⟩
set_option maxHeartbeats 4000000 in
theorem Get_cv (v : Value) (x : Rc) (hri : rightB x = true) (w : World) (h : RdV w [] v (openL x)) : Cv 23 #[v] w (svTup (onlyR x) 0) := by
  unfold Cv
  have HV := Lib.hid h
  clear h
  go_enter Tryd.func23, Tryd.ntmps23
  go_upto_region 1 with fail
  have r2 := rowIs_box w 27 109 (recF zR (.slice none 0 0) (.slice none 0 0))
  have hN := NewT.alloc w (.cells (rowA 109 (recF zR (.slice none 0 0) (.slice none 0 0))) 27)
  have hsz : w.heap.size < (w.alloc (.cells (rowA 109 (recF zR (.slice none 0 0) (.slice none 0 0))) 27)).heap.size := by simp
  change Code.wp _ _ _ _ (w.alloc (.cells (rowA 109 (recF zR (.slice none 0 0) (.slice none 0 0))) 27))
  generalize w.alloc (.cells (rowA 109 (recF zR (.slice none 0 0) (.slice none 0 0))) 27) = W0 at r2 hN hsz ⊢
  have HV0 := Lib.hid (hN.rd HV.out)
  refine wp_region_steps0 NewT [svRd (openL x), svRdr W0 (openL x), svRdr W0 (openL x)] [([(0, none)], none), ([(7, some 0)], none), ([(8, some 1)], none)] 18 3 rfl rfl (by kernel_rfl) NewT.trans (NewT.refl _) (Nat.le_of_ble_eq_true rfl) ⟨?_, ?_, ?_, trivial⟩ ?_
  · intro a wx hT hF K hK
    obtain ⟨f0, _⟩ := hF
    have f0 : a.tmps.getD 0 undef = v := f0
    refine rely_wp rfl ?_
    exact opr_move (.inl rfl) (hK _ _ (NewT.refl _) (by rw [eval_tmp, f0]; exact hT.rd HV0.out))
  · intro a wx hT hF K hK
    obtain ⟨f7, _⟩ := hF
    replace f7 := show (svRd (openL x)).pred (a.tmps.getD 7 undef) wx from f7
    refine rely_wp rfl ?_
    exact opr_cv (Read_cv _ (openL x) wx W0 f7 (by have := open_len x hri; omega) hT.out.size) rfl Tryd.func24 (by kernel_rfl) (by kernel_rfl) (by simp only [List.map_toArray, List.map_cons, List.map_nil, eval_tmp]) hK
  · intro a wx hT hF K hK
    obtain ⟨f8, _⟩ := hF
    replace f8 := show (svRdr W0 (openL x)).pred (a.tmps.getD 8 undef) wx from f8
    refine rely_wp rfl ?_
    exact opr_move (.inr rfl) (hK _ _ (NewT.refl _) f8)
  · intro w1 k1
    intro _ _
    intro _ _
    intro u4 h; have g4 := h (by simp); clear h; replace g4 := show (svRdr W0 (openL x)).pred u4 w1 from g4
    refine relyEnd_nil rfl ?_
    refine wpList_end rfl ?_
    simp only [Act.put, List.setIfInBounds_toArray, List.set_cons_zero, List.set_cons_succ]
    go_simp
    obtain ⟨R, rfl, hR, hr1⟩ := g4
    have HJ1 := Lib.hid hr1
    have X2 := Lib.hid (k1.row r2)
    have HN1 := Lib.hid (NewT.trans _ _ _ hN k1)
    have hne : w.heap.size ≠ R := by omega
    have hRl := hr1.lt
    clear hr1 r2 hN HV HV0
    go_upto_region 2 with fail
    refine wp_region_steps (RT R) (fun k w => Rdr w R (([openL x, openL x, []] : List (List UInt8)).getD k []) 0) [SV.eq (.pointer (some ⟨R, 0, none⟩)), svRecB R (R + 1) (onlyR x)] [([(4, none)], none), ([(9, some 0)], none)] 18 2 rfl rfl (by kernel_rfl) RT.trans (RT.refl _ _) HJ1.out (Nat.le_of_ble_eq_true rfl) ⟨?_, ?_, trivial⟩ ?_
    · intro a wx hT hF hJ K hK
      replace hK := fun v w' (hN : NewT wx w') c => hK v w' (RT.new (Rdr.lt hJ) hN) (Rdr.new hJ hN) c
      obtain ⟨f4, _⟩ := hF
      have f4 : a.tmps.getD 4 undef = .pointer (some ⟨R, 0, none⟩) := f4
      refine rely_wp rfl ?_
      exact opr_move (.inl rfl) (hK _ _ (NewT.refl _) f4)
    · intro a wx hT hF hJ K hK
      obtain ⟨f9, _⟩ := hF
      have f9 : a.tmps.getD 9 undef = .pointer (some ⟨R, 0, none⟩) := f9
      refine rely_wp rfl ?_
      refine opr_call rfl Tryd.func26 (by kernel_rfl) (by kernel_rfl) (by simp only [List.map_toArray, List.map_cons, List.map_nil, eval_tmp, f9]) ((RRead_cv R x [] wx hri (by rw [List.append_nil]; exact (show Rdr wx R (openL x) 0 from hJ)) (by simp)).mono ?_)
      rintro e w' ⟨v, rfl, hv, hT', hr⟩
      exact ⟨_, rfl, hK _ _ hT' hr ⟨by omega, hv.mono (by have := hT.size; omega)⟩⟩
    · intro e2 k2 hJ
      intro u h; obtain rfl := Eq.symm (h (by simp)); clear h
      intro u10 h; have g10 := h (by simp); clear h; replace g10 := show (svRecB R (R + 1) (onlyR x)).pred u10 e2 from g10
      refine relyEnd_nil rfl ?_
      simp only [Act.put, List.setIfInBounds_toArray, List.set_cons_zero, List.set_cons_succ]
      obtain ⟨_, sv, dv, e10, G10, V10⟩ := g10
      subst e10
      refine wpList_new (n := 109) rfl rfl rfl rfl rfl rfl (by simp) run_alloc_rec info_rec (recF_one _ _ _ (oneP G10.1) (oneR V10.out)) rfl ?_
      intro w3 hn3 r5
      refine wpList_end rfl ?_
      simp only [Act.put, List.setIfInBounds_toArray, List.set_cons_zero, List.set_cons_succ]
      go_simp
      have HJ3 := Lib.hid (Rdr.new (show Rdr e2 R [] 0 from hJ) hn3)
      have HN3 := Lib.hid (NewT.trans _ _ _ (HN1.out.rt k2 (by omega)) hn3)
      have X5 := Lib.hid r5
      have X22 := Lib.hid (hn3.row (k2.row hne X2.out))
      have hG : w.heap.size < e2.heap.size := Nat.lt_of_lt_of_le hsz (Nat.le_trans k1.out.size k2.size)
      have HP := Lib.hid (G10.new hn3)
      have HV := Lib.hid (V10.new hn3)
      clear hJ r5 hn3 G10 V10 X2 HN1
      generalize e2.heap.size = G at X5 hG ⊢
      go_upto_region 3 with fail
      refine wp_region_steps0 NewT [SV.eq (.pointer (some ⟨R, 0, none⟩)), SV.eq (.int .i64 (0)), SV.eq (.int .i64 (0))] [([(4, none)], none), ([(11, some 0)], none), ([(12, some 1)], none)] 18 3 rfl rfl (by kernel_rfl) NewT.trans (NewT.refl _) (Nat.le_of_ble_eq_true rfl) ⟨?_, ?_, ?_, trivial⟩ ?_
      · intro a wx hT hF K hK
        obtain ⟨f4, _⟩ := hF
        have f4 : a.tmps.getD 4 undef = .pointer (some ⟨R, 0, none⟩) := f4
        refine rely_wp rfl ?_
        exact opr_move (.inl rfl) (hK _ _ (NewT.refl _) f4)
      · intro a wx hT hF K hK
        obtain ⟨f11, _⟩ := hF
        have f11 : a.tmps.getD 11 undef = .pointer (some ⟨R, 0, none⟩) := f11
        refine rely_wp rfl ?_
        exact opr_cv (Done_0 R wx (HJ3.out.new hT)) rfl Tryd.func43 (by kernel_rfl) (by kernel_rfl) (by simp only [List.map_toArray, List.map_cons, List.map_nil, eval_tmp, f11]) hK
      · intro a wx hT hF K hK
        obtain ⟨f12, _⟩ := hF
        have f12 : a.tmps.getD 12 undef = .int .i64 (0) := f12
        refine rely_wp rfl ?_
        exact opr_move (.inr rfl) (hK _ _ (NewT.refl _) f12)
      · intro e4 k4
        intro u h; obtain rfl := Eq.symm (h (by simp)); clear h
        intro u h; obtain rfl := Eq.symm (h (by simp)); clear h
        intro u h; obtain rfl := Eq.symm (h (by simp)); clear h
        refine relyEnd_nil rfl ?_
        refine wpList_end rfl ?_
        simp only [Act.put, List.setIfInBounds_toArray, List.set_cons_zero, List.set_cons_succ]
        go_simp
        go_upto_region 4 with fail
        refine wp_region_steps0 NewT [SV.eq (.int .i64 (0)), SV.eq (.bool false)] [([(6, none)], none), ([(13, some 0)], none)] 18 2 rfl rfl (by kernel_rfl) NewT.trans (NewT.refl _) (Nat.le_of_ble_eq_true rfl) ⟨?_, ?_, trivial⟩ ?_
        · intro a wx hT hF K hK
          obtain ⟨f6, _⟩ := hF
          have f6 : a.tmps.getD 6 undef = .int .i64 (0) := f6
          refine rely_wp rfl ?_
          exact opr_move (.inl rfl) (hK _ _ (NewT.refl _) f6)
        · intro a wx hT hF K hK
          obtain ⟨f13, _⟩ := hF
          have f13 : a.tmps.getD 13 undef = .int .i64 (0) := f13
          refine rely_wp rfl ?_
          exact opr_cmp (b := false) (.inr (.inl ⟨rfl, (by decide)⟩)) Tryd.underlying36 rfl f13 rfl (hK _ _ (NewT.refl _) rfl)
        · intro e5 k5
          intro u h; obtain rfl := Eq.symm (h (by simp)); clear h
          intro u h; obtain rfl := Eq.symm (h (by simp)); clear h
          refine relyEnd_nil rfl ?_
          refine wpList_end rfl ?_
          simp only [Act.put, List.setIfInBounds_toArray, List.set_cons_zero, List.set_cons_succ]
          go_simp
          go_upto_region 6 with fail
          refine wp_region_steps0 NewT [SV.eq (.agg (rowA 109 (recF (onlyR x) sv dv)))] [([(5, none)], none)] 18 1 rfl rfl (by kernel_rfl) NewT.trans (NewT.refl _) (Nat.le_of_ble_eq_true rfl) ⟨?_, trivial⟩ ?_
          · intro a wx hT hF K hK
            obtain ⟨f5, _⟩ := hF
            have f5 : a.tmps.getD 5 undef = .pointer (some ⟨G, 0, none⟩) := f5
            refine rely_wp rfl ?_
            exact opr_ldR (hT.row (NewT.row k5 (NewT.row k4 X5.out))) rfl f5 (hK _ _ (NewT.refl _) rfl)
          · intro wf kf
            intro u h; obtain rfl := Eq.symm (h (by simp)); clear h
            refine relyEnd_nil rfl ?_
            simp only [Act.put, List.setIfInBounds_toArray, List.set_cons_zero, List.set_cons_succ]
            refine wpList_plain rfl (fun K hK => ?_)
            refine opr_putm rfl rfl rfl (kf.row (NewT.row k5 (NewT.row k4 X22.out))) (by decide) info_rec (recF_one _ _ _ (oneP HP.out.1) (oneR HV.out.out)) (put_all _ _) ?_
            intro wq hTq rq
            refine hK _ _ ?_
            clear hK K
            refine wpList_plain rfl (fun K hK => ?_)
            refine opr_move (.inr rfl) (hK _ _ ?_)
            clear hK K
            refine wpList_end rfl ?_
            go_simp
            go_wp2
            have hN9 := NewT.trans _ _ _ k4 (NewT.trans _ _ _ k5 kf)
            have hNq : NewT w wq := (NewT.trans _ _ _ HN3.out hN9).rt hTq (Nat.le_refl _)
            refine bodyPost_ret (results_2 rfl _ rfl rq Tryd.underlying27 rfl info_rec) rfl ⟨_, rfl, hNq, _, rfl, ?_⟩
            exact ⟨sv, dv, rfl, ((HP.out.new hN9).rt hTq (by omega)).1, ((HV.out.new hN9).rt hTq (by omega)).out⟩
set_option maxHeartbeats 4000000 in
theorem Get_nine (v : Value)  (w : World) (h : RdV w [] v ([9])) : Cv 23 #[v] w (svTup zR 2) := by
  unfold Cv
  have HV := Lib.hid h
  clear h
  go_enter Tryd.func23, Tryd.ntmps23
  go_upto_region 1 with fail
  have r2 := rowIs_box w 27 109 (recF zR (.slice none 0 0) (.slice none 0 0))
  have hN := NewT.alloc w (.cells (rowA 109 (recF zR (.slice none 0 0) (.slice none 0 0))) 27)
  have hsz : w.heap.size < (w.alloc (.cells (rowA 109 (recF zR (.slice none 0 0) (.slice none 0 0))) 27)).heap.size := by simp
  change Code.wp _ _ _ _ (w.alloc (.cells (rowA 109 (recF zR (.slice none 0 0) (.slice none 0 0))) 27))
  generalize w.alloc (.cells (rowA 109 (recF zR (.slice none 0 0) (.slice none 0 0))) 27) = W0 at r2 hN hsz ⊢
  have HV0 := Lib.hid (hN.rd HV.out)
  refine wp_region_steps0 NewT [svRd ([9]), svRdr W0 ([9]), svRdr W0 ([9])] [([(0, none)], none), ([(7, some 0)], none), ([(8, some 1)], none)] 18 3 rfl rfl (by kernel_rfl) NewT.trans (NewT.refl _) (Nat.le_of_ble_eq_true rfl) ⟨?_, ?_, ?_, trivial⟩ ?_
  · intro a wx hT hF K hK
    obtain ⟨f0, _⟩ := hF
    have f0 : a.tmps.getD 0 undef = v := f0
    refine rely_wp rfl ?_
    exact opr_move (.inl rfl) (hK _ _ (NewT.refl _) (by rw [eval_tmp, f0]; exact hT.rd HV0.out))
  · intro a wx hT hF K hK
    obtain ⟨f7, _⟩ := hF
    replace f7 := show (svRd ([9])).pred (a.tmps.getD 7 undef) wx from f7
    refine rely_wp rfl ?_
    exact opr_cv (Read_cv _ ([9]) wx W0 f7 (by decide) hT.out.size) rfl Tryd.func24 (by kernel_rfl) (by kernel_rfl) (by simp only [List.map_toArray, List.map_cons, List.map_nil, eval_tmp]) hK
  · intro a wx hT hF K hK
    obtain ⟨f8, _⟩ := hF
    replace f8 := show (svRdr W0 ([9])).pred (a.tmps.getD 8 undef) wx from f8
    refine rely_wp rfl ?_
    exact opr_move (.inr rfl) (hK _ _ (NewT.refl _) f8)
  · intro w1 k1
    intro _ _
    intro _ _
    intro u4 h; have g4 := h (by simp); clear h; replace g4 := show (svRdr W0 ([9])).pred u4 w1 from g4
    refine relyEnd_nil rfl ?_
    refine wpList_end rfl ?_
    simp only [Act.put, List.setIfInBounds_toArray, List.set_cons_zero, List.set_cons_succ]
    go_simp
    obtain ⟨R, rfl, hR, hr1⟩ := g4
    have HJ1 := Lib.hid hr1
    have X2 := Lib.hid (k1.row r2)
    have HN1 := Lib.hid (NewT.trans _ _ _ hN k1)
    have hne : w.heap.size ≠ R := by omega
    have hRl := hr1.lt
    clear hr1 r2 hN HV HV0
    go_upto_region 2 with fail
    refine wp_region_steps (RT R) (fun k w => Rdr w R (([[9], [9], []] : List (List UInt8)).getD k []) (if k ≤ 1 then 0 else 2)) [SV.eq (.pointer (some ⟨R, 0, none⟩)), svRecB R (R + 1) zR] [([(4, none)], none), ([(9, some 0)], none)] 18 2 rfl rfl (by kernel_rfl) RT.trans (RT.refl _ _) HJ1.out (Nat.le_of_ble_eq_true rfl) ⟨?_, ?_, trivial⟩ ?_
    · intro a wx hT hF hJ K hK
      replace hK := fun v w' (hN : NewT wx w') c => hK v w' (RT.new (Rdr.lt hJ) hN) (Rdr.new hJ hN) c
      obtain ⟨f4, _⟩ := hF
      have f4 : a.tmps.getD 4 undef = .pointer (some ⟨R, 0, none⟩) := f4
      refine rely_wp rfl ?_
      exact opr_move (.inl rfl) (hK _ _ (NewT.refl _) f4)
    · intro a wx hT hF hJ K hK
      obtain ⟨f9, _⟩ := hF
      have f9 : a.tmps.getD 9 undef = .pointer (some ⟨R, 0, none⟩) := f9
      refine rely_wp rfl ?_
      refine opr_call rfl Tryd.func26 (by kernel_rfl) (by kernel_rfl) (by simp only [List.map_toArray, List.map_cons, List.map_nil, eval_tmp, f9]) ((RRead_nine R wx (show Rdr wx R ([9]) 0 from hJ)).mono ?_)
      rintro e w' ⟨rfl, hT', hr⟩
      exact ⟨_, rfl, hK _ _ hT' hr ⟨by omega, nilB rfl rfl⟩⟩
    · intro e2 k2 hJ
      intro u h; obtain rfl := Eq.symm (h (by simp)); clear h
      intro u10 h; have g10 := h (by simp); clear h; replace g10 := show (svRecB R (R + 1) zR).pred u10 e2 from g10
      refine relyEnd_nil rfl ?_
      simp only [Act.put, List.setIfInBounds_toArray, List.set_cons_zero, List.set_cons_succ]
      obtain ⟨_, sv, dv, e10, G10, V10⟩ := g10
      subst e10
      refine wpList_new (n := 109) rfl rfl rfl rfl rfl rfl (by simp) run_alloc_rec info_rec (recF_one _ _ _ (oneP G10.1) (oneR V10.out)) rfl ?_
      intro w3 hn3 r5
      refine wpList_end rfl ?_
      simp only [Act.put, List.setIfInBounds_toArray, List.set_cons_zero, List.set_cons_succ]
      go_simp
      have HJ3 := Lib.hid (Rdr.new (show Rdr e2 R [] 2 from hJ) hn3)
      have HN3 := Lib.hid (NewT.trans _ _ _ (HN1.out.rt k2 (by omega)) hn3)
      have X5 := Lib.hid r5
      have X22 := Lib.hid (hn3.row (k2.row hne X2.out))
      have hG : w.heap.size < e2.heap.size := Nat.lt_of_lt_of_le hsz (Nat.le_trans k1.out.size k2.size)
      have HP := Lib.hid (G10.new hn3)
      have HV := Lib.hid (V10.new hn3)
      clear hJ r5 hn3 G10 V10 X2 HN1
      generalize e2.heap.size = G at X5 hG ⊢
      go_upto_region 3 with fail
      refine wp_region_steps0 NewT [SV.eq (.pointer (some ⟨R, 0, none⟩)), SV.eq (.int .i64 (2)), SV.eq (.int .i64 (2))] [([(4, none)], none), ([(11, some 0)], none), ([(12, some 1)], none)] 18 3 rfl rfl (by kernel_rfl) NewT.trans (NewT.refl _) (Nat.le_of_ble_eq_true rfl) ⟨?_, ?_, ?_, trivial⟩ ?_
      · intro a wx hT hF K hK
        obtain ⟨f4, _⟩ := hF
        have f4 : a.tmps.getD 4 undef = .pointer (some ⟨R, 0, none⟩) := f4
        refine rely_wp rfl ?_
        exact opr_move (.inl rfl) (hK _ _ (NewT.refl _) f4)
      · intro a wx hT hF K hK
        obtain ⟨f11, _⟩ := hF
        have f11 : a.tmps.getD 11 undef = .pointer (some ⟨R, 0, none⟩) := f11
        refine rely_wp rfl ?_
        exact opr_cv (Done_2 R wx (HJ3.out.new hT)) rfl Tryd.func43 (by kernel_rfl) (by kernel_rfl) (by simp only [List.map_toArray, List.map_cons, List.map_nil, eval_tmp, f11]) hK
      · intro a wx hT hF K hK
        obtain ⟨f12, _⟩ := hF
        have f12 : a.tmps.getD 12 undef = .int .i64 (2) := f12
        refine rely_wp rfl ?_
        exact opr_move (.inr rfl) (hK _ _ (NewT.refl _) f12)
      · intro e4 k4
        intro u h; obtain rfl := Eq.symm (h (by simp)); clear h
        intro u h; obtain rfl := Eq.symm (h (by simp)); clear h
        intro u h; obtain rfl := Eq.symm (h (by simp)); clear h
        refine relyEnd_nil rfl ?_
        refine wpList_end rfl ?_
        simp only [Act.put, List.setIfInBounds_toArray, List.set_cons_zero, List.set_cons_succ]
        go_simp
        go_upto_region 4 with fail
        refine wp_region_steps0 NewT [SV.eq (.int .i64 (2)), SV.eq (.bool true)] [([(6, none)], none), ([(13, some 0)], none)] 18 2 rfl rfl (by kernel_rfl) NewT.trans (NewT.refl _) (Nat.le_of_ble_eq_true rfl) ⟨?_, ?_, trivial⟩ ?_
        · intro a wx hT hF K hK
          obtain ⟨f6, _⟩ := hF
          have f6 : a.tmps.getD 6 undef = .int .i64 (2) := f6
          refine rely_wp rfl ?_
          exact opr_move (.inl rfl) (hK _ _ (NewT.refl _) f6)
        · intro a wx hT hF K hK
          obtain ⟨f13, _⟩ := hF
          have f13 : a.tmps.getD 13 undef = .int .i64 (2) := f13
          refine rely_wp rfl ?_
          exact opr_cmp (b := true) (.inr (.inl ⟨rfl, (by decide)⟩)) Tryd.underlying36 rfl f13 rfl (hK _ _ (NewT.refl _) rfl)
        · intro e5 k5
          intro u h; obtain rfl := Eq.symm (h (by simp)); clear h
          intro u h; obtain rfl := Eq.symm (h (by simp)); clear h
          refine relyEnd_nil rfl ?_
          refine wpList_end rfl ?_
          simp only [Act.put, List.setIfInBounds_toArray, List.set_cons_zero, List.set_cons_succ]
          go_simp
          go_upto_region 5 with fail
          refine wp_region_steps0 NewT [SV.eq (.agg (rowA 109 (recF zR (.slice none 0 0) (.slice none 0 0)))), SV.eq (.int .i64 (2))] [([], none), ([(6, none)], none)] 18 2 rfl rfl (by kernel_rfl) NewT.trans (NewT.refl _) (Nat.le_of_ble_eq_true rfl) ⟨?_, ?_, trivial⟩ ?_
          · intro a wx hT hF K hK
            refine rely_wp rfl ?_
            exact opr_build (pv := #[]) rfl (by simp) (build_zero wx) (hK _ _ (NewT.refl _) rfl)
          · intro a wx hT hF K hK
            obtain ⟨f6, _⟩ := hF
            have f6 : a.tmps.getD 6 undef = .int .i64 (2) := f6
            refine rely_wp rfl ?_
            exact opr_move (.inl rfl) (hK _ _ (NewT.refl _) f6)
          · intro wf kf
            intro u h; obtain rfl := Eq.symm (h (by simp)); clear h
            intro u h; obtain rfl := Eq.symm (h (by simp)); clear h
            refine relyEnd_nil rfl ?_
            simp only [Act.put, List.setIfInBounds_toArray, List.set_cons_zero, List.set_cons_succ]
            refine wpList_plain rfl (fun K hK => ?_)
            refine opr_putm rfl rfl rfl (kf.row (NewT.row k5 (NewT.row k4 X22.out))) (by decide) info_rec (recF_one _ _ _ rfl rfl) (put_all _ _) ?_
            intro wq hTq rq
            refine hK _ _ ?_
            clear hK K
            refine wpList_plain rfl (fun K hK => ?_)
            refine opr_move (.inr rfl) (hK _ _ ?_)
            clear hK K
            refine wpList_end rfl ?_
            go_simp
            go_wp2
            have hN9 := NewT.trans _ _ _ k4 (NewT.trans _ _ _ k5 kf)
            have hNq : NewT w wq := (NewT.trans _ _ _ HN3.out hN9).rt hTq (Nat.le_refl _)
            exact bodyPost_ret (results_2 rfl _ rfl rq Tryd.underlying27 rfl info_rec) rfl ⟨_, rfl, hNq, _, rfl, ⟨_, _, rfl, rdP_nil _, rdV_nil _ _⟩⟩
end Go.Proofs.YthgblcpekhiphaaDoor
/- The reference's Num and Bytes, layer 3. -/
namespace Go.Proofs.YthgblcpekhiphaaDoor
open Go Go.RowKit
set_option maxRecDepth 8000

set_option maxRecDepth 20000 in
set_option maxHeartbeats 2000000 in
theorem RefNum_in (n : Nat) (hn : n ≤ 2147483647) (w : World) : Calls Tryd.prog 40 #[.int .i64 (n : Int)] w fun e w' => ∃ v, e = .returned v ∧ Below w.heap.size w w' ∧ w'.ownsRow w.heap.size 5 1 v (numL n).length ((numL n).map fun b => .int .u8 (bN b)) := by
  induction n using Nat.strongRecOn generalizing w with
  | _ n ih =>
    by_cases h1 : n < 128
    · have e1 : numL n = [uB n] := by unfold numL; rw [if_pos h1]
      have eb := bN_uB n (by omega)
      have ho := ownsRow_row (rowIs_box w 5 1 (fun _ => .int .u8 (n : Int))) w.heap.size 1 (by omega) (by unfold maxLen; omega) (Nat.le_refl _)
      have hN : NewT w (w.alloc (.cells (rowA 1 (fun _ => .int .u8 (n : Int))) 5)) := NewT.alloc _ _
      rw [e1]
      simp only [List.length_cons, List.length_nil, List.map_cons, List.map_nil, eb]
      clear ih e1 eb
      go_enter Tryd.func40, Tryd.ntmps40
      go_wp2_with fail
      go_ret
      exact ⟨_, rfl, hN.out, ho⟩
    · obtain ⟨init, x, hx, e1, e2⟩ := numL_step n hn (by omega)
      have hw := bN_uB (x + 128) (by omega)
      have hw2 := bN_uB (n % 128) (by omega)
      have hxb := bN_uB x (by omega)
      obtain ⟨i0, hi, hz0, hz1, hz2⟩ := info_parts info5
      have H1 := Lib.hid e1
      have H2 := Lib.hid e2
      have hil : init.length ≤ 5 := by have := numL_length (n / 128); rw [e1] at this; have := sz_le (n / 128); simp at *; omega
      have IH := Lib.hid (fun w => ih (n / 128) (by omega) (by omega) w)
      have W1 := Lib.hid hw
      have W2 := Lib.hid hw2
      have W3 := Lib.hid hxb
      clear ih e1 e2 hw hw2 hxb
      generalize hil2 : init.length = m at hil
      have Hil := Lib.hid hil2
      clear hil2
      go_enter Tryd.func40, Tryd.ntmps40
      go_wp2_with (first
        | (go_at_call 40; refine (IH.out w).mono ?_; rintro _ w1 ⟨v1, rfl, hB1, ho1⟩; rw [H1.out, List.length_append, Hil.out, List.map_append] at ho1; simp only [List.length_cons, List.length_nil, List.map_cons, List.map_nil, W3.out, Nat.zero_add] at ho1; obtain ⟨g, c, rfl, hg, _⟩ := ho1.form (by omega); have k0 := ho1.cells (g := g) rfl m (.int .u8 (x : Int)) (by rw [List.getElem?_append_right (by simp [Hil.out])]; simp [Hil.out]); rw [Addr.add_mid, Nat.zero_add] at k0; have f0 := frozen_own ho1 m)
        | (at_builtin; refine wpList_append_own _ rfl (.tmp 30) (.tmp 34) 25 rfl w.heap.size 5 i0 _ 1 1 Tryd.underlying25 hi hz0 hz1 hz2 rfl (by omega) _ (m + 1) _ rfl ((ownsRow_last ho1 (.int .u8 ((x : Int) + 128))).alloc _) ⟨w1.heap.size, 0, none⟩ 1 1 [.int .u8 ((n : Int) % 128)] rfl rfl (fun j u h => by have := one_cell (w1.setCell ⟨g, m, none⟩ (.int .u8 ((x : Int) + 128))) (.int .u8 ((n : Int) % 128)) 5 j u h; simpa using this) (by simp [Value.oneCell']) (by unfold maxLen; omega) (by omega) (by have := hB1.size; simp; omega) ?_; intro v' w2 hown' hg2 _))
      go_ret
      refine ⟨_, rfl, ?_, ?_⟩
      · exact ((hB1.setCell (p := ⟨g, m, none⟩) hg _).alloc (by have := hB1.size; simp; omega) _).grown hg2 (by have := hB1.size; simp; omega) (fun k e => by cases e; exact hg)
      · rw [H2.out]
        have e : (init ++ [uB (x + 128), uB (n % 128)]).length = m + 1 + 1 := by simp [Hil.out]
        rw [e, List.map_append]
        simp only [List.map_cons, List.map_nil, W1.out, W2.out]
        simpa using hown'
set_option maxRecDepth 20000 in
set_option maxHeartbeats 400000 in
theorem RefNum_out (n : Int) (hn : ¬ (0 ≤ n ∧ n ≤ 2147483647)) (w : World) : Calls Tryd.prog 40 #[.int .i64 n] w fun e w' => e = .returned (.slice none 0 0) ∧ w' = w := by
  by_cases h0 : n < 0
  · go_enter Tryd.func40, Tryd.ntmps40
    go_wp2_with fail
    go_ret
    exact ⟨rfl, rfl⟩
  · have h1 : 2147483647 < n := by omega
    clear hn
    go_enter Tryd.func40, Tryd.ntmps40
    go_wp2_with fail
    go_ret
    exact ⟨rfl, rfl⟩
theorem RefNum_rd (n : Int) (l : List UInt8) (w : World) (h : numI n = l) : Cv 40 #[.int .i64 n] w (svRd l) := by
  subst h
  unfold numI Cv
  by_cases h : 0 ≤ n ∧ n ≤ 2147483647
  · rw [if_pos h]
    obtain ⟨m, rfl⟩ := Int.eq_ofNat_of_zero_le h.1
    exact (RefNum_in m (by omega) w).mono fun _ _ ⟨v, he, hB, ho⟩ => ⟨v, he, hB, rdV_own ho rfl (by simp)⟩
  · rw [if_neg h]
    exact (RefNum_out n h w).mono fun _ _ ⟨he, hw⟩ => ⟨_, he, NewT.of_eq hw.symm, rdV_nil _ _⟩
set_option maxHeartbeats 1000000 in
theorem RefBytes_rd (v : Value) (l : List UInt8) (w : World) (h : RdV w [] v l) (hl : l.length ≤ 900000) : Cv 42 #[v] w (svRd (numL l.length ++ l)) := by
  unfold Cv
  have Hr := Lib.hid h
  obtain ⟨A, cap, rfl, h1, h2, _⟩ := h
  have h5 : (numL l.length).length ≤ 5 := by rw [numL_length]; exact sz_le _
  obtain ⟨i0, hi, hz0, hz1, hz2⟩ := info_parts info5
  go_enter Tryd.func42, Tryd.ntmps42
  go_wp2_with (first
    | (go_at_call 40; refine (RefNum_in l.length (by omega) w).mono ?_; rintro _ w1 ⟨v1, rfl, hB1, ho1⟩)
    | (at_builtin; refine wpList_append_rd rfl (.tmp 5) (.tmp 6) 25 rfl (base := w.heap.size) Tryd.underlying25 hi hz0 hz1 hz2 rfl ho1 rfl (Hr.out.keep (KeepBut.below hB1)) (by omega) hB1.size ?_; intro v2 w2 o2 grow2))
  go_ret
  refine ⟨_, rfl, hB1.grown grow2 hB1.size (fun k e => (ho1.lt k e).1), ?_⟩
  rw [← List.map_append] at o2
  exact rdV_own o2 (by simp) (by simp)
theorem Bytes_true (v1 v2 : Value) (l : List UInt8) (w : World) (h1 : RdV w [] v1 l) (h2 : RdV w [] v2 l) (hl : l.length ≤ 1000000) : Cv 19 #[v1, v2] w (.eq (.bool true)) := by
  have := Bytes_cv v1 v2 l l w h1 h2 hl hl
  simpa using this
theorem RefBytes_cv (v : Value) (l z : List UInt8) (w : World) (h : RdV w [] v l) (hl : l.length ≤ 900000) (hz : numL l.length ++ l = z) : Cv 42 #[v] w (svRd z) := hz ▸ RefBytes_rd v l w h hl
end Go.Proofs.YthgblcpekhiphaaDoor
/- The document's example, layer 4: alive. -/
namespace Go.Proofs.YthgblcpekhiphaaDoor
open Go Go.RowKit
set_option maxRecDepth 8000
def xr : Rc := { zR with kind := 6, part := 1, epoch := 2 }
def xa : Rc := { zR with kind := 1, saga := 3, steps := [(1, 1)], data := [97] }
theorem xa_right : rightB xa = true := by decide +kernel
theorem zr_right : rightB zR = false := by decide +kernel
theorem xr_open : openB xr = [6, 1, 2] := by decide +kernel
theorem xa_same : sameB xa (onlyR xa) = true := by decide +kernel
theorem xa_red : redactB xa = redact cmC xa := redactB_right xa xa_right
theorem xa_sealed : sealedB (redactB xa) = sealedB xa := by
  unfold sealedB
  rw [xa_red, if_pos (right_redact cmC xa xa_right), if_pos xa_right, sealed_redact]
theorem red_gone (d : Nat → UInt8) : (openL { xa with gone := true, com := d, data := [], salt := fun _ => 0 }).length = 38 := by
  unfold openL tailL payL
  simp [xa, zR, hL_length, numI, numL, stepsL]
theorem xa_len : (openB (redactB xa)).length = 38 := by
  unfold openB
  rw [if_pos (by rw [xa_red]; exact right_redact cmC xa xa_right)]
  unfold redactB
  rw [if_pos (by rw [xa_right]; decide)]
  exact red_gone _
theorem xa_com : eqH (redactB xa).com (comB xa) = true := by
  have h : (redactB xa).com = comB xa := by
    unfold redactB comB
    rw [if_pos (by rw [xa_right]; decide), if_pos (by rw [xa_right]; decide)]
  rw [h]; exact eqH_same _
theorem xa_gone : (redactB xa).gone = true := by
  unfold redactB
  rw [if_pos (by rw [xa_right]; decide)]
theorem build_xr (w : World) : (Instr.build 27 #[(0, .int .i64 6), (8, .int .i64 1), (9, .int .i64 2)]).run Tryd.prog w = .ok (.agg (rowA 109 (recF xr (.slice none 0 0) (.slice none 0 0)))) w := by kernel_rfl
theorem build_xa (A1 : Option Addr) (n1 c1 : Nat) (A2 : Option Addr) (n2 c2 : Nat) (w : World) : (Instr.build 27 #[(0, .int .i64 1), (1, .int .i64 3), (11, .slice A1 n1 c1), (12, .slice A2 n2 c2)]).run Tryd.prog w = .ok (.agg (rowA 109 (recF xa (.slice A1 n1 c1) (.slice A2 n2 c2)))) w := by kernel_rfl
theorem run_bsb3 (w : World) : (Instr.buildSlice 25 3 #[(0, .int .u8 6), (1, .int .u8 1), (2, .int .u8 2)]).run Tryd.prog w = .ok (.slice (some ⟨w.heap.size, 0, none⟩) 3 3) (w.alloc (.cells #[.int .u8 6, .int .u8 1, .int .u8 2] 5)) := by kernel_rfl
theorem run_bsb9 (w : World) : (Instr.buildSlice 25 1 #[(0, .int .u8 9)]).run Tryd.prog w = .ok (.slice (some ⟨w.heap.size, 0, none⟩) 1 1) (w.alloc (.cells #[.int .u8 9] 5)) := by kernel_rfl
theorem rd_612 (w : World) : RdV (w.alloc (.cells #[.int .u8 6, .int .u8 1, .int .u8 2] 5)) [] (.slice (some ⟨w.heap.size, 0, none⟩) 3 3) [6, 1, 2] :=
  rdV_lit (l := [6, 1, 2]) (Nat.le_refl _) (by unfold maxLen; simp) fun i hi => by
    rw [cell_new_fr _ _ _ _ _ _ rfl]
    have : i = 0 ∨ i = 1 ∨ i = 2 := by simp at hi; omega
    rcases this with rfl | rfl | rfl <;> rfl
theorem rd_9 (w : World) : RdV (w.alloc (.cells #[.int .u8 9] 5)) [] (.slice (some ⟨w.heap.size, 0, none⟩) 1 1) [9] :=
  rdV_lit (l := [9]) (Nat.le_refl _) (by unfold maxLen; simp) fun i hi => by
    rw [cell_new_fr _ _ _ _ _ _ rfl]
    obtain rfl : i = 0 := by simpa using hi
    rfl
theorem rd_a (w : World) : RdV (w.alloc (.cells #[.int .u8 97] 5 (1, 2))) [] (.slice (some ⟨w.heap.size, 0, none⟩) 1 1) [97] :=
  rdV_lit (l := [97]) (Nat.le_refl _) (by unfold maxLen; simp) fun i hi => by
    rw [cell_new_fr _ _ _ _ _ _ rfl]
    obtain rfl : i = 0 := by simpa using hi
    rfl
section
variable {a : Act} {w : World} {o : Oper} {K : Act → World → Prop} {Q : Exit → Act → World → Prop} {x : Operand} {y : Rc} {e : Int}
theorem opr_ext0 (ho : o.op = .extract x 0) (hx : (svTup y e).pred (a.eval x) w) (h : ∀ r, RecV w r y → K (a.put o.dst r) w) : o.wp Tryd.prog a w K Q := by
  obtain ⟨r, hr, hv⟩ := hx
  obtain ⟨dst, op, type, pos, after, guard⟩ := o
  simp only at ho
  subst ho
  exact opr_val (s := Instr.extract (a.eval x) 0) rfl (by rw [hr]; simp [Instr.extract]) (h r hv)
theorem opr_ext1 (ho : o.op = .extract x 1) (hx : (svTup y e).pred (a.eval x) w) (h : K (a.put o.dst (.int .i64 e)) w) : o.wp Tryd.prog a w K Q := by
  obtain ⟨r, hr, hv⟩ := hx
  obtain ⟨dst, op, type, pos, after, guard⟩ := o
  simp only at ho
  subst ho
  exact opr_val (s := Instr.extract (a.eval x) 1) rfl (by rw [hr]; simp [Instr.extract]) h
theorem opr_bsb3 {v1 v2 v3 v : Value} {w' : World} (ho : o.op = .buildSlice 25 3 #[(0, .const v1), (1, .const v2), (2, .const v3)]) (hr : (Instr.buildSlice 25 3 #[(0, v1), (1, v2), (2, v3)]).run Tryd.prog w = .ok v w') (h : K (a.put o.dst v) w') : o.wp Tryd.prog a w K Q := by
  obtain ⟨dst, op, type, pos, after, guard⟩ := o
  simp only at ho
  subst ho
  exact opr_val (s := Instr.buildSlice 25 3 #[(0, a.eval (.const v1)), (1, a.eval (.const v2)), (2, a.eval (.const v3))]) (by simp [execOp]) hr h
theorem opr_bsb9 {v1 v : Value} {w' : World} (ho : o.op = .buildSlice 25 1 #[(0, .const v1)]) (hr : (Instr.buildSlice 25 1 #[(0, v1)]).run Tryd.prog w = .ok v w') (h : K (a.put o.dst v) w') : o.wp Tryd.prog a w K Q := by
  obtain ⟨dst, op, type, pos, after, guard⟩ := o
  simp only at ho
  subst ho
  exact opr_val (s := Instr.buildSlice 25 1 #[(0, a.eval (.const v1))]) (by simp [execOp]) hr h
end
theorem xa_sl : (sealedB xa).length ≤ 1000000 := by
  unfold sealedB
  rw [if_pos xa_right]
  unfold sealedL tailL
  simp [xa, zR, hL_length, numI, numL, stepsL]
attribute [local go_sem] conv_bytes
set_option maxHeartbeats 8000000 in
theorem alive4_any (w : World) (hT : Tables w) : Calls Tryd.prog 9 #[] w fun e w' => e = .returned (.bool true) ∧ Below w.heap.size w w' := by
  have HT := Lib.hid hT
  clear hT
  go_enter Tryd.func9, Tryd.ntmps9
  go_upto_region 1 with fail
  refine wp_region_steps0 NewT [SV.eq (.agg (rowA 109 (recF xr (.slice none 0 0) (.slice none 0 0)))), svRd ([6, 1, 2]), svRd ([6, 1, 2])] [([], none), ([(8, some 0)], none), ([(9, some 1)], none)] 77 3 rfl rfl (by kernel_rfl) NewT.trans (NewT.refl _) (Nat.le_of_ble_eq_true rfl) ⟨?_, ?_, ?_, trivial⟩ ?_
  · intro a wx hT hF K hK
    refine rely_wp rfl ?_
    exact opr_build rfl (by simp only [List.map_toArray, List.map_cons, List.map_nil, eval_const]) (build_xr wx) (hK _ _ (NewT.refl _) rfl)
  · intro a wx hT hF K hK
    obtain ⟨f8, _⟩ := hF
    have f8 : a.tmps.getD 8 undef = .agg (rowA 109 (recF xr (.slice none 0 0) (.slice none 0 0))) := f8
    refine rely_wp rfl ?_
    exact opr_cv (xr_open ▸ Open_cv _ xr wx ⟨_, _, rfl, rdP_nil _, rdV_nil _ _⟩) rfl Tryd.func22 (by kernel_rfl) (by kernel_rfl) (by simp only [List.map_toArray, List.map_cons, List.map_nil, eval_tmp, f8]) hK
  · intro a wx hT hF K hK
    obtain ⟨f9, _⟩ := hF
    replace f9 := show (svRd ([6, 1, 2])).pred (a.tmps.getD 9 undef) wx from f9
    refine rely_wp rfl ?_
    exact opr_move (.inr rfl) (hK _ _ (NewT.refl _) f9)
  · intro w1 k1
    intro u h; obtain rfl := Eq.symm (h (by simp)); clear h
    intro _ _
    intro u1 h; have g1 := h (by simp); clear h; replace g1 := show (svRd ([6, 1, 2])).pred u1 w1 from g1
    refine relyEnd_nil rfl ?_
    refine wpList_end rfl ?_
    simp only [Act.put, List.setIfInBounds_toArray, List.set_cons_zero, List.set_cons_succ]
    go_simp
    have H0 := Lib.hid g1
    go_upto_region 2 with fail
    refine wp_region_lit ?_
    refine wpList_plain rfl (fun K hK => ?_)
    refine opr_build rfl (by simp only [List.map_toArray, List.map_cons, List.map_nil, eval_const]) (build_step (1, 1) w1) (hK _ _ ?_)
    clear hK K
    refine wpList_plain rfl (fun K hK => ?_)
    refine opr_bsS rfl rfl (hK _ _ ?_)
    clear hK K
    have hNs := NewT.alloc w1 (.cells #[.int .i64 1, .int .i64 1] 46)
    have ps := rdP_one (1, 1) w1
    change wpList _ _ _ _ _ (w1.alloc (.cells #[.int .i64 1, .int .i64 1] 46))
    generalize w1.alloc (.cells #[.int .i64 1, .int .i64 1] 46) = w1s at hNs ps ⊢
    iterate 2 (refine wpList_plain rfl (fun K hK => ?_); go_simp; refine hK _ _ ?_; clear hK K)
    have hNb := NewT.alloc w1s (.cells #[.int .u8 97] 5 (1, 2))
    have pb := rd_a w1s
    change wpList _ _ _ _ _ (w1s.alloc (.cells #[.int .u8 97] 5 (1, 2)))
    generalize w1s.alloc (.cells #[.int .u8 97] 5 (1, 2)) = w1b at hNb pb ⊢
    refine wpList_plain rfl (fun K hK => ?_)
    refine opr_build rfl (by simp only [List.map_toArray, List.map_cons, List.map_nil, eval_const]; rfl) (build_xa _ _ _ _ _ _ w1b) (hK _ _ ?_)
    clear hK K
    refine wpList_new (n := 109) rfl rfl rfl rfl rfl rfl (by first | (simp; done) | simp [Act.put]) run_alloc_rec info_rec (recF_one _ _ _ rfl rfl) rfl ?_
    intro w2 hn2 r2
    refine wpList_end rfl ?_
    simp only [Act.put, List.setIfInBounds_toArray, List.set_cons_zero, List.set_cons_succ]
    go_simp
    have hNb2 := NewT.trans _ _ _ hNb hn2
    obtain ⟨sa, hsa⟩ : ∃ sa : Value, sa = .slice (some ⟨w1.heap.size, 0, none⟩) 1 1 := ⟨_, rfl⟩
    obtain ⟨da, hda⟩ : ∃ da : Value, da = .slice (some ⟨w1s.heap.size, 0, none⟩) 1 1 := ⟨_, rfl⟩
    rw [← hsa, ← hda] at r2
    rw [← hsa] at ps
    rw [← hda] at pb
    have HX2 : Hid (RecV w2 (.agg (rowA 109 (recF xa sa da))) xa) := Lib.hid ⟨sa, da, rfl, hNb2.pairs ps, hn2.rd pb⟩
    have X2 := Lib.hid r2
    have HN2 := Lib.hid (NewT.trans _ _ _ k1 (NewT.trans _ _ _ hNs hNb2))
    have HT2 := Lib.hid (HN2.out.tables HT.out)
    have H2 := Lib.hid (NewT.rd (NewT.trans _ _ _ hNs hNb2) H0.out)
    clear r2 ps pb hNs hNb hNb2 hn2 H0 HT k1 g1 hsa hda
    generalize w1b.heap.size = g2 at X2 ⊢
    go_upto_region 3 with fail
    refine wp_region_steps0 NewT [SV.eq (.agg (rowA 109 (recF xa sa da))), svRd (openL xa), svTup (onlyR xa) 0, svTup (onlyR xa) 0, svRec (onlyR xa), SV.eq (.int .i64 (0))] [([(2, none)], none), ([(16, some 0)], none), ([(17, some 1)], none), ([(18, some 2)], none), ([(15, some 3)], none), ([(15, some 3)], none)] 77 6 rfl rfl (by kernel_rfl) NewT.trans (NewT.refl _) (Nat.le_of_ble_eq_true rfl) ⟨?_, ?_, ?_, ?_, ?_, ?_, trivial⟩ ?_
    · intro a wx hT hF K hK
      obtain ⟨f2, _⟩ := hF
      have f2 : a.tmps.getD 2 undef = .pointer (some ⟨g2, 0, none⟩) := f2
      refine rely_wp rfl ?_
      exact opr_ldR (hT.row X2.out) rfl f2 (hK _ _ (NewT.refl _) rfl)
    · intro a wx hT hF K hK
      obtain ⟨f16, _⟩ := hF
      have f16 : a.tmps.getD 16 undef = .agg (rowA 109 (recF xa sa da)) := f16
      refine rely_wp rfl ?_
      exact opr_cv (show Cv _ _ _ (svRd (openL xa)) from (show openB xa = openL xa by unfold openB; rw [if_pos xa_right]) ▸ Open_cv _ xa wx (hT.recV HX2.out)) rfl Tryd.func22 (by kernel_rfl) (by kernel_rfl) (by simp only [List.map_toArray, List.map_cons, List.map_nil, eval_tmp, f16]) hK
    · intro a wx hT hF K hK
      obtain ⟨f17, _⟩ := hF
      replace f17 := show (svRd (openL xa)).pred (a.tmps.getD 17 undef) wx from f17
      refine rely_wp rfl ?_
      exact opr_cv (Get_cv _ xa xa_right wx f17) rfl Tryd.func23 (by kernel_rfl) (by kernel_rfl) (by simp only [List.map_toArray, List.map_cons, List.map_nil, eval_tmp]) hK
    · intro a wx hT hF K hK
      obtain ⟨f18, _⟩ := hF
      replace f18 := show (svTup (onlyR xa) 0).pred (a.tmps.getD 18 undef) wx from f18
      refine rely_wp rfl ?_
      exact opr_move (.inl rfl) (hK _ _ (NewT.refl _) f18)
    · intro a wx hT hF K hK
      obtain ⟨f15, _⟩ := hF
      replace f15 := show (svTup (onlyR xa) 0).pred (a.tmps.getD 15 undef) wx from f15
      refine rely_wp rfl ?_
      exact opr_ext0 rfl f15 (fun r hr => hK r _ (NewT.refl _) hr)
    · intro a wx hT hF K hK
      obtain ⟨f15, _⟩ := hF
      replace f15 := show (svTup (onlyR xa) 0).pred (a.tmps.getD 15 undef) wx from f15
      refine rely_wp rfl ?_
      exact opr_ext1 rfl f15 (hK _ _ (NewT.refl _) rfl)
    · intro e3 k3
      intro u h; obtain rfl := Eq.symm (h (by simp)); clear h
      intro _ _
      intro _ _
      intro _ _
      intro u19 h; have g19 := h (by simp); clear h; replace g19 := show (svRec (onlyR xa)).pred u19 e3 from g19
      intro u h; obtain rfl := Eq.symm (h (by simp)); clear h
      refine relyEnd_nil rfl ?_
      simp only [Act.put, List.setIfInBounds_toArray, List.set_cons_zero, List.set_cons_succ]
      obtain ⟨sb, db, e19, P19, V19⟩ := g19
      subst e19
      refine wpList_new (n := 109) rfl rfl rfl rfl rfl rfl (by first | (simp; done) | simp [Act.put]) run_alloc_rec info_rec (recF_one _ _ _ (oneP P19) (oneR V19)) rfl ?_
      intro w3 hn3 r3
      refine wpList_plain rfl (fun K hK => ?_)
      refine opr_move (.inr rfl) (hK _ _ ?_)
      clear hK K
      refine wpList_end rfl ?_
      simp only [Act.put, List.setIfInBounds_toArray, List.set_cons_zero, List.set_cons_succ]
      go_simp
      have HN3 := Lib.hid (NewT.trans _ _ _ k3 hn3)
      have HX3 : Hid (RecV w3 (.agg (rowA 109 (recF (onlyR xa) sb db))) (onlyR xa)) := Lib.hid ⟨sb, db, rfl, hn3.pairs P19, hn3.rd V19⟩
      have X3 := Lib.hid r3
      have H3 := Lib.hid (NewT.rd HN3.out H2.out)
      have Y20 := Lib.hid (NewT.row HN3.out X2.out)
      have HY20 := Lib.hid (NewT.recV HN3.out HX2.out)
      have HT3 := Lib.hid (NewT.tables HN3.out HT2.out)
      have HN30 := Lib.hid (NewT.trans _ _ _ HN2.out HN3.out)
      clear r3 P19 V19 H2 X2 HX2 HT2 HN2 HN3
      generalize e3.heap.size = g3 at X3 ⊢
      go_upto_region 4 with fail
      refine wp_region_steps0 NewT [svRd ([9]), svTup zR 2, svTup zR 2, svRec (zR), SV.eq (.int .i64 (2))] [([], none), ([(22, some 0)], none), ([(23, some 1)], none), ([(21, some 2)], none), ([(21, some 2)], none)] 77 5 rfl rfl (by kernel_rfl) NewT.trans (NewT.refl _) (Nat.le_of_ble_eq_true rfl) ⟨?_, ?_, ?_, ?_, ?_, trivial⟩ ?_
      · intro a wx hT hF K hK
        refine rely_wp rfl ?_
        exact opr_bsb9 rfl (run_bsb9 wx) (hK _ _ (NewT.alloc _ _) (rd_9 wx))
      · intro a wx hT hF K hK
        obtain ⟨f22, _⟩ := hF
        replace f22 := show (svRd ([9])).pred (a.tmps.getD 22 undef) wx from f22
        refine rely_wp rfl ?_
        exact opr_cv (Get_nine _ wx f22) rfl Tryd.func23 (by kernel_rfl) (by kernel_rfl) (by simp only [List.map_toArray, List.map_cons, List.map_nil, eval_tmp]) hK
      · intro a wx hT hF K hK
        obtain ⟨f23, _⟩ := hF
        replace f23 := show (svTup zR 2).pred (a.tmps.getD 23 undef) wx from f23
        refine rely_wp rfl ?_
        exact opr_move (.inl rfl) (hK _ _ (NewT.refl _) f23)
      · intro a wx hT hF K hK
        obtain ⟨f21, _⟩ := hF
        replace f21 := show (svTup zR 2).pred (a.tmps.getD 21 undef) wx from f21
        refine rely_wp rfl ?_
        exact opr_ext0 rfl f21 (fun r hr => hK r _ (NewT.refl _) hr)
      · intro a wx hT hF K hK
        obtain ⟨f21, _⟩ := hF
        replace f21 := show (svTup zR 2).pred (a.tmps.getD 21 undef) wx from f21
        refine rely_wp rfl ?_
        exact opr_ext1 rfl f21 (hK _ _ (NewT.refl _) rfl)
      · intro e4 k4
        intro _ _
        intro _ _
        intro _ _
        intro u24 h; have g24 := h (by simp); clear h; replace g24 := show (svRec (zR)).pred u24 e4 from g24
        intro u h; obtain rfl := Eq.symm (h (by simp)); clear h
        refine relyEnd_nil rfl ?_
        simp only [Act.put, List.setIfInBounds_toArray, List.set_cons_zero, List.set_cons_succ]
        obtain ⟨sc, dc, e24, P24, V24⟩ := g24
        subst e24
        refine wpList_new (n := 109) rfl rfl rfl rfl rfl rfl (by first | (simp; done) | simp [Act.put]) run_alloc_rec info_rec (recF_one _ _ _ (oneP P24) (oneR V24)) rfl ?_
        intro w4 hn4 r4
        refine wpList_plain rfl (fun K hK => ?_)
        refine opr_move (.inr rfl) (hK _ _ ?_)
        clear hK K
        refine wpList_end rfl ?_
        simp only [Act.put, List.setIfInBounds_toArray, List.set_cons_zero, List.set_cons_succ]
        go_simp
        have HN4 := Lib.hid (NewT.trans _ _ _ k4 hn4)
        have H4 := Lib.hid (NewT.rd HN4.out H3.out)
        have Y2 := Lib.hid (NewT.row HN4.out Y20.out)
        have HY2 := Lib.hid (NewT.recV HN4.out HY20.out)
        have Y3 := Lib.hid (NewT.row HN4.out X3.out)
        have HY3 := Lib.hid (NewT.recV HN4.out HX3.out)
        have HT4 := Lib.hid (NewT.tables HN4.out HT3.out)
        have HN40 := Lib.hid (NewT.trans _ _ _ HN30.out HN4.out)
        clear r4 P24 V24 H3 Y20 HY20 X3 HX3 HT3 HN30 HN4
        go_upto_region 5 with fail
        refine wp_region_steps0 NewT [SV.eq (.agg (rowA 109 (recF xa sa da))), svRec (redactB xa)] [([(2, none)], none), ([(26, some 0)], none)] 77 2 rfl rfl (by kernel_rfl) NewT.trans (NewT.refl _) (Nat.le_of_ble_eq_true rfl) ⟨?_, ?_, trivial⟩ ?_
        · intro a wx hT hF K hK
          obtain ⟨f2, _⟩ := hF
          have f2 : a.tmps.getD 2 undef = .pointer (some ⟨g2, 0, none⟩) := f2
          refine rely_wp rfl ?_
          exact opr_ldR (hT.row Y2.out) rfl f2 (hK _ _ (NewT.refl _) rfl)
        · intro a wx hT hF K hK
          obtain ⟨f26, _⟩ := hF
          have f26 : a.tmps.getD 26 undef = .agg (rowA 109 (recF xa sa da)) := f26
          refine rely_wp rfl ?_
          exact opr_cv (Redact_cv _ xa wx (hT.recV HY2.out) (hT.tables HT4.out) ⟨by decide, by decide⟩) rfl Tryd.func16 (by kernel_rfl) (by kernel_rfl) (by simp only [List.map_toArray, List.map_cons, List.map_nil, eval_tmp, f26]) hK
        · intro e5 k5
          intro u h; obtain rfl := Eq.symm (h (by simp)); clear h
          intro u27 h; have g27 := h (by simp); clear h; replace g27 := show (svRec (redactB xa)).pred u27 e5 from g27
          refine relyEnd_nil rfl ?_
          simp only [Act.put, List.setIfInBounds_toArray, List.set_cons_zero, List.set_cons_succ]
          obtain ⟨sd, dd, e27, P27, V27⟩ := g27
          subst e27
          refine wpList_new (n := 109) rfl rfl rfl rfl rfl rfl (by first | (simp; done) | simp [Act.put]) run_alloc_rec info_rec (recF_one _ _ _ (oneP P27) (oneR V27)) rfl ?_
          intro w5 hn5 r7
          refine wpList_end rfl ?_
          simp only [Act.put, List.setIfInBounds_toArray, List.set_cons_zero, List.set_cons_succ]
          go_simp
          have HN5 := Lib.hid (NewT.trans _ _ _ k5 hn5)
          have H1 := Lib.hid (NewT.rd HN5.out H4.out)
          have Z2 := Lib.hid (NewT.row HN5.out Y2.out)
          have HZ2 := Lib.hid (NewT.recV HN5.out HY2.out)
          have Z3 := Lib.hid (NewT.row HN5.out Y3.out)
          have HZ3 := Lib.hid (NewT.recV HN5.out HY3.out)
          have Z7 := Lib.hid r7
          have HZ7 : Hid (RecV w5 (.agg (rowA 109 (recF (redactB xa) sd dd))) (redactB xa)) := Lib.hid ⟨sd, dd, rfl, hn5.pairs P27, hn5.rd V27⟩
          have HT5 := Lib.hid (NewT.tables HN5.out HT4.out)
          have HN50 := Lib.hid (NewT.trans _ _ _ HN40.out HN5.out)
          clear r7 P27 V27 H4 Y2 HY2 Y3 HY3 HT4 HN40 HN5
          generalize e5.heap.size = g7 at Z7 ⊢
          go_upto_region 6 with fail
          refine wp_region_rely NewT [SV.eq (u1), svRd ([6, 1, 2]), SV.eq (.bool true), SV.eq (.bool true), SV.eq (.int .i64 (0)), SV.eq (.bool true), SV.eq (.bool true), SV.eq (.bool true), SV.eq (.int .i64 (2)), SV.eq (.bool true), SV.eq (.bool true), SV.eq (.bool true), SV.eq (.agg (rowA 109 (recF xa sa da))), SV.eq (.agg (rowA 109 (recF (onlyR xa) sb db))), SV.eq (.bool true), SV.eq (.bool true), SV.eq (.bool true), SV.eq (.agg (rowA 109 (recF xa sa da))), SV.eq (.bool true), SV.eq (.bool true), SV.eq (.bool true), SV.eq (.agg (rowA 109 (recF zR (.slice none 0 0) (.slice none 0 0)))), SV.eq (.bool false), SV.eq (.bool true), SV.eq (.bool true), SV.eq (.bool true), SV.eq (.pointer (some ⟨g7, 76, none⟩)), SV.eq (.bool true), SV.eq (.bool true), SV.eq (.bool true), SV.eq (.pointer (some ⟨g7, 77, none⟩)), SV.eq (.agg (rowA 32 (bF ((redactB xa).com)))), SV.eq (.agg (rowA 109 (recF xa sa da))), SV.eq (.agg (rowA 32 (bF (comB xa)))), SV.eq (.bool true), SV.eq (.bool true), SV.eq (.bool true), SV.eq (.agg (rowA 109 (recF xa sa da))), svRd (sealedB xa), SV.eq (.agg (rowA 109 (recF (redactB xa) sd dd))), svRd (sealedB xa), SV.eq (.bool true), SV.eq (.bool true), SV.eq (.bool true), SV.eq (.agg (rowA 109 (recF (redactB xa) sd dd))), svRd (openB (redactB xa)), SV.eq (.int .i64 (38)), SV.eq (.bool true), SV.eq (.bool true)] [([(1, none)], none), ([], none), ([(28, some 0), (29, some 1)], none), ([(30, some 2)], none), ([(4, none), (31, some 3)], some (31, true)), ([(32, some 4), (31, some 3)], some (31, true)), ([(31, some 3), (33, some 5)], none), ([(34, some 6)], none), ([(6, none), (35, some 7)], some (35, true)), ([(36, some 8), (35, some 7)], some (35, true)), ([(35, some 7), (37, some 9)], none), ([(38, some 10)], none), ([(2, none), (39, some 11)], some (39, true)), ([(3, none), (39, some 11)], some (39, true)), ([(40, some 12), (41, some 13), (39, some 11)], some (39, true)), ([(39, some 11), (42, some 14)], none), ([(43, some 15)], none), ([(2, none), (44, some 16)], some (44, true)), ([(45, some 17), (44, some 16)], some (44, true)), ([(44, some 16), (46, some 18)], none), ([(47, some 19)], none), ([(48, some 20)], some (48, true)), ([(49, some 21), (48, some 20)], some (48, true)), ([(50, some 22), (48, some 20)], some (48, true)), ([(48, some 20), (51, some 23)], none), ([(52, some 24)], none), ([(7, none), (53, some 25)], some (53, true)), ([(54, some 26), (53, some 25)], some (53, true)), ([(53, some 25), (55, some 27)], none), ([(56, some 28)], none), ([(7, none), (57, some 29)], some (57, true)), ([(58, some 30), (57, some 29)], some (57, true)), ([(2, none), (57, some 29)], some (57, true)), ([(60, some 32), (57, some 29)], some (57, true)), ([(59, some 31), (61, some 33), (57, some 29)], some (57, true)), ([(57, some 29), (62, some 34)], none), ([(63, some 35)], none), ([(2, none), (64, some 36)], some (64, true)), ([(65, some 37), (64, some 36)], some (64, true)), ([(7, none), (64, some 36)], some (64, true)), ([(67, some 39), (64, some 36)], some (64, true)), ([(66, some 38), (68, some 40), (64, some 36)], some (64, true)), ([(64, some 36), (69, some 41)], none), ([(70, some 42)], none), ([(7, none), (71, some 43)], some (71, true)), ([(72, some 44), (71, some 43)], some (71, true)), ([(73, some 45), (71, some 43)], some (71, true)), ([(74, some 46), (71, some 43)], some (71, true)), ([(71, some 43), (75, some 47)], none)] 77 rfl (by kernel_rfl) rfl (by kernel_rfl) (by kernel_rfl) rfl NewT.trans (NewT.drew _) (Nat.le_of_ble_eq_true rfl) ⟨?_, ?_, ?_, ?_, ?_, ?_, ?_, ?_, ?_, ?_, ?_, ?_, ?_, ?_, ?_, ?_, ?_, ?_, ?_, ?_, ?_, ?_, ?_, ?_, ?_, ?_, ?_, ?_, ?_, ?_, ?_, ?_, ?_, ?_, ?_, ?_, ?_, ?_, ?_, ?_, ?_, ?_, ?_, ?_, ?_, ?_, ?_, ?_, ?_, trivial⟩ ?_
          · intro a wx hT hF K hK
            obtain ⟨f1, _⟩ := hF
            have f1 : a.tmps.getD 1 undef = u1 := f1
            refine rely_wp rfl ?_
            exact opr_move (.inl rfl) (hK _ _ (NewT.refl _) f1)
          · intro a wx hT hF K hK
            refine rely_wp rfl ?_
            exact opr_bsb3 rfl (run_bsb3 wx) (hK _ _ (NewT.alloc _ _) (rd_612 wx))
          · intro a wx hT hF K hK
            obtain ⟨f28, f29, _⟩ := hF
            have f28 : a.tmps.getD 28 undef = u1 := f28
            replace f29 := show (svRd ([6, 1, 2])).pred (a.tmps.getD 29 undef) wx from f29
            refine rely_wp rfl ?_
            exact opr_cv (Bytes_true _ _ [6, 1, 2] wx (hT.rd H1.out) f29 (by decide)) rfl Tryd.func19 (by kernel_rfl) (by kernel_rfl) (by simp only [List.map_toArray, List.map_cons, List.map_nil, eval_tmp, f28]) hK
          · intro a wx hT hF K hK
            obtain ⟨f30, _⟩ := hF
            have f30 : a.tmps.getD 30 undef = .bool true := f30
            refine rely_wp rfl ?_
            exact opr_move (.inl rfl) (hK _ _ (NewT.refl _) f30)
          · intro a wx hT hF K hK
            obtain ⟨f4, f31, _⟩ := hF
            have f4 : a.tmps.getD 4 undef = .int .i64 (0) := f4
            have f31 : a.tmps.getD 31 undef = .bool true := f31
            refine rely_wp (rely_guard f31) ?_
            exact opr_move (.inl rfl) (hK _ _ (NewT.refl _) f4)
          · intro a wx hT hF K hK
            obtain ⟨f32, f31, _⟩ := hF
            have f32 : a.tmps.getD 32 undef = .int .i64 (0) := f32
            have f31 : a.tmps.getD 31 undef = .bool true := f31
            refine rely_wp (rely_guard f31) ?_
            exact opr_cmp (b := true) (.inl ⟨rfl, (by decide)⟩) Tryd.underlying36 rfl f32 rfl (hK _ _ (NewT.refl _) rfl)
          · intro a wx hT hF K hK
            obtain ⟨f31, f33, _⟩ := hF
            have f31 : a.tmps.getD 31 undef = .bool true := f31
            have f33 : a.tmps.getD 33 undef = .bool true := f33
            refine rely_wp rfl ?_
            exact opr_pick_true rfl f31 (hK _ _ (NewT.refl _) f33)
          · intro a wx hT hF K hK
            obtain ⟨f34, _⟩ := hF
            have f34 : a.tmps.getD 34 undef = .bool true := f34
            refine rely_wp rfl ?_
            exact opr_move (.inl rfl) (hK _ _ (NewT.refl _) f34)
          · intro a wx hT hF K hK
            obtain ⟨f6, f35, _⟩ := hF
            have f6 : a.tmps.getD 6 undef = .int .i64 (2) := f6
            have f35 : a.tmps.getD 35 undef = .bool true := f35
            refine rely_wp (rely_guard f35) ?_
            exact opr_move (.inl rfl) (hK _ _ (NewT.refl _) f6)
          · intro a wx hT hF K hK
            obtain ⟨f36, f35, _⟩ := hF
            have f36 : a.tmps.getD 36 undef = .int .i64 (2) := f36
            have f35 : a.tmps.getD 35 undef = .bool true := f35
            refine rely_wp (rely_guard f35) ?_
            exact opr_cmp (b := true) (.inl ⟨rfl, (by decide)⟩) Tryd.underlying36 rfl f36 rfl (hK _ _ (NewT.refl _) rfl)
          · intro a wx hT hF K hK
            obtain ⟨f35, f37, _⟩ := hF
            have f35 : a.tmps.getD 35 undef = .bool true := f35
            have f37 : a.tmps.getD 37 undef = .bool true := f37
            refine rely_wp rfl ?_
            exact opr_pick_true rfl f35 (hK _ _ (NewT.refl _) f37)
          · intro a wx hT hF K hK
            obtain ⟨f38, _⟩ := hF
            have f38 : a.tmps.getD 38 undef = .bool true := f38
            refine rely_wp rfl ?_
            exact opr_move (.inl rfl) (hK _ _ (NewT.refl _) f38)
          · intro a wx hT hF K hK
            obtain ⟨f2, f39, _⟩ := hF
            have f2 : a.tmps.getD 2 undef = .pointer (some ⟨g2, 0, none⟩) := f2
            have f39 : a.tmps.getD 39 undef = .bool true := f39
            refine rely_wp (rely_guard f39) ?_
            exact opr_ldR (hT.row Z2.out) rfl f2 (hK _ _ (NewT.refl _) rfl)
          · intro a wx hT hF K hK
            obtain ⟨f3, f39, _⟩ := hF
            have f3 : a.tmps.getD 3 undef = .pointer (some ⟨g3, 0, none⟩) := f3
            have f39 : a.tmps.getD 39 undef = .bool true := f39
            refine rely_wp (rely_guard f39) ?_
            exact opr_ldR (hT.row Z3.out) rfl f3 (hK _ _ (NewT.refl _) rfl)
          · intro a wx hT hF K hK
            obtain ⟨f40, f41, f39, _⟩ := hF
            have f40 : a.tmps.getD 40 undef = .agg (rowA 109 (recF xa sa da)) := f40
            have f41 : a.tmps.getD 41 undef = .agg (rowA 109 (recF (onlyR xa) sb db)) := f41
            have f39 : a.tmps.getD 39 undef = .bool true := f39
            refine rely_wp (rely_guard f39) ?_
            exact opr_cv (xa_same ▸ Same_cv _ _ xa (onlyR xa) wx (hT.recV HZ2.out) (hT.recV HZ3.out)) rfl Tryd.func18 (by kernel_rfl) (by kernel_rfl) (by simp only [List.map_toArray, List.map_cons, List.map_nil, eval_tmp, f40, f41]) hK
          · intro a wx hT hF K hK
            obtain ⟨f39, f42, _⟩ := hF
            have f39 : a.tmps.getD 39 undef = .bool true := f39
            have f42 : a.tmps.getD 42 undef = .bool true := f42
            refine rely_wp rfl ?_
            exact opr_pick_true rfl f39 (hK _ _ (NewT.refl _) f42)
          · intro a wx hT hF K hK
            obtain ⟨f43, _⟩ := hF
            have f43 : a.tmps.getD 43 undef = .bool true := f43
            refine rely_wp rfl ?_
            exact opr_move (.inl rfl) (hK _ _ (NewT.refl _) f43)
          · intro a wx hT hF K hK
            obtain ⟨f2, f44, _⟩ := hF
            have f2 : a.tmps.getD 2 undef = .pointer (some ⟨g2, 0, none⟩) := f2
            have f44 : a.tmps.getD 44 undef = .bool true := f44
            refine rely_wp (rely_guard f44) ?_
            exact opr_ldR (hT.row Z2.out) rfl f2 (hK _ _ (NewT.refl _) rfl)
          · intro a wx hT hF K hK
            obtain ⟨f45, f44, _⟩ := hF
            have f45 : a.tmps.getD 45 undef = .agg (rowA 109 (recF xa sa da)) := f45
            have f44 : a.tmps.getD 44 undef = .bool true := f44
            refine rely_wp (rely_guard f44) ?_
            exact opr_cv (xa_right ▸ Right_cv _ xa wx (hT.recV HZ2.out)) rfl Tryd.func11 (by kernel_rfl) (by kernel_rfl) (by simp only [List.map_toArray, List.map_cons, List.map_nil, eval_tmp, f45]) hK
          · intro a wx hT hF K hK
            obtain ⟨f44, f46, _⟩ := hF
            have f44 : a.tmps.getD 44 undef = .bool true := f44
            have f46 : a.tmps.getD 46 undef = .bool true := f46
            refine rely_wp rfl ?_
            exact opr_pick_true rfl f44 (hK _ _ (NewT.refl _) f46)
          · intro a wx hT hF K hK
            obtain ⟨f47, _⟩ := hF
            have f47 : a.tmps.getD 47 undef = .bool true := f47
            refine rely_wp rfl ?_
            exact opr_move (.inl rfl) (hK _ _ (NewT.refl _) f47)
          · intro a wx hT hF K hK
            obtain ⟨f48, _⟩ := hF
            have f48 : a.tmps.getD 48 undef = .bool true := f48
            refine rely_wp (rely_guard f48) ?_
            exact opr_build (pv := #[]) rfl (by simp) (build_zero wx) (hK _ _ (NewT.refl _) rfl)
          · intro a wx hT hF K hK
            obtain ⟨f49, f48, _⟩ := hF
            have f49 : a.tmps.getD 49 undef = .agg (rowA 109 (recF zR (.slice none 0 0) (.slice none 0 0))) := f49
            have f48 : a.tmps.getD 48 undef = .bool true := f48
            refine rely_wp (rely_guard f48) ?_
            exact opr_cv (zr_right ▸ Right_cv _ zR wx ⟨_, _, rfl, rdP_nil _, rdV_nil _ _⟩) rfl Tryd.func11 (by kernel_rfl) (by kernel_rfl) (by simp only [List.map_toArray, List.map_cons, List.map_nil, eval_tmp, f49]) hK
          · intro a wx hT hF K hK
            obtain ⟨f50, f48, _⟩ := hF
            have f50 : a.tmps.getD 50 undef = .bool false := f50
            have f48 : a.tmps.getD 48 undef = .bool true := f48
            refine rely_wp (rely_guard f48) ?_
            exact opr_not rfl f50 (hK _ _ (NewT.refl _) rfl)
          · intro a wx hT hF K hK
            obtain ⟨f48, f51, _⟩ := hF
            have f48 : a.tmps.getD 48 undef = .bool true := f48
            have f51 : a.tmps.getD 51 undef = .bool true := f51
            refine rely_wp rfl ?_
            exact opr_pick_true rfl f48 (hK _ _ (NewT.refl _) f51)
          · intro a wx hT hF K hK
            obtain ⟨f52, _⟩ := hF
            have f52 : a.tmps.getD 52 undef = .bool true := f52
            refine rely_wp rfl ?_
            exact opr_move (.inl rfl) (hK _ _ (NewT.refl _) f52)
          · intro a wx hT hF K hK
            obtain ⟨f7, f53, _⟩ := hF
            have f7 : a.tmps.getD 7 undef = .pointer (some ⟨g7, 0, none⟩) := f7
            have f53 : a.tmps.getD 53 undef = .bool true := f53
            refine rely_wp (rely_guard f53) ?_
            exact opr_fldR (by decide) rfl f7 (hK _ _ (NewT.refl _) rfl)
          · intro a wx hT hF K hK
            obtain ⟨f54, f53, _⟩ := hF
            have f54 : a.tmps.getD 54 undef = .pointer (some ⟨g7, 76, none⟩) := f54
            have f53 : a.tmps.getD 53 undef = .bool true := f53
            refine rely_wp (rely_guard f53) ?_
            exact opr_ldQ (hT.row Z7.out) (by decide) (show recF (redactB xa) sd dd 76 = .bool true by rw [← xa_gone]; rfl) rfl f54 (hK _ _ (NewT.refl _) rfl)
          · intro a wx hT hF K hK
            obtain ⟨f53, f55, _⟩ := hF
            have f53 : a.tmps.getD 53 undef = .bool true := f53
            have f55 : a.tmps.getD 55 undef = .bool true := f55
            refine rely_wp rfl ?_
            exact opr_pick_true rfl f53 (hK _ _ (NewT.refl _) f55)
          · intro a wx hT hF K hK
            obtain ⟨f56, _⟩ := hF
            have f56 : a.tmps.getD 56 undef = .bool true := f56
            refine rely_wp rfl ?_
            exact opr_move (.inl rfl) (hK _ _ (NewT.refl _) f56)
          · intro a wx hT hF K hK
            obtain ⟨f7, f57, _⟩ := hF
            have f7 : a.tmps.getD 7 undef = .pointer (some ⟨g7, 0, none⟩) := f7
            have f57 : a.tmps.getD 57 undef = .bool true := f57
            refine rely_wp (rely_guard f57) ?_
            exact opr_fldR (by decide) rfl f7 (hK _ _ (NewT.refl _) rfl)
          · intro a wx hT hF K hK
            obtain ⟨f58, f57, _⟩ := hF
            have f58 : a.tmps.getD 58 undef = .pointer (some ⟨g7, 77, none⟩) := f58
            have f57 : a.tmps.getD 57 undef = .bool true := f57
            refine rely_wp (rely_guard f57) ?_
            exact opr_ldH (hT.row Z7.out) (by decide) (recF_com (redactB xa) _ _) rfl f58 (hK _ _ (NewT.refl _) rfl)
          · intro a wx hT hF K hK
            obtain ⟨f2, f57, _⟩ := hF
            have f2 : a.tmps.getD 2 undef = .pointer (some ⟨g2, 0, none⟩) := f2
            have f57 : a.tmps.getD 57 undef = .bool true := f57
            refine rely_wp (rely_guard f57) ?_
            exact opr_ldR (hT.row Z2.out) rfl f2 (hK _ _ (NewT.refl _) rfl)
          · intro a wx hT hF K hK
            obtain ⟨f60, f57, _⟩ := hF
            have f60 : a.tmps.getD 60 undef = .agg (rowA 109 (recF xa sa da)) := f60
            have f57 : a.tmps.getD 57 undef = .bool true := f57
            refine rely_wp (rely_guard f57) ?_
            exact opr_cv (Com_cv _ xa wx (hT.recV HZ2.out) (hT.tables HT5.out)) rfl Tryd.func13 (by kernel_rfl) (by kernel_rfl) (by simp only [List.map_toArray, List.map_cons, List.map_nil, eval_tmp, f60]) hK
          · intro a wx hT hF K hK
            obtain ⟨f59, f61, f57, _⟩ := hF
            have f59 : a.tmps.getD 59 undef = .agg (rowA 32 (bF ((redactB xa).com))) := f59
            have f61 : a.tmps.getD 61 undef = .agg (rowA 32 (bF (comB xa))) := f61
            have f57 : a.tmps.getD 57 undef = .bool true := f57
            refine rely_wp (rely_guard f57) ?_
            exact opr_eql_hash (b := true) rfl f59 f61 (xa_com) (hK _ _ (NewT.refl _) rfl)
          · intro a wx hT hF K hK
            obtain ⟨f57, f62, _⟩ := hF
            have f57 : a.tmps.getD 57 undef = .bool true := f57
            have f62 : a.tmps.getD 62 undef = .bool true := f62
            refine rely_wp rfl ?_
            exact opr_pick_true rfl f57 (hK _ _ (NewT.refl _) f62)
          · intro a wx hT hF K hK
            obtain ⟨f63, _⟩ := hF
            have f63 : a.tmps.getD 63 undef = .bool true := f63
            refine rely_wp rfl ?_
            exact opr_move (.inl rfl) (hK _ _ (NewT.refl _) f63)
          · intro a wx hT hF K hK
            obtain ⟨f2, f64, _⟩ := hF
            have f2 : a.tmps.getD 2 undef = .pointer (some ⟨g2, 0, none⟩) := f2
            have f64 : a.tmps.getD 64 undef = .bool true := f64
            refine rely_wp (rely_guard f64) ?_
            exact opr_ldR (hT.row Z2.out) rfl f2 (hK _ _ (NewT.refl _) rfl)
          · intro a wx hT hF K hK
            obtain ⟨f65, f64, _⟩ := hF
            have f65 : a.tmps.getD 65 undef = .agg (rowA 109 (recF xa sa da)) := f65
            have f64 : a.tmps.getD 64 undef = .bool true := f64
            refine rely_wp (rely_guard f64) ?_
            exact opr_cv (Sealed_cv _ xa wx (hT.recV HZ2.out) (hT.tables HT5.out)) rfl Tryd.func20 (by kernel_rfl) (by kernel_rfl) (by simp only [List.map_toArray, List.map_cons, List.map_nil, eval_tmp, f65]) hK
          · intro a wx hT hF K hK
            obtain ⟨f7, f64, _⟩ := hF
            have f7 : a.tmps.getD 7 undef = .pointer (some ⟨g7, 0, none⟩) := f7
            have f64 : a.tmps.getD 64 undef = .bool true := f64
            refine rely_wp (rely_guard f64) ?_
            exact opr_ldR (hT.row Z7.out) rfl f7 (hK _ _ (NewT.refl _) rfl)
          · intro a wx hT hF K hK
            obtain ⟨f67, f64, _⟩ := hF
            have f67 : a.tmps.getD 67 undef = .agg (rowA 109 (recF (redactB xa) sd dd)) := f67
            have f64 : a.tmps.getD 64 undef = .bool true := f64
            refine rely_wp (rely_guard f64) ?_
            exact opr_cv (show Cv _ _ _ (svRd (sealedB xa)) from xa_sealed ▸ Sealed_cv _ (redactB xa) wx (hT.recV HZ7.out) (hT.tables HT5.out)) rfl Tryd.func20 (by kernel_rfl) (by kernel_rfl) (by simp only [List.map_toArray, List.map_cons, List.map_nil, eval_tmp, f67]) hK
          · intro a wx hT hF K hK
            obtain ⟨f66, f68, f64, _⟩ := hF
            replace f66 := show (svRd (sealedB xa)).pred (a.tmps.getD 66 undef) wx from f66
            replace f68 := show (svRd (sealedB xa)).pred (a.tmps.getD 68 undef) wx from f68
            have f64 : a.tmps.getD 64 undef = .bool true := f64
            refine rely_wp (rely_guard f64) ?_
            exact opr_cv (Bytes_true _ _ (sealedB xa) wx f66 f68 xa_sl) rfl Tryd.func19 (by kernel_rfl) (by kernel_rfl) (by simp only [List.map_toArray, List.map_cons, List.map_nil, eval_tmp]) hK
          · intro a wx hT hF K hK
            obtain ⟨f64, f69, _⟩ := hF
            have f64 : a.tmps.getD 64 undef = .bool true := f64
            have f69 : a.tmps.getD 69 undef = .bool true := f69
            refine rely_wp rfl ?_
            exact opr_pick_true rfl f64 (hK _ _ (NewT.refl _) f69)
          · intro a wx hT hF K hK
            obtain ⟨f70, _⟩ := hF
            have f70 : a.tmps.getD 70 undef = .bool true := f70
            refine rely_wp rfl ?_
            exact opr_move (.inl rfl) (hK _ _ (NewT.refl _) f70)
          · intro a wx hT hF K hK
            obtain ⟨f7, f71, _⟩ := hF
            have f7 : a.tmps.getD 7 undef = .pointer (some ⟨g7, 0, none⟩) := f7
            have f71 : a.tmps.getD 71 undef = .bool true := f71
            refine rely_wp (rely_guard f71) ?_
            exact opr_ldR (hT.row Z7.out) rfl f7 (hK _ _ (NewT.refl _) rfl)
          · intro a wx hT hF K hK
            obtain ⟨f72, f71, _⟩ := hF
            have f72 : a.tmps.getD 72 undef = .agg (rowA 109 (recF (redactB xa) sd dd)) := f72
            have f71 : a.tmps.getD 71 undef = .bool true := f71
            refine rely_wp (rely_guard f71) ?_
            exact opr_cv (Open_cv _ (redactB xa) wx (hT.recV HZ7.out)) rfl Tryd.func22 (by kernel_rfl) (by kernel_rfl) (by simp only [List.map_toArray, List.map_cons, List.map_nil, eval_tmp, f72]) hK
          · intro a wx hT hF K hK
            obtain ⟨f73, f71, _⟩ := hF
            replace f73 := show (svRd (openB (redactB xa))).pred (a.tmps.getD 73 undef) wx from f73
            have f71 : a.tmps.getD 71 undef = .bool true := f71
            refine rely_wp (rely_guard f71) ?_
            exact opr_len_rd rfl f73 (hK _ _ (NewT.refl _) (by rw [xa_len]; rfl))
          · intro a wx hT hF K hK
            obtain ⟨f74, f71, _⟩ := hF
            have f74 : a.tmps.getD 74 undef = .int .i64 (38) := f74
            have f71 : a.tmps.getD 71 undef = .bool true := f71
            refine rely_wp (rely_guard f71) ?_
            exact opr_cmp (b := true) (.inl ⟨rfl, (by decide)⟩) Tryd.underlying3 rfl f74 rfl (hK _ _ (NewT.refl _) rfl)
          · intro a wx hT hF K hK
            obtain ⟨f71, f75, _⟩ := hF
            have f71 : a.tmps.getD 71 undef = .bool true := f71
            have f75 : a.tmps.getD 75 undef = .bool true := f75
            refine rely_wp rfl ?_
            exact opr_pick_true rfl f71 (hK _ _ (NewT.refl _) f75)
          · intro wx hT
            intro u h; obtain rfl := Eq.symm (h (by simp)); clear h
            intro _ _
            intro u h; obtain rfl := Eq.symm (h (by simp)); clear h
            intro u h; obtain rfl := Eq.symm (h (by simp)); clear h
            intro u h; obtain rfl := Eq.symm (h (by simp)); clear h
            intro u h; obtain rfl := Eq.symm (h (by simp)); clear h
            intro u h; obtain rfl := Eq.symm (h (by simp)); clear h
            intro u h; obtain rfl := Eq.symm (h (by simp)); clear h
            intro u h; obtain rfl := Eq.symm (h (by simp)); clear h
            intro u h; obtain rfl := Eq.symm (h (by simp)); clear h
            intro u h; obtain rfl := Eq.symm (h (by simp)); clear h
            intro u h; obtain rfl := Eq.symm (h (by simp)); clear h
            intro u h; obtain rfl := Eq.symm (h (by simp)); clear h
            intro u h; obtain rfl := Eq.symm (h (by simp)); clear h
            intro u h; obtain rfl := Eq.symm (h (by simp)); clear h
            intro u h; obtain rfl := Eq.symm (h (by simp)); clear h
            intro u h; obtain rfl := Eq.symm (h (by simp)); clear h
            intro u h; obtain rfl := Eq.symm (h (by simp)); clear h
            intro u h; obtain rfl := Eq.symm (h (by simp)); clear h
            intro u h; obtain rfl := Eq.symm (h (by simp)); clear h
            intro u h; obtain rfl := Eq.symm (h (by simp)); clear h
            intro u h; obtain rfl := Eq.symm (h (by simp)); clear h
            intro u h; obtain rfl := Eq.symm (h (by simp)); clear h
            intro u h; obtain rfl := Eq.symm (h (by simp)); clear h
            intro u h; obtain rfl := Eq.symm (h (by simp)); clear h
            intro u h; obtain rfl := Eq.symm (h (by simp)); clear h
            intro u h; obtain rfl := Eq.symm (h (by simp)); clear h
            intro u h; obtain rfl := Eq.symm (h (by simp)); clear h
            intro u h; obtain rfl := Eq.symm (h (by simp)); clear h
            intro u h; obtain rfl := Eq.symm (h (by simp)); clear h
            intro u h; obtain rfl := Eq.symm (h (by simp)); clear h
            intro u h; obtain rfl := Eq.symm (h (by simp)); clear h
            intro u h; obtain rfl := Eq.symm (h (by simp)); clear h
            intro u h; obtain rfl := Eq.symm (h (by simp)); clear h
            intro u h; obtain rfl := Eq.symm (h (by simp)); clear h
            intro u h; obtain rfl := Eq.symm (h (by simp)); clear h
            intro u h; obtain rfl := Eq.symm (h (by simp)); clear h
            intro u h; obtain rfl := Eq.symm (h (by simp)); clear h
            intro _ _
            intro u h; obtain rfl := Eq.symm (h (by simp)); clear h
            intro _ _
            intro u h; obtain rfl := Eq.symm (h (by simp)); clear h
            intro u h; obtain rfl := Eq.symm (h (by simp)); clear h
            intro u h; obtain rfl := Eq.symm (h (by simp)); clear h
            intro u h; obtain rfl := Eq.symm (h (by simp)); clear h
            intro _ _
            intro u h; obtain rfl := Eq.symm (h (by simp)); clear h
            intro u h; obtain rfl := Eq.symm (h (by simp)); clear h
            intro u h; obtain rfl := Eq.symm (h (by simp)); clear h
            refine relyEnd_nil rfl ?_
            simp only [Act.put, List.setIfInBounds_toArray, List.set_cons_zero, List.set_cons_succ]
            refine opr_move (.inr rfl) ?_
            go_simp
            go_wp2
            go_ret
            exact ⟨rfl, (NewT.trans _ _ _ HN50.out hT).out⟩
end Go.Proofs.YthgblcpekhiphaaDoor
/- What layer 4's laws say, on lists. -/
namespace Go.Proofs.YthgblcpekhiphaaDoor
open Go Go.RowKit
set_option maxRecDepth 8000
def greatB (x : Rc) : Bool := decide ((30 : Int) < (x.steps.length : Int)) || decide ((300 : Int) < (x.data.length : Int))
theorem sealed_len (x : Rc) (hr : rightB x = true) : (sealedB x).length ≤ 1000 := by
  have hs := right_steps x hr
  have hk6 := right_kind x hr
  have n0 := numI_length x.kind
  unfold sealedB
  rw [if_pos hr]
  unfold sealedL
  rw [List.length_append]
  by_cases k1 : x.kind = 1
  · have : tailL x (hL (comR cmC x)) = hdL x ++ hL (comR cmC x) := by unfold tailL hdL; rw [if_pos k1]; simp
    rw [this]
    have := hdL_len x (by omega)
    simp [hL_length]; omega
  by_cases k3 : x.kind = 3
  · rw [tail_3 x _ k3]; have := rcL_len x; omega
  by_cases k2 : x.kind = 2 ∨ x.kind = 4
  · rw [tail_2 x _ k2]; have := callL_len x; omega
  by_cases k5 : x.kind = 5
  · rw [tail_5 x _ k5]; have := clL_len x; omega
  rw [tail_6 x _ (by omega)]; have := roL_len x; omega
theorem sealedB_len (x : Rc) : (sealedB x).length ≤ 1000000 := by
  cases hr : rightB x
  · unfold sealedB; rw [hr, if_neg (by simp)]; simp
  · have := sealed_len x hr; omega
end Go.Proofs.YthgblcpekhiphaaDoor
/- The laws' own bound, and alive as a contract. -/
namespace Go.Proofs.YthgblcpekhiphaaDoor
open Go Go.RowKit
set_option maxRecDepth 8000
set_option maxHeartbeats 400000 in
theorem Great_cv (v : Value) (x : Rc) (w : World) (h : RecV w v x) : Cv 10 #[v] w (.eq (.bool (greatB x))) := by
  obtain ⟨sv, dv, rfl, hs, hd⟩ := h
  unfold Cv
  have HX : Hid (RecV w (.agg (rowA 109 (recF x sv dv))) x) := Lib.hid ⟨sv, dv, rfl, hs, hd⟩
  have HS := Lib.hid hs
  have HD := Lib.hid hd
  clear hs hd
  go_enter Tryd.func10, Tryd.ntmps10
  go_upto_region 1 with fail
  have r1 := rowIs_box w 27 109 (recF x sv dv)
  have hN := NewT.alloc w (.cells (rowA 109 (recF x sv dv)) 27)
  change Code.wp _ _ _ _ (w.alloc (.cells (rowA 109 (recF x sv dv)) 27))
  generalize w.alloc (.cells (rowA 109 (recF x sv dv)) 27) = W0 at r1 hN ⊢
  have R1 := Lib.hid r1
  have HN := Lib.hid hN
  replace HX := Lib.hid (hN.recV HX.out)
  replace HS := Lib.hid (hN.pairs HS.out)
  replace HD := Lib.hid (hN.rd HD.out)
  clear r1 hN
  obtain ⟨q1_1, Q1_1⟩ : ∃ q, ((decide (30 < ((List.length (x.steps) : Int)))) || (decide (300 < ((List.length (x.data) : Int))))) = q := ⟨_, rfl⟩
  refine wp_region_steps0 NewT [SV.eq (.pointer (some ⟨w.heap.size, 42, none⟩)), SV.eq (sv), SV.eq (.int .i64 ((List.length (x.steps) : Int))), SV.eq (.bool (decide (30 < ((List.length (x.steps) : Int))))), SV.eq (.bool (decide (30 < ((List.length (x.steps) : Int))))), svIf ((!(decide (30 < ((List.length (x.steps) : Int)))))) (SV.eq (.pointer (some ⟨w.heap.size, 43, none⟩))), svIf ((!(decide (30 < ((List.length (x.steps) : Int)))))) (SV.eq (dv)), svIf ((!(decide (30 < ((List.length (x.steps) : Int)))))) (SV.eq (.int .i64 ((List.length (x.data) : Int)))), svIf ((!(decide (30 < ((List.length (x.steps) : Int)))))) (SV.eq (.bool (decide (300 < ((List.length (x.data) : Int)))))), SV.eq (.bool (q1_1)), SV.eq (.bool (q1_1))] [([(1, none)], none), ([(3, some 0)], none), ([(4, some 1)], none), ([(5, some 2)], none), ([(6, some 3)], none), ([(1, none), (7, some 4)], some (7, false)), ([(8, some 5), (7, some 4)], some (7, false)), ([(9, some 6), (7, some 4)], some (7, false)), ([(10, some 7), (7, some 4)], some (7, false)), ([(7, some 4), (11, some 8)], none), ([(12, some 9)], none)] 13 11 rfl rfl (by kernel_rfl) NewT.trans (NewT.refl _) (Nat.le_of_ble_eq_true rfl) ⟨?_, ?_, ?_, ?_, ?_, ?_, ?_, ?_, ?_, ?_, ?_, trivial⟩ ?_
  · intro a wx hT hF K hK
    obtain ⟨f1, _⟩ := hF
    have f1 : a.tmps.getD 1 undef = .pointer (some ⟨w.heap.size, 0, none⟩) := f1
    refine rely_wp rfl ?_
    exact opr_fldR (by decide) rfl f1 (hK _ _ (NewT.refl _) rfl)
  · intro a wx hT hF K hK
    obtain ⟨f3, _⟩ := hF
    have f3 : a.tmps.getD 3 undef = .pointer (some ⟨w.heap.size, 42, none⟩) := f3
    refine rely_wp rfl ?_
    exact opr_ldS (hT.row R1.out) (by decide) rfl rfl f3 (hK _ _ (NewT.refl _) rfl)
  · intro a wx hT hF K hK
    obtain ⟨f4, _⟩ := hF
    have f4 : a.tmps.getD 4 undef = sv := f4
    refine rely_wp rfl ?_
    exact opr_len_pairs rfl (by rw [eval_tmp, f4]; exact (hT.pairs HS.out)) (hK _ _ (NewT.refl _) rfl)
  · intro a wx hT hF K hK
    obtain ⟨f5, _⟩ := hF
    have f5 : a.tmps.getD 5 undef = .int .i64 ((List.length (x.steps) : Int)) := f5
    refine rely_wp rfl ?_
    exact opr_cmp (b := decide (30 < ((List.length (x.steps) : Int)))) (.inr (.inr (.inr (.inr (.inl ⟨rfl, rfl⟩))))) Tryd.underlying3 rfl f5 rfl (hK _ _ (NewT.refl _) rfl)
  · intro a wx hT hF K hK
    obtain ⟨f6, _⟩ := hF
    have f6 : a.tmps.getD 6 undef = .bool (decide (30 < ((List.length (x.steps) : Int)))) := f6
    refine rely_wp rfl ?_
    exact opr_move (.inl rfl) (hK _ _ (NewT.refl _) f6)
  · intro a wx hT hF K hK
    obtain ⟨f1, f7, _⟩ := hF
    have f1 : a.tmps.getD 1 undef = .pointer (some ⟨w.heap.size, 0, none⟩) := f1
    have f7 : a.tmps.getD 7 undef = .bool (decide (30 < ((List.length (x.steps) : Int)))) := f7
    refine rely_if (rely_gf f7) (NewT.refl _) hK (fun hE hK => ?_)
    exact opr_fldR (by decide) rfl f1 (hK _ _ (NewT.refl _) rfl)
  · intro a wx hT hF K hK
    obtain ⟨f8, f7, _⟩ := hF
    have f8 : ((!(decide (30 < ((List.length (x.steps) : Int)))))) = true → a.tmps.getD 8 undef = .pointer (some ⟨w.heap.size, 43, none⟩) := f8
    have f7 : a.tmps.getD 7 undef = .bool (decide (30 < ((List.length (x.steps) : Int)))) := f7
    refine rely_if (rely_gf f7) (NewT.refl _) hK (fun hE hK => ?_)
    exact opr_ldB (hT.row R1.out) (by decide) rfl rfl (f8 hE) (hK _ _ (NewT.refl _) rfl)
  · intro a wx hT hF K hK
    obtain ⟨f9, f7, _⟩ := hF
    have f9 : ((!(decide (30 < ((List.length (x.steps) : Int)))))) = true → a.tmps.getD 9 undef = dv := f9
    have f7 : a.tmps.getD 7 undef = .bool (decide (30 < ((List.length (x.steps) : Int)))) := f7
    refine rely_if (rely_gf f7) (NewT.refl _) hK (fun hE hK => ?_)
    exact opr_len_rd rfl (by rw [eval_tmp, (f9 hE)]; exact (hT.rd HD.out)) (hK _ _ (NewT.refl _) rfl)
  · intro a wx hT hF K hK
    obtain ⟨f10, f7, _⟩ := hF
    have f10 : ((!(decide (30 < ((List.length (x.steps) : Int)))))) = true → a.tmps.getD 10 undef = .int .i64 ((List.length (x.data) : Int)) := f10
    have f7 : a.tmps.getD 7 undef = .bool (decide (30 < ((List.length (x.steps) : Int)))) := f7
    refine rely_if (rely_gf f7) (NewT.refl _) hK (fun hE hK => ?_)
    exact opr_cmp (b := decide (300 < ((List.length (x.data) : Int)))) (.inr (.inr (.inr (.inr (.inl ⟨rfl, rfl⟩))))) Tryd.underlying3 rfl (f10 hE) rfl (hK _ _ (NewT.refl _) rfl)
  · intro a wx hT hF K hK
    obtain ⟨f7, f11, _⟩ := hF
    have f7 : a.tmps.getD 7 undef = .bool (decide (30 < ((List.length (x.steps) : Int)))) := f7
    have f11 : ((!(decide (30 < ((List.length (x.steps) : Int)))))) = true → a.tmps.getD 11 undef = .bool (decide (300 < ((List.length (x.data) : Int)))) := f11
    refine rely_wp rfl ?_
    exact opr_pick_b rfl f7 (fun hb => hK _ _ (NewT.refl _) (pn_or1 Q1_1 hb)) (fun hb => hK _ _ (NewT.refl _) (pn_or0 Q1_1 (f11 (bnot hb)) hb))
  · intro a wx hT hF K hK
    obtain ⟨f12, _⟩ := hF
    have f12 : a.tmps.getD 12 undef = .bool (q1_1) := f12
    refine rely_wp rfl ?_
    exact opr_move (.inr rfl) (hK _ _ (NewT.refl _) f12)
  · intro wx hT
    intro u h; obtain rfl := Eq.symm (h (by simp)); clear h
    intro u h; obtain rfl := Eq.symm (h (by simp)); clear h
    intro u h; obtain rfl := Eq.symm (h (by simp)); clear h
    intro u h; obtain rfl := Eq.symm (h (by simp)); clear h
    intro u h; obtain rfl := Eq.symm (h (by simp)); clear h
    intro _ _
    intro _ _
    intro _ _
    intro _ _
    intro u h; obtain rfl := Eq.symm (h (by simp)); clear h
    intro u h; obtain rfl := Eq.symm (h (by simp)); clear h
    subst Q1_1
    refine relyEnd_nil rfl ?_
    refine wpList_end rfl ?_
    simp only [Act.put, List.setIfInBounds_toArray, List.set_cons_zero, List.set_cons_succ]
    go_simp
    go_wp2
    go_ret
    exact ⟨_, rfl, NewT.trans _ _ _ HN.out hT, rfl⟩
theorem alive4_cv (w : World) (hT : Tables w) : Cv 9 #[] w (.eq (.bool true)) := Cv.of_eq (alive4_any w hT)
end Go.Proofs.YthgblcpekhiphaaDoor
