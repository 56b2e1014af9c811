/- Package rec: Redact. -/
import Derived.Test.YthgblcpekhiphaaDoorMd
import Derived.Test.YthgblcpekhiphaaDoorMb
import Derived.Test.YthgblcpekhiphaaDoorMc
set_option linter.all false
namespace Go.Proofs.YthgblcpekhiphaaDoor
open Go Go.RowKit
set_option maxRecDepth 8000
theorem keepJ {R : Nat} {x : Rc} {sv dv : Value} {wx w' : World} (hN : NewT wx w') (k : Nat) (h : if k = 0 then wx.rowIs R 27 109 (recF x sv dv) else ∃ u, RdPB wx (R + 1) u x.steps ∧ wx.rowIs R 27 109 (recF x u dv)) :
    if k = 0 then w'.rowIs R 27 109 (recF x sv dv) else ∃ u, RdPB w' (R + 1) u x.steps ∧ w'.rowIs R 27 109 (recF x u dv) := by
  by_cases hk : k = 0
  · rw [if_pos hk] at h ⊢; exact hN.row h
  · rw [if_neg hk] at h ⊢
    obtain ⟨u, h1, h3⟩ := h
    exact ⟨u, h1.new hN, hN.row h3⟩
set_option maxHeartbeats 4000000 in
theorem Redact_cv (v : Value) (x : Rc) (w : World) (h : RecV w v x) (hT : Tables w) (hl : x.data.length ≤ 900000 ∧ x.steps.length ≤ 900000) : Cv 16 #[v] w (svRec (redactB x)) := by
  obtain ⟨sv, dv, rfl, hs, hd⟩ := h
  unfold Cv
  have HX : Hid (RecV w (.agg (rowA 109 (recF x sv dv))) x) := Lib.hid ⟨sv, dv, rfl, hs, hd⟩
  have HX0 := HX
  have HS := Lib.hid hs
  have HD := Lib.hid hd
  have HT := Lib.hid hT
  have oneS := oneP hs
  have oneD := oneR hd
  have hls := hl.2
  have hlx := hl.1
  clear hT hl
  go_enter Tryd.func16, Tryd.ntmps16
  go_upto_region 1 with fail
  have r1 := (rowIs_box w 27 109 (recF x sv dv)).alloc (.cells (rowA 109 (recF zR (.slice none 0 0) (.slice none 0 0))) 27)
  have r2 := rowIs_box (w.alloc (.cells (rowA 109 (recF x sv dv)) 27)) 27 109 (recF zR (.slice none 0 0) (.slice none 0 0))
  have hN : NewT w ((w.alloc (.cells (rowA 109 (recF x sv dv)) 27)).alloc (.cells (rowA 109 (recF zR (.slice none 0 0) (.slice none 0 0))) 27)) := NewT.trans _ _ _ (NewT.alloc _ _) (NewT.alloc _ _)
  rw [World.size_alloc] at r2
  change Code.wp _ _ _ _ ((w.alloc (.cells (rowA 109 (recF x sv dv)) 27)).alloc (.cells (rowA 109 (recF zR (.slice none 0 0) (.slice none 0 0))) 27))
  generalize hW0 : (w.alloc (.cells (rowA 109 (recF x sv dv)) 27)).alloc (.cells (rowA 109 (recF zR (.slice none 0 0) (.slice none 0 0))) 27) = W0 at r1 r2 hN ⊢
  have R1 := Lib.hid r1
  have R2 := Lib.hid r2
  have HN := Lib.hid hN
  have Hsz : Hid (W0.heap.size = w.heap.size + 2) := Lib.hid (by rw [← hW0]; simp)
  replace HX := Lib.hid (hN.recV HX.out)
  replace HS := Lib.hid (hN.pairs HS.out)
  replace HD := Lib.hid (hN.rd HD.out)
  clear r1 r2 hN hW0
  refine wp_region_steps0 NewT [SV.eq (.agg (rowA 109 (recF x sv dv)))] [([(1, none)], none)] 28 1 rfl rfl (by kernel_rfl) NewT.trans (NewT.refl _) (Nat.le_of_ble_eq_true rfl) ⟨?_, trivial⟩ ?_
  · intro a wx hT hF K hK
    obtain ⟨f1, _⟩ := hF
    have f1 : a.tmps.getD 1 undef = .pointer (some ⟨w.heap.size, 0, none⟩) := f1
    refine rely_wp rfl ?_
    exact opr_ldR (hT.row R1.out) rfl f1 (hK _ _ (NewT.refl _) rfl)
  · intro wa ha
    intro u h; obtain rfl := Eq.symm (h (by simp)); clear h
    refine relyEnd_nil rfl ?_
    simp only [Act.put, List.setIfInBounds_toArray, List.set_cons_zero, List.set_cons_succ]
    refine wpList_new (n := 109) rfl rfl rfl rfl rfl rfl (by simp) run_alloc_rec info_rec (recF_one _ _ _ oneS oneD) rfl ?_
    intro w1 hn1 r3
    refine wpList_end rfl ?_
    simp only [Act.put, List.setIfInBounds_toArray, List.set_cons_zero, List.set_cons_succ]
    go_simp
    have X1 := Lib.hid (hn1.row (ha.row R1.out))
    have X2 := Lib.hid (hn1.row (ha.row R2.out))
    have HN1 := Lib.hid (NewT.trans _ _ _ HN.out (NewT.trans _ _ _ ha hn1))
    have hR : w.heap.size + 2 ≤ wa.heap.size := by have := ha.out.size; have := Hsz.out; omega
    have hRl : wa.heap.size < w1.heap.size := r3.lt
    have X3 := Lib.hid r3
    clear R1 R2 r3 HN ha hn1 Hsz HX HS HD
    generalize wa.heap.size = R at X3 hR hRl ⊢
    have hne1 : w.heap.size ≠ R := by omega
    have hne2 : w.heap.size + 1 ≠ R := by omega
    go_upto_region 2 with fail
    refine wp_region_relyP (RT R) (fun k w => if k = 0 then w.rowIs R 27 109 (recF x sv dv) else ∃ u, RdPB w (R + 1) u x.steps ∧ w.rowIs R 27 109 (recF x u dv)) [SV.eq (.pointer (some ⟨w.heap.size, 42, none⟩)), SV.eq (sv), svPairsB R x.steps, SV.eq (.pointer (some ⟨w.heap.size, 43, none⟩)), SV.eq (dv), svRdB R x.data, SV.eq (.pointer (some ⟨R, 42, none⟩)), SV.any, SV.eq (.pointer (some ⟨R, 43, none⟩))] [([(1, none)], none), ([(5, some 0)], none), ([(6, some 1)], none), ([(1, none)], none), ([(8, some 3)], none), ([(9, some 4)], none), ([(3, none)], none), ([(11, some 6), (7, some 2)], none), ([(3, none)], none)] [none, none, none, none, none, none, none, some 0, none] [7] 28 rfl (by kernel_rfl) rfl (by kernel_rfl) (by kernel_rfl) rfl (by kernel_rfl) RT.trans (RT.drew _ _) ((NewT.drew _).row X3.out) (Nat.le_of_ble_eq_true rfl) ⟨?_, ?_, ?_, ?_, ?_, ?_, ?_, ?_, ?_, trivial⟩ ?_
    · intro a wx hT hF K hK
      replace hK := fun v w' (hN : NewT wx w') hv => hK v w' (RT.new (Nat.lt_of_lt_of_le hRl hT.size) hN) (fun k h => keepJ hN k h) hv
      obtain ⟨f1, _⟩ := hF
      have f1 : a.tmps.getD 1 undef = .pointer (some ⟨w.heap.size, 0, none⟩) := f1
      refine rely_wp rfl ?_
      exact opr_fldR (by decide) rfl f1 (hK _ _ (NewT.refl _) rfl)
    · intro a wx hT hF K hK
      replace hK := fun v w' (hN : NewT wx w') hv => hK v w' (RT.new (Nat.lt_of_lt_of_le hRl hT.size) hN) (fun k h => keepJ hN k h) hv
      obtain ⟨f5, _⟩ := hF
      have f5 : a.tmps.getD 5 undef = .pointer (some ⟨w.heap.size, 42, none⟩) := f5
      refine rely_wp rfl ?_
      exact opr_ldS (hT.row hne1 X1.out) (by decide) rfl rfl f5 (hK _ _ (NewT.refl _) rfl)
    · intro a wx hT hF K hK
      replace hK := fun v w' (hN : NewT wx w') hv => hK v w' (RT.new (Nat.lt_of_lt_of_le hRl hT.size) hN) (fun k h => keepJ hN k h) hv
      obtain ⟨f6, _⟩ := hF
      have f6 : a.tmps.getD 6 undef = sv := f6
      refine rely_wp rfl ?_
      refine opr_cv (CloneS_cvN sv x.steps wx ((HN1.out.rt hT (by omega)).pairs hs) hls) rfl Tryd.func34 (by kernel_rfl) (by kernel_rfl) (by simp only [List.map_toArray, List.map_cons, List.map_nil, eval_tmp, f6]) (fun v w' hN hv => hK v w' hN (RdPB.mono hv ?_))
      have h2 := hT.size
      omega
    · intro a wx hT hF K hK
      replace hK := fun v w' (hN : NewT wx w') hv => hK v w' (RT.new (Nat.lt_of_lt_of_le hRl hT.size) hN) (fun k h => keepJ hN k h) hv
      obtain ⟨f1, _⟩ := hF
      have f1 : a.tmps.getD 1 undef = .pointer (some ⟨w.heap.size, 0, none⟩) := f1
      refine rely_wp rfl ?_
      exact opr_fldR (by decide) rfl f1 (hK _ _ (NewT.refl _) rfl)
    · intro a wx hT hF K hK
      replace hK := fun v w' (hN : NewT wx w') hv => hK v w' (RT.new (Nat.lt_of_lt_of_le hRl hT.size) hN) (fun k h => keepJ hN k h) hv
      obtain ⟨f8, _⟩ := hF
      have f8 : a.tmps.getD 8 undef = .pointer (some ⟨w.heap.size, 43, none⟩) := f8
      refine rely_wp rfl ?_
      exact opr_ldB (hT.row hne1 X1.out) (by decide) rfl rfl f8 (hK _ _ (NewT.refl _) rfl)
    · intro a wx hT hF K hK
      replace hK := fun v w' (hN : NewT wx w') hv => hK v w' (RT.new (Nat.lt_of_lt_of_le hRl hT.size) hN) (fun k h => keepJ hN k h) hv
      obtain ⟨f9, _⟩ := hF
      have f9 : a.tmps.getD 9 undef = dv := f9
      refine rely_wp rfl ?_
      refine opr_cv (Clone_cv dv x.data [] wx ((HN1.out.rt hT (by omega)).rd hd) (by omega)) rfl Tryd.func35 (by kernel_rfl) (by kernel_rfl) (by simp only [List.map_toArray, List.map_cons, List.map_nil, eval_tmp, f9]) (fun v w' hN hv => hK v w' hN (RdVB.mono (B := wx.heap.size) hv ?_))
      have h2 := hT.size
      omega
    · intro a wx hT hF K hK
      replace hK := fun v w' (hN : NewT wx w') hv => hK v w' (RT.new (Nat.lt_of_lt_of_le hRl hT.size) hN) (fun k h => keepJ hN k h) hv
      obtain ⟨f3, _⟩ := hF
      have f3 : a.tmps.getD 3 undef = .pointer (some ⟨R, 0, none⟩) := f3
      refine rely_wp rfl ?_
      exact opr_fldR (by decide) rfl f3 (hK _ _ (NewT.refl _) rfl)
    · intro a wx hT hF hJ K hK
      obtain ⟨f11, f7, _⟩ := hF
      have f11 : a.tmps.getD 11 undef = .pointer (some ⟨R, 42, none⟩) := f11
      replace f7 := show (svPairsB R x.steps).pred (a.tmps.getD 7 undef) wx from f7
      refine rely_wp rfl ?_
      refine opr_put1 rfl f11 rfl (show wx.rowIs R 27 109 (recF x sv dv) from hJ) (by decide) info_s1 (oneP f7.1) (fun i _ => rs_steps x sv dv i _) ?_
      intro w' hT' hr'
      exact hK _ _ hT' ⟨_, RdPB.rt f7 hT' (Nat.lt_succ_self _), hr'⟩ trivial
    · intro a wx hT hF K hK
      replace hK := fun v w' (hN : NewT wx w') hv => hK v w' (RT.new (Nat.lt_of_lt_of_le hRl hT.size) hN) (fun k h => keepJ hN k h) hv
      obtain ⟨f3, _⟩ := hF
      have f3 : a.tmps.getD 3 undef = .pointer (some ⟨R, 0, none⟩) := f3
      refine rely_wp rfl ?_
      exact opr_fldR (by decide) rfl f3 (hK _ _ (NewT.refl _) rfl)
    · intro e2 h2 hJ
      intro u h; obtain rfl := Eq.symm (h (by simp)); clear h
      intro u h; obtain rfl := Eq.symm (h (by simp)); clear h
      intro _ _
      intro u h; obtain rfl := Eq.symm (h (by simp)); clear h
      intro u h; obtain rfl := Eq.symm (h (by simp)); clear h
      intro u10 h; have g10 := h (by simp); clear h; replace g10 := show (svRdB R x.data).pred u10 e2 from g10
      intro u h; obtain rfl := Eq.symm (h (by simp)); clear h
      intro _ _
      intro u h; obtain rfl := Eq.symm (h (by simp)); clear h
      refine relyEnd_nil rfl ?_
      simp only [Act.put, List.setIfInBounds_toArray, List.set_cons_zero, List.set_cons_succ]
      obtain ⟨su, hsu, hrow⟩ := hJ
      refine opr_put1 rfl rfl rfl hrow (by decide) info_d1 (oneR (RdVB.out g10)) (fun i _ => rs_data x su dv i u10) ?_
      intro w2 hT2 hr2
      replace hsu := RdPB.rt hsu hT2 (Nat.lt_succ_self _)
      replace g10 := RdVB.rt g10 hT2 (Nat.lt_succ_self _)
      go_simp
      have hRT := RT.trans _ _ _ h2 hT2
      have Y1 := Lib.hid (hRT.row hne1 X1.out)
      have Y2 := Lib.hid (hRT.row hne2 X2.out)
      have HN2 := Lib.hid (HN1.out.rt hRT (by omega))
      have HX2 := Lib.hid (HN2.out.recV HX0.out)
      have HT2 := Lib.hid (HN2.out.tables HT.out)
      clear X1 X2 X3 h2 hT2 hRl HX0 HT
      go_upto_region 3 with fail
      refine wp_region_steps0 NewT [SV.eq (.pointer (some ⟨w.heap.size, 0, none⟩)), SV.eq (.int .i64 (x.kind)), SV.eq (.bool (x.kind == 1)), SV.eq (.bool (x.kind == 1)), svIf (x.kind == 1) (SV.eq (.agg (rowA 109 (recF x sv dv)))), svIf (x.kind == 1) (SV.eq (.bool (rightB x))), SV.eq (.bool ((x.kind == 1) && (rightB x)))] [([(1, none)], none), ([(13, some 0)], none), ([(14, some 1)], none), ([(15, some 2)], none), ([(1, none), (16, some 3)], some (16, true)), ([(17, some 4), (16, some 3)], some (16, true)), ([(16, some 3), (18, some 5)], none)] 28 7 rfl rfl (by kernel_rfl) NewT.trans (NewT.refl _) (Nat.le_of_ble_eq_true rfl) ⟨?_, ?_, ?_, ?_, ?_, ?_, ?_, trivial⟩ ?_
      · intro a wx hT hF K hK
        obtain ⟨f1, _⟩ := hF
        have f1 : a.tmps.getD 1 undef = .pointer (some ⟨w.heap.size, 0, none⟩) := f1
        refine rely_wp rfl ?_
        exact opr_fldR (by decide) rfl f1 (hK _ _ (NewT.refl _) rfl)
      · intro a wx hT hF K hK
        obtain ⟨f13, _⟩ := hF
        have f13 : a.tmps.getD 13 undef = .pointer (some ⟨w.heap.size, 0, none⟩) := f13
        refine rely_wp rfl ?_
        exact opr_ldI (hT.row Y1.out) (by decide) rfl rfl f13 (hK _ _ (NewT.refl _) rfl)
      · intro a wx hT hF K hK
        obtain ⟨f14, _⟩ := hF
        have f14 : a.tmps.getD 14 undef = .int .i64 (x.kind) := f14
        refine rely_wp rfl ?_
        exact opr_cmp (b := x.kind == 1) (.inl ⟨rfl, rfl⟩) Tryd.underlying3 rfl f14 rfl (hK _ _ (NewT.refl _) rfl)
      · intro a wx hT hF K hK
        obtain ⟨f15, _⟩ := hF
        have f15 : a.tmps.getD 15 undef = .bool (x.kind == 1) := f15
        refine rely_wp rfl ?_
        exact opr_move (.inl rfl) (hK _ _ (NewT.refl _) f15)
      · intro a wx hT hF K hK
        obtain ⟨f1, f16, _⟩ := hF
        have f1 : a.tmps.getD 1 undef = .pointer (some ⟨w.heap.size, 0, none⟩) := f1
        have f16 : a.tmps.getD 16 undef = .bool (x.kind == 1) := f16
        refine rely_if (rely_gt f16) (NewT.refl _) hK (fun hE hK => ?_)
        exact opr_ldR (hT.row Y1.out) rfl f1 (hK _ _ (NewT.refl _) rfl)
      · intro a wx hT hF K hK
        obtain ⟨f17, f16, _⟩ := hF
        have f17 : (x.kind == 1) = true → a.tmps.getD 17 undef = .agg (rowA 109 (recF x sv dv)) := f17
        have f16 : a.tmps.getD 16 undef = .bool (x.kind == 1) := f16
        refine rely_if (rely_gt f16) (NewT.refl _) hK (fun hE hK => ?_)
        exact opr_cv (Right_cv _ x wx (hT.recV HX2.out)) rfl Tryd.func11 (by kernel_rfl) (by kernel_rfl) (by simp only [List.map_toArray, List.map_cons, List.map_nil, eval_tmp, (f17 hE)]) hK
      · intro a wx hT hF K hK
        obtain ⟨f16, f18, _⟩ := hF
        have f16 : a.tmps.getD 16 undef = .bool (x.kind == 1) := f16
        have f18 : (x.kind == 1) = true → a.tmps.getD 18 undef = .bool (rightB x) := f18
        refine rely_wp rfl ?_
        exact opr_pick_b rfl f16 (fun hb => hK _ _ (NewT.refl _) (pk_and1 (f18 hb) hb)) (fun hb => hK _ _ (NewT.refl _) (pk_and0 hb))
      · intro w3 h3
        intro u h; obtain rfl := Eq.symm (h (by simp)); clear h
        intro u h; obtain rfl := Eq.symm (h (by simp)); clear h
        intro u h; obtain rfl := Eq.symm (h (by simp)); clear h
        intro u h; obtain rfl := Eq.symm (h (by simp)); clear h
        intro _ _
        intro _ _
        intro u h; obtain rfl := Eq.symm (h (by simp)); clear h
        refine relyEnd_nil rfl ?_
        refine wpList_end rfl ?_
        simp only [Act.put, List.setIfInBounds_toArray, List.set_cons_zero, List.set_cons_succ]
        go_simp
        cases hb : ((x.kind == 1) && rightB x)
        · have HO : Hid (redactB x = x) := Lib.hid (by unfold redactB; rw [hb, if_neg (by simp)])
          go_upto_region 6 with fail
          refine wp_region_steps0 NewT [SV.eq (.agg (rowA 109 (recF x su u10)))] [([(3, none)], none)] 28 1 rfl rfl (by kernel_rfl) NewT.trans (NewT.refl _) (Nat.le_of_ble_eq_true rfl) ⟨?_, trivial⟩ ?_
          · intro a wx hT hF K hK
            obtain ⟨f3, _⟩ := hF
            have f3 : a.tmps.getD 3 undef = .pointer (some ⟨R, 0, none⟩) := f3
            refine rely_wp rfl ?_
            exact opr_ldR (hT.row (NewT.row h3 hr2)) rfl f3 (hK _ _ (NewT.refl _) rfl)
          · intro wf hf
            intro u h; obtain rfl := Eq.symm (h (by simp)); clear h
            refine relyEnd_nil rfl ?_
            simp only [Act.put, List.setIfInBounds_toArray, List.set_cons_zero, List.set_cons_succ]
            refine wpList_plain rfl (fun K hK => ?_)
            refine opr_putm rfl rfl rfl (hf.row (NewT.row h3 Y2.out)) (by decide) info_rec (recF_one _ _ _ (oneP hsu.1) (oneR g10.out)) (put_all _ _) ?_
            intro wq hTq rq
            refine hK _ _ ?_
            refine wpList_end rfl ?_
            go_simp
            go_wp2
            have hNq : NewT w wq := (NewT.trans _ _ _ (NewT.trans _ _ _ HN2.out h3) hf).rt hTq (by omega)
            refine bodyPost_ret (results_agg rfl _ rfl rq Tryd.underlying27 rfl info_rec) rfl ⟨_, rfl, hNq, ?_⟩
            rw [HO.out]
            exact ⟨su, u10, rfl, (RdPB.rt ((hsu.new h3).new hf) hTq (by omega)).1, (RdVB.rt ((g10.new h3).new hf) hTq (by omega)).out⟩
        · have HO : Hid (redactB x = { x with gone := true, com := comC x, data := [], salt := fun _ => 0 }) := Lib.hid (by unfold redactB; rw [hb, if_pos rfl])
          go_upto_region 4 with fail
          refine wp_region_steps0 NewT [SV.eq (.agg (rowA 109 (recF x sv dv))), SV.eq (.agg (rowA 32 (bF (comC x))))] [([(1, none)], none), ([(20, some 0)], none)] 28 2 rfl rfl (by kernel_rfl) NewT.trans (NewT.refl _) (Nat.le_of_ble_eq_true rfl) ⟨?_, ?_, trivial⟩ ?_
          · intro a wx hT hF K hK
            obtain ⟨f1, _⟩ := hF
            have f1 : a.tmps.getD 1 undef = .pointer (some ⟨w.heap.size, 0, none⟩) := f1
            refine rely_wp rfl ?_
            exact opr_ldR (hT.row (NewT.row h3 Y1.out)) rfl f1 (hK _ _ (NewT.refl _) rfl)
          · intro a wx hT hF K hK
            obtain ⟨f20, _⟩ := hF
            have f20 : a.tmps.getD 20 undef = .agg (rowA 109 (recF x sv dv)) := f20
            refine rely_wp rfl ?_
            exact opr_cv (commitment_cv _ x wx (hT.recV (NewT.recV h3 HX2.out)) (hT.tables (NewT.tables h3 HT2.out)) hlx) rfl Tryd.func31 (by kernel_rfl) (by kernel_rfl) (by simp only [List.map_toArray, List.map_cons, List.map_nil, eval_tmp, f20]) hK
          · intro e4 h4
            intro u h; obtain rfl := Eq.symm (h (by simp)); clear h
            intro u h; obtain rfl := Eq.symm (h (by simp)); clear h
            refine relyEnd_nil rfl ?_
            simp only [Act.put, List.setIfInBounds_toArray, List.set_cons_zero, List.set_cons_succ]
            refine wpList_plain rfl (fun K hK => ?_)
            refine opr_fldR (by decide) rfl rfl (hK _ _ ?_)
            clear hK K
            refine wpList_plain rfl (fun K hK => ?_)
            refine opr_put1 rfl rfl rfl (h4.row (h3.row hr2)) (by decide) info_b1 rfl (fun i _ => rs_gone x su u10 i _) ?_
            intro e5 h5 r5
            refine hK _ _ ?_
            clear hK K
            refine wpList_plain rfl (fun K hK => ?_)
            refine opr_fldR (by decide) rfl rfl (hK _ _ ?_)
            clear hK K
            refine wpList_plain rfl (fun K hK => ?_)
            refine opr_putm rfl rfl rfl r5 (by decide) info31 (fun _ => rfl) (fun i hi => rs_com ({ x with gone := true }) su u10 i _ hi) ?_
            intro e6 h6 r6
            refine hK _ _ ?_
            clear hK K
            refine wpList_end rfl ?_
            go_simp
            go_upto_region 5 with fail
            refine wp_region_steps0 NewT [SV.eq (.agg (rowA 32 (bF (fun _ => 0))))] [([], none)] 28 1 rfl rfl (by kernel_rfl) NewT.trans (NewT.refl _) (Nat.le_of_ble_eq_true rfl) ⟨?_, trivial⟩ ?_
            · intro a wx hT hF K hK
              refine rely_wp rfl ?_
              exact opr_build (pv := #[]) rfl (by simp) (build_hash0 wx) (hK _ _ (NewT.refl _) rfl)
            · intro e7 h7
              intro u h; obtain rfl := Eq.symm (h (by simp)); clear h
              refine relyEnd_nil rfl ?_
              simp only [Act.put, List.setIfInBounds_toArray, List.set_cons_zero, List.set_cons_succ]
              refine wpList_plain rfl (fun K hK => ?_)
              refine opr_fldR (by decide) rfl rfl (hK _ _ ?_)
              clear hK K
              refine wpList_plain rfl (fun K hK => ?_)
              refine opr_put1 rfl rfl rfl (h7.row r6) (by decide) info_d1 rfl (fun i _ => rs_data ({ x with gone := true, com := comC x }) su u10 i _) ?_
              intro e8 h8 r8
              refine hK _ _ ?_
              clear hK K
              refine wpList_plain rfl (fun K hK => ?_)
              refine opr_fldR (by decide) rfl rfl (hK _ _ ?_)
              clear hK K
              refine wpList_plain rfl (fun K hK => ?_)
              refine opr_putm rfl rfl rfl r8 (by decide) info31 (fun _ => rfl) (fun i hi => rs_salt ({ x with gone := true, com := comC x }) su (.slice none 0 0) i _ hi) ?_
              intro e9 h9 r9
              refine hK _ _ ?_
              clear hK K
              refine wpList_end rfl ?_
              go_simp
              have hRT9 := RT.trans _ _ _ h5 (RT.trans _ _ _ h6 (RT.trans _ _ _ (RT.new r6.lt h7) (RT.trans _ _ _ h8 h9)))
              have HN9 := (NewT.trans _ _ _ HN2.out (NewT.trans _ _ _ h3 h4)).rt hRT9 (by omega)
              have hsu9 := RdPB.rt ((hsu.new h3).new h4) hRT9 (Nat.lt_succ_self _)
              go_upto_region 6 with fail
              refine wp_region_steps0 NewT [SV.eq (.agg (rowA 109 (recF ({ x with gone := true, com := comC x, salt := fun _ => 0 }) su (.slice none 0 0))))] [([(3, none)], none)] 28 1 rfl rfl (by kernel_rfl) NewT.trans (NewT.refl _) (Nat.le_of_ble_eq_true rfl) ⟨?_, trivial⟩ ?_
              · intro a wx hT hF K hK
                obtain ⟨f3, _⟩ := hF
                have f3 : a.tmps.getD 3 undef = .pointer (some ⟨R, 0, none⟩) := f3
                refine rely_wp rfl ?_
                exact opr_ldR (hT.row r9) rfl f3 (hK _ _ (NewT.refl _) rfl)
              · intro wf hf
                intro u h; obtain rfl := Eq.symm (h (by simp)); clear h
                refine relyEnd_nil rfl ?_
                simp only [Act.put, List.setIfInBounds_toArray, List.set_cons_zero, List.set_cons_succ]
                refine wpList_plain rfl (fun K hK => ?_)
                refine opr_putm rfl rfl rfl (hf.row (hRT9.row hne2 (h4.row (NewT.row h3 Y2.out)))) (by decide) info_rec (recF_one _ _ _ (oneP hsu9.1) rfl) (put_all _ _) ?_
                intro wq hTq rq
                refine hK _ _ ?_
                refine wpList_end rfl ?_
                go_simp
                go_wp2
                have hNq : NewT w wq := (NewT.trans _ _ _ (HN9) hf).rt hTq (by omega)
                refine bodyPost_ret (results_agg rfl _ rfl rq Tryd.underlying27 rfl info_rec) rfl ⟨_, rfl, hNq, ?_⟩
                rw [HO.out]
                exact ⟨su, .slice none 0 0, rfl, (RdPB.rt (hsu9.new hf) hTq (by omega)).1, rdV_nil _ _⟩
end Go.Proofs.YthgblcpekhiphaaDoor
/- Package rec: records' bytes, by kinds. -/
namespace Go.Proofs.YthgblcpekhiphaaDoor
open Go Go.RowKit
set_option maxRecDepth 8000
set_option maxHeartbeats 1000000 in
theorem putTry_cv (v : Value) (x : Rc) (w : World) (h : RecV w v x) : Cv 58 #[v] w (svRd (callL x)) := by
  obtain ⟨sv, dv, rfl, hs, hd⟩ := h
  unfold Cv
  have HX : Hid (RecV w (.agg (rowA 109 (recF x sv dv))) x) := Lib.hid ⟨sv, dv, rfl, hs, hd⟩
  have HS := Lib.hid hs
  have HD := Lib.hid hd
  clear hs hd
  go_enter Tryd.func58, Tryd.ntmps58
  go_upto_region 1 with fail
  have r1 := rowIs_box w 27 109 (recF x sv dv)
  have hN := NewT.alloc w (.cells (rowA 109 (recF x sv dv)) 27)
  change Code.wp _ _ _ _ (w.alloc (.cells (rowA 109 (recF x sv dv)) 27))
  generalize w.alloc (.cells (rowA 109 (recF x sv dv)) 27) = W0 at r1 hN ⊢
  have R1 := Lib.hid r1
  have HN := Lib.hid hN
  replace HX := Lib.hid (hN.recV HX.out)
  replace HS := Lib.hid (hN.pairs HS.out)
  replace HD := Lib.hid (hN.rd HD.out)
  clear r1 hN
  refine wp_region_rely NewT [SV.eq (.pointer (some ⟨w.heap.size, 1, none⟩)), SV.eq (.int .i64 (x.saga)), svRd (numI x.saga), SV.eq (.pointer (some ⟨w.heap.size, 2, none⟩)), SV.eq (.int .i64 (x.seq)), svRd (numI x.seq), SV.eq (.pointer (some ⟨w.heap.size, 3, none⟩)), SV.eq (.int .i64 (x.step)), svRd (numI x.step), SV.eq (.pointer (some ⟨w.heap.size, 4, none⟩)), SV.eq (.int .i64 (x.tr)), svRd (numI x.tr), SV.eq (.pointer (some ⟨w.heap.size, 5, none⟩)), SV.eq (.bool (x.back)), svRd ([fB x.back]), svParts [numI x.saga, numI x.seq, numI x.step, numI x.tr, [fB x.back]], svRd (callL x)] [([(1, none)], none), ([(3, some 0)], none), ([(4, some 1)], none), ([(1, none)], none), ([(6, some 3)], none), ([(7, some 4)], none), ([(1, none)], none), ([(9, some 6)], none), ([(10, some 7)], none), ([(1, none)], none), ([(12, some 9)], none), ([(13, some 10)], none), ([(1, none)], none), ([(15, some 12)], none), ([(16, some 13)], none), ([(5, some 2), (8, some 5), (11, some 8), (14, some 11), (17, some 14)], none), ([(18, some 15)], none)] 20 rfl (by kernel_rfl) rfl (by kernel_rfl) (by kernel_rfl) rfl NewT.trans (NewT.drew _) (Nat.le_of_ble_eq_true rfl) ⟨?_, ?_, ?_, ?_, ?_, ?_, ?_, ?_, ?_, ?_, ?_, ?_, ?_, ?_, ?_, ?_, ?_, trivial⟩ ?_
  · intro a wx hT hF K hK
    obtain ⟨f1, _⟩ := hF
    have f1 : a.tmps.getD 1 undef = .pointer (some ⟨w.heap.size, 0, none⟩) := f1
    refine rely_wp rfl ?_
    exact opr_fldR (by decide) rfl f1 (hK _ _ (NewT.refl _) rfl)
  · intro a wx hT hF K hK
    obtain ⟨f3, _⟩ := hF
    have f3 : a.tmps.getD 3 undef = .pointer (some ⟨w.heap.size, 1, none⟩) := f3
    refine rely_wp rfl ?_
    exact opr_ldI (hT.row R1.out) (by decide) rfl rfl f3 (hK _ _ (NewT.refl _) rfl)
  · intro a wx hT hF K hK
    obtain ⟨f4, _⟩ := hF
    have f4 : a.tmps.getD 4 undef = .int .i64 (x.saga) := f4
    refine rely_wp rfl ?_
    exact opr_cv (Num_rd x.saga _ wx rfl) rfl Tryd.func38 (by kernel_rfl) (by kernel_rfl) (by simp only [List.map_toArray, List.map_cons, List.map_nil, eval_tmp, f4]) hK
  · intro a wx hT hF K hK
    obtain ⟨f1, _⟩ := hF
    have f1 : a.tmps.getD 1 undef = .pointer (some ⟨w.heap.size, 0, none⟩) := f1
    refine rely_wp rfl ?_
    exact opr_fldR (by decide) rfl f1 (hK _ _ (NewT.refl _) rfl)
  · intro a wx hT hF K hK
    obtain ⟨f6, _⟩ := hF
    have f6 : a.tmps.getD 6 undef = .pointer (some ⟨w.heap.size, 2, none⟩) := f6
    refine rely_wp rfl ?_
    exact opr_ldI (hT.row R1.out) (by decide) rfl rfl f6 (hK _ _ (NewT.refl _) rfl)
  · intro a wx hT hF K hK
    obtain ⟨f7, _⟩ := hF
    have f7 : a.tmps.getD 7 undef = .int .i64 (x.seq) := f7
    refine rely_wp rfl ?_
    exact opr_cv (Num_rd x.seq _ wx rfl) rfl Tryd.func38 (by kernel_rfl) (by kernel_rfl) (by simp only [List.map_toArray, List.map_cons, List.map_nil, eval_tmp, f7]) hK
  · intro a wx hT hF K hK
    obtain ⟨f1, _⟩ := hF
    have f1 : a.tmps.getD 1 undef = .pointer (some ⟨w.heap.size, 0, none⟩) := f1
    refine rely_wp rfl ?_
    exact opr_fldR (by decide) rfl f1 (hK _ _ (NewT.refl _) rfl)
  · intro a wx hT hF K hK
    obtain ⟨f9, _⟩ := hF
    have f9 : a.tmps.getD 9 undef = .pointer (some ⟨w.heap.size, 3, none⟩) := f9
    refine rely_wp rfl ?_
    exact opr_ldI (hT.row R1.out) (by decide) rfl rfl f9 (hK _ _ (NewT.refl _) rfl)
  · intro a wx hT hF K hK
    obtain ⟨f10, _⟩ := hF
    have f10 : a.tmps.getD 10 undef = .int .i64 (x.step) := f10
    refine rely_wp rfl ?_
    exact opr_cv (Num_rd x.step _ wx rfl) rfl Tryd.func38 (by kernel_rfl) (by kernel_rfl) (by simp only [List.map_toArray, List.map_cons, List.map_nil, eval_tmp, f10]) hK
  · intro a wx hT hF K hK
    obtain ⟨f1, _⟩ := hF
    have f1 : a.tmps.getD 1 undef = .pointer (some ⟨w.heap.size, 0, none⟩) := f1
    refine rely_wp rfl ?_
    exact opr_fldR (by decide) rfl f1 (hK _ _ (NewT.refl _) rfl)
  · intro a wx hT hF K hK
    obtain ⟨f12, _⟩ := hF
    have f12 : a.tmps.getD 12 undef = .pointer (some ⟨w.heap.size, 4, none⟩) := f12
    refine rely_wp rfl ?_
    exact opr_ldI (hT.row R1.out) (by decide) rfl rfl f12 (hK _ _ (NewT.refl _) rfl)
  · intro a wx hT hF K hK
    obtain ⟨f13, _⟩ := hF
    have f13 : a.tmps.getD 13 undef = .int .i64 (x.tr) := f13
    refine rely_wp rfl ?_
    exact opr_cv (Num_rd x.tr _ wx rfl) rfl Tryd.func38 (by kernel_rfl) (by kernel_rfl) (by simp only [List.map_toArray, List.map_cons, List.map_nil, eval_tmp, f13]) hK
  · intro a wx hT hF K hK
    obtain ⟨f1, _⟩ := hF
    have f1 : a.tmps.getD 1 undef = .pointer (some ⟨w.heap.size, 0, none⟩) := f1
    refine rely_wp rfl ?_
    exact opr_fldR (by decide) rfl f1 (hK _ _ (NewT.refl _) rfl)
  · intro a wx hT hF K hK
    obtain ⟨f15, _⟩ := hF
    have f15 : a.tmps.getD 15 undef = .pointer (some ⟨w.heap.size, 5, none⟩) := f15
    refine rely_wp rfl ?_
    exact opr_ldQ (hT.row R1.out) (by decide) rfl rfl f15 (hK _ _ (NewT.refl _) rfl)
  · intro a wx hT hF K hK
    obtain ⟨f16, _⟩ := hF
    have f16 : a.tmps.getD 16 undef = .bool (x.back) := f16
    refine rely_wp rfl ?_
    exact opr_cv (Flag_rd x.back _ wx rfl) rfl Tryd.func77 (by kernel_rfl) (by kernel_rfl) (by simp only [List.map_toArray, List.map_cons, List.map_nil, eval_tmp, f16]) hK
  · intro a wx hT hF K hK
    obtain ⟨f5, f8, f11, f14, f17, _⟩ := hF
    replace f5 := show (svRd (numI x.saga)).pred (a.tmps.getD 5 undef) wx from f5
    replace f8 := show (svRd (numI x.seq)).pred (a.tmps.getD 8 undef) wx from f8
    replace f11 := show (svRd (numI x.step)).pred (a.tmps.getD 11 undef) wx from f11
    replace f14 := show (svRd (numI x.tr)).pred (a.tmps.getD 14 undef) wx from f14
    replace f17 := show (svRd ([fB x.back])).pred (a.tmps.getD 17 undef) wx from f17
    refine rely_wp rfl ?_
    exact opr_bs5 rfl f5 f8 f11 f14 f17 hK
  · intro a wx hT hF K hK
    obtain ⟨f18, _⟩ := hF
    replace f18 := show (svParts [numI x.saga, numI x.seq, numI x.step, numI x.tr, [fB x.back]]).pred (a.tmps.getD 18 undef) wx from f18
    refine rely_wp rfl ?_
    exact opr_cv (All_rd _ _ (callL x) wx f18 (by simp [callL]) (by have := callL_len x; omega)) rfl Tryd.func25 (by kernel_rfl) (by kernel_rfl) (by simp only [List.map_toArray, List.map_cons, List.map_nil, eval_tmp]) hK
  · intro wx hT
    intro u h; obtain rfl := Eq.symm (h (by simp)); clear h
    intro u h; obtain rfl := Eq.symm (h (by simp)); clear h
    intro _ _
    intro u h; obtain rfl := Eq.symm (h (by simp)); clear h
    intro u h; obtain rfl := Eq.symm (h (by simp)); clear h
    intro _ _
    intro u h; obtain rfl := Eq.symm (h (by simp)); clear h
    intro u h; obtain rfl := Eq.symm (h (by simp)); clear h
    intro _ _
    intro u h; obtain rfl := Eq.symm (h (by simp)); clear h
    intro u h; obtain rfl := Eq.symm (h (by simp)); clear h
    intro _ _
    intro u h; obtain rfl := Eq.symm (h (by simp)); clear h
    intro u h; obtain rfl := Eq.symm (h (by simp)); clear h
    intro _ _
    intro _ _
    intro u19 h; have g19 := h (by simp); clear h; replace g19 := show (svRd (callL x)).pred u19 wx from g19
    refine relyEnd_nil rfl ?_
    simp only [Act.put, List.setIfInBounds_toArray, List.set_cons_zero, List.set_cons_succ]
    refine opr_move (.inr rfl) ?_
    go_simp
    go_wp2
    go_ret
    exact ⟨_, rfl, NewT.trans _ _ _ HN.out hT, g19⟩
set_option maxHeartbeats 1000000 in
theorem putReceipt_cv (v : Value) (x : Rc) (w : World) (h : RecV w v x) : Cv 60 #[v] w (svRd (rcL x)) := by
  obtain ⟨sv, dv, rfl, hs, hd⟩ := h
  unfold Cv
  have HX : Hid (RecV w (.agg (rowA 109 (recF x sv dv))) x) := Lib.hid ⟨sv, dv, rfl, hs, hd⟩
  have HS := Lib.hid hs
  have HD := Lib.hid hd
  clear hs hd
  go_enter Tryd.func60, Tryd.ntmps60
  go_upto_region 1 with fail
  have r1 := rowIs_box w 27 109 (recF x sv dv)
  have hN := NewT.alloc w (.cells (rowA 109 (recF x sv dv)) 27)
  change Code.wp _ _ _ _ (w.alloc (.cells (rowA 109 (recF x sv dv)) 27))
  generalize w.alloc (.cells (rowA 109 (recF x sv dv)) 27) = W0 at r1 hN ⊢
  have R1 := Lib.hid r1
  have HN := Lib.hid hN
  replace HX := Lib.hid (hN.recV HX.out)
  replace HS := Lib.hid (hN.pairs HS.out)
  replace HD := Lib.hid (hN.rd HD.out)
  clear r1 hN
  refine wp_region_rely NewT [SV.eq (.agg (rowA 109 (recF x sv dv))), svRd (callL x), SV.eq (.pointer (some ⟨w.heap.size, 6, none⟩)), SV.eq (.bool (x.good)), svRd ([fB x.good]), SV.eq (.pointer (some ⟨w.heap.size, 8, none⟩)), SV.eq (.int .i64 (x.part)), svRd (numI x.part), SV.eq (.pointer (some ⟨w.heap.size, 9, none⟩)), SV.eq (.int .i64 (x.epoch)), svRd (numI x.epoch), SV.eq (.pointer (some ⟨w.heap.size, 10, none⟩)), SV.eq (.agg (rowA 32 (bF (x.tag)))), svRd (hL x.tag), svParts [callL x, [fB x.good], numI x.part, numI x.epoch, hL x.tag], svRd (rcL x)] [([(1, none)], none), ([(3, some 0)], none), ([(1, none)], none), ([(5, some 2)], none), ([(6, some 3)], none), ([(1, none)], none), ([(8, some 5)], none), ([(9, some 6)], none), ([(1, none)], none), ([(11, some 8)], none), ([(12, some 9)], none), ([(1, none)], none), ([(14, some 11)], none), ([(15, some 12)], none), ([(4, some 1), (7, some 4), (10, some 7), (13, some 10), (16, some 13)], none), ([(17, some 14)], none)] 19 rfl (by kernel_rfl) rfl (by kernel_rfl) (by kernel_rfl) rfl NewT.trans (NewT.drew _) (Nat.le_of_ble_eq_true rfl) ⟨?_, ?_, ?_, ?_, ?_, ?_, ?_, ?_, ?_, ?_, ?_, ?_, ?_, ?_, ?_, ?_, trivial⟩ ?_
  · intro a wx hT hF K hK
    obtain ⟨f1, _⟩ := hF
    have f1 : a.tmps.getD 1 undef = .pointer (some ⟨w.heap.size, 0, none⟩) := f1
    refine rely_wp rfl ?_
    exact opr_ldR (hT.row R1.out) rfl f1 (hK _ _ (NewT.refl _) rfl)
  · intro a wx hT hF K hK
    obtain ⟨f3, _⟩ := hF
    have f3 : a.tmps.getD 3 undef = .agg (rowA 109 (recF x sv dv)) := f3
    refine rely_wp rfl ?_
    exact opr_cv (putTry_cv _ x wx (hT.recV HX.out)) rfl Tryd.func58 (by kernel_rfl) (by kernel_rfl) (by simp only [List.map_toArray, List.map_cons, List.map_nil, eval_tmp, f3]) hK
  · intro a wx hT hF K hK
    obtain ⟨f1, _⟩ := hF
    have f1 : a.tmps.getD 1 undef = .pointer (some ⟨w.heap.size, 0, none⟩) := f1
    refine rely_wp rfl ?_
    exact opr_fldR (by decide) rfl f1 (hK _ _ (NewT.refl _) rfl)
  · intro a wx hT hF K hK
    obtain ⟨f5, _⟩ := hF
    have f5 : a.tmps.getD 5 undef = .pointer (some ⟨w.heap.size, 6, none⟩) := f5
    refine rely_wp rfl ?_
    exact opr_ldQ (hT.row R1.out) (by decide) rfl rfl f5 (hK _ _ (NewT.refl _) rfl)
  · intro a wx hT hF K hK
    obtain ⟨f6, _⟩ := hF
    have f6 : a.tmps.getD 6 undef = .bool (x.good) := f6
    refine rely_wp rfl ?_
    exact opr_cv (Flag_rd x.good _ wx rfl) rfl Tryd.func77 (by kernel_rfl) (by kernel_rfl) (by simp only [List.map_toArray, List.map_cons, List.map_nil, eval_tmp, f6]) hK
  · intro a wx hT hF K hK
    obtain ⟨f1, _⟩ := hF
    have f1 : a.tmps.getD 1 undef = .pointer (some ⟨w.heap.size, 0, none⟩) := f1
    refine rely_wp rfl ?_
    exact opr_fldR (by decide) rfl f1 (hK _ _ (NewT.refl _) rfl)
  · intro a wx hT hF K hK
    obtain ⟨f8, _⟩ := hF
    have f8 : a.tmps.getD 8 undef = .pointer (some ⟨w.heap.size, 8, none⟩) := f8
    refine rely_wp rfl ?_
    exact opr_ldI (hT.row R1.out) (by decide) rfl rfl f8 (hK _ _ (NewT.refl _) rfl)
  · intro a wx hT hF K hK
    obtain ⟨f9, _⟩ := hF
    have f9 : a.tmps.getD 9 undef = .int .i64 (x.part) := f9
    refine rely_wp rfl ?_
    exact opr_cv (Num_rd x.part _ wx rfl) rfl Tryd.func38 (by kernel_rfl) (by kernel_rfl) (by simp only [List.map_toArray, List.map_cons, List.map_nil, eval_tmp, f9]) hK
  · intro a wx hT hF K hK
    obtain ⟨f1, _⟩ := hF
    have f1 : a.tmps.getD 1 undef = .pointer (some ⟨w.heap.size, 0, none⟩) := f1
    refine rely_wp rfl ?_
    exact opr_fldR (by decide) rfl f1 (hK _ _ (NewT.refl _) rfl)
  · intro a wx hT hF K hK
    obtain ⟨f11, _⟩ := hF
    have f11 : a.tmps.getD 11 undef = .pointer (some ⟨w.heap.size, 9, none⟩) := f11
    refine rely_wp rfl ?_
    exact opr_ldI (hT.row R1.out) (by decide) rfl rfl f11 (hK _ _ (NewT.refl _) rfl)
  · intro a wx hT hF K hK
    obtain ⟨f12, _⟩ := hF
    have f12 : a.tmps.getD 12 undef = .int .i64 (x.epoch) := f12
    refine rely_wp rfl ?_
    exact opr_cv (Num_rd x.epoch _ wx rfl) rfl Tryd.func38 (by kernel_rfl) (by kernel_rfl) (by simp only [List.map_toArray, List.map_cons, List.map_nil, eval_tmp, f12]) hK
  · intro a wx hT hF K hK
    obtain ⟨f1, _⟩ := hF
    have f1 : a.tmps.getD 1 undef = .pointer (some ⟨w.heap.size, 0, none⟩) := f1
    refine rely_wp rfl ?_
    exact opr_fldR (by decide) rfl f1 (hK _ _ (NewT.refl _) rfl)
  · intro a wx hT hF K hK
    obtain ⟨f14, _⟩ := hF
    have f14 : a.tmps.getD 14 undef = .pointer (some ⟨w.heap.size, 10, none⟩) := f14
    refine rely_wp rfl ?_
    exact opr_ldH (hT.row R1.out) (by decide) (recF_tag x _ _) rfl f14 (hK _ _ (NewT.refl _) rfl)
  · intro a wx hT hF K hK
    obtain ⟨f15, _⟩ := hF
    have f15 : a.tmps.getD 15 undef = .agg (rowA 32 (bF (x.tag))) := f15
    refine rely_wp rfl ?_
    exact opr_cv (WHash_rd x.tag wx) rfl Tryd.func76 (by kernel_rfl) (by kernel_rfl) (by simp only [List.map_toArray, List.map_cons, List.map_nil, eval_tmp, f15]) hK
  · intro a wx hT hF K hK
    obtain ⟨f4, f7, f10, f13, f16, _⟩ := hF
    replace f4 := show (svRd (callL x)).pred (a.tmps.getD 4 undef) wx from f4
    replace f7 := show (svRd ([fB x.good])).pred (a.tmps.getD 7 undef) wx from f7
    replace f10 := show (svRd (numI x.part)).pred (a.tmps.getD 10 undef) wx from f10
    replace f13 := show (svRd (numI x.epoch)).pred (a.tmps.getD 13 undef) wx from f13
    replace f16 := show (svRd (hL x.tag)).pred (a.tmps.getD 16 undef) wx from f16
    refine rely_wp rfl ?_
    exact opr_bs5 rfl f4 f7 f10 f13 f16 hK
  · intro a wx hT hF K hK
    obtain ⟨f17, _⟩ := hF
    replace f17 := show (svParts [callL x, [fB x.good], numI x.part, numI x.epoch, hL x.tag]).pred (a.tmps.getD 17 undef) wx from f17
    refine rely_wp rfl ?_
    exact opr_cv (All_rd _ _ (rcL x) wx f17 (by simp [rcL]) (by have := rcL_len x; omega)) rfl Tryd.func25 (by kernel_rfl) (by kernel_rfl) (by simp only [List.map_toArray, List.map_cons, List.map_nil, eval_tmp]) hK
  · intro wx hT
    intro u h; obtain rfl := Eq.symm (h (by simp)); clear h
    intro _ _
    intro u h; obtain rfl := Eq.symm (h (by simp)); clear h
    intro u h; obtain rfl := Eq.symm (h (by simp)); clear h
    intro _ _
    intro u h; obtain rfl := Eq.symm (h (by simp)); clear h
    intro u h; obtain rfl := Eq.symm (h (by simp)); clear h
    intro _ _
    intro u h; obtain rfl := Eq.symm (h (by simp)); clear h
    intro u h; obtain rfl := Eq.symm (h (by simp)); clear h
    intro _ _
    intro u h; obtain rfl := Eq.symm (h (by simp)); clear h
    intro u h; obtain rfl := Eq.symm (h (by simp)); clear h
    intro _ _
    intro _ _
    intro u18 h; have g18 := h (by simp); clear h; replace g18 := show (svRd (rcL x)).pred u18 wx from g18
    refine relyEnd_nil rfl ?_
    simp only [Act.put, List.setIfInBounds_toArray, List.set_cons_zero, List.set_cons_succ]
    refine opr_move (.inr rfl) ?_
    go_simp
    go_wp2
    go_ret
    exact ⟨_, rfl, NewT.trans _ _ _ HN.out hT, g18⟩
set_option maxHeartbeats 1000000 in
theorem putClosed_cv (v : Value) (x : Rc) (w : World) (h : RecV w v x) : Cv 62 #[v] w (svRd (clL x)) := by
  obtain ⟨sv, dv, rfl, hs, hd⟩ := h
  unfold Cv
  have HX : Hid (RecV w (.agg (rowA 109 (recF x sv dv))) x) := Lib.hid ⟨sv, dv, rfl, hs, hd⟩
  have HS := Lib.hid hs
  have HD := Lib.hid hd
  clear hs hd
  go_enter Tryd.func62, Tryd.ntmps62
  go_upto_region 1 with fail
  have r1 := rowIs_box w 27 109 (recF x sv dv)
  have hN := NewT.alloc w (.cells (rowA 109 (recF x sv dv)) 27)
  change Code.wp _ _ _ _ (w.alloc (.cells (rowA 109 (recF x sv dv)) 27))
  generalize w.alloc (.cells (rowA 109 (recF x sv dv)) 27) = W0 at r1 hN ⊢
  have R1 := Lib.hid r1
  have HN := Lib.hid hN
  replace HX := Lib.hid (hN.recV HX.out)
  replace HS := Lib.hid (hN.pairs HS.out)
  replace HD := Lib.hid (hN.rd HD.out)
  clear r1 hN
  refine wp_region_rely NewT [SV.eq (.pointer (some ⟨w.heap.size, 1, none⟩)), SV.eq (.int .i64 (x.saga)), svRd (numI x.saga), SV.eq (.pointer (some ⟨w.heap.size, 2, none⟩)), SV.eq (.int .i64 (x.seq)), svRd (numI x.seq), SV.eq (.pointer (some ⟨w.heap.size, 7, none⟩)), SV.eq (.int .i64 (x.nd)), svRd (numI x.nd), svParts [numI x.saga, numI x.seq, numI x.nd], svRd (clL x)] [([(1, none)], none), ([(3, some 0)], none), ([(4, some 1)], none), ([(1, none)], none), ([(6, some 3)], none), ([(7, some 4)], none), ([(1, none)], none), ([(9, some 6)], none), ([(10, some 7)], none), ([(5, some 2), (8, some 5), (11, some 8)], none), ([(12, some 9)], none)] 14 rfl (by kernel_rfl) rfl (by kernel_rfl) (by kernel_rfl) rfl NewT.trans (NewT.drew _) (Nat.le_of_ble_eq_true rfl) ⟨?_, ?_, ?_, ?_, ?_, ?_, ?_, ?_, ?_, ?_, ?_, trivial⟩ ?_
  · intro a wx hT hF K hK
    obtain ⟨f1, _⟩ := hF
    have f1 : a.tmps.getD 1 undef = .pointer (some ⟨w.heap.size, 0, none⟩) := f1
    refine rely_wp rfl ?_
    exact opr_fldR (by decide) rfl f1 (hK _ _ (NewT.refl _) rfl)
  · intro a wx hT hF K hK
    obtain ⟨f3, _⟩ := hF
    have f3 : a.tmps.getD 3 undef = .pointer (some ⟨w.heap.size, 1, none⟩) := f3
    refine rely_wp rfl ?_
    exact opr_ldI (hT.row R1.out) (by decide) rfl rfl f3 (hK _ _ (NewT.refl _) rfl)
  · intro a wx hT hF K hK
    obtain ⟨f4, _⟩ := hF
    have f4 : a.tmps.getD 4 undef = .int .i64 (x.saga) := f4
    refine rely_wp rfl ?_
    exact opr_cv (Num_rd x.saga _ wx rfl) rfl Tryd.func38 (by kernel_rfl) (by kernel_rfl) (by simp only [List.map_toArray, List.map_cons, List.map_nil, eval_tmp, f4]) hK
  · intro a wx hT hF K hK
    obtain ⟨f1, _⟩ := hF
    have f1 : a.tmps.getD 1 undef = .pointer (some ⟨w.heap.size, 0, none⟩) := f1
    refine rely_wp rfl ?_
    exact opr_fldR (by decide) rfl f1 (hK _ _ (NewT.refl _) rfl)
  · intro a wx hT hF K hK
    obtain ⟨f6, _⟩ := hF
    have f6 : a.tmps.getD 6 undef = .pointer (some ⟨w.heap.size, 2, none⟩) := f6
    refine rely_wp rfl ?_
    exact opr_ldI (hT.row R1.out) (by decide) rfl rfl f6 (hK _ _ (NewT.refl _) rfl)
  · intro a wx hT hF K hK
    obtain ⟨f7, _⟩ := hF
    have f7 : a.tmps.getD 7 undef = .int .i64 (x.seq) := f7
    refine rely_wp rfl ?_
    exact opr_cv (Num_rd x.seq _ wx rfl) rfl Tryd.func38 (by kernel_rfl) (by kernel_rfl) (by simp only [List.map_toArray, List.map_cons, List.map_nil, eval_tmp, f7]) hK
  · intro a wx hT hF K hK
    obtain ⟨f1, _⟩ := hF
    have f1 : a.tmps.getD 1 undef = .pointer (some ⟨w.heap.size, 0, none⟩) := f1
    refine rely_wp rfl ?_
    exact opr_fldR (by decide) rfl f1 (hK _ _ (NewT.refl _) rfl)
  · intro a wx hT hF K hK
    obtain ⟨f9, _⟩ := hF
    have f9 : a.tmps.getD 9 undef = .pointer (some ⟨w.heap.size, 7, none⟩) := f9
    refine rely_wp rfl ?_
    exact opr_ldI (hT.row R1.out) (by decide) rfl rfl f9 (hK _ _ (NewT.refl _) rfl)
  · intro a wx hT hF K hK
    obtain ⟨f10, _⟩ := hF
    have f10 : a.tmps.getD 10 undef = .int .i64 (x.nd) := f10
    refine rely_wp rfl ?_
    exact opr_cv (Num_rd x.nd _ wx rfl) rfl Tryd.func38 (by kernel_rfl) (by kernel_rfl) (by simp only [List.map_toArray, List.map_cons, List.map_nil, eval_tmp, f10]) hK
  · intro a wx hT hF K hK
    obtain ⟨f5, f8, f11, _⟩ := hF
    replace f5 := show (svRd (numI x.saga)).pred (a.tmps.getD 5 undef) wx from f5
    replace f8 := show (svRd (numI x.seq)).pred (a.tmps.getD 8 undef) wx from f8
    replace f11 := show (svRd (numI x.nd)).pred (a.tmps.getD 11 undef) wx from f11
    refine rely_wp rfl ?_
    exact opr_bs3 rfl f5 f8 f11 hK
  · intro a wx hT hF K hK
    obtain ⟨f12, _⟩ := hF
    replace f12 := show (svParts [numI x.saga, numI x.seq, numI x.nd]).pred (a.tmps.getD 12 undef) wx from f12
    refine rely_wp rfl ?_
    exact opr_cv (All_rd _ _ (clL x) wx f12 (by simp [clL]) (by have := clL_len x; omega)) rfl Tryd.func25 (by kernel_rfl) (by kernel_rfl) (by simp only [List.map_toArray, List.map_cons, List.map_nil, eval_tmp]) hK
  · intro wx hT
    intro u h; obtain rfl := Eq.symm (h (by simp)); clear h
    intro u h; obtain rfl := Eq.symm (h (by simp)); clear h
    intro _ _
    intro u h; obtain rfl := Eq.symm (h (by simp)); clear h
    intro u h; obtain rfl := Eq.symm (h (by simp)); clear h
    intro _ _
    intro u h; obtain rfl := Eq.symm (h (by simp)); clear h
    intro u h; obtain rfl := Eq.symm (h (by simp)); clear h
    intro _ _
    intro _ _
    intro u13 h; have g13 := h (by simp); clear h; replace g13 := show (svRd (clL x)).pred u13 wx from g13
    refine relyEnd_nil rfl ?_
    simp only [Act.put, List.setIfInBounds_toArray, List.set_cons_zero, List.set_cons_succ]
    refine opr_move (.inr rfl) ?_
    go_simp
    go_wp2
    go_ret
    exact ⟨_, rfl, NewT.trans _ _ _ HN.out hT, g13⟩
set_option maxHeartbeats 1000000 in
theorem putRotate_cv (v : Value) (x : Rc) (w : World) (h : RecV w v x) : Cv 64 #[v] w (svRd (roL x)) := by
  obtain ⟨sv, dv, rfl, hs, hd⟩ := h
  unfold Cv
  have HX : Hid (RecV w (.agg (rowA 109 (recF x sv dv))) x) := Lib.hid ⟨sv, dv, rfl, hs, hd⟩
  have HS := Lib.hid hs
  have HD := Lib.hid hd
  clear hs hd
  go_enter Tryd.func64, Tryd.ntmps64
  go_upto_region 1 with fail
  have r1 := rowIs_box w 27 109 (recF x sv dv)
  have hN := NewT.alloc w (.cells (rowA 109 (recF x sv dv)) 27)
  change Code.wp _ _ _ _ (w.alloc (.cells (rowA 109 (recF x sv dv)) 27))
  generalize w.alloc (.cells (rowA 109 (recF x sv dv)) 27) = W0 at r1 hN ⊢
  have R1 := Lib.hid r1
  have HN := Lib.hid hN
  replace HX := Lib.hid (hN.recV HX.out)
  replace HS := Lib.hid (hN.pairs HS.out)
  replace HD := Lib.hid (hN.rd HD.out)
  clear r1 hN
  refine wp_region_rely NewT [SV.eq (.pointer (some ⟨w.heap.size, 8, none⟩)), SV.eq (.int .i64 (x.part)), svRd (numI x.part), SV.eq (.pointer (some ⟨w.heap.size, 9, none⟩)), SV.eq (.int .i64 (x.epoch)), svRd (numI x.epoch), svParts [numI x.part, numI x.epoch], svRd (roL x)] [([(1, none)], none), ([(3, some 0)], none), ([(4, some 1)], none), ([(1, none)], none), ([(6, some 3)], none), ([(7, some 4)], none), ([(5, some 2), (8, some 5)], none), ([(9, some 6)], none)] 11 rfl (by kernel_rfl) rfl (by kernel_rfl) (by kernel_rfl) rfl NewT.trans (NewT.drew _) (Nat.le_of_ble_eq_true rfl) ⟨?_, ?_, ?_, ?_, ?_, ?_, ?_, ?_, trivial⟩ ?_
  · intro a wx hT hF K hK
    obtain ⟨f1, _⟩ := hF
    have f1 : a.tmps.getD 1 undef = .pointer (some ⟨w.heap.size, 0, none⟩) := f1
    refine rely_wp rfl ?_
    exact opr_fldR (by decide) rfl f1 (hK _ _ (NewT.refl _) rfl)
  · intro a wx hT hF K hK
    obtain ⟨f3, _⟩ := hF
    have f3 : a.tmps.getD 3 undef = .pointer (some ⟨w.heap.size, 8, none⟩) := f3
    refine rely_wp rfl ?_
    exact opr_ldI (hT.row R1.out) (by decide) rfl rfl f3 (hK _ _ (NewT.refl _) rfl)
  · intro a wx hT hF K hK
    obtain ⟨f4, _⟩ := hF
    have f4 : a.tmps.getD 4 undef = .int .i64 (x.part) := f4
    refine rely_wp rfl ?_
    exact opr_cv (Num_rd x.part _ wx rfl) rfl Tryd.func38 (by kernel_rfl) (by kernel_rfl) (by simp only [List.map_toArray, List.map_cons, List.map_nil, eval_tmp, f4]) hK
  · intro a wx hT hF K hK
    obtain ⟨f1, _⟩ := hF
    have f1 : a.tmps.getD 1 undef = .pointer (some ⟨w.heap.size, 0, none⟩) := f1
    refine rely_wp rfl ?_
    exact opr_fldR (by decide) rfl f1 (hK _ _ (NewT.refl _) rfl)
  · intro a wx hT hF K hK
    obtain ⟨f6, _⟩ := hF
    have f6 : a.tmps.getD 6 undef = .pointer (some ⟨w.heap.size, 9, none⟩) := f6
    refine rely_wp rfl ?_
    exact opr_ldI (hT.row R1.out) (by decide) rfl rfl f6 (hK _ _ (NewT.refl _) rfl)
  · intro a wx hT hF K hK
    obtain ⟨f7, _⟩ := hF
    have f7 : a.tmps.getD 7 undef = .int .i64 (x.epoch) := f7
    refine rely_wp rfl ?_
    exact opr_cv (Num_rd x.epoch _ wx rfl) rfl Tryd.func38 (by kernel_rfl) (by kernel_rfl) (by simp only [List.map_toArray, List.map_cons, List.map_nil, eval_tmp, f7]) hK
  · intro a wx hT hF K hK
    obtain ⟨f5, f8, _⟩ := hF
    replace f5 := show (svRd (numI x.part)).pred (a.tmps.getD 5 undef) wx from f5
    replace f8 := show (svRd (numI x.epoch)).pred (a.tmps.getD 8 undef) wx from f8
    refine rely_wp rfl ?_
    exact opr_bs2 rfl f5 f8 hK
  · intro a wx hT hF K hK
    obtain ⟨f9, _⟩ := hF
    replace f9 := show (svParts [numI x.part, numI x.epoch]).pred (a.tmps.getD 9 undef) wx from f9
    refine rely_wp rfl ?_
    exact opr_cv (All_rd _ _ (roL x) wx f9 (by simp [roL]) (by have := roL_len x; omega)) rfl Tryd.func25 (by kernel_rfl) (by kernel_rfl) (by simp only [List.map_toArray, List.map_cons, List.map_nil, eval_tmp]) hK
  · intro wx hT
    intro u h; obtain rfl := Eq.symm (h (by simp)); clear h
    intro u h; obtain rfl := Eq.symm (h (by simp)); clear h
    intro _ _
    intro u h; obtain rfl := Eq.symm (h (by simp)); clear h
    intro u h; obtain rfl := Eq.symm (h (by simp)); clear h
    intro _ _
    intro _ _
    intro u10 h; have g10 := h (by simp); clear h; replace g10 := show (svRd (roL x)).pred u10 wx from g10
    refine relyEnd_nil rfl ?_
    simp only [Act.put, List.setIfInBounds_toArray, List.set_cons_zero, List.set_cons_succ]
    refine opr_move (.inr rfl) ?_
    go_simp
    go_wp2
    go_ret
    exact ⟨_, rfl, NewT.trans _ _ _ HN.out hT, g10⟩
set_option maxHeartbeats 2000000 in
theorem putHead_cv (v : Value) (x : Rc) (w : World) (h : RecV w v x) (hl : x.steps.length ≤ 30) : Cv 75 #[v] w (svRd (hdL x)) := by
  obtain ⟨sv, dv, rfl, hs, hd⟩ := h
  unfold Cv
  have HX : Hid (RecV w (.agg (rowA 109 (recF x sv dv))) x) := Lib.hid ⟨sv, dv, rfl, hs, hd⟩
  have HS := Lib.hid hs
  have HD := Lib.hid hd
  clear hs hd
  go_enter Tryd.func75, Tryd.ntmps75
  go_upto_region 1 with fail
  have r1 := rowIs_box w 27 109 (recF x sv dv)
  have hN := NewT.alloc w (.cells (rowA 109 (recF x sv dv)) 27)
  change Code.wp _ _ _ _ (w.alloc (.cells (rowA 109 (recF x sv dv)) 27))
  generalize w.alloc (.cells (rowA 109 (recF x sv dv)) 27) = W0 at r1 hN ⊢
  have R1 := Lib.hid r1
  have HN := Lib.hid hN
  replace HX := Lib.hid (hN.recV HX.out)
  replace HS := Lib.hid (hN.pairs HS.out)
  replace HD := Lib.hid (hN.rd HD.out)
  clear r1 hN
  refine wp_region_rely NewT [SV.eq (.pointer (some ⟨w.heap.size, 1, none⟩)), SV.eq (.int .i64 (x.saga)), svRd (numI x.saga), SV.eq (.pointer (some ⟨w.heap.size, 42, none⟩)), SV.eq (sv), SV.eq (.int .i64 ((List.length (x.steps) : Int))), svRd (numI ((List.length (x.steps) : Int))), svParts [numI x.saga, numI ((List.length (x.steps) : Int))], svRd (numI x.saga ++ numI x.steps.length)] [([(1, none)], none), ([(6, some 0)], none), ([(7, some 1)], none), ([(1, none)], none), ([(9, some 3)], none), ([(10, some 4)], none), ([(11, some 5)], none), ([(8, some 2), (12, some 6)], none), ([(13, some 7)], none)] 33 rfl (by kernel_rfl) rfl (by kernel_rfl) (by kernel_rfl) rfl NewT.trans (NewT.drew _) (Nat.le_of_ble_eq_true rfl) ⟨?_, ?_, ?_, ?_, ?_, ?_, ?_, ?_, ?_, trivial⟩ ?_
  · intro a wx hT hF K hK
    obtain ⟨f1, _⟩ := hF
    have f1 : a.tmps.getD 1 undef = .pointer (some ⟨w.heap.size, 0, none⟩) := f1
    refine rely_wp rfl ?_
    exact opr_fldR (by decide) rfl f1 (hK _ _ (NewT.refl _) rfl)
  · intro a wx hT hF K hK
    obtain ⟨f6, _⟩ := hF
    have f6 : a.tmps.getD 6 undef = .pointer (some ⟨w.heap.size, 1, none⟩) := f6
    refine rely_wp rfl ?_
    exact opr_ldI (hT.row R1.out) (by decide) rfl rfl f6 (hK _ _ (NewT.refl _) rfl)
  · intro a wx hT hF K hK
    obtain ⟨f7, _⟩ := hF
    have f7 : a.tmps.getD 7 undef = .int .i64 (x.saga) := f7
    refine rely_wp rfl ?_
    exact opr_cv (Num_rd x.saga _ wx rfl) rfl Tryd.func38 (by kernel_rfl) (by kernel_rfl) (by simp only [List.map_toArray, List.map_cons, List.map_nil, eval_tmp, f7]) hK
  · intro a wx hT hF K hK
    obtain ⟨f1, _⟩ := hF
    have f1 : a.tmps.getD 1 undef = .pointer (some ⟨w.heap.size, 0, none⟩) := f1
    refine rely_wp rfl ?_
    exact opr_fldR (by decide) rfl f1 (hK _ _ (NewT.refl _) rfl)
  · intro a wx hT hF K hK
    obtain ⟨f9, _⟩ := hF
    have f9 : a.tmps.getD 9 undef = .pointer (some ⟨w.heap.size, 42, none⟩) := f9
    refine rely_wp rfl ?_
    exact opr_ldS (hT.row R1.out) (by decide) rfl rfl f9 (hK _ _ (NewT.refl _) rfl)
  · intro a wx hT hF K hK
    obtain ⟨f10, _⟩ := hF
    have f10 : a.tmps.getD 10 undef = sv := f10
    refine rely_wp rfl ?_
    exact opr_len_pairs rfl (by rw [eval_tmp, f10]; exact (hT.pairs HS.out)) (hK _ _ (NewT.refl _) rfl)
  · intro a wx hT hF K hK
    obtain ⟨f11, _⟩ := hF
    have f11 : a.tmps.getD 11 undef = .int .i64 ((List.length (x.steps) : Int)) := f11
    refine rely_wp rfl ?_
    exact opr_cv (Num_rd ((List.length (x.steps) : Int)) _ wx rfl) rfl Tryd.func38 (by kernel_rfl) (by kernel_rfl) (by simp only [List.map_toArray, List.map_cons, List.map_nil, eval_tmp, f11]) hK
  · intro a wx hT hF K hK
    obtain ⟨f8, f12, _⟩ := hF
    replace f8 := show (svRd (numI x.saga)).pred (a.tmps.getD 8 undef) wx from f8
    replace f12 := show (svRd (numI ((List.length (x.steps) : Int)))).pred (a.tmps.getD 12 undef) wx from f12
    refine rely_wp rfl ?_
    exact opr_bs2 rfl f8 f12 hK
  · intro a wx hT hF K hK
    obtain ⟨f13, _⟩ := hF
    replace f13 := show (svParts [numI x.saga, numI ((List.length (x.steps) : Int))]).pred (a.tmps.getD 13 undef) wx from f13
    refine rely_wp rfl ?_
    exact opr_cv (All_rd _ _ (numI x.saga ++ numI x.steps.length) wx f13 (by simp) (by have := numI_length x.saga; have := numI_length x.steps.length; simp; omega)) rfl Tryd.func25 (by kernel_rfl) (by kernel_rfl) (by simp only [List.map_toArray, List.map_cons, List.map_nil, eval_tmp]) hK
  · intro w1 h1
    intro u h; obtain rfl := Eq.symm (h (by simp)); clear h
    intro u h; obtain rfl := Eq.symm (h (by simp)); clear h
    intro _ _
    intro u h; obtain rfl := Eq.symm (h (by simp)); clear h
    intro u h; obtain rfl := Eq.symm (h (by simp)); clear h
    intro u h; obtain rfl := Eq.symm (h (by simp)); clear h
    intro _ _
    intro _ _
    intro u14 h; have g14 := h (by simp); clear h; replace g14 := show (svRd (numI x.saga ++ numI x.steps.length)).pred u14 w1 from g14
    refine relyEnd_nil rfl ?_
    simp only [Act.put, List.setIfInBounds_toArray, List.set_cons_zero, List.set_cons_succ]
    refine opr_move (.inr rfl) ?_
    go_simp
    replace HS := Lib.hid (h1.pairs HS.out)
    have c11 : w1.cell? ⟨w.heap.size, 42, none⟩ = some sv := (h1.row R1.out).cell (i := 42) (by omega)
    have HN1 := Lib.hid (NewT.trans _ _ _ HN.out h1)
    have G14 := Lib.hid g14
    obtain ⟨A0, cap, hsv, p1, p2, p3⟩ := HS.out
    unfold maxLen at p2
    have P3 := Lib.hid p3
    rw [hsv] at c11
    have Hx : Hid (hdL x = (numI x.saga ++ numI x.steps.length) ++ stepsL x.steps) := Lib.hid (by unfold hdL; simp)
    clear HS p3 g14 h1 HN hsv HX HD R1
    generalize hst : x.steps = l at *
    clear hst
    generalize hn : l.length = n at *
    have Hn := Lib.hid hn
    have h0l : (numI x.saga ++ numI (n : Int)).length ≤ 10 := by have := numI_length x.saga; have := numI_length (n : Int); simp; omega
    generalize numI x.saga ++ numI (n : Int) = l0 at *
    clear hn
    go_wp2
    go_loopw [3, 18] (fun v i wr => ∃ k : Nat, k ≤ n ∧ i = .int .i64 k ∧ RdV wr [] v (l0 ++ stepsL (l.take k)) ∧ NewT w1 wr) (fun _ i _ => n - (intOf i).toNat)
    case atStart => exact ⟨0, by omega, rfl, by rw [show l0 ++ stepsL (l.take 0) = l0 by simp [stepsL]]; exact G14.out, NewT.refl _⟩
    case round =>
      obtain ⟨k, hk, rfl, hrd, qN⟩ := hrel
      have Hrd := Lib.hid hrd
      clear hrd
      by_cases hlt : k < n
      · obtain ⟨b, o, rfl, hcell⟩ := P3.out (by omega)
        obtain ⟨j0, j1⟩ := hcell k hlt
        have k0 := (qN.out.cell (p := ⟨b, o + 2 * k, none⟩) (World.block_lt_of_cell? _ _ j0)).trans j0
        have k1 := (qN.out.cell (p := ⟨b, o + 2 * k + 1, none⟩) (World.block_lt_of_cell? _ _ j1)).trans j1
        have Hnx := Lib.hid (stepsL_next l k (by rw [Hn.out]; exact hlt))
        have hacc : (l0 ++ stepsL (l.take k)).length ≤ 400 := by have := stepsL_len (l.take k); simp at this ⊢; have := Hn.out; omega
        clear hcell j0 j1
        generalize l.getD k (0, 0) = s at k0 k1 Hnx
        have it : (k : Int) < (n : Int) := by omega
        have Hacc : Hid (∀ z, stepsL (l.take (k + 1)) = stepsL (l.take k) ++ z → l0 ++ stepsL (l.take (k + 1)) = (l0 ++ stepsL (l.take k)) ++ z) := Lib.hid (fun z h => by rw [h, List.append_assoc])
        generalize l0 ++ stepsL (l.take k) = acc at Hrd hacc Hacc
        go_upto_region 4 with fail
        refine wp_region_steps0 NewT [SV.eq (.pointer (some ⟨b, o + 2 * k, none⟩)), SV.eq (.agg (rowA 2 (stepF s)))] [([(16, none), (18, none)], none), ([(20, some 0)], none)] 33 2 rfl rfl (by kernel_rfl) NewT.trans (NewT.refl _) (Nat.le_of_ble_eq_true rfl) ⟨?_, ?_, trivial⟩ ?_
        · intro a wx hT hF K hK
          obtain ⟨f16, f18, _⟩ := hF
          have f16 : a.tmps.getD 16 undef = .slice (some ⟨b, o, none⟩) n cap := f16
          have f18 : a.tmps.getD 18 undef = .int .i64 ((k : Int)) := f18
          refine rely_wp rfl ?_
          exact opr_idxS hlt rfl f16 f18 (hK _ _ (NewT.refl _) rfl)
        · intro a wx hT hF K hK
          obtain ⟨f20, _⟩ := hF
          have f20 : a.tmps.getD 20 undef = .pointer (some ⟨b, o + 2 * k, none⟩) := f20
          refine rely_wp rfl ?_
          exact opr_ld2 ((hT.out.cell (World.block_lt_of_cell? _ _ k0)).trans k0) ((hT.out.cell (World.block_lt_of_cell? _ _ k1)).trans k1) rfl f20 (hK _ _ (NewT.refl _) rfl)
        · intro w5 h5
          intro u h; obtain rfl := Eq.symm (h (by simp)); clear h
          intro u h; obtain rfl := Eq.symm (h (by simp)); clear h
          refine relyEnd_nil rfl ?_
          simp only [Act.put, List.setIfInBounds_toArray, List.set_cons_zero, List.set_cons_succ]
          refine wpList_new (n := 2) rfl rfl rfl rfl rfl rfl (by simp) run_alloc_step info_step (stepF_one s) rfl ?_
          intro wn hNn rn
          refine wpList_end rfl ?_
          simp only [Act.put, List.setIfInBounds_toArray, List.set_cons_zero, List.set_cons_succ]
          go_simp
          clear k0 k1
          go_upto_region 5 with fail
          refine wp_region_rely NewT [svRd (acc), SV.eq (.pointer (some ⟨w5.heap.size, 0 + 0, none⟩)), SV.eq (.int .i64 (s.1)), svRd (numI s.1), SV.eq (.pointer (some ⟨w5.heap.size, 0 + 1, none⟩)), SV.eq (.int .i64 (s.2)), svRd (numI s.2), svParts [acc, numI s.1, numI s.2], svRd (acc ++ (numI s.1 ++ numI s.2))] [([(3, none)], none), ([(5, none)], none), ([(23, some 1)], none), ([(24, some 2)], none), ([(5, none)], none), ([(26, some 4)], none), ([(27, some 5)], none), ([(22, some 0), (25, some 3), (28, some 6)], none), ([(29, some 7)], none)] 33 rfl (by kernel_rfl) rfl (by kernel_rfl) (by kernel_rfl) rfl NewT.trans (NewT.drew _) (Nat.le_of_ble_eq_true rfl) ⟨?_, ?_, ?_, ?_, ?_, ?_, ?_, ?_, ?_, trivial⟩ ?_
          · intro a wx hT hF K hK
            obtain ⟨f3, _⟩ := hF
            have f3 : a.tmps.getD 3 undef = u3 := f3
            refine rely_wp rfl ?_
            exact opr_move (.inl rfl) (hK _ _ (NewT.refl _) (by rw [eval_tmp, f3]; exact hT.rd (hNn.rd (h5.rd Hrd.out))))
          · intro a wx hT hF K hK
            obtain ⟨f5, _⟩ := hF
            have f5 : a.tmps.getD 5 undef = .pointer (some ⟨w5.heap.size, 0, none⟩) := f5
            refine rely_wp rfl ?_
            exact opr_fldS (by decide) rfl f5 (hK _ _ (NewT.refl _) rfl)
          · intro a wx hT hF K hK
            obtain ⟨f23, _⟩ := hF
            have f23 : a.tmps.getD 23 undef = .pointer (some ⟨w5.heap.size, 0 + 0, none⟩) := f23
            refine rely_wp rfl ?_
            exact opr_ldI (hT.row rn) (by decide) rfl rfl f23 (hK _ _ (NewT.refl _) rfl)
          · intro a wx hT hF K hK
            obtain ⟨f24, _⟩ := hF
            have f24 : a.tmps.getD 24 undef = .int .i64 (s.1) := f24
            refine rely_wp rfl ?_
            exact opr_cv (Num_rd s.1 _ wx rfl) rfl Tryd.func38 (by kernel_rfl) (by kernel_rfl) (by simp only [List.map_toArray, List.map_cons, List.map_nil, eval_tmp, f24]) hK
          · intro a wx hT hF K hK
            obtain ⟨f5, _⟩ := hF
            have f5 : a.tmps.getD 5 undef = .pointer (some ⟨w5.heap.size, 0, none⟩) := f5
            refine rely_wp rfl ?_
            exact opr_fldS (by decide) rfl f5 (hK _ _ (NewT.refl _) rfl)
          · intro a wx hT hF K hK
            obtain ⟨f26, _⟩ := hF
            have f26 : a.tmps.getD 26 undef = .pointer (some ⟨w5.heap.size, 0 + 1, none⟩) := f26
            refine rely_wp rfl ?_
            exact opr_ldI (hT.row rn) (by decide) rfl rfl f26 (hK _ _ (NewT.refl _) rfl)
          · intro a wx hT hF K hK
            obtain ⟨f27, _⟩ := hF
            have f27 : a.tmps.getD 27 undef = .int .i64 (s.2) := f27
            refine rely_wp rfl ?_
            exact opr_cv (Num_rd s.2 _ wx rfl) rfl Tryd.func38 (by kernel_rfl) (by kernel_rfl) (by simp only [List.map_toArray, List.map_cons, List.map_nil, eval_tmp, f27]) hK
          · intro a wx hT hF K hK
            obtain ⟨f22, f25, f28, _⟩ := hF
            replace f22 := show (svRd (acc)).pred (a.tmps.getD 22 undef) wx from f22
            replace f25 := show (svRd (numI s.1)).pred (a.tmps.getD 25 undef) wx from f25
            replace f28 := show (svRd (numI s.2)).pred (a.tmps.getD 28 undef) wx from f28
            refine rely_wp rfl ?_
            exact opr_bs3 rfl f22 f25 f28 hK
          · intro a wx hT hF K hK
            obtain ⟨f29, _⟩ := hF
            replace f29 := show (svParts [acc, numI s.1, numI s.2]).pred (a.tmps.getD 29 undef) wx from f29
            refine rely_wp rfl ?_
            exact opr_cv (All_rd _ _ (acc ++ (numI s.1 ++ numI s.2)) wx f29 (by simp) (by have := numI_length s.1; have := numI_length s.2; simp; omega)) rfl Tryd.func25 (by kernel_rfl) (by kernel_rfl) (by simp only [List.map_toArray, List.map_cons, List.map_nil, eval_tmp]) hK
          · intro w6 h6
            intro _ _
            intro u h; obtain rfl := Eq.symm (h (by simp)); clear h
            intro u h; obtain rfl := Eq.symm (h (by simp)); clear h
            intro _ _
            intro u h; obtain rfl := Eq.symm (h (by simp)); clear h
            intro u h; obtain rfl := Eq.symm (h (by simp)); clear h
            intro _ _
            intro _ _
            intro u30 h; have g30 := h (by simp); clear h; replace g30 := show (svRd (acc ++ (numI s.1 ++ numI s.2))).pred u30 w6 from g30
            refine relyEnd_nil rfl ?_
            simp only [Act.put, List.setIfInBounds_toArray, List.set_cons_zero, List.set_cons_succ]
            refine opr_move (.inr rfl) ?_
            go_simp
            go_wp2
            go_roundw
            case rel => exact ⟨k + 1, by omega, by go_num, by rw [Hacc.out _ Hnx.out]; exact g30, NewT.trans _ _ _ qN (NewT.trans _ _ _ h5 (NewT.trans _ _ _ hNn h6))⟩
            case measure => simp [intOf]; omega
      · obtain rfl : k = n := by omega
        have Hr2 : Hid (RdV wr [] u3 (hdL x)) := Lib.hid (by have := Hrd.out; rw [← Hn.out, List.take_length] at this; rw [Hx.out]; exact this)
        go_wp2
        go_ret
        exact ⟨_, rfl, NewT.trans _ _ _ HN1.out qN, Hr2.out⟩
end Go.Proofs.YthgblcpekhiphaaDoor
/- Package rec: Sealed and Open. -/
namespace Go.Proofs.YthgblcpekhiphaaDoor
open Go Go.RowKit
set_option maxRecDepth 8000
set_option maxHeartbeats 1000000 in
theorem sealedBegin_cv (v : Value) (x : Rc) (w : World) (h : RecV w v x) (hT : Tables w) (hlx : x.data.length ≤ 900000) (hst : x.steps.length ≤ 30) : Cv 55 #[v] w (svRd (hdL x ++ hL (comC x))) := by
  obtain ⟨sv, dv, rfl, hs, hd⟩ := h
  unfold Cv
  have HX : Hid (RecV w (.agg (rowA 109 (recF x sv dv))) x) := Lib.hid ⟨sv, dv, rfl, hs, hd⟩
  have HS := Lib.hid hs
  have HD := Lib.hid hd
  clear hs hd
  have HT := Lib.hid hT
  clear hT
  go_enter Tryd.func55, Tryd.ntmps55
  go_upto_region 1 with fail
  have r1 := rowIs_box w 27 109 (recF x sv dv)
  have hN := NewT.alloc w (.cells (rowA 109 (recF x sv dv)) 27)
  change Code.wp _ _ _ _ (w.alloc (.cells (rowA 109 (recF x sv dv)) 27))
  generalize w.alloc (.cells (rowA 109 (recF x sv dv)) 27) = W0 at r1 hN ⊢
  have R1 := Lib.hid r1
  have HN := Lib.hid hN
  replace HX := Lib.hid (hN.recV HX.out)
  replace HS := Lib.hid (hN.pairs HS.out)
  replace HD := Lib.hid (hN.rd HD.out)
  clear r1 hN
  replace HT := Lib.hid (HN.out.tables HT.out)
  refine wp_region_rely NewT [SV.eq (.agg (rowA 109 (recF x sv dv))), svRd (hdL x), SV.eq (.agg (rowA 109 (recF x sv dv))), SV.eq (.agg (rowA 32 (bF (comC x)))), svRd (hL (comC x)), svParts [hdL x, hL (comC x)], svRd (hdL x ++ hL (comC x))] [([(1, none)], none), ([(3, some 0)], none), ([(1, none)], none), ([(5, some 2)], none), ([(6, some 3)], none), ([(4, some 1), (7, some 4)], none), ([(8, some 5)], none)] 10 rfl (by kernel_rfl) rfl (by kernel_rfl) (by kernel_rfl) rfl NewT.trans (NewT.drew _) (Nat.le_of_ble_eq_true rfl) ⟨?_, ?_, ?_, ?_, ?_, ?_, ?_, trivial⟩ ?_
  · intro a wx hT hF K hK
    obtain ⟨f1, _⟩ := hF
    have f1 : a.tmps.getD 1 undef = .pointer (some ⟨w.heap.size, 0, none⟩) := f1
    refine rely_wp rfl ?_
    exact opr_ldR (hT.row R1.out) rfl f1 (hK _ _ (NewT.refl _) rfl)
  · intro a wx hT hF K hK
    obtain ⟨f3, _⟩ := hF
    have f3 : a.tmps.getD 3 undef = .agg (rowA 109 (recF x sv dv)) := f3
    refine rely_wp rfl ?_
    exact opr_cv (putHead_cv _ x wx (hT.recV HX.out) hst) rfl Tryd.func75 (by kernel_rfl) (by kernel_rfl) (by simp only [List.map_toArray, List.map_cons, List.map_nil, eval_tmp, f3]) hK
  · intro a wx hT hF K hK
    obtain ⟨f1, _⟩ := hF
    have f1 : a.tmps.getD 1 undef = .pointer (some ⟨w.heap.size, 0, none⟩) := f1
    refine rely_wp rfl ?_
    exact opr_ldR (hT.row R1.out) rfl f1 (hK _ _ (NewT.refl _) rfl)
  · intro a wx hT hF K hK
    obtain ⟨f5, _⟩ := hF
    have f5 : a.tmps.getD 5 undef = .agg (rowA 109 (recF x sv dv)) := f5
    refine rely_wp rfl ?_
    exact opr_cv (commitment_cv _ x wx (hT.recV HX.out) (hT.tables HT.out) hlx) rfl Tryd.func31 (by kernel_rfl) (by kernel_rfl) (by simp only [List.map_toArray, List.map_cons, List.map_nil, eval_tmp, f5]) hK
  · intro a wx hT hF K hK
    obtain ⟨f6, _⟩ := hF
    have f6 : a.tmps.getD 6 undef = .agg (rowA 32 (bF (comC x))) := f6
    refine rely_wp rfl ?_
    exact opr_cv (WHash_rd (comC x) wx) rfl Tryd.func76 (by kernel_rfl) (by kernel_rfl) (by simp only [List.map_toArray, List.map_cons, List.map_nil, eval_tmp, f6]) hK
  · intro a wx hT hF K hK
    obtain ⟨f4, f7, _⟩ := hF
    replace f4 := show (svRd (hdL x)).pred (a.tmps.getD 4 undef) wx from f4
    replace f7 := show (svRd (hL (comC x))).pred (a.tmps.getD 7 undef) wx from f7
    refine rely_wp rfl ?_
    exact opr_bs2 rfl f4 f7 hK
  · intro a wx hT hF K hK
    obtain ⟨f8, _⟩ := hF
    replace f8 := show (svParts [hdL x, hL (comC x)]).pred (a.tmps.getD 8 undef) wx from f8
    refine rely_wp rfl ?_
    exact opr_cv (All_rd _ _ (hdL x ++ hL (comC x)) wx f8 (by simp) (by have := hdL_len x hst; simp [hL_length]; omega)) rfl Tryd.func25 (by kernel_rfl) (by kernel_rfl) (by simp only [List.map_toArray, List.map_cons, List.map_nil, eval_tmp]) hK
  · intro wx hT
    intro u h; obtain rfl := Eq.symm (h (by simp)); clear h
    intro _ _
    intro u h; obtain rfl := Eq.symm (h (by simp)); clear h
    intro u h; obtain rfl := Eq.symm (h (by simp)); clear h
    intro _ _
    intro _ _
    intro u9 h; have g9 := h (by simp); clear h; replace g9 := show (svRd (hdL x ++ hL (comC x))).pred u9 wx from g9
    refine relyEnd_nil rfl ?_
    simp only [Act.put, List.setIfInBounds_toArray, List.set_cons_zero, List.set_cons_succ]
    refine opr_move (.inr rfl) ?_
    go_simp
    go_wp2
    go_ret
    exact ⟨_, rfl, NewT.trans _ _ _ HN.out hT, g9⟩
set_option maxHeartbeats 1000000 in
theorem openBegin_cv (v : Value) (x : Rc) (w : World) (h : RecV w v x) (hlx : x.data.length ≤ 900000) (hst : x.steps.length ≤ 30) : Cv 56 #[v] w (svRd (hdL x ++ payL x)) := by
  obtain ⟨sv, dv, rfl, hs, hd⟩ := h
  unfold Cv
  have HX : Hid (RecV w (.agg (rowA 109 (recF x sv dv))) x) := Lib.hid ⟨sv, dv, rfl, hs, hd⟩
  have HS := Lib.hid hs
  have HD := Lib.hid hd
  clear hs hd
  have hni := numI_nat x.data.length (by omega)
  have hnl := numI_length x.data.length
  have hhd := hdL_len x hst
  have Hp : ∀ q, x.gone = q → payL x = fB q :: (if q then hL x.com else hL x.salt ++ (numL x.data.length ++ x.data)) := fun q h => by unfold payL; rw [h, hni]
  have HP := Lib.hid Hp
  have Hni := Lib.hid hni
  clear Hp hni
  go_enter Tryd.func56, Tryd.ntmps56
  go_upto_region 1 with fail
  have r1 := rowIs_box w 27 109 (recF x sv dv)
  have hN := NewT.alloc w (.cells (rowA 109 (recF x sv dv)) 27)
  change Code.wp _ _ _ _ (w.alloc (.cells (rowA 109 (recF x sv dv)) 27))
  generalize w.alloc (.cells (rowA 109 (recF x sv dv)) 27) = W0 at r1 hN ⊢
  have R1 := Lib.hid r1
  have HN := Lib.hid hN
  replace HX := Lib.hid (hN.recV HX.out)
  replace HS := Lib.hid (hN.pairs HS.out)
  replace HD := Lib.hid (hN.rd HD.out)
  clear r1 hN
  have c14 : W0.cell? ⟨w.heap.size, 76, none⟩ = some (.bool x.gone) := R1.out.cell (i := 76) (by omega)
  cases hg : x.gone
  · rw [hg] at c14
    have HP2 := Lib.hid (HP.out false hg)
    go_upto_region 3 with fail
    clear c14
    refine wp_region_rely NewT [SV.eq (.agg (rowA 109 (recF x sv dv))), svRd (hdL x), svRd ([fB false]), SV.eq (.pointer (some ⟨w.heap.size, 44, none⟩)), SV.eq (.agg (rowA 32 (bF (x.salt)))), svRd (hL x.salt), SV.eq (.pointer (some ⟨w.heap.size, 43, none⟩)), SV.eq (dv), svRd (numL (List.length x.data) ++ x.data), svParts [hdL x, [fB false], hL x.salt, numL (List.length x.data) ++ x.data], svRd (hdL x ++ payL x)] [([(1, none)], none), ([(13, some 0)], none), ([], none), ([(1, none)], none), ([(16, some 3)], none), ([(17, some 4)], none), ([(1, none)], none), ([(19, some 6)], none), ([(20, some 7)], none), ([(14, some 1), (15, some 2), (18, some 5), (21, some 8)], none), ([(22, some 9)], none)] 24 rfl (by kernel_rfl) rfl (by kernel_rfl) (by kernel_rfl) rfl NewT.trans (NewT.drew _) (Nat.le_of_ble_eq_true rfl) ⟨?_, ?_, ?_, ?_, ?_, ?_, ?_, ?_, ?_, ?_, ?_, trivial⟩ ?_
    · intro a wx hT hF K hK
      obtain ⟨f1, _⟩ := hF
      have f1 : a.tmps.getD 1 undef = .pointer (some ⟨w.heap.size, 0, none⟩) := f1
      refine rely_wp rfl ?_
      exact opr_ldR (hT.row R1.out) rfl f1 (hK _ _ (NewT.refl _) rfl)
    · intro a wx hT hF K hK
      obtain ⟨f13, _⟩ := hF
      have f13 : a.tmps.getD 13 undef = .agg (rowA 109 (recF x sv dv)) := f13
      refine rely_wp rfl ?_
      exact opr_cv (putHead_cv _ x wx (hT.recV HX.out) hst) rfl Tryd.func75 (by kernel_rfl) (by kernel_rfl) (by simp only [List.map_toArray, List.map_cons, List.map_nil, eval_tmp, f13]) hK
    · intro a wx hT hF K hK
      refine rely_wp rfl ?_
      exact opr_cv (Flag_rd false _ wx rfl) rfl Tryd.func77 (by kernel_rfl) (by kernel_rfl) (by simp only [List.map_toArray, List.map_cons, List.map_nil, eval_const]) hK
    · intro a wx hT hF K hK
      obtain ⟨f1, _⟩ := hF
      have f1 : a.tmps.getD 1 undef = .pointer (some ⟨w.heap.size, 0, none⟩) := f1
      refine rely_wp rfl ?_
      exact opr_fldR (by decide) rfl f1 (hK _ _ (NewT.refl _) rfl)
    · intro a wx hT hF K hK
      obtain ⟨f16, _⟩ := hF
      have f16 : a.tmps.getD 16 undef = .pointer (some ⟨w.heap.size, 44, none⟩) := f16
      refine rely_wp rfl ?_
      exact opr_ldH (hT.row R1.out) (by decide) (recF_salt x _ _) rfl f16 (hK _ _ (NewT.refl _) rfl)
    · intro a wx hT hF K hK
      obtain ⟨f17, _⟩ := hF
      have f17 : a.tmps.getD 17 undef = .agg (rowA 32 (bF (x.salt))) := f17
      refine rely_wp rfl ?_
      exact opr_cv (WHash_rd x.salt wx) rfl Tryd.func76 (by kernel_rfl) (by kernel_rfl) (by simp only [List.map_toArray, List.map_cons, List.map_nil, eval_tmp, f17]) hK
    · intro a wx hT hF K hK
      obtain ⟨f1, _⟩ := hF
      have f1 : a.tmps.getD 1 undef = .pointer (some ⟨w.heap.size, 0, none⟩) := f1
      refine rely_wp rfl ?_
      exact opr_fldR (by decide) rfl f1 (hK _ _ (NewT.refl _) rfl)
    · intro a wx hT hF K hK
      obtain ⟨f19, _⟩ := hF
      have f19 : a.tmps.getD 19 undef = .pointer (some ⟨w.heap.size, 43, none⟩) := f19
      refine rely_wp rfl ?_
      exact opr_ldB (hT.row R1.out) (by decide) rfl rfl f19 (hK _ _ (NewT.refl _) rfl)
    · intro a wx hT hF K hK
      obtain ⟨f20, _⟩ := hF
      have f20 : a.tmps.getD 20 undef = dv := f20
      refine rely_wp rfl ?_
      exact opr_cv (WBytes_rd _ x.data _ wx (hT.rd HD.out) hlx rfl) rfl Tryd.func78 (by kernel_rfl) (by kernel_rfl) (by simp only [List.map_toArray, List.map_cons, List.map_nil, eval_tmp, f20]) hK
    · intro a wx hT hF K hK
      obtain ⟨f14, f15, f18, f21, _⟩ := hF
      replace f14 := show (svRd (hdL x)).pred (a.tmps.getD 14 undef) wx from f14
      replace f15 := show (svRd ([fB false])).pred (a.tmps.getD 15 undef) wx from f15
      replace f18 := show (svRd (hL x.salt)).pred (a.tmps.getD 18 undef) wx from f18
      replace f21 := show (svRd (numL (List.length x.data) ++ x.data)).pred (a.tmps.getD 21 undef) wx from f21
      refine rely_wp rfl ?_
      exact opr_bs4 rfl f14 f15 f18 f21 hK
    · intro a wx hT hF K hK
      obtain ⟨f22, _⟩ := hF
      replace f22 := show (svParts [hdL x, [fB false], hL x.salt, numL (List.length x.data) ++ x.data]).pred (a.tmps.getD 22 undef) wx from f22
      refine rely_wp rfl ?_
      exact opr_cv (All_rd _ _ (hdL x ++ payL x) wx f22 (by rw [HP2.out]; simp) (by rw [HP2.out]; rw [← Hni.out]; simp [hL_length]; omega)) rfl Tryd.func25 (by kernel_rfl) (by kernel_rfl) (by simp only [List.map_toArray, List.map_cons, List.map_nil, eval_tmp]) hK
    · intro wx hT
      intro u h; obtain rfl := Eq.symm (h (by simp)); clear h
      intro _ _
      intro _ _
      intro u h; obtain rfl := Eq.symm (h (by simp)); clear h
      intro u h; obtain rfl := Eq.symm (h (by simp)); clear h
      intro _ _
      intro u h; obtain rfl := Eq.symm (h (by simp)); clear h
      intro u h; obtain rfl := Eq.symm (h (by simp)); clear h
      intro _ _
      intro _ _
      intro u23 h; have g23 := h (by simp); clear h; replace g23 := show (svRd (hdL x ++ payL x)).pred u23 wx from g23
      refine relyEnd_nil rfl ?_
      simp only [Act.put, List.setIfInBounds_toArray, List.set_cons_zero, List.set_cons_succ]
      refine opr_move (.inr rfl) ?_
      go_simp
      go_wp2
      go_ret
      exact ⟨_, rfl, NewT.trans _ _ _ HN.out hT, g23⟩
  · rw [hg] at c14
    have HP2 := Lib.hid (HP.out true hg)
    go_upto_region 2 with fail
    clear c14
    refine wp_region_rely NewT [SV.eq (.agg (rowA 109 (recF x sv dv))), svRd (hdL x), svRd ([fB true]), SV.eq (.pointer (some ⟨w.heap.size, 77, none⟩)), SV.eq (.agg (rowA 32 (bF (x.com)))), svRd (hL x.com), svParts [hdL x, [fB true], hL x.com], svRd (hdL x ++ payL x)] [([(1, none)], none), ([(5, some 0)], none), ([], none), ([(1, none)], none), ([(8, some 3)], none), ([(9, some 4)], none), ([(6, some 1), (7, some 2), (10, some 5)], none), ([(11, some 6)], none)] 24 rfl (by kernel_rfl) rfl (by kernel_rfl) (by kernel_rfl) rfl NewT.trans (NewT.drew _) (Nat.le_of_ble_eq_true rfl) ⟨?_, ?_, ?_, ?_, ?_, ?_, ?_, ?_, trivial⟩ ?_
    · intro a wx hT hF K hK
      obtain ⟨f1, _⟩ := hF
      have f1 : a.tmps.getD 1 undef = .pointer (some ⟨w.heap.size, 0, none⟩) := f1
      refine rely_wp rfl ?_
      exact opr_ldR (hT.row R1.out) rfl f1 (hK _ _ (NewT.refl _) rfl)
    · intro a wx hT hF K hK
      obtain ⟨f5, _⟩ := hF
      have f5 : a.tmps.getD 5 undef = .agg (rowA 109 (recF x sv dv)) := f5
      refine rely_wp rfl ?_
      exact opr_cv (putHead_cv _ x wx (hT.recV HX.out) hst) rfl Tryd.func75 (by kernel_rfl) (by kernel_rfl) (by simp only [List.map_toArray, List.map_cons, List.map_nil, eval_tmp, f5]) hK
    · intro a wx hT hF K hK
      refine rely_wp rfl ?_
      exact opr_cv (Flag_rd true _ wx rfl) rfl Tryd.func77 (by kernel_rfl) (by kernel_rfl) (by simp only [List.map_toArray, List.map_cons, List.map_nil, eval_const]) hK
    · intro a wx hT hF K hK
      obtain ⟨f1, _⟩ := hF
      have f1 : a.tmps.getD 1 undef = .pointer (some ⟨w.heap.size, 0, none⟩) := f1
      refine rely_wp rfl ?_
      exact opr_fldR (by decide) rfl f1 (hK _ _ (NewT.refl _) rfl)
    · intro a wx hT hF K hK
      obtain ⟨f8, _⟩ := hF
      have f8 : a.tmps.getD 8 undef = .pointer (some ⟨w.heap.size, 77, none⟩) := f8
      refine rely_wp rfl ?_
      exact opr_ldH (hT.row R1.out) (by decide) (recF_com x _ _) rfl f8 (hK _ _ (NewT.refl _) rfl)
    · intro a wx hT hF K hK
      obtain ⟨f9, _⟩ := hF
      have f9 : a.tmps.getD 9 undef = .agg (rowA 32 (bF (x.com))) := f9
      refine rely_wp rfl ?_
      exact opr_cv (WHash_rd x.com wx) rfl Tryd.func76 (by kernel_rfl) (by kernel_rfl) (by simp only [List.map_toArray, List.map_cons, List.map_nil, eval_tmp, f9]) hK
    · intro a wx hT hF K hK
      obtain ⟨f6, f7, f10, _⟩ := hF
      replace f6 := show (svRd (hdL x)).pred (a.tmps.getD 6 undef) wx from f6
      replace f7 := show (svRd ([fB true])).pred (a.tmps.getD 7 undef) wx from f7
      replace f10 := show (svRd (hL x.com)).pred (a.tmps.getD 10 undef) wx from f10
      refine rely_wp rfl ?_
      exact opr_bs3 rfl f6 f7 f10 hK
    · intro a wx hT hF K hK
      obtain ⟨f11, _⟩ := hF
      replace f11 := show (svParts [hdL x, [fB true], hL x.com]).pred (a.tmps.getD 11 undef) wx from f11
      refine rely_wp rfl ?_
      exact opr_cv (All_rd _ _ (hdL x ++ payL x) wx f11 (by rw [HP2.out]; simp) (by rw [HP2.out]; simp [hL_length]; omega)) rfl Tryd.func25 (by kernel_rfl) (by kernel_rfl) (by simp only [List.map_toArray, List.map_cons, List.map_nil, eval_tmp]) hK
    · intro wx hT
      intro u h; obtain rfl := Eq.symm (h (by simp)); clear h
      intro _ _
      intro _ _
      intro u h; obtain rfl := Eq.symm (h (by simp)); clear h
      intro u h; obtain rfl := Eq.symm (h (by simp)); clear h
      intro _ _
      intro _ _
      intro u12 h; have g12 := h (by simp); clear h; replace g12 := show (svRd (hdL x ++ payL x)).pred u12 wx from g12
      refine relyEnd_nil rfl ?_
      simp only [Act.put, List.setIfInBounds_toArray, List.set_cons_zero, List.set_cons_succ]
      refine opr_move (.inr rfl) ?_
      go_simp
      go_wp2
      go_ret
      exact ⟨_, rfl, NewT.trans _ _ _ HN.out hT, g12⟩
theorem bform_1 (w : World) : (Instr.build 56 #[(0, fnV 55), (1, fnV 56), (2, fnV 57)]).run Tryd.prog w = .ok (.agg (rowA 3 fun j => formF (3 + j))) w := by kernel_rfl
theorem bform_2 (w : World) : (Instr.build 56 #[(0, fnV 58), (1, fnV 58), (2, fnV 59)]).run Tryd.prog w = .ok (.agg (rowA 3 fun j => formF (6 + j))) w := by kernel_rfl
theorem bform_3 (w : World) : (Instr.build 56 #[(0, fnV 60), (1, fnV 60), (2, fnV 61)]).run Tryd.prog w = .ok (.agg (rowA 3 fun j => formF (9 + j))) w := by kernel_rfl
theorem bform_4 (w : World) : (Instr.build 56 #[(0, fnV 58), (1, fnV 58), (2, fnV 59)]).run Tryd.prog w = .ok (.agg (rowA 3 fun j => formF (12 + j))) w := by kernel_rfl
theorem bform_5 (w : World) : (Instr.build 56 #[(0, fnV 62), (1, fnV 62), (2, fnV 63)]).run Tryd.prog w = .ok (.agg (rowA 3 fun j => formF (15 + j))) w := by kernel_rfl
theorem bform_6 (w : World) : (Instr.build 56 #[(0, fnV 64), (1, fnV 64), (2, fnV 65)]).run Tryd.prog w = .ok (.agg (rowA 3 fun j => formF (18 + j))) w := by kernel_rfl
theorem bforms (w : World) : (Instr.build 57 #[(1, .agg (rowA 3 fun j => formF (3 + j))), (2, .agg (rowA 3 fun j => formF (6 + j))), (3, .agg (rowA 3 fun j => formF (9 + j))), (4, .agg (rowA 3 fun j => formF (12 + j))), (5, .agg (rowA 3 fun j => formF (15 + j))), (6, .agg (rowA 3 fun j => formF (18 + j)))]).run Tryd.prog w = .ok (.agg (rowA 21 formF)) w := by kernel_rfl
theorem run_alloc_forms (w : World) : (Instr.alloc 57 true (.tuple #[])).run Tryd.prog w = .ok (.pointer (some ⟨w.heap.size, 0, none⟩)) (w.alloc (.cells (rowA 21 fun _ => .nilFunc) 57)) := by kernel_rfl
theorem put_all21 (F G : Nat → Value) : ∀ i, i < 21 → F i = if 0 ≤ i ∧ i < 0 + 21 then F (i - 0) else G i := fun i hi => by
  rw [if_pos (by omega), Nat.sub_zero]
set_option maxHeartbeats 1000000 in
theorem forms_cv (w : World) : Cv 39 #[] w (.eq (.agg (rowA 21 formF))) := by
  unfold Cv
  have hal := run_alloc_forms
  go_enter Tryd.func39, Tryd.ntmps39
  go_upto_region 1 with fail
  have r1 := rowIs_box w 57 21 (fun _ => .nilFunc)
  have hN := NewT.alloc w (.cells (rowA 21 fun _ => .nilFunc) 57)
  change Code.wp _ _ _ _ (w.alloc (.cells (rowA 21 fun _ => .nilFunc) 57))
  generalize w.alloc (.cells (rowA 21 fun _ => .nilFunc) 57) = W0 at r1 hN ⊢
  clear hal
  refine wp_region_steps0 NewT [SV.eq (.agg (rowA 3 (fun j => formF (3 + j)))), SV.eq (.agg (rowA 3 (fun j => formF (6 + j)))), SV.eq (.agg (rowA 3 (fun j => formF (9 + j)))), SV.eq (.agg (rowA 3 (fun j => formF (12 + j)))), SV.eq (.agg (rowA 3 (fun j => formF (15 + j)))), SV.eq (.agg (rowA 3 (fun j => formF (18 + j)))), SV.eq (.agg (rowA 21 (formF)))] [([], none), ([], none), ([], none), ([], none), ([], none), ([], none), ([(1, some 0), (2, some 1), (3, some 2), (4, some 3), (5, some 4), (6, some 5)], none)] 8 7 rfl rfl (by kernel_rfl) NewT.trans (NewT.refl _) (Nat.le_of_ble_eq_true rfl) ⟨?_, ?_, ?_, ?_, ?_, ?_, ?_, trivial⟩ ?_
  · intro a wx hT hF K hK
    refine rely_wp rfl ?_
    exact opr_build (pv := #[(0, fnV 55), (1, fnV 56), (2, fnV 57)]) rfl (by simp only [List.map_toArray, List.map_cons, List.map_nil, eval_func]; rfl) (bform_1 wx) (hK _ _ (NewT.refl _) rfl)
  · intro a wx hT hF K hK
    refine rely_wp rfl ?_
    exact opr_build (pv := #[(0, fnV 58), (1, fnV 58), (2, fnV 59)]) rfl (by simp only [List.map_toArray, List.map_cons, List.map_nil, eval_func]; rfl) (bform_2 wx) (hK _ _ (NewT.refl _) rfl)
  · intro a wx hT hF K hK
    refine rely_wp rfl ?_
    exact opr_build (pv := #[(0, fnV 60), (1, fnV 60), (2, fnV 61)]) rfl (by simp only [List.map_toArray, List.map_cons, List.map_nil, eval_func]; rfl) (bform_3 wx) (hK _ _ (NewT.refl _) rfl)
  · intro a wx hT hF K hK
    refine rely_wp rfl ?_
    exact opr_build (pv := #[(0, fnV 58), (1, fnV 58), (2, fnV 59)]) rfl (by simp only [List.map_toArray, List.map_cons, List.map_nil, eval_func]; rfl) (bform_4 wx) (hK _ _ (NewT.refl _) rfl)
  · intro a wx hT hF K hK
    refine rely_wp rfl ?_
    exact opr_build (pv := #[(0, fnV 62), (1, fnV 62), (2, fnV 63)]) rfl (by simp only [List.map_toArray, List.map_cons, List.map_nil, eval_func]; rfl) (bform_5 wx) (hK _ _ (NewT.refl _) rfl)
  · intro a wx hT hF K hK
    refine rely_wp rfl ?_
    exact opr_build (pv := #[(0, fnV 64), (1, fnV 64), (2, fnV 65)]) rfl (by simp only [List.map_toArray, List.map_cons, List.map_nil, eval_func]; rfl) (bform_6 wx) (hK _ _ (NewT.refl _) rfl)
  · intro a wx hT hF K hK
    obtain ⟨f1, f2, f3, f4, f5, f6, _⟩ := hF
    have f1 : a.tmps.getD 1 undef = .agg (rowA 3 (fun j => formF (3 + j))) := f1
    have f2 : a.tmps.getD 2 undef = .agg (rowA 3 (fun j => formF (6 + j))) := f2
    have f3 : a.tmps.getD 3 undef = .agg (rowA 3 (fun j => formF (9 + j))) := f3
    have f4 : a.tmps.getD 4 undef = .agg (rowA 3 (fun j => formF (12 + j))) := f4
    have f5 : a.tmps.getD 5 undef = .agg (rowA 3 (fun j => formF (15 + j))) := f5
    have f6 : a.tmps.getD 6 undef = .agg (rowA 3 (fun j => formF (18 + j))) := f6
    refine rely_wp rfl ?_
    exact opr_build rfl (by simp only [List.map_toArray, List.map_cons, List.map_nil, eval_tmp, f1, f2, f3, f4, f5, f6]) (bforms wx) (hK _ _ (NewT.refl _) rfl)
  · intro wx hT
    intro u h; obtain rfl := Eq.symm (h (by simp)); clear h
    intro u h; obtain rfl := Eq.symm (h (by simp)); clear h
    intro u h; obtain rfl := Eq.symm (h (by simp)); clear h
    intro u h; obtain rfl := Eq.symm (h (by simp)); clear h
    intro u h; obtain rfl := Eq.symm (h (by simp)); clear h
    intro u h; obtain rfl := Eq.symm (h (by simp)); clear h
    intro u h; obtain rfl := Eq.symm (h (by simp)); clear h
    refine relyEnd_nil rfl ?_
    simp only [Act.put, List.setIfInBounds_toArray, List.set_cons_zero, List.set_cons_succ]
    refine wpList_plain rfl (fun K hK => ?_)
    refine opr_putm rfl rfl rfl (hT.row r1) (by decide) info_forms formF_one (put_all21 _ _) ?_
    intro wq hTq rq
    refine hK _ _ ?_
    refine wpList_end rfl ?_
    go_simp
    go_wp2
    exact bodyPost_ret (results_agg rfl _ rfl rq Tryd.underlying57 rfl info_forms) rfl ⟨_, rfl, (NewT.trans _ _ _ hN hT).rt hTq (Nat.le_refl _), rfl⟩
set_option maxHeartbeats 4000000 in
theorem Sealed_cv (v : Value) (x : Rc) (w : World) (h : RecV w v x) (hT : Tables w) : Cv 20 #[v] w (svRd (sealedB x)) := by
  obtain ⟨sv, dv, rfl, hs, hd⟩ := h
  unfold Cv
  have HX : Hid (RecV w (.agg (rowA 109 (recF x sv dv))) x) := Lib.hid ⟨sv, dv, rfl, hs, hd⟩
  have HS := Lib.hid hs
  have HD := Lib.hid hd
  clear hs hd
  have HT := Lib.hid hT
  clear hT
  go_enter Tryd.func20, Tryd.ntmps20
  go_upto_region 1 with fail
  have r1 := rowIs_box w 27 109 (recF x sv dv)
  have hN := NewT.alloc w (.cells (rowA 109 (recF x sv dv)) 27)
  change Code.wp _ _ _ _ (w.alloc (.cells (rowA 109 (recF x sv dv)) 27))
  generalize w.alloc (.cells (rowA 109 (recF x sv dv)) 27) = W0 at r1 hN ⊢
  have R1 := Lib.hid r1
  have HN := Lib.hid hN
  replace HX := Lib.hid (hN.recV HX.out)
  replace HS := Lib.hid (hN.pairs HS.out)
  replace HD := Lib.hid (hN.rd HD.out)
  clear r1 hN
  replace HT := Lib.hid (HN.out.tables HT.out)
  refine wp_region_steps0 NewT [SV.eq (.agg (rowA 109 (recF x sv dv))), SV.eq (.bool (rightB x)), SV.eq (.bool (!(rightB x)))] [([(1, none)], none), ([(3, some 0)], none), ([(4, some 1)], none)] 18 3 rfl rfl (by kernel_rfl) NewT.trans (NewT.refl _) (Nat.le_of_ble_eq_true rfl) ⟨?_, ?_, ?_, trivial⟩ ?_
  · intro a wx hT hF K hK
    obtain ⟨f1, _⟩ := hF
    have f1 : a.tmps.getD 1 undef = .pointer (some ⟨w.heap.size, 0, none⟩) := f1
    refine rely_wp rfl ?_
    exact opr_ldR (hT.row R1.out) rfl f1 (hK _ _ (NewT.refl _) rfl)
  · intro a wx hT hF K hK
    obtain ⟨f3, _⟩ := hF
    have f3 : a.tmps.getD 3 undef = .agg (rowA 109 (recF x sv dv)) := f3
    refine rely_wp rfl ?_
    exact opr_cv (Right_cv _ x wx (hT.recV HX.out)) rfl Tryd.func11 (by kernel_rfl) (by kernel_rfl) (by simp only [List.map_toArray, List.map_cons, List.map_nil, eval_tmp, f3]) hK
  · intro a wx hT hF K hK
    obtain ⟨f4, _⟩ := hF
    have f4 : a.tmps.getD 4 undef = .bool (rightB x) := f4
    refine rely_wp rfl ?_
    exact opr_not rfl f4 (hK _ _ (NewT.refl _) rfl)
  · intro w1 h1
    intro u h; obtain rfl := Eq.symm (h (by simp)); clear h
    intro u h; obtain rfl := Eq.symm (h (by simp)); clear h
    intro u h; obtain rfl := Eq.symm (h (by simp)); clear h
    refine relyEnd_nil rfl ?_
    refine wpList_end rfl ?_
    simp only [Act.put, List.setIfInBounds_toArray, List.set_cons_zero, List.set_cons_succ]
    go_simp
    have HN1 := Lib.hid (NewT.trans _ _ _ HN.out h1)
    replace R1 := Lib.hid (h1.row R1.out)
    replace HX := Lib.hid (h1.recV HX.out)
    replace HS := Lib.hid (h1.pairs HS.out)
    replace HD := Lib.hid (h1.rd HD.out)
    replace HT := Lib.hid (h1.tables HT.out)
    clear h1 HN
    cases hr : rightB x
    · have HL : Hid (sealedB x = []) := Lib.hid (by unfold sealedB; rw [hr, if_neg (by simp)])
      go_wp2
      go_ret
      exact ⟨_, rfl, HN1.out, by rw [HL.out]; exact rdV_nil _ _⟩
    have hd60 := right_data x hr
    have hs6 := right_steps x hr
    have hk6 := right_kind x hr
    have hnk := numI_length x.kind
    by_cases hk : x.kind = 1
    · have HE := Lib.hid (sealed_1 x hr hk)
      have hlen : (hdL x ++ hL (comC x)).length ≤ 900000 := by have := hdL_len x (by omega); simp [hL_length]; omega
      go_upto_region 3 with fail
      refine wp_region_rely NewT [SV.eq (.pointer (some ⟨w.heap.size, 0, none⟩)), SV.eq (.int .i64 (x.kind)), svRd (numI x.kind), SV.eq (.agg (rowA 21 (formF))), SV.eq (.pointer (some ⟨w.heap.size, 0, none⟩)), SV.eq (.int .i64 (x.kind)), SV.eq (.agg (rowA 3 (fun j => formF (3 + j)))), SV.eq (fnV 55), SV.eq (.agg (rowA 109 (recF x sv dv))), svRd (hdL x ++ hL (comC x)), svParts [numI x.kind, hdL x ++ hL (comC x)], svRd (sealedB x)] [([(1, none)], none), ([(6, some 0)], none), ([(7, some 1)], none), ([], none), ([(1, none)], none), ([(10, some 4)], none), ([(9, some 3), (11, some 5)], none), ([(12, some 6)], none), ([(1, none)], none), ([(13, some 7), (14, some 8)], none), ([(8, some 2), (15, some 9)], none), ([(16, some 10)], none)] 18 rfl (by kernel_rfl) rfl (by kernel_rfl) (by kernel_rfl) rfl NewT.trans (NewT.drew _) (Nat.le_of_ble_eq_true rfl) ⟨?_, ?_, ?_, ?_, ?_, ?_, ?_, ?_, ?_, ?_, ?_, ?_, trivial⟩ ?_
      · intro a wx hT hF K hK
        obtain ⟨f1, _⟩ := hF
        have f1 : a.tmps.getD 1 undef = .pointer (some ⟨w.heap.size, 0, none⟩) := f1
        refine rely_wp rfl ?_
        exact opr_fldR (by decide) rfl f1 (hK _ _ (NewT.refl _) rfl)
      · intro a wx hT hF K hK
        obtain ⟨f6, _⟩ := hF
        have f6 : a.tmps.getD 6 undef = .pointer (some ⟨w.heap.size, 0, none⟩) := f6
        refine rely_wp rfl ?_
        exact opr_ldI (hT.row R1.out) (by decide) rfl rfl f6 (hK _ _ (NewT.refl _) rfl)
      · intro a wx hT hF K hK
        obtain ⟨f7, _⟩ := hF
        have f7 : a.tmps.getD 7 undef = .int .i64 (x.kind) := f7
        refine rely_wp rfl ?_
        exact opr_cv (Num_rd x.kind _ wx rfl) rfl Tryd.func38 (by kernel_rfl) (by kernel_rfl) (by simp only [List.map_toArray, List.map_cons, List.map_nil, eval_tmp, f7]) hK
      · intro a wx hT hF K hK
        refine rely_wp rfl ?_
        exact opr_cv (forms_cv wx) rfl Tryd.func39 (by kernel_rfl) (by kernel_rfl) (by simp only [List.map_toArray, List.map_nil]) hK
      · intro a wx hT hF K hK
        obtain ⟨f1, _⟩ := hF
        have f1 : a.tmps.getD 1 undef = .pointer (some ⟨w.heap.size, 0, none⟩) := f1
        refine rely_wp rfl ?_
        exact opr_fldR (by decide) rfl f1 (hK _ _ (NewT.refl _) rfl)
      · intro a wx hT hF K hK
        obtain ⟨f10, _⟩ := hF
        have f10 : a.tmps.getD 10 undef = .pointer (some ⟨w.heap.size, 0, none⟩) := f10
        refine rely_wp rfl ?_
        exact opr_ldI (hT.row R1.out) (by decide) rfl rfl f10 (hK _ _ (NewT.refl _) rfl)
      · intro a wx hT hF K hK
        obtain ⟨f9, f11, _⟩ := hF
        have f9 : a.tmps.getD 9 undef = .agg (rowA 21 (formF)) := f9
        have f11 : a.tmps.getD 11 undef = .int .i64 (x.kind) := f11
        refine rely_wp rfl ?_
        exact opr_idx rfl f9 (f11.trans (by rw [hk])) (idx_1 wx) (hK _ _ (NewT.refl _) rfl)
      · intro a wx hT hF K hK
        obtain ⟨f12, _⟩ := hF
        have f12 : a.tmps.getD 12 undef = .agg (rowA 3 (fun j => formF (3 + j))) := f12
        refine rely_wp rfl ?_
        exact opr_fieldv rfl f12 (fldv_0 _ _ rfl wx) (hK _ _ (NewT.refl _) rfl)
      · intro a wx hT hF K hK
        obtain ⟨f1, _⟩ := hF
        have f1 : a.tmps.getD 1 undef = .pointer (some ⟨w.heap.size, 0, none⟩) := f1
        refine rely_wp rfl ?_
        exact opr_ldR (hT.row R1.out) rfl f1 (hK _ _ (NewT.refl _) rfl)
      · intro a wx hT hF K hK
        obtain ⟨f13, f14, _⟩ := hF
        have f13 : a.tmps.getD 13 undef = fnV 55 := f13
        have f14 : a.tmps.getD 14 undef = .agg (rowA 109 (recF x sv dv)) := f14
        refine rely_wp rfl ?_
        refine opr_callv rfl f13 Tryd.func55 (by kernel_rfl) (by kernel_rfl) (by simp only [List.map_toArray, List.map_cons, List.map_nil, eval_tmp, f14]; rfl) (Calls.mono (sealedBegin_cv _ x wx (hT.recV HX.out) (hT.tables HT.out) (by omega) (by omega)) ?_)
        rintro e w' ⟨v, he, hN, hv⟩
        exact ⟨v, he, hK v w' hN hv⟩
      · intro a wx hT hF K hK
        obtain ⟨f8, f15, _⟩ := hF
        replace f8 := show (svRd (numI x.kind)).pred (a.tmps.getD 8 undef) wx from f8
        replace f15 := show (svRd (hdL x ++ hL (comC x))).pred (a.tmps.getD 15 undef) wx from f15
        refine rely_wp rfl ?_
        exact opr_bs2 rfl f8 f15 hK
      · intro a wx hT hF K hK
        obtain ⟨f16, _⟩ := hF
        replace f16 := show (svParts [numI x.kind, hdL x ++ hL (comC x)]).pred (a.tmps.getD 16 undef) wx from f16
        refine rely_wp rfl ?_
        exact opr_cv (All_rd _ _ (sealedB x) wx f16 (by rw [← HE.out]; simp) (by rw [← HE.out, List.length_append]; have := hlen; omega)) rfl Tryd.func25 (by kernel_rfl) (by kernel_rfl) (by simp only [List.map_toArray, List.map_cons, List.map_nil, eval_tmp]) hK
      · intro wx hT
        intro u h; obtain rfl := Eq.symm (h (by simp)); clear h
        intro u h; obtain rfl := Eq.symm (h (by simp)); clear h
        intro _ _
        intro u h; obtain rfl := Eq.symm (h (by simp)); clear h
        intro u h; obtain rfl := Eq.symm (h (by simp)); clear h
        intro u h; obtain rfl := Eq.symm (h (by simp)); clear h
        intro u h; obtain rfl := Eq.symm (h (by simp)); clear h
        intro u h; obtain rfl := Eq.symm (h (by simp)); clear h
        intro u h; obtain rfl := Eq.symm (h (by simp)); clear h
        intro _ _
        intro _ _
        intro u17 h; have g17 := h (by simp); clear h; replace g17 := show (svRd (sealedB x)).pred u17 wx from g17
        refine relyEnd_nil rfl ?_
        simp only [Act.put, List.setIfInBounds_toArray, List.set_cons_zero, List.set_cons_succ]
        refine opr_move (.inr rfl) ?_
        go_simp
        go_wp2
        go_ret
        exact ⟨_, rfl, NewT.trans _ _ _ HN1.out hT, g17⟩
    have k1 := hk
    clear hk
    by_cases hk : x.kind = 2
    · have HE := Lib.hid (sealed_o x _ hr (fun c => tail_2 x c (.inl hk)))
      have hlen : (callL x).length ≤ 900000 := by have := callL_len x; omega
      go_upto_region 3 with fail
      refine wp_region_rely NewT [SV.eq (.pointer (some ⟨w.heap.size, 0, none⟩)), SV.eq (.int .i64 (x.kind)), svRd (numI x.kind), SV.eq (.agg (rowA 21 (formF))), SV.eq (.pointer (some ⟨w.heap.size, 0, none⟩)), SV.eq (.int .i64 (x.kind)), SV.eq (.agg (rowA 3 (fun j => formF (6 + j)))), SV.eq (fnV 58), SV.eq (.agg (rowA 109 (recF x sv dv))), svRd (callL x), svParts [numI x.kind, callL x], svRd (sealedB x)] [([(1, none)], none), ([(6, some 0)], none), ([(7, some 1)], none), ([], none), ([(1, none)], none), ([(10, some 4)], none), ([(9, some 3), (11, some 5)], none), ([(12, some 6)], none), ([(1, none)], none), ([(13, some 7), (14, some 8)], none), ([(8, some 2), (15, some 9)], none), ([(16, some 10)], none)] 18 rfl (by kernel_rfl) rfl (by kernel_rfl) (by kernel_rfl) rfl NewT.trans (NewT.drew _) (Nat.le_of_ble_eq_true rfl) ⟨?_, ?_, ?_, ?_, ?_, ?_, ?_, ?_, ?_, ?_, ?_, ?_, trivial⟩ ?_
      · intro a wx hT hF K hK
        obtain ⟨f1, _⟩ := hF
        have f1 : a.tmps.getD 1 undef = .pointer (some ⟨w.heap.size, 0, none⟩) := f1
        refine rely_wp rfl ?_
        exact opr_fldR (by decide) rfl f1 (hK _ _ (NewT.refl _) rfl)
      · intro a wx hT hF K hK
        obtain ⟨f6, _⟩ := hF
        have f6 : a.tmps.getD 6 undef = .pointer (some ⟨w.heap.size, 0, none⟩) := f6
        refine rely_wp rfl ?_
        exact opr_ldI (hT.row R1.out) (by decide) rfl rfl f6 (hK _ _ (NewT.refl _) rfl)
      · intro a wx hT hF K hK
        obtain ⟨f7, _⟩ := hF
        have f7 : a.tmps.getD 7 undef = .int .i64 (x.kind) := f7
        refine rely_wp rfl ?_
        exact opr_cv (Num_rd x.kind _ wx rfl) rfl Tryd.func38 (by kernel_rfl) (by kernel_rfl) (by simp only [List.map_toArray, List.map_cons, List.map_nil, eval_tmp, f7]) hK
      · intro a wx hT hF K hK
        refine rely_wp rfl ?_
        exact opr_cv (forms_cv wx) rfl Tryd.func39 (by kernel_rfl) (by kernel_rfl) (by simp only [List.map_toArray, List.map_nil]) hK
      · intro a wx hT hF K hK
        obtain ⟨f1, _⟩ := hF
        have f1 : a.tmps.getD 1 undef = .pointer (some ⟨w.heap.size, 0, none⟩) := f1
        refine rely_wp rfl ?_
        exact opr_fldR (by decide) rfl f1 (hK _ _ (NewT.refl _) rfl)
      · intro a wx hT hF K hK
        obtain ⟨f10, _⟩ := hF
        have f10 : a.tmps.getD 10 undef = .pointer (some ⟨w.heap.size, 0, none⟩) := f10
        refine rely_wp rfl ?_
        exact opr_ldI (hT.row R1.out) (by decide) rfl rfl f10 (hK _ _ (NewT.refl _) rfl)
      · intro a wx hT hF K hK
        obtain ⟨f9, f11, _⟩ := hF
        have f9 : a.tmps.getD 9 undef = .agg (rowA 21 (formF)) := f9
        have f11 : a.tmps.getD 11 undef = .int .i64 (x.kind) := f11
        refine rely_wp rfl ?_
        exact opr_idx rfl f9 (f11.trans (by rw [hk])) (idx_2 wx) (hK _ _ (NewT.refl _) rfl)
      · intro a wx hT hF K hK
        obtain ⟨f12, _⟩ := hF
        have f12 : a.tmps.getD 12 undef = .agg (rowA 3 (fun j => formF (6 + j))) := f12
        refine rely_wp rfl ?_
        exact opr_fieldv rfl f12 (fldv_0 _ _ rfl wx) (hK _ _ (NewT.refl _) rfl)
      · intro a wx hT hF K hK
        obtain ⟨f1, _⟩ := hF
        have f1 : a.tmps.getD 1 undef = .pointer (some ⟨w.heap.size, 0, none⟩) := f1
        refine rely_wp rfl ?_
        exact opr_ldR (hT.row R1.out) rfl f1 (hK _ _ (NewT.refl _) rfl)
      · intro a wx hT hF K hK
        obtain ⟨f13, f14, _⟩ := hF
        have f13 : a.tmps.getD 13 undef = fnV 58 := f13
        have f14 : a.tmps.getD 14 undef = .agg (rowA 109 (recF x sv dv)) := f14
        refine rely_wp rfl ?_
        refine opr_callv rfl f13 Tryd.func58 (by kernel_rfl) (by kernel_rfl) (by simp only [List.map_toArray, List.map_cons, List.map_nil, eval_tmp, f14]; rfl) (Calls.mono (putTry_cv _ x wx (hT.recV HX.out)) ?_)
        rintro e w' ⟨v, he, hN, hv⟩
        exact ⟨v, he, hK v w' hN hv⟩
      · intro a wx hT hF K hK
        obtain ⟨f8, f15, _⟩ := hF
        replace f8 := show (svRd (numI x.kind)).pred (a.tmps.getD 8 undef) wx from f8
        replace f15 := show (svRd (callL x)).pred (a.tmps.getD 15 undef) wx from f15
        refine rely_wp rfl ?_
        exact opr_bs2 rfl f8 f15 hK
      · intro a wx hT hF K hK
        obtain ⟨f16, _⟩ := hF
        replace f16 := show (svParts [numI x.kind, callL x]).pred (a.tmps.getD 16 undef) wx from f16
        refine rely_wp rfl ?_
        exact opr_cv (All_rd _ _ (sealedB x) wx f16 (by rw [← HE.out]; simp) (by rw [← HE.out, List.length_append]; have := hlen; omega)) rfl Tryd.func25 (by kernel_rfl) (by kernel_rfl) (by simp only [List.map_toArray, List.map_cons, List.map_nil, eval_tmp]) hK
      · intro wx hT
        intro u h; obtain rfl := Eq.symm (h (by simp)); clear h
        intro u h; obtain rfl := Eq.symm (h (by simp)); clear h
        intro _ _
        intro u h; obtain rfl := Eq.symm (h (by simp)); clear h
        intro u h; obtain rfl := Eq.symm (h (by simp)); clear h
        intro u h; obtain rfl := Eq.symm (h (by simp)); clear h
        intro u h; obtain rfl := Eq.symm (h (by simp)); clear h
        intro u h; obtain rfl := Eq.symm (h (by simp)); clear h
        intro u h; obtain rfl := Eq.symm (h (by simp)); clear h
        intro _ _
        intro _ _
        intro u17 h; have g17 := h (by simp); clear h; replace g17 := show (svRd (sealedB x)).pred u17 wx from g17
        refine relyEnd_nil rfl ?_
        simp only [Act.put, List.setIfInBounds_toArray, List.set_cons_zero, List.set_cons_succ]
        refine opr_move (.inr rfl) ?_
        go_simp
        go_wp2
        go_ret
        exact ⟨_, rfl, NewT.trans _ _ _ HN1.out hT, g17⟩
    have k2 := hk
    clear hk
    by_cases hk : x.kind = 3
    · have HE := Lib.hid (sealed_o x _ hr (fun c => tail_3 x c hk))
      have hlen : (rcL x).length ≤ 900000 := by have := rcL_len x; omega
      go_upto_region 3 with fail
      refine wp_region_rely NewT [SV.eq (.pointer (some ⟨w.heap.size, 0, none⟩)), SV.eq (.int .i64 (x.kind)), svRd (numI x.kind), SV.eq (.agg (rowA 21 (formF))), SV.eq (.pointer (some ⟨w.heap.size, 0, none⟩)), SV.eq (.int .i64 (x.kind)), SV.eq (.agg (rowA 3 (fun j => formF (9 + j)))), SV.eq (fnV 60), SV.eq (.agg (rowA 109 (recF x sv dv))), svRd (rcL x), svParts [numI x.kind, rcL x], svRd (sealedB x)] [([(1, none)], none), ([(6, some 0)], none), ([(7, some 1)], none), ([], none), ([(1, none)], none), ([(10, some 4)], none), ([(9, some 3), (11, some 5)], none), ([(12, some 6)], none), ([(1, none)], none), ([(13, some 7), (14, some 8)], none), ([(8, some 2), (15, some 9)], none), ([(16, some 10)], none)] 18 rfl (by kernel_rfl) rfl (by kernel_rfl) (by kernel_rfl) rfl NewT.trans (NewT.drew _) (Nat.le_of_ble_eq_true rfl) ⟨?_, ?_, ?_, ?_, ?_, ?_, ?_, ?_, ?_, ?_, ?_, ?_, trivial⟩ ?_
      · intro a wx hT hF K hK
        obtain ⟨f1, _⟩ := hF
        have f1 : a.tmps.getD 1 undef = .pointer (some ⟨w.heap.size, 0, none⟩) := f1
        refine rely_wp rfl ?_
        exact opr_fldR (by decide) rfl f1 (hK _ _ (NewT.refl _) rfl)
      · intro a wx hT hF K hK
        obtain ⟨f6, _⟩ := hF
        have f6 : a.tmps.getD 6 undef = .pointer (some ⟨w.heap.size, 0, none⟩) := f6
        refine rely_wp rfl ?_
        exact opr_ldI (hT.row R1.out) (by decide) rfl rfl f6 (hK _ _ (NewT.refl _) rfl)
      · intro a wx hT hF K hK
        obtain ⟨f7, _⟩ := hF
        have f7 : a.tmps.getD 7 undef = .int .i64 (x.kind) := f7
        refine rely_wp rfl ?_
        exact opr_cv (Num_rd x.kind _ wx rfl) rfl Tryd.func38 (by kernel_rfl) (by kernel_rfl) (by simp only [List.map_toArray, List.map_cons, List.map_nil, eval_tmp, f7]) hK
      · intro a wx hT hF K hK
        refine rely_wp rfl ?_
        exact opr_cv (forms_cv wx) rfl Tryd.func39 (by kernel_rfl) (by kernel_rfl) (by simp only [List.map_toArray, List.map_nil]) hK
      · intro a wx hT hF K hK
        obtain ⟨f1, _⟩ := hF
        have f1 : a.tmps.getD 1 undef = .pointer (some ⟨w.heap.size, 0, none⟩) := f1
        refine rely_wp rfl ?_
        exact opr_fldR (by decide) rfl f1 (hK _ _ (NewT.refl _) rfl)
      · intro a wx hT hF K hK
        obtain ⟨f10, _⟩ := hF
        have f10 : a.tmps.getD 10 undef = .pointer (some ⟨w.heap.size, 0, none⟩) := f10
        refine rely_wp rfl ?_
        exact opr_ldI (hT.row R1.out) (by decide) rfl rfl f10 (hK _ _ (NewT.refl _) rfl)
      · intro a wx hT hF K hK
        obtain ⟨f9, f11, _⟩ := hF
        have f9 : a.tmps.getD 9 undef = .agg (rowA 21 (formF)) := f9
        have f11 : a.tmps.getD 11 undef = .int .i64 (x.kind) := f11
        refine rely_wp rfl ?_
        exact opr_idx rfl f9 (f11.trans (by rw [hk])) (idx_3 wx) (hK _ _ (NewT.refl _) rfl)
      · intro a wx hT hF K hK
        obtain ⟨f12, _⟩ := hF
        have f12 : a.tmps.getD 12 undef = .agg (rowA 3 (fun j => formF (9 + j))) := f12
        refine rely_wp rfl ?_
        exact opr_fieldv rfl f12 (fldv_0 _ _ rfl wx) (hK _ _ (NewT.refl _) rfl)
      · intro a wx hT hF K hK
        obtain ⟨f1, _⟩ := hF
        have f1 : a.tmps.getD 1 undef = .pointer (some ⟨w.heap.size, 0, none⟩) := f1
        refine rely_wp rfl ?_
        exact opr_ldR (hT.row R1.out) rfl f1 (hK _ _ (NewT.refl _) rfl)
      · intro a wx hT hF K hK
        obtain ⟨f13, f14, _⟩ := hF
        have f13 : a.tmps.getD 13 undef = fnV 60 := f13
        have f14 : a.tmps.getD 14 undef = .agg (rowA 109 (recF x sv dv)) := f14
        refine rely_wp rfl ?_
        refine opr_callv rfl f13 Tryd.func60 (by kernel_rfl) (by kernel_rfl) (by simp only [List.map_toArray, List.map_cons, List.map_nil, eval_tmp, f14]; rfl) (Calls.mono (putReceipt_cv _ x wx (hT.recV HX.out)) ?_)
        rintro e w' ⟨v, he, hN, hv⟩
        exact ⟨v, he, hK v w' hN hv⟩
      · intro a wx hT hF K hK
        obtain ⟨f8, f15, _⟩ := hF
        replace f8 := show (svRd (numI x.kind)).pred (a.tmps.getD 8 undef) wx from f8
        replace f15 := show (svRd (rcL x)).pred (a.tmps.getD 15 undef) wx from f15
        refine rely_wp rfl ?_
        exact opr_bs2 rfl f8 f15 hK
      · intro a wx hT hF K hK
        obtain ⟨f16, _⟩ := hF
        replace f16 := show (svParts [numI x.kind, rcL x]).pred (a.tmps.getD 16 undef) wx from f16
        refine rely_wp rfl ?_
        exact opr_cv (All_rd _ _ (sealedB x) wx f16 (by rw [← HE.out]; simp) (by rw [← HE.out, List.length_append]; have := hlen; omega)) rfl Tryd.func25 (by kernel_rfl) (by kernel_rfl) (by simp only [List.map_toArray, List.map_cons, List.map_nil, eval_tmp]) hK
      · intro wx hT
        intro u h; obtain rfl := Eq.symm (h (by simp)); clear h
        intro u h; obtain rfl := Eq.symm (h (by simp)); clear h
        intro _ _
        intro u h; obtain rfl := Eq.symm (h (by simp)); clear h
        intro u h; obtain rfl := Eq.symm (h (by simp)); clear h
        intro u h; obtain rfl := Eq.symm (h (by simp)); clear h
        intro u h; obtain rfl := Eq.symm (h (by simp)); clear h
        intro u h; obtain rfl := Eq.symm (h (by simp)); clear h
        intro u h; obtain rfl := Eq.symm (h (by simp)); clear h
        intro _ _
        intro _ _
        intro u17 h; have g17 := h (by simp); clear h; replace g17 := show (svRd (sealedB x)).pred u17 wx from g17
        refine relyEnd_nil rfl ?_
        simp only [Act.put, List.setIfInBounds_toArray, List.set_cons_zero, List.set_cons_succ]
        refine opr_move (.inr rfl) ?_
        go_simp
        go_wp2
        go_ret
        exact ⟨_, rfl, NewT.trans _ _ _ HN1.out hT, g17⟩
    have k3 := hk
    clear hk
    by_cases hk : x.kind = 4
    · have HE := Lib.hid (sealed_o x _ hr (fun c => tail_2 x c (.inr hk)))
      have hlen : (callL x).length ≤ 900000 := by have := callL_len x; omega
      go_upto_region 3 with fail
      refine wp_region_rely NewT [SV.eq (.pointer (some ⟨w.heap.size, 0, none⟩)), SV.eq (.int .i64 (x.kind)), svRd (numI x.kind), SV.eq (.agg (rowA 21 (formF))), SV.eq (.pointer (some ⟨w.heap.size, 0, none⟩)), SV.eq (.int .i64 (x.kind)), SV.eq (.agg (rowA 3 (fun j => formF (12 + j)))), SV.eq (fnV 58), SV.eq (.agg (rowA 109 (recF x sv dv))), svRd (callL x), svParts [numI x.kind, callL x], svRd (sealedB x)] [([(1, none)], none), ([(6, some 0)], none), ([(7, some 1)], none), ([], none), ([(1, none)], none), ([(10, some 4)], none), ([(9, some 3), (11, some 5)], none), ([(12, some 6)], none), ([(1, none)], none), ([(13, some 7), (14, some 8)], none), ([(8, some 2), (15, some 9)], none), ([(16, some 10)], none)] 18 rfl (by kernel_rfl) rfl (by kernel_rfl) (by kernel_rfl) rfl NewT.trans (NewT.drew _) (Nat.le_of_ble_eq_true rfl) ⟨?_, ?_, ?_, ?_, ?_, ?_, ?_, ?_, ?_, ?_, ?_, ?_, trivial⟩ ?_
      · intro a wx hT hF K hK
        obtain ⟨f1, _⟩ := hF
        have f1 : a.tmps.getD 1 undef = .pointer (some ⟨w.heap.size, 0, none⟩) := f1
        refine rely_wp rfl ?_
        exact opr_fldR (by decide) rfl f1 (hK _ _ (NewT.refl _) rfl)
      · intro a wx hT hF K hK
        obtain ⟨f6, _⟩ := hF
        have f6 : a.tmps.getD 6 undef = .pointer (some ⟨w.heap.size, 0, none⟩) := f6
        refine rely_wp rfl ?_
        exact opr_ldI (hT.row R1.out) (by decide) rfl rfl f6 (hK _ _ (NewT.refl _) rfl)
      · intro a wx hT hF K hK
        obtain ⟨f7, _⟩ := hF
        have f7 : a.tmps.getD 7 undef = .int .i64 (x.kind) := f7
        refine rely_wp rfl ?_
        exact opr_cv (Num_rd x.kind _ wx rfl) rfl Tryd.func38 (by kernel_rfl) (by kernel_rfl) (by simp only [List.map_toArray, List.map_cons, List.map_nil, eval_tmp, f7]) hK
      · intro a wx hT hF K hK
        refine rely_wp rfl ?_
        exact opr_cv (forms_cv wx) rfl Tryd.func39 (by kernel_rfl) (by kernel_rfl) (by simp only [List.map_toArray, List.map_nil]) hK
      · intro a wx hT hF K hK
        obtain ⟨f1, _⟩ := hF
        have f1 : a.tmps.getD 1 undef = .pointer (some ⟨w.heap.size, 0, none⟩) := f1
        refine rely_wp rfl ?_
        exact opr_fldR (by decide) rfl f1 (hK _ _ (NewT.refl _) rfl)
      · intro a wx hT hF K hK
        obtain ⟨f10, _⟩ := hF
        have f10 : a.tmps.getD 10 undef = .pointer (some ⟨w.heap.size, 0, none⟩) := f10
        refine rely_wp rfl ?_
        exact opr_ldI (hT.row R1.out) (by decide) rfl rfl f10 (hK _ _ (NewT.refl _) rfl)
      · intro a wx hT hF K hK
        obtain ⟨f9, f11, _⟩ := hF
        have f9 : a.tmps.getD 9 undef = .agg (rowA 21 (formF)) := f9
        have f11 : a.tmps.getD 11 undef = .int .i64 (x.kind) := f11
        refine rely_wp rfl ?_
        exact opr_idx rfl f9 (f11.trans (by rw [hk])) (idx_4 wx) (hK _ _ (NewT.refl _) rfl)
      · intro a wx hT hF K hK
        obtain ⟨f12, _⟩ := hF
        have f12 : a.tmps.getD 12 undef = .agg (rowA 3 (fun j => formF (12 + j))) := f12
        refine rely_wp rfl ?_
        exact opr_fieldv rfl f12 (fldv_0 _ _ rfl wx) (hK _ _ (NewT.refl _) rfl)
      · intro a wx hT hF K hK
        obtain ⟨f1, _⟩ := hF
        have f1 : a.tmps.getD 1 undef = .pointer (some ⟨w.heap.size, 0, none⟩) := f1
        refine rely_wp rfl ?_
        exact opr_ldR (hT.row R1.out) rfl f1 (hK _ _ (NewT.refl _) rfl)
      · intro a wx hT hF K hK
        obtain ⟨f13, f14, _⟩ := hF
        have f13 : a.tmps.getD 13 undef = fnV 58 := f13
        have f14 : a.tmps.getD 14 undef = .agg (rowA 109 (recF x sv dv)) := f14
        refine rely_wp rfl ?_
        refine opr_callv rfl f13 Tryd.func58 (by kernel_rfl) (by kernel_rfl) (by simp only [List.map_toArray, List.map_cons, List.map_nil, eval_tmp, f14]; rfl) (Calls.mono (putTry_cv _ x wx (hT.recV HX.out)) ?_)
        rintro e w' ⟨v, he, hN, hv⟩
        exact ⟨v, he, hK v w' hN hv⟩
      · intro a wx hT hF K hK
        obtain ⟨f8, f15, _⟩ := hF
        replace f8 := show (svRd (numI x.kind)).pred (a.tmps.getD 8 undef) wx from f8
        replace f15 := show (svRd (callL x)).pred (a.tmps.getD 15 undef) wx from f15
        refine rely_wp rfl ?_
        exact opr_bs2 rfl f8 f15 hK
      · intro a wx hT hF K hK
        obtain ⟨f16, _⟩ := hF
        replace f16 := show (svParts [numI x.kind, callL x]).pred (a.tmps.getD 16 undef) wx from f16
        refine rely_wp rfl ?_
        exact opr_cv (All_rd _ _ (sealedB x) wx f16 (by rw [← HE.out]; simp) (by rw [← HE.out, List.length_append]; have := hlen; omega)) rfl Tryd.func25 (by kernel_rfl) (by kernel_rfl) (by simp only [List.map_toArray, List.map_cons, List.map_nil, eval_tmp]) hK
      · intro wx hT
        intro u h; obtain rfl := Eq.symm (h (by simp)); clear h
        intro u h; obtain rfl := Eq.symm (h (by simp)); clear h
        intro _ _
        intro u h; obtain rfl := Eq.symm (h (by simp)); clear h
        intro u h; obtain rfl := Eq.symm (h (by simp)); clear h
        intro u h; obtain rfl := Eq.symm (h (by simp)); clear h
        intro u h; obtain rfl := Eq.symm (h (by simp)); clear h
        intro u h; obtain rfl := Eq.symm (h (by simp)); clear h
        intro u h; obtain rfl := Eq.symm (h (by simp)); clear h
        intro _ _
        intro _ _
        intro u17 h; have g17 := h (by simp); clear h; replace g17 := show (svRd (sealedB x)).pred u17 wx from g17
        refine relyEnd_nil rfl ?_
        simp only [Act.put, List.setIfInBounds_toArray, List.set_cons_zero, List.set_cons_succ]
        refine opr_move (.inr rfl) ?_
        go_simp
        go_wp2
        go_ret
        exact ⟨_, rfl, NewT.trans _ _ _ HN1.out hT, g17⟩
    have k4 := hk
    clear hk
    by_cases hk : x.kind = 5
    · have HE := Lib.hid (sealed_o x _ hr (fun c => tail_5 x c hk))
      have hlen : (clL x).length ≤ 900000 := by have := clL_len x; omega
      go_upto_region 3 with fail
      refine wp_region_rely NewT [SV.eq (.pointer (some ⟨w.heap.size, 0, none⟩)), SV.eq (.int .i64 (x.kind)), svRd (numI x.kind), SV.eq (.agg (rowA 21 (formF))), SV.eq (.pointer (some ⟨w.heap.size, 0, none⟩)), SV.eq (.int .i64 (x.kind)), SV.eq (.agg (rowA 3 (fun j => formF (15 + j)))), SV.eq (fnV 62), SV.eq (.agg (rowA 109 (recF x sv dv))), svRd (clL x), svParts [numI x.kind, clL x], svRd (sealedB x)] [([(1, none)], none), ([(6, some 0)], none), ([(7, some 1)], none), ([], none), ([(1, none)], none), ([(10, some 4)], none), ([(9, some 3), (11, some 5)], none), ([(12, some 6)], none), ([(1, none)], none), ([(13, some 7), (14, some 8)], none), ([(8, some 2), (15, some 9)], none), ([(16, some 10)], none)] 18 rfl (by kernel_rfl) rfl (by kernel_rfl) (by kernel_rfl) rfl NewT.trans (NewT.drew _) (Nat.le_of_ble_eq_true rfl) ⟨?_, ?_, ?_, ?_, ?_, ?_, ?_, ?_, ?_, ?_, ?_, ?_, trivial⟩ ?_
      · intro a wx hT hF K hK
        obtain ⟨f1, _⟩ := hF
        have f1 : a.tmps.getD 1 undef = .pointer (some ⟨w.heap.size, 0, none⟩) := f1
        refine rely_wp rfl ?_
        exact opr_fldR (by decide) rfl f1 (hK _ _ (NewT.refl _) rfl)
      · intro a wx hT hF K hK
        obtain ⟨f6, _⟩ := hF
        have f6 : a.tmps.getD 6 undef = .pointer (some ⟨w.heap.size, 0, none⟩) := f6
        refine rely_wp rfl ?_
        exact opr_ldI (hT.row R1.out) (by decide) rfl rfl f6 (hK _ _ (NewT.refl _) rfl)
      · intro a wx hT hF K hK
        obtain ⟨f7, _⟩ := hF
        have f7 : a.tmps.getD 7 undef = .int .i64 (x.kind) := f7
        refine rely_wp rfl ?_
        exact opr_cv (Num_rd x.kind _ wx rfl) rfl Tryd.func38 (by kernel_rfl) (by kernel_rfl) (by simp only [List.map_toArray, List.map_cons, List.map_nil, eval_tmp, f7]) hK
      · intro a wx hT hF K hK
        refine rely_wp rfl ?_
        exact opr_cv (forms_cv wx) rfl Tryd.func39 (by kernel_rfl) (by kernel_rfl) (by simp only [List.map_toArray, List.map_nil]) hK
      · intro a wx hT hF K hK
        obtain ⟨f1, _⟩ := hF
        have f1 : a.tmps.getD 1 undef = .pointer (some ⟨w.heap.size, 0, none⟩) := f1
        refine rely_wp rfl ?_
        exact opr_fldR (by decide) rfl f1 (hK _ _ (NewT.refl _) rfl)
      · intro a wx hT hF K hK
        obtain ⟨f10, _⟩ := hF
        have f10 : a.tmps.getD 10 undef = .pointer (some ⟨w.heap.size, 0, none⟩) := f10
        refine rely_wp rfl ?_
        exact opr_ldI (hT.row R1.out) (by decide) rfl rfl f10 (hK _ _ (NewT.refl _) rfl)
      · intro a wx hT hF K hK
        obtain ⟨f9, f11, _⟩ := hF
        have f9 : a.tmps.getD 9 undef = .agg (rowA 21 (formF)) := f9
        have f11 : a.tmps.getD 11 undef = .int .i64 (x.kind) := f11
        refine rely_wp rfl ?_
        exact opr_idx rfl f9 (f11.trans (by rw [hk])) (idx_5 wx) (hK _ _ (NewT.refl _) rfl)
      · intro a wx hT hF K hK
        obtain ⟨f12, _⟩ := hF
        have f12 : a.tmps.getD 12 undef = .agg (rowA 3 (fun j => formF (15 + j))) := f12
        refine rely_wp rfl ?_
        exact opr_fieldv rfl f12 (fldv_0 _ _ rfl wx) (hK _ _ (NewT.refl _) rfl)
      · intro a wx hT hF K hK
        obtain ⟨f1, _⟩ := hF
        have f1 : a.tmps.getD 1 undef = .pointer (some ⟨w.heap.size, 0, none⟩) := f1
        refine rely_wp rfl ?_
        exact opr_ldR (hT.row R1.out) rfl f1 (hK _ _ (NewT.refl _) rfl)
      · intro a wx hT hF K hK
        obtain ⟨f13, f14, _⟩ := hF
        have f13 : a.tmps.getD 13 undef = fnV 62 := f13
        have f14 : a.tmps.getD 14 undef = .agg (rowA 109 (recF x sv dv)) := f14
        refine rely_wp rfl ?_
        refine opr_callv rfl f13 Tryd.func62 (by kernel_rfl) (by kernel_rfl) (by simp only [List.map_toArray, List.map_cons, List.map_nil, eval_tmp, f14]; rfl) (Calls.mono (putClosed_cv _ x wx (hT.recV HX.out)) ?_)
        rintro e w' ⟨v, he, hN, hv⟩
        exact ⟨v, he, hK v w' hN hv⟩
      · intro a wx hT hF K hK
        obtain ⟨f8, f15, _⟩ := hF
        replace f8 := show (svRd (numI x.kind)).pred (a.tmps.getD 8 undef) wx from f8
        replace f15 := show (svRd (clL x)).pred (a.tmps.getD 15 undef) wx from f15
        refine rely_wp rfl ?_
        exact opr_bs2 rfl f8 f15 hK
      · intro a wx hT hF K hK
        obtain ⟨f16, _⟩ := hF
        replace f16 := show (svParts [numI x.kind, clL x]).pred (a.tmps.getD 16 undef) wx from f16
        refine rely_wp rfl ?_
        exact opr_cv (All_rd _ _ (sealedB x) wx f16 (by rw [← HE.out]; simp) (by rw [← HE.out, List.length_append]; have := hlen; omega)) rfl Tryd.func25 (by kernel_rfl) (by kernel_rfl) (by simp only [List.map_toArray, List.map_cons, List.map_nil, eval_tmp]) hK
      · intro wx hT
        intro u h; obtain rfl := Eq.symm (h (by simp)); clear h
        intro u h; obtain rfl := Eq.symm (h (by simp)); clear h
        intro _ _
        intro u h; obtain rfl := Eq.symm (h (by simp)); clear h
        intro u h; obtain rfl := Eq.symm (h (by simp)); clear h
        intro u h; obtain rfl := Eq.symm (h (by simp)); clear h
        intro u h; obtain rfl := Eq.symm (h (by simp)); clear h
        intro u h; obtain rfl := Eq.symm (h (by simp)); clear h
        intro u h; obtain rfl := Eq.symm (h (by simp)); clear h
        intro _ _
        intro _ _
        intro u17 h; have g17 := h (by simp); clear h; replace g17 := show (svRd (sealedB x)).pred u17 wx from g17
        refine relyEnd_nil rfl ?_
        simp only [Act.put, List.setIfInBounds_toArray, List.set_cons_zero, List.set_cons_succ]
        refine opr_move (.inr rfl) ?_
        go_simp
        go_wp2
        go_ret
        exact ⟨_, rfl, NewT.trans _ _ _ HN1.out hT, g17⟩
    have k5 := hk
    clear hk
    have hk : x.kind = 6 := by omega
    clear k1 k2 k3 k4 k5
    have HE := Lib.hid (sealed_o x _ hr (fun c => tail_6 x c hk))
    have hlen : (roL x).length ≤ 900000 := by have := roL_len x; omega
    go_upto_region 3 with fail
    refine wp_region_rely NewT [SV.eq (.pointer (some ⟨w.heap.size, 0, none⟩)), SV.eq (.int .i64 (x.kind)), svRd (numI x.kind), SV.eq (.agg (rowA 21 (formF))), SV.eq (.pointer (some ⟨w.heap.size, 0, none⟩)), SV.eq (.int .i64 (x.kind)), SV.eq (.agg (rowA 3 (fun j => formF (18 + j)))), SV.eq (fnV 64), SV.eq (.agg (rowA 109 (recF x sv dv))), svRd (roL x), svParts [numI x.kind, roL x], svRd (sealedB x)] [([(1, none)], none), ([(6, some 0)], none), ([(7, some 1)], none), ([], none), ([(1, none)], none), ([(10, some 4)], none), ([(9, some 3), (11, some 5)], none), ([(12, some 6)], none), ([(1, none)], none), ([(13, some 7), (14, some 8)], none), ([(8, some 2), (15, some 9)], none), ([(16, some 10)], none)] 18 rfl (by kernel_rfl) rfl (by kernel_rfl) (by kernel_rfl) rfl NewT.trans (NewT.drew _) (Nat.le_of_ble_eq_true rfl) ⟨?_, ?_, ?_, ?_, ?_, ?_, ?_, ?_, ?_, ?_, ?_, ?_, trivial⟩ ?_
    · intro a wx hT hF K hK
      obtain ⟨f1, _⟩ := hF
      have f1 : a.tmps.getD 1 undef = .pointer (some ⟨w.heap.size, 0, none⟩) := f1
      refine rely_wp rfl ?_
      exact opr_fldR (by decide) rfl f1 (hK _ _ (NewT.refl _) rfl)
    · intro a wx hT hF K hK
      obtain ⟨f6, _⟩ := hF
      have f6 : a.tmps.getD 6 undef = .pointer (some ⟨w.heap.size, 0, none⟩) := f6
      refine rely_wp rfl ?_
      exact opr_ldI (hT.row R1.out) (by decide) rfl rfl f6 (hK _ _ (NewT.refl _) rfl)
    · intro a wx hT hF K hK
      obtain ⟨f7, _⟩ := hF
      have f7 : a.tmps.getD 7 undef = .int .i64 (x.kind) := f7
      refine rely_wp rfl ?_
      exact opr_cv (Num_rd x.kind _ wx rfl) rfl Tryd.func38 (by kernel_rfl) (by kernel_rfl) (by simp only [List.map_toArray, List.map_cons, List.map_nil, eval_tmp, f7]) hK
    · intro a wx hT hF K hK
      refine rely_wp rfl ?_
      exact opr_cv (forms_cv wx) rfl Tryd.func39 (by kernel_rfl) (by kernel_rfl) (by simp only [List.map_toArray, List.map_nil]) hK
    · intro a wx hT hF K hK
      obtain ⟨f1, _⟩ := hF
      have f1 : a.tmps.getD 1 undef = .pointer (some ⟨w.heap.size, 0, none⟩) := f1
      refine rely_wp rfl ?_
      exact opr_fldR (by decide) rfl f1 (hK _ _ (NewT.refl _) rfl)
    · intro a wx hT hF K hK
      obtain ⟨f10, _⟩ := hF
      have f10 : a.tmps.getD 10 undef = .pointer (some ⟨w.heap.size, 0, none⟩) := f10
      refine rely_wp rfl ?_
      exact opr_ldI (hT.row R1.out) (by decide) rfl rfl f10 (hK _ _ (NewT.refl _) rfl)
    · intro a wx hT hF K hK
      obtain ⟨f9, f11, _⟩ := hF
      have f9 : a.tmps.getD 9 undef = .agg (rowA 21 (formF)) := f9
      have f11 : a.tmps.getD 11 undef = .int .i64 (x.kind) := f11
      refine rely_wp rfl ?_
      exact opr_idx rfl f9 (f11.trans (by rw [hk])) (idx_6 wx) (hK _ _ (NewT.refl _) rfl)
    · intro a wx hT hF K hK
      obtain ⟨f12, _⟩ := hF
      have f12 : a.tmps.getD 12 undef = .agg (rowA 3 (fun j => formF (18 + j))) := f12
      refine rely_wp rfl ?_
      exact opr_fieldv rfl f12 (fldv_0 _ _ rfl wx) (hK _ _ (NewT.refl _) rfl)
    · intro a wx hT hF K hK
      obtain ⟨f1, _⟩ := hF
      have f1 : a.tmps.getD 1 undef = .pointer (some ⟨w.heap.size, 0, none⟩) := f1
      refine rely_wp rfl ?_
      exact opr_ldR (hT.row R1.out) rfl f1 (hK _ _ (NewT.refl _) rfl)
    · intro a wx hT hF K hK
      obtain ⟨f13, f14, _⟩ := hF
      have f13 : a.tmps.getD 13 undef = fnV 64 := f13
      have f14 : a.tmps.getD 14 undef = .agg (rowA 109 (recF x sv dv)) := f14
      refine rely_wp rfl ?_
      refine opr_callv rfl f13 Tryd.func64 (by kernel_rfl) (by kernel_rfl) (by simp only [List.map_toArray, List.map_cons, List.map_nil, eval_tmp, f14]; rfl) (Calls.mono (putRotate_cv _ x wx (hT.recV HX.out)) ?_)
      rintro e w' ⟨v, he, hN, hv⟩
      exact ⟨v, he, hK v w' hN hv⟩
    · intro a wx hT hF K hK
      obtain ⟨f8, f15, _⟩ := hF
      replace f8 := show (svRd (numI x.kind)).pred (a.tmps.getD 8 undef) wx from f8
      replace f15 := show (svRd (roL x)).pred (a.tmps.getD 15 undef) wx from f15
      refine rely_wp rfl ?_
      exact opr_bs2 rfl f8 f15 hK
    · intro a wx hT hF K hK
      obtain ⟨f16, _⟩ := hF
      replace f16 := show (svParts [numI x.kind, roL x]).pred (a.tmps.getD 16 undef) wx from f16
      refine rely_wp rfl ?_
      exact opr_cv (All_rd _ _ (sealedB x) wx f16 (by rw [← HE.out]; simp) (by rw [← HE.out, List.length_append]; have := hlen; omega)) rfl Tryd.func25 (by kernel_rfl) (by kernel_rfl) (by simp only [List.map_toArray, List.map_cons, List.map_nil, eval_tmp]) hK
    · intro wx hT
      intro u h; obtain rfl := Eq.symm (h (by simp)); clear h
      intro u h; obtain rfl := Eq.symm (h (by simp)); clear h
      intro _ _
      intro u h; obtain rfl := Eq.symm (h (by simp)); clear h
      intro u h; obtain rfl := Eq.symm (h (by simp)); clear h
      intro u h; obtain rfl := Eq.symm (h (by simp)); clear h
      intro u h; obtain rfl := Eq.symm (h (by simp)); clear h
      intro u h; obtain rfl := Eq.symm (h (by simp)); clear h
      intro u h; obtain rfl := Eq.symm (h (by simp)); clear h
      intro _ _
      intro _ _
      intro u17 h; have g17 := h (by simp); clear h; replace g17 := show (svRd (sealedB x)).pred u17 wx from g17
      refine relyEnd_nil rfl ?_
      simp only [Act.put, List.setIfInBounds_toArray, List.set_cons_zero, List.set_cons_succ]
      refine opr_move (.inr rfl) ?_
      go_simp
      go_wp2
      go_ret
      exact ⟨_, rfl, NewT.trans _ _ _ HN1.out hT, g17⟩
set_option maxHeartbeats 4000000 in
theorem Open_cv (v : Value) (x : Rc) (w : World) (h : RecV w v x) : Cv 22 #[v] w (svRd (openB x)) := by
  obtain ⟨sv, dv, rfl, hs, hd⟩ := h
  unfold Cv
  have HX : Hid (RecV w (.agg (rowA 109 (recF x sv dv))) x) := Lib.hid ⟨sv, dv, rfl, hs, hd⟩
  have HS := Lib.hid hs
  have HD := Lib.hid hd
  clear hs hd
  go_enter Tryd.func22, Tryd.ntmps22
  go_upto_region 1 with fail
  have r1 := rowIs_box w 27 109 (recF x sv dv)
  have hN := NewT.alloc w (.cells (rowA 109 (recF x sv dv)) 27)
  change Code.wp _ _ _ _ (w.alloc (.cells (rowA 109 (recF x sv dv)) 27))
  generalize w.alloc (.cells (rowA 109 (recF x sv dv)) 27) = W0 at r1 hN ⊢
  have R1 := Lib.hid r1
  have HN := Lib.hid hN
  replace HX := Lib.hid (hN.recV HX.out)
  replace HS := Lib.hid (hN.pairs HS.out)
  replace HD := Lib.hid (hN.rd HD.out)
  clear r1 hN
  refine wp_region_steps0 NewT [SV.eq (.agg (rowA 109 (recF x sv dv))), SV.eq (.bool (rightB x)), SV.eq (.bool (!(rightB x)))] [([(1, none)], none), ([(3, some 0)], none), ([(4, some 1)], none)] 18 3 rfl rfl (by kernel_rfl) NewT.trans (NewT.refl _) (Nat.le_of_ble_eq_true rfl) ⟨?_, ?_, ?_, trivial⟩ ?_
  · intro a wx hT hF K hK
    obtain ⟨f1, _⟩ := hF
    have f1 : a.tmps.getD 1 undef = .pointer (some ⟨w.heap.size, 0, none⟩) := f1
    refine rely_wp rfl ?_
    exact opr_ldR (hT.row R1.out) rfl f1 (hK _ _ (NewT.refl _) rfl)
  · intro a wx hT hF K hK
    obtain ⟨f3, _⟩ := hF
    have f3 : a.tmps.getD 3 undef = .agg (rowA 109 (recF x sv dv)) := f3
    refine rely_wp rfl ?_
    exact opr_cv (Right_cv _ x wx (hT.recV HX.out)) rfl Tryd.func11 (by kernel_rfl) (by kernel_rfl) (by simp only [List.map_toArray, List.map_cons, List.map_nil, eval_tmp, f3]) hK
  · intro a wx hT hF K hK
    obtain ⟨f4, _⟩ := hF
    have f4 : a.tmps.getD 4 undef = .bool (rightB x) := f4
    refine rely_wp rfl ?_
    exact opr_not rfl f4 (hK _ _ (NewT.refl _) rfl)
  · intro w1 h1
    intro u h; obtain rfl := Eq.symm (h (by simp)); clear h
    intro u h; obtain rfl := Eq.symm (h (by simp)); clear h
    intro u h; obtain rfl := Eq.symm (h (by simp)); clear h
    refine relyEnd_nil rfl ?_
    refine wpList_end rfl ?_
    simp only [Act.put, List.setIfInBounds_toArray, List.set_cons_zero, List.set_cons_succ]
    go_simp
    have HN1 := Lib.hid (NewT.trans _ _ _ HN.out h1)
    replace R1 := Lib.hid (h1.row R1.out)
    replace HX := Lib.hid (h1.recV HX.out)
    replace HS := Lib.hid (h1.pairs HS.out)
    replace HD := Lib.hid (h1.rd HD.out)

    clear h1 HN
    cases hr : rightB x
    · have HL : Hid (openB x = []) := Lib.hid (by unfold openB; rw [hr, if_neg (by simp)])
      go_wp2
      go_ret
      exact ⟨_, rfl, HN1.out, by rw [HL.out]; exact rdV_nil _ _⟩
    have hd60 := right_data x hr
    have hs6 := right_steps x hr
    have hk6 := right_kind x hr
    have hnk := numI_length x.kind
    by_cases hk : x.kind = 1
    · have HE := Lib.hid (open_1 x hr hk)
      have hlen : (hdL x ++ payL x).length ≤ 900000 := by have := hdL_len x (by omega); have := numI_length x.data.length; unfold payL; split <;> simp [hL_length] <;> omega
      go_upto_region 3 with fail
      refine wp_region_rely NewT [SV.eq (.pointer (some ⟨w.heap.size, 0, none⟩)), SV.eq (.int .i64 (x.kind)), svRd (numI x.kind), SV.eq (.agg (rowA 21 (formF))), SV.eq (.pointer (some ⟨w.heap.size, 0, none⟩)), SV.eq (.int .i64 (x.kind)), SV.eq (.agg (rowA 3 (fun j => formF (3 + j)))), SV.eq (fnV 56), SV.eq (.agg (rowA 109 (recF x sv dv))), svRd (hdL x ++ payL x), svParts [numI x.kind, hdL x ++ payL x], svRd (openB x)] [([(1, none)], none), ([(6, some 0)], none), ([(7, some 1)], none), ([], none), ([(1, none)], none), ([(10, some 4)], none), ([(9, some 3), (11, some 5)], none), ([(12, some 6)], none), ([(1, none)], none), ([(13, some 7), (14, some 8)], none), ([(8, some 2), (15, some 9)], none), ([(16, some 10)], none)] 18 rfl (by kernel_rfl) rfl (by kernel_rfl) (by kernel_rfl) rfl NewT.trans (NewT.drew _) (Nat.le_of_ble_eq_true rfl) ⟨?_, ?_, ?_, ?_, ?_, ?_, ?_, ?_, ?_, ?_, ?_, ?_, trivial⟩ ?_
      · intro a wx hT hF K hK
        obtain ⟨f1, _⟩ := hF
        have f1 : a.tmps.getD 1 undef = .pointer (some ⟨w.heap.size, 0, none⟩) := f1
        refine rely_wp rfl ?_
        exact opr_fldR (by decide) rfl f1 (hK _ _ (NewT.refl _) rfl)
      · intro a wx hT hF K hK
        obtain ⟨f6, _⟩ := hF
        have f6 : a.tmps.getD 6 undef = .pointer (some ⟨w.heap.size, 0, none⟩) := f6
        refine rely_wp rfl ?_
        exact opr_ldI (hT.row R1.out) (by decide) rfl rfl f6 (hK _ _ (NewT.refl _) rfl)
      · intro a wx hT hF K hK
        obtain ⟨f7, _⟩ := hF
        have f7 : a.tmps.getD 7 undef = .int .i64 (x.kind) := f7
        refine rely_wp rfl ?_
        exact opr_cv (Num_rd x.kind _ wx rfl) rfl Tryd.func38 (by kernel_rfl) (by kernel_rfl) (by simp only [List.map_toArray, List.map_cons, List.map_nil, eval_tmp, f7]) hK
      · intro a wx hT hF K hK
        refine rely_wp rfl ?_
        exact opr_cv (forms_cv wx) rfl Tryd.func39 (by kernel_rfl) (by kernel_rfl) (by simp only [List.map_toArray, List.map_nil]) hK
      · intro a wx hT hF K hK
        obtain ⟨f1, _⟩ := hF
        have f1 : a.tmps.getD 1 undef = .pointer (some ⟨w.heap.size, 0, none⟩) := f1
        refine rely_wp rfl ?_
        exact opr_fldR (by decide) rfl f1 (hK _ _ (NewT.refl _) rfl)
      · intro a wx hT hF K hK
        obtain ⟨f10, _⟩ := hF
        have f10 : a.tmps.getD 10 undef = .pointer (some ⟨w.heap.size, 0, none⟩) := f10
        refine rely_wp rfl ?_
        exact opr_ldI (hT.row R1.out) (by decide) rfl rfl f10 (hK _ _ (NewT.refl _) rfl)
      · intro a wx hT hF K hK
        obtain ⟨f9, f11, _⟩ := hF
        have f9 : a.tmps.getD 9 undef = .agg (rowA 21 (formF)) := f9
        have f11 : a.tmps.getD 11 undef = .int .i64 (x.kind) := f11
        refine rely_wp rfl ?_
        exact opr_idx rfl f9 (f11.trans (by rw [hk])) (idx_1 wx) (hK _ _ (NewT.refl _) rfl)
      · intro a wx hT hF K hK
        obtain ⟨f12, _⟩ := hF
        have f12 : a.tmps.getD 12 undef = .agg (rowA 3 (fun j => formF (3 + j))) := f12
        refine rely_wp rfl ?_
        exact opr_fieldv rfl f12 (fldv_1 _ _ rfl wx) (hK _ _ (NewT.refl _) rfl)
      · intro a wx hT hF K hK
        obtain ⟨f1, _⟩ := hF
        have f1 : a.tmps.getD 1 undef = .pointer (some ⟨w.heap.size, 0, none⟩) := f1
        refine rely_wp rfl ?_
        exact opr_ldR (hT.row R1.out) rfl f1 (hK _ _ (NewT.refl _) rfl)
      · intro a wx hT hF K hK
        obtain ⟨f13, f14, _⟩ := hF
        have f13 : a.tmps.getD 13 undef = fnV 56 := f13
        have f14 : a.tmps.getD 14 undef = .agg (rowA 109 (recF x sv dv)) := f14
        refine rely_wp rfl ?_
        refine opr_callv rfl f13 Tryd.func56 (by kernel_rfl) (by kernel_rfl) (by simp only [List.map_toArray, List.map_cons, List.map_nil, eval_tmp, f14]; rfl) (Calls.mono (openBegin_cv _ x wx (hT.recV HX.out) (by omega) (by omega)) ?_)
        rintro e w' ⟨v, he, hN, hv⟩
        exact ⟨v, he, hK v w' hN hv⟩
      · intro a wx hT hF K hK
        obtain ⟨f8, f15, _⟩ := hF
        replace f8 := show (svRd (numI x.kind)).pred (a.tmps.getD 8 undef) wx from f8
        replace f15 := show (svRd (hdL x ++ payL x)).pred (a.tmps.getD 15 undef) wx from f15
        refine rely_wp rfl ?_
        exact opr_bs2 rfl f8 f15 hK
      · intro a wx hT hF K hK
        obtain ⟨f16, _⟩ := hF
        replace f16 := show (svParts [numI x.kind, hdL x ++ payL x]).pred (a.tmps.getD 16 undef) wx from f16
        refine rely_wp rfl ?_
        exact opr_cv (All_rd _ _ (openB x) wx f16 (by rw [← HE.out]; simp) (by rw [← HE.out, List.length_append]; have := hlen; omega)) rfl Tryd.func25 (by kernel_rfl) (by kernel_rfl) (by simp only [List.map_toArray, List.map_cons, List.map_nil, eval_tmp]) hK
      · intro wx hT
        intro u h; obtain rfl := Eq.symm (h (by simp)); clear h
        intro u h; obtain rfl := Eq.symm (h (by simp)); clear h
        intro _ _
        intro u h; obtain rfl := Eq.symm (h (by simp)); clear h
        intro u h; obtain rfl := Eq.symm (h (by simp)); clear h
        intro u h; obtain rfl := Eq.symm (h (by simp)); clear h
        intro u h; obtain rfl := Eq.symm (h (by simp)); clear h
        intro u h; obtain rfl := Eq.symm (h (by simp)); clear h
        intro u h; obtain rfl := Eq.symm (h (by simp)); clear h
        intro _ _
        intro _ _
        intro u17 h; have g17 := h (by simp); clear h; replace g17 := show (svRd (openB x)).pred u17 wx from g17
        refine relyEnd_nil rfl ?_
        simp only [Act.put, List.setIfInBounds_toArray, List.set_cons_zero, List.set_cons_succ]
        refine opr_move (.inr rfl) ?_
        go_simp
        go_wp2
        go_ret
        exact ⟨_, rfl, NewT.trans _ _ _ HN1.out hT, g17⟩
    have k1 := hk
    clear hk
    by_cases hk : x.kind = 2
    · have HE := Lib.hid (open_o x _ hr (fun c => tail_2 x c (.inl hk)))
      have hlen : (callL x).length ≤ 900000 := by have := callL_len x; omega
      go_upto_region 3 with fail
      refine wp_region_rely NewT [SV.eq (.pointer (some ⟨w.heap.size, 0, none⟩)), SV.eq (.int .i64 (x.kind)), svRd (numI x.kind), SV.eq (.agg (rowA 21 (formF))), SV.eq (.pointer (some ⟨w.heap.size, 0, none⟩)), SV.eq (.int .i64 (x.kind)), SV.eq (.agg (rowA 3 (fun j => formF (6 + j)))), SV.eq (fnV 58), SV.eq (.agg (rowA 109 (recF x sv dv))), svRd (callL x), svParts [numI x.kind, callL x], svRd (openB x)] [([(1, none)], none), ([(6, some 0)], none), ([(7, some 1)], none), ([], none), ([(1, none)], none), ([(10, some 4)], none), ([(9, some 3), (11, some 5)], none), ([(12, some 6)], none), ([(1, none)], none), ([(13, some 7), (14, some 8)], none), ([(8, some 2), (15, some 9)], none), ([(16, some 10)], none)] 18 rfl (by kernel_rfl) rfl (by kernel_rfl) (by kernel_rfl) rfl NewT.trans (NewT.drew _) (Nat.le_of_ble_eq_true rfl) ⟨?_, ?_, ?_, ?_, ?_, ?_, ?_, ?_, ?_, ?_, ?_, ?_, trivial⟩ ?_
      · intro a wx hT hF K hK
        obtain ⟨f1, _⟩ := hF
        have f1 : a.tmps.getD 1 undef = .pointer (some ⟨w.heap.size, 0, none⟩) := f1
        refine rely_wp rfl ?_
        exact opr_fldR (by decide) rfl f1 (hK _ _ (NewT.refl _) rfl)
      · intro a wx hT hF K hK
        obtain ⟨f6, _⟩ := hF
        have f6 : a.tmps.getD 6 undef = .pointer (some ⟨w.heap.size, 0, none⟩) := f6
        refine rely_wp rfl ?_
        exact opr_ldI (hT.row R1.out) (by decide) rfl rfl f6 (hK _ _ (NewT.refl _) rfl)
      · intro a wx hT hF K hK
        obtain ⟨f7, _⟩ := hF
        have f7 : a.tmps.getD 7 undef = .int .i64 (x.kind) := f7
        refine rely_wp rfl ?_
        exact opr_cv (Num_rd x.kind _ wx rfl) rfl Tryd.func38 (by kernel_rfl) (by kernel_rfl) (by simp only [List.map_toArray, List.map_cons, List.map_nil, eval_tmp, f7]) hK
      · intro a wx hT hF K hK
        refine rely_wp rfl ?_
        exact opr_cv (forms_cv wx) rfl Tryd.func39 (by kernel_rfl) (by kernel_rfl) (by simp only [List.map_toArray, List.map_nil]) hK
      · intro a wx hT hF K hK
        obtain ⟨f1, _⟩ := hF
        have f1 : a.tmps.getD 1 undef = .pointer (some ⟨w.heap.size, 0, none⟩) := f1
        refine rely_wp rfl ?_
        exact opr_fldR (by decide) rfl f1 (hK _ _ (NewT.refl _) rfl)
      · intro a wx hT hF K hK
        obtain ⟨f10, _⟩ := hF
        have f10 : a.tmps.getD 10 undef = .pointer (some ⟨w.heap.size, 0, none⟩) := f10
        refine rely_wp rfl ?_
        exact opr_ldI (hT.row R1.out) (by decide) rfl rfl f10 (hK _ _ (NewT.refl _) rfl)
      · intro a wx hT hF K hK
        obtain ⟨f9, f11, _⟩ := hF
        have f9 : a.tmps.getD 9 undef = .agg (rowA 21 (formF)) := f9
        have f11 : a.tmps.getD 11 undef = .int .i64 (x.kind) := f11
        refine rely_wp rfl ?_
        exact opr_idx rfl f9 (f11.trans (by rw [hk])) (idx_2 wx) (hK _ _ (NewT.refl _) rfl)
      · intro a wx hT hF K hK
        obtain ⟨f12, _⟩ := hF
        have f12 : a.tmps.getD 12 undef = .agg (rowA 3 (fun j => formF (6 + j))) := f12
        refine rely_wp rfl ?_
        exact opr_fieldv rfl f12 (fldv_1 _ _ rfl wx) (hK _ _ (NewT.refl _) rfl)
      · intro a wx hT hF K hK
        obtain ⟨f1, _⟩ := hF
        have f1 : a.tmps.getD 1 undef = .pointer (some ⟨w.heap.size, 0, none⟩) := f1
        refine rely_wp rfl ?_
        exact opr_ldR (hT.row R1.out) rfl f1 (hK _ _ (NewT.refl _) rfl)
      · intro a wx hT hF K hK
        obtain ⟨f13, f14, _⟩ := hF
        have f13 : a.tmps.getD 13 undef = fnV 58 := f13
        have f14 : a.tmps.getD 14 undef = .agg (rowA 109 (recF x sv dv)) := f14
        refine rely_wp rfl ?_
        refine opr_callv rfl f13 Tryd.func58 (by kernel_rfl) (by kernel_rfl) (by simp only [List.map_toArray, List.map_cons, List.map_nil, eval_tmp, f14]; rfl) (Calls.mono (putTry_cv _ x wx (hT.recV HX.out)) ?_)
        rintro e w' ⟨v, he, hN, hv⟩
        exact ⟨v, he, hK v w' hN hv⟩
      · intro a wx hT hF K hK
        obtain ⟨f8, f15, _⟩ := hF
        replace f8 := show (svRd (numI x.kind)).pred (a.tmps.getD 8 undef) wx from f8
        replace f15 := show (svRd (callL x)).pred (a.tmps.getD 15 undef) wx from f15
        refine rely_wp rfl ?_
        exact opr_bs2 rfl f8 f15 hK
      · intro a wx hT hF K hK
        obtain ⟨f16, _⟩ := hF
        replace f16 := show (svParts [numI x.kind, callL x]).pred (a.tmps.getD 16 undef) wx from f16
        refine rely_wp rfl ?_
        exact opr_cv (All_rd _ _ (openB x) wx f16 (by rw [← HE.out]; simp) (by rw [← HE.out, List.length_append]; have := hlen; omega)) rfl Tryd.func25 (by kernel_rfl) (by kernel_rfl) (by simp only [List.map_toArray, List.map_cons, List.map_nil, eval_tmp]) hK
      · intro wx hT
        intro u h; obtain rfl := Eq.symm (h (by simp)); clear h
        intro u h; obtain rfl := Eq.symm (h (by simp)); clear h
        intro _ _
        intro u h; obtain rfl := Eq.symm (h (by simp)); clear h
        intro u h; obtain rfl := Eq.symm (h (by simp)); clear h
        intro u h; obtain rfl := Eq.symm (h (by simp)); clear h
        intro u h; obtain rfl := Eq.symm (h (by simp)); clear h
        intro u h; obtain rfl := Eq.symm (h (by simp)); clear h
        intro u h; obtain rfl := Eq.symm (h (by simp)); clear h
        intro _ _
        intro _ _
        intro u17 h; have g17 := h (by simp); clear h; replace g17 := show (svRd (openB x)).pred u17 wx from g17
        refine relyEnd_nil rfl ?_
        simp only [Act.put, List.setIfInBounds_toArray, List.set_cons_zero, List.set_cons_succ]
        refine opr_move (.inr rfl) ?_
        go_simp
        go_wp2
        go_ret
        exact ⟨_, rfl, NewT.trans _ _ _ HN1.out hT, g17⟩
    have k2 := hk
    clear hk
    by_cases hk : x.kind = 3
    · have HE := Lib.hid (open_o x _ hr (fun c => tail_3 x c hk))
      have hlen : (rcL x).length ≤ 900000 := by have := rcL_len x; omega
      go_upto_region 3 with fail
      refine wp_region_rely NewT [SV.eq (.pointer (some ⟨w.heap.size, 0, none⟩)), SV.eq (.int .i64 (x.kind)), svRd (numI x.kind), SV.eq (.agg (rowA 21 (formF))), SV.eq (.pointer (some ⟨w.heap.size, 0, none⟩)), SV.eq (.int .i64 (x.kind)), SV.eq (.agg (rowA 3 (fun j => formF (9 + j)))), SV.eq (fnV 60), SV.eq (.agg (rowA 109 (recF x sv dv))), svRd (rcL x), svParts [numI x.kind, rcL x], svRd (openB x)] [([(1, none)], none), ([(6, some 0)], none), ([(7, some 1)], none), ([], none), ([(1, none)], none), ([(10, some 4)], none), ([(9, some 3), (11, some 5)], none), ([(12, some 6)], none), ([(1, none)], none), ([(13, some 7), (14, some 8)], none), ([(8, some 2), (15, some 9)], none), ([(16, some 10)], none)] 18 rfl (by kernel_rfl) rfl (by kernel_rfl) (by kernel_rfl) rfl NewT.trans (NewT.drew _) (Nat.le_of_ble_eq_true rfl) ⟨?_, ?_, ?_, ?_, ?_, ?_, ?_, ?_, ?_, ?_, ?_, ?_, trivial⟩ ?_
      · intro a wx hT hF K hK
        obtain ⟨f1, _⟩ := hF
        have f1 : a.tmps.getD 1 undef = .pointer (some ⟨w.heap.size, 0, none⟩) := f1
        refine rely_wp rfl ?_
        exact opr_fldR (by decide) rfl f1 (hK _ _ (NewT.refl _) rfl)
      · intro a wx hT hF K hK
        obtain ⟨f6, _⟩ := hF
        have f6 : a.tmps.getD 6 undef = .pointer (some ⟨w.heap.size, 0, none⟩) := f6
        refine rely_wp rfl ?_
        exact opr_ldI (hT.row R1.out) (by decide) rfl rfl f6 (hK _ _ (NewT.refl _) rfl)
      · intro a wx hT hF K hK
        obtain ⟨f7, _⟩ := hF
        have f7 : a.tmps.getD 7 undef = .int .i64 (x.kind) := f7
        refine rely_wp rfl ?_
        exact opr_cv (Num_rd x.kind _ wx rfl) rfl Tryd.func38 (by kernel_rfl) (by kernel_rfl) (by simp only [List.map_toArray, List.map_cons, List.map_nil, eval_tmp, f7]) hK
      · intro a wx hT hF K hK
        refine rely_wp rfl ?_
        exact opr_cv (forms_cv wx) rfl Tryd.func39 (by kernel_rfl) (by kernel_rfl) (by simp only [List.map_toArray, List.map_nil]) hK
      · intro a wx hT hF K hK
        obtain ⟨f1, _⟩ := hF
        have f1 : a.tmps.getD 1 undef = .pointer (some ⟨w.heap.size, 0, none⟩) := f1
        refine rely_wp rfl ?_
        exact opr_fldR (by decide) rfl f1 (hK _ _ (NewT.refl _) rfl)
      · intro a wx hT hF K hK
        obtain ⟨f10, _⟩ := hF
        have f10 : a.tmps.getD 10 undef = .pointer (some ⟨w.heap.size, 0, none⟩) := f10
        refine rely_wp rfl ?_
        exact opr_ldI (hT.row R1.out) (by decide) rfl rfl f10 (hK _ _ (NewT.refl _) rfl)
      · intro a wx hT hF K hK
        obtain ⟨f9, f11, _⟩ := hF
        have f9 : a.tmps.getD 9 undef = .agg (rowA 21 (formF)) := f9
        have f11 : a.tmps.getD 11 undef = .int .i64 (x.kind) := f11
        refine rely_wp rfl ?_
        exact opr_idx rfl f9 (f11.trans (by rw [hk])) (idx_3 wx) (hK _ _ (NewT.refl _) rfl)
      · intro a wx hT hF K hK
        obtain ⟨f12, _⟩ := hF
        have f12 : a.tmps.getD 12 undef = .agg (rowA 3 (fun j => formF (9 + j))) := f12
        refine rely_wp rfl ?_
        exact opr_fieldv rfl f12 (fldv_1 _ _ rfl wx) (hK _ _ (NewT.refl _) rfl)
      · intro a wx hT hF K hK
        obtain ⟨f1, _⟩ := hF
        have f1 : a.tmps.getD 1 undef = .pointer (some ⟨w.heap.size, 0, none⟩) := f1
        refine rely_wp rfl ?_
        exact opr_ldR (hT.row R1.out) rfl f1 (hK _ _ (NewT.refl _) rfl)
      · intro a wx hT hF K hK
        obtain ⟨f13, f14, _⟩ := hF
        have f13 : a.tmps.getD 13 undef = fnV 60 := f13
        have f14 : a.tmps.getD 14 undef = .agg (rowA 109 (recF x sv dv)) := f14
        refine rely_wp rfl ?_
        refine opr_callv rfl f13 Tryd.func60 (by kernel_rfl) (by kernel_rfl) (by simp only [List.map_toArray, List.map_cons, List.map_nil, eval_tmp, f14]; rfl) (Calls.mono (putReceipt_cv _ x wx (hT.recV HX.out)) ?_)
        rintro e w' ⟨v, he, hN, hv⟩
        exact ⟨v, he, hK v w' hN hv⟩
      · intro a wx hT hF K hK
        obtain ⟨f8, f15, _⟩ := hF
        replace f8 := show (svRd (numI x.kind)).pred (a.tmps.getD 8 undef) wx from f8
        replace f15 := show (svRd (rcL x)).pred (a.tmps.getD 15 undef) wx from f15
        refine rely_wp rfl ?_
        exact opr_bs2 rfl f8 f15 hK
      · intro a wx hT hF K hK
        obtain ⟨f16, _⟩ := hF
        replace f16 := show (svParts [numI x.kind, rcL x]).pred (a.tmps.getD 16 undef) wx from f16
        refine rely_wp rfl ?_
        exact opr_cv (All_rd _ _ (openB x) wx f16 (by rw [← HE.out]; simp) (by rw [← HE.out, List.length_append]; have := hlen; omega)) rfl Tryd.func25 (by kernel_rfl) (by kernel_rfl) (by simp only [List.map_toArray, List.map_cons, List.map_nil, eval_tmp]) hK
      · intro wx hT
        intro u h; obtain rfl := Eq.symm (h (by simp)); clear h
        intro u h; obtain rfl := Eq.symm (h (by simp)); clear h
        intro _ _
        intro u h; obtain rfl := Eq.symm (h (by simp)); clear h
        intro u h; obtain rfl := Eq.symm (h (by simp)); clear h
        intro u h; obtain rfl := Eq.symm (h (by simp)); clear h
        intro u h; obtain rfl := Eq.symm (h (by simp)); clear h
        intro u h; obtain rfl := Eq.symm (h (by simp)); clear h
        intro u h; obtain rfl := Eq.symm (h (by simp)); clear h
        intro _ _
        intro _ _
        intro u17 h; have g17 := h (by simp); clear h; replace g17 := show (svRd (openB x)).pred u17 wx from g17
        refine relyEnd_nil rfl ?_
        simp only [Act.put, List.setIfInBounds_toArray, List.set_cons_zero, List.set_cons_succ]
        refine opr_move (.inr rfl) ?_
        go_simp
        go_wp2
        go_ret
        exact ⟨_, rfl, NewT.trans _ _ _ HN1.out hT, g17⟩
    have k3 := hk
    clear hk
    by_cases hk : x.kind = 4
    · have HE := Lib.hid (open_o x _ hr (fun c => tail_2 x c (.inr hk)))
      have hlen : (callL x).length ≤ 900000 := by have := callL_len x; omega
      go_upto_region 3 with fail
      refine wp_region_rely NewT [SV.eq (.pointer (some ⟨w.heap.size, 0, none⟩)), SV.eq (.int .i64 (x.kind)), svRd (numI x.kind), SV.eq (.agg (rowA 21 (formF))), SV.eq (.pointer (some ⟨w.heap.size, 0, none⟩)), SV.eq (.int .i64 (x.kind)), SV.eq (.agg (rowA 3 (fun j => formF (12 + j)))), SV.eq (fnV 58), SV.eq (.agg (rowA 109 (recF x sv dv))), svRd (callL x), svParts [numI x.kind, callL x], svRd (openB x)] [([(1, none)], none), ([(6, some 0)], none), ([(7, some 1)], none), ([], none), ([(1, none)], none), ([(10, some 4)], none), ([(9, some 3), (11, some 5)], none), ([(12, some 6)], none), ([(1, none)], none), ([(13, some 7), (14, some 8)], none), ([(8, some 2), (15, some 9)], none), ([(16, some 10)], none)] 18 rfl (by kernel_rfl) rfl (by kernel_rfl) (by kernel_rfl) rfl NewT.trans (NewT.drew _) (Nat.le_of_ble_eq_true rfl) ⟨?_, ?_, ?_, ?_, ?_, ?_, ?_, ?_, ?_, ?_, ?_, ?_, trivial⟩ ?_
      · intro a wx hT hF K hK
        obtain ⟨f1, _⟩ := hF
        have f1 : a.tmps.getD 1 undef = .pointer (some ⟨w.heap.size, 0, none⟩) := f1
        refine rely_wp rfl ?_
        exact opr_fldR (by decide) rfl f1 (hK _ _ (NewT.refl _) rfl)
      · intro a wx hT hF K hK
        obtain ⟨f6, _⟩ := hF
        have f6 : a.tmps.getD 6 undef = .pointer (some ⟨w.heap.size, 0, none⟩) := f6
        refine rely_wp rfl ?_
        exact opr_ldI (hT.row R1.out) (by decide) rfl rfl f6 (hK _ _ (NewT.refl _) rfl)
      · intro a wx hT hF K hK
        obtain ⟨f7, _⟩ := hF
        have f7 : a.tmps.getD 7 undef = .int .i64 (x.kind) := f7
        refine rely_wp rfl ?_
        exact opr_cv (Num_rd x.kind _ wx rfl) rfl Tryd.func38 (by kernel_rfl) (by kernel_rfl) (by simp only [List.map_toArray, List.map_cons, List.map_nil, eval_tmp, f7]) hK
      · intro a wx hT hF K hK
        refine rely_wp rfl ?_
        exact opr_cv (forms_cv wx) rfl Tryd.func39 (by kernel_rfl) (by kernel_rfl) (by simp only [List.map_toArray, List.map_nil]) hK
      · intro a wx hT hF K hK
        obtain ⟨f1, _⟩ := hF
        have f1 : a.tmps.getD 1 undef = .pointer (some ⟨w.heap.size, 0, none⟩) := f1
        refine rely_wp rfl ?_
        exact opr_fldR (by decide) rfl f1 (hK _ _ (NewT.refl _) rfl)
      · intro a wx hT hF K hK
        obtain ⟨f10, _⟩ := hF
        have f10 : a.tmps.getD 10 undef = .pointer (some ⟨w.heap.size, 0, none⟩) := f10
        refine rely_wp rfl ?_
        exact opr_ldI (hT.row R1.out) (by decide) rfl rfl f10 (hK _ _ (NewT.refl _) rfl)
      · intro a wx hT hF K hK
        obtain ⟨f9, f11, _⟩ := hF
        have f9 : a.tmps.getD 9 undef = .agg (rowA 21 (formF)) := f9
        have f11 : a.tmps.getD 11 undef = .int .i64 (x.kind) := f11
        refine rely_wp rfl ?_
        exact opr_idx rfl f9 (f11.trans (by rw [hk])) (idx_4 wx) (hK _ _ (NewT.refl _) rfl)
      · intro a wx hT hF K hK
        obtain ⟨f12, _⟩ := hF
        have f12 : a.tmps.getD 12 undef = .agg (rowA 3 (fun j => formF (12 + j))) := f12
        refine rely_wp rfl ?_
        exact opr_fieldv rfl f12 (fldv_1 _ _ rfl wx) (hK _ _ (NewT.refl _) rfl)
      · intro a wx hT hF K hK
        obtain ⟨f1, _⟩ := hF
        have f1 : a.tmps.getD 1 undef = .pointer (some ⟨w.heap.size, 0, none⟩) := f1
        refine rely_wp rfl ?_
        exact opr_ldR (hT.row R1.out) rfl f1 (hK _ _ (NewT.refl _) rfl)
      · intro a wx hT hF K hK
        obtain ⟨f13, f14, _⟩ := hF
        have f13 : a.tmps.getD 13 undef = fnV 58 := f13
        have f14 : a.tmps.getD 14 undef = .agg (rowA 109 (recF x sv dv)) := f14
        refine rely_wp rfl ?_
        refine opr_callv rfl f13 Tryd.func58 (by kernel_rfl) (by kernel_rfl) (by simp only [List.map_toArray, List.map_cons, List.map_nil, eval_tmp, f14]; rfl) (Calls.mono (putTry_cv _ x wx (hT.recV HX.out)) ?_)
        rintro e w' ⟨v, he, hN, hv⟩
        exact ⟨v, he, hK v w' hN hv⟩
      · intro a wx hT hF K hK
        obtain ⟨f8, f15, _⟩ := hF
        replace f8 := show (svRd (numI x.kind)).pred (a.tmps.getD 8 undef) wx from f8
        replace f15 := show (svRd (callL x)).pred (a.tmps.getD 15 undef) wx from f15
        refine rely_wp rfl ?_
        exact opr_bs2 rfl f8 f15 hK
      · intro a wx hT hF K hK
        obtain ⟨f16, _⟩ := hF
        replace f16 := show (svParts [numI x.kind, callL x]).pred (a.tmps.getD 16 undef) wx from f16
        refine rely_wp rfl ?_
        exact opr_cv (All_rd _ _ (openB x) wx f16 (by rw [← HE.out]; simp) (by rw [← HE.out, List.length_append]; have := hlen; omega)) rfl Tryd.func25 (by kernel_rfl) (by kernel_rfl) (by simp only [List.map_toArray, List.map_cons, List.map_nil, eval_tmp]) hK
      · intro wx hT
        intro u h; obtain rfl := Eq.symm (h (by simp)); clear h
        intro u h; obtain rfl := Eq.symm (h (by simp)); clear h
        intro _ _
        intro u h; obtain rfl := Eq.symm (h (by simp)); clear h
        intro u h; obtain rfl := Eq.symm (h (by simp)); clear h
        intro u h; obtain rfl := Eq.symm (h (by simp)); clear h
        intro u h; obtain rfl := Eq.symm (h (by simp)); clear h
        intro u h; obtain rfl := Eq.symm (h (by simp)); clear h
        intro u h; obtain rfl := Eq.symm (h (by simp)); clear h
        intro _ _
        intro _ _
        intro u17 h; have g17 := h (by simp); clear h; replace g17 := show (svRd (openB x)).pred u17 wx from g17
        refine relyEnd_nil rfl ?_
        simp only [Act.put, List.setIfInBounds_toArray, List.set_cons_zero, List.set_cons_succ]
        refine opr_move (.inr rfl) ?_
        go_simp
        go_wp2
        go_ret
        exact ⟨_, rfl, NewT.trans _ _ _ HN1.out hT, g17⟩
    have k4 := hk
    clear hk
    by_cases hk : x.kind = 5
    · have HE := Lib.hid (open_o x _ hr (fun c => tail_5 x c hk))
      have hlen : (clL x).length ≤ 900000 := by have := clL_len x; omega
      go_upto_region 3 with fail
      refine wp_region_rely NewT [SV.eq (.pointer (some ⟨w.heap.size, 0, none⟩)), SV.eq (.int .i64 (x.kind)), svRd (numI x.kind), SV.eq (.agg (rowA 21 (formF))), SV.eq (.pointer (some ⟨w.heap.size, 0, none⟩)), SV.eq (.int .i64 (x.kind)), SV.eq (.agg (rowA 3 (fun j => formF (15 + j)))), SV.eq (fnV 62), SV.eq (.agg (rowA 109 (recF x sv dv))), svRd (clL x), svParts [numI x.kind, clL x], svRd (openB x)] [([(1, none)], none), ([(6, some 0)], none), ([(7, some 1)], none), ([], none), ([(1, none)], none), ([(10, some 4)], none), ([(9, some 3), (11, some 5)], none), ([(12, some 6)], none), ([(1, none)], none), ([(13, some 7), (14, some 8)], none), ([(8, some 2), (15, some 9)], none), ([(16, some 10)], none)] 18 rfl (by kernel_rfl) rfl (by kernel_rfl) (by kernel_rfl) rfl NewT.trans (NewT.drew _) (Nat.le_of_ble_eq_true rfl) ⟨?_, ?_, ?_, ?_, ?_, ?_, ?_, ?_, ?_, ?_, ?_, ?_, trivial⟩ ?_
      · intro a wx hT hF K hK
        obtain ⟨f1, _⟩ := hF
        have f1 : a.tmps.getD 1 undef = .pointer (some ⟨w.heap.size, 0, none⟩) := f1
        refine rely_wp rfl ?_
        exact opr_fldR (by decide) rfl f1 (hK _ _ (NewT.refl _) rfl)
      · intro a wx hT hF K hK
        obtain ⟨f6, _⟩ := hF
        have f6 : a.tmps.getD 6 undef = .pointer (some ⟨w.heap.size, 0, none⟩) := f6
        refine rely_wp rfl ?_
        exact opr_ldI (hT.row R1.out) (by decide) rfl rfl f6 (hK _ _ (NewT.refl _) rfl)
      · intro a wx hT hF K hK
        obtain ⟨f7, _⟩ := hF
        have f7 : a.tmps.getD 7 undef = .int .i64 (x.kind) := f7
        refine rely_wp rfl ?_
        exact opr_cv (Num_rd x.kind _ wx rfl) rfl Tryd.func38 (by kernel_rfl) (by kernel_rfl) (by simp only [List.map_toArray, List.map_cons, List.map_nil, eval_tmp, f7]) hK
      · intro a wx hT hF K hK
        refine rely_wp rfl ?_
        exact opr_cv (forms_cv wx) rfl Tryd.func39 (by kernel_rfl) (by kernel_rfl) (by simp only [List.map_toArray, List.map_nil]) hK
      · intro a wx hT hF K hK
        obtain ⟨f1, _⟩ := hF
        have f1 : a.tmps.getD 1 undef = .pointer (some ⟨w.heap.size, 0, none⟩) := f1
        refine rely_wp rfl ?_
        exact opr_fldR (by decide) rfl f1 (hK _ _ (NewT.refl _) rfl)
      · intro a wx hT hF K hK
        obtain ⟨f10, _⟩ := hF
        have f10 : a.tmps.getD 10 undef = .pointer (some ⟨w.heap.size, 0, none⟩) := f10
        refine rely_wp rfl ?_
        exact opr_ldI (hT.row R1.out) (by decide) rfl rfl f10 (hK _ _ (NewT.refl _) rfl)
      · intro a wx hT hF K hK
        obtain ⟨f9, f11, _⟩ := hF
        have f9 : a.tmps.getD 9 undef = .agg (rowA 21 (formF)) := f9
        have f11 : a.tmps.getD 11 undef = .int .i64 (x.kind) := f11
        refine rely_wp rfl ?_
        exact opr_idx rfl f9 (f11.trans (by rw [hk])) (idx_5 wx) (hK _ _ (NewT.refl _) rfl)
      · intro a wx hT hF K hK
        obtain ⟨f12, _⟩ := hF
        have f12 : a.tmps.getD 12 undef = .agg (rowA 3 (fun j => formF (15 + j))) := f12
        refine rely_wp rfl ?_
        exact opr_fieldv rfl f12 (fldv_1 _ _ rfl wx) (hK _ _ (NewT.refl _) rfl)
      · intro a wx hT hF K hK
        obtain ⟨f1, _⟩ := hF
        have f1 : a.tmps.getD 1 undef = .pointer (some ⟨w.heap.size, 0, none⟩) := f1
        refine rely_wp rfl ?_
        exact opr_ldR (hT.row R1.out) rfl f1 (hK _ _ (NewT.refl _) rfl)
      · intro a wx hT hF K hK
        obtain ⟨f13, f14, _⟩ := hF
        have f13 : a.tmps.getD 13 undef = fnV 62 := f13
        have f14 : a.tmps.getD 14 undef = .agg (rowA 109 (recF x sv dv)) := f14
        refine rely_wp rfl ?_
        refine opr_callv rfl f13 Tryd.func62 (by kernel_rfl) (by kernel_rfl) (by simp only [List.map_toArray, List.map_cons, List.map_nil, eval_tmp, f14]; rfl) (Calls.mono (putClosed_cv _ x wx (hT.recV HX.out)) ?_)
        rintro e w' ⟨v, he, hN, hv⟩
        exact ⟨v, he, hK v w' hN hv⟩
      · intro a wx hT hF K hK
        obtain ⟨f8, f15, _⟩ := hF
        replace f8 := show (svRd (numI x.kind)).pred (a.tmps.getD 8 undef) wx from f8
        replace f15 := show (svRd (clL x)).pred (a.tmps.getD 15 undef) wx from f15
        refine rely_wp rfl ?_
        exact opr_bs2 rfl f8 f15 hK
      · intro a wx hT hF K hK
        obtain ⟨f16, _⟩ := hF
        replace f16 := show (svParts [numI x.kind, clL x]).pred (a.tmps.getD 16 undef) wx from f16
        refine rely_wp rfl ?_
        exact opr_cv (All_rd _ _ (openB x) wx f16 (by rw [← HE.out]; simp) (by rw [← HE.out, List.length_append]; have := hlen; omega)) rfl Tryd.func25 (by kernel_rfl) (by kernel_rfl) (by simp only [List.map_toArray, List.map_cons, List.map_nil, eval_tmp]) hK
      · intro wx hT
        intro u h; obtain rfl := Eq.symm (h (by simp)); clear h
        intro u h; obtain rfl := Eq.symm (h (by simp)); clear h
        intro _ _
        intro u h; obtain rfl := Eq.symm (h (by simp)); clear h
        intro u h; obtain rfl := Eq.symm (h (by simp)); clear h
        intro u h; obtain rfl := Eq.symm (h (by simp)); clear h
        intro u h; obtain rfl := Eq.symm (h (by simp)); clear h
        intro u h; obtain rfl := Eq.symm (h (by simp)); clear h
        intro u h; obtain rfl := Eq.symm (h (by simp)); clear h
        intro _ _
        intro _ _
        intro u17 h; have g17 := h (by simp); clear h; replace g17 := show (svRd (openB x)).pred u17 wx from g17
        refine relyEnd_nil rfl ?_
        simp only [Act.put, List.setIfInBounds_toArray, List.set_cons_zero, List.set_cons_succ]
        refine opr_move (.inr rfl) ?_
        go_simp
        go_wp2
        go_ret
        exact ⟨_, rfl, NewT.trans _ _ _ HN1.out hT, g17⟩
    have k5 := hk
    clear hk
    have hk : x.kind = 6 := by omega
    clear k1 k2 k3 k4 k5
    have HE := Lib.hid (open_o x _ hr (fun c => tail_6 x c hk))
    have hlen : (roL x).length ≤ 900000 := by have := roL_len x; omega
    go_upto_region 3 with fail
    refine wp_region_rely NewT [SV.eq (.pointer (some ⟨w.heap.size, 0, none⟩)), SV.eq (.int .i64 (x.kind)), svRd (numI x.kind), SV.eq (.agg (rowA 21 (formF))), SV.eq (.pointer (some ⟨w.heap.size, 0, none⟩)), SV.eq (.int .i64 (x.kind)), SV.eq (.agg (rowA 3 (fun j => formF (18 + j)))), SV.eq (fnV 64), SV.eq (.agg (rowA 109 (recF x sv dv))), svRd (roL x), svParts [numI x.kind, roL x], svRd (openB x)] [([(1, none)], none), ([(6, some 0)], none), ([(7, some 1)], none), ([], none), ([(1, none)], none), ([(10, some 4)], none), ([(9, some 3), (11, some 5)], none), ([(12, some 6)], none), ([(1, none)], none), ([(13, some 7), (14, some 8)], none), ([(8, some 2), (15, some 9)], none), ([(16, some 10)], none)] 18 rfl (by kernel_rfl) rfl (by kernel_rfl) (by kernel_rfl) rfl NewT.trans (NewT.drew _) (Nat.le_of_ble_eq_true rfl) ⟨?_, ?_, ?_, ?_, ?_, ?_, ?_, ?_, ?_, ?_, ?_, ?_, trivial⟩ ?_
    · intro a wx hT hF K hK
      obtain ⟨f1, _⟩ := hF
      have f1 : a.tmps.getD 1 undef = .pointer (some ⟨w.heap.size, 0, none⟩) := f1
      refine rely_wp rfl ?_
      exact opr_fldR (by decide) rfl f1 (hK _ _ (NewT.refl _) rfl)
    · intro a wx hT hF K hK
      obtain ⟨f6, _⟩ := hF
      have f6 : a.tmps.getD 6 undef = .pointer (some ⟨w.heap.size, 0, none⟩) := f6
      refine rely_wp rfl ?_
      exact opr_ldI (hT.row R1.out) (by decide) rfl rfl f6 (hK _ _ (NewT.refl _) rfl)
    · intro a wx hT hF K hK
      obtain ⟨f7, _⟩ := hF
      have f7 : a.tmps.getD 7 undef = .int .i64 (x.kind) := f7
      refine rely_wp rfl ?_
      exact opr_cv (Num_rd x.kind _ wx rfl) rfl Tryd.func38 (by kernel_rfl) (by kernel_rfl) (by simp only [List.map_toArray, List.map_cons, List.map_nil, eval_tmp, f7]) hK
    · intro a wx hT hF K hK
      refine rely_wp rfl ?_
      exact opr_cv (forms_cv wx) rfl Tryd.func39 (by kernel_rfl) (by kernel_rfl) (by simp only [List.map_toArray, List.map_nil]) hK
    · intro a wx hT hF K hK
      obtain ⟨f1, _⟩ := hF
      have f1 : a.tmps.getD 1 undef = .pointer (some ⟨w.heap.size, 0, none⟩) := f1
      refine rely_wp rfl ?_
      exact opr_fldR (by decide) rfl f1 (hK _ _ (NewT.refl _) rfl)
    · intro a wx hT hF K hK
      obtain ⟨f10, _⟩ := hF
      have f10 : a.tmps.getD 10 undef = .pointer (some ⟨w.heap.size, 0, none⟩) := f10
      refine rely_wp rfl ?_
      exact opr_ldI (hT.row R1.out) (by decide) rfl rfl f10 (hK _ _ (NewT.refl _) rfl)
    · intro a wx hT hF K hK
      obtain ⟨f9, f11, _⟩ := hF
      have f9 : a.tmps.getD 9 undef = .agg (rowA 21 (formF)) := f9
      have f11 : a.tmps.getD 11 undef = .int .i64 (x.kind) := f11
      refine rely_wp rfl ?_
      exact opr_idx rfl f9 (f11.trans (by rw [hk])) (idx_6 wx) (hK _ _ (NewT.refl _) rfl)
    · intro a wx hT hF K hK
      obtain ⟨f12, _⟩ := hF
      have f12 : a.tmps.getD 12 undef = .agg (rowA 3 (fun j => formF (18 + j))) := f12
      refine rely_wp rfl ?_
      exact opr_fieldv rfl f12 (fldv_1 _ _ rfl wx) (hK _ _ (NewT.refl _) rfl)
    · intro a wx hT hF K hK
      obtain ⟨f1, _⟩ := hF
      have f1 : a.tmps.getD 1 undef = .pointer (some ⟨w.heap.size, 0, none⟩) := f1
      refine rely_wp rfl ?_
      exact opr_ldR (hT.row R1.out) rfl f1 (hK _ _ (NewT.refl _) rfl)
    · intro a wx hT hF K hK
      obtain ⟨f13, f14, _⟩ := hF
      have f13 : a.tmps.getD 13 undef = fnV 64 := f13
      have f14 : a.tmps.getD 14 undef = .agg (rowA 109 (recF x sv dv)) := f14
      refine rely_wp rfl ?_
      refine opr_callv rfl f13 Tryd.func64 (by kernel_rfl) (by kernel_rfl) (by simp only [List.map_toArray, List.map_cons, List.map_nil, eval_tmp, f14]; rfl) (Calls.mono (putRotate_cv _ x wx (hT.recV HX.out)) ?_)
      rintro e w' ⟨v, he, hN, hv⟩
      exact ⟨v, he, hK v w' hN hv⟩
    · intro a wx hT hF K hK
      obtain ⟨f8, f15, _⟩ := hF
      replace f8 := show (svRd (numI x.kind)).pred (a.tmps.getD 8 undef) wx from f8
      replace f15 := show (svRd (roL x)).pred (a.tmps.getD 15 undef) wx from f15
      refine rely_wp rfl ?_
      exact opr_bs2 rfl f8 f15 hK
    · intro a wx hT hF K hK
      obtain ⟨f16, _⟩ := hF
      replace f16 := show (svParts [numI x.kind, roL x]).pred (a.tmps.getD 16 undef) wx from f16
      refine rely_wp rfl ?_
      exact opr_cv (All_rd _ _ (openB x) wx f16 (by rw [← HE.out]; simp) (by rw [← HE.out, List.length_append]; have := hlen; omega)) rfl Tryd.func25 (by kernel_rfl) (by kernel_rfl) (by simp only [List.map_toArray, List.map_cons, List.map_nil, eval_tmp]) hK
    · intro wx hT
      intro u h; obtain rfl := Eq.symm (h (by simp)); clear h
      intro u h; obtain rfl := Eq.symm (h (by simp)); clear h
      intro _ _
      intro u h; obtain rfl := Eq.symm (h (by simp)); clear h
      intro u h; obtain rfl := Eq.symm (h (by simp)); clear h
      intro u h; obtain rfl := Eq.symm (h (by simp)); clear h
      intro u h; obtain rfl := Eq.symm (h (by simp)); clear h
      intro u h; obtain rfl := Eq.symm (h (by simp)); clear h
      intro u h; obtain rfl := Eq.symm (h (by simp)); clear h
      intro _ _
      intro _ _
      intro u17 h; have g17 := h (by simp); clear h; replace g17 := show (svRd (openB x)).pred u17 wx from g17
      refine relyEnd_nil rfl ?_
      simp only [Act.put, List.setIfInBounds_toArray, List.set_cons_zero, List.set_cons_succ]
      refine opr_move (.inr rfl) ?_
      go_simp
      go_wp2
      go_ret
      exact ⟨_, rfl, NewT.trans _ _ _ HN1.out hT, g17⟩
end Go.Proofs.YthgblcpekhiphaaDoor
/- Package rec: what calls', closings' and rotations' records are read from. -/
namespace Go.Proofs.YthgblcpekhiphaaDoor
open Go Go.RowKit
set_option maxRecDepth 8000
def tryR (x : Rc) : Rc := { zR with saga := x.saga, seq := x.seq, step := x.step, tr := x.tr, back := x.back }
theorem build_try (a b c d : Int) (e : Bool) (w : World) : (Instr.build 27 #[(1, .int .i64 a), (2, .int .i64 b), (3, .int .i64 c), (4, .int .i64 d), (5, .bool e)]).run Tryd.prog w = .ok (.agg (rowA 109 (recF { zR with saga := a, seq := b, step := c, tr := d, back := e } (.slice none 0 0) (.slice none 0 0)))) w := by kernel_rfl
theorem build_closed (a b c : Int) (w : World) : (Instr.build 27 #[(1, .int .i64 a), (2, .int .i64 b), (7, .int .i64 c)]).run Tryd.prog w = .ok (.agg (rowA 109 (recF { zR with saga := a, seq := b, nd := c } (.slice none 0 0) (.slice none 0 0)))) w := by kernel_rfl
theorem build_rot (a b : Int) (w : World) : (Instr.build 27 #[(8, .int .i64 a), (9, .int .i64 b)]).run Tryd.prog w = .ok (.agg (rowA 109 (recF { zR with part := a, epoch := b } (.slice none 0 0) (.slice none 0 0)))) w := by kernel_rfl
set_option maxHeartbeats 1000000 in
theorem readTry_cv (R : Nat) (x : Rc) (rest : List UInt8) (w : World) (h : Rdr w R (callL x ++ rest) 0) (h0 : 0 ≤ x.saga ∧ x.saga ≤ 2147483647) (h1 : 0 ≤ x.seq ∧ x.seq ≤ 2147483647) (h2 : 0 ≤ x.step ∧ x.step ≤ 2147483647) (h3 : 0 ≤ x.tr ∧ x.tr ≤ 2147483647) (hl : rest.length ≤ 800000) :
    Calls Tryd.prog 59 #[.pointer (some ⟨R, 0, none⟩)] w fun e w' => e = .returned (.agg (rowA 109 (recF (tryR x) (.slice none 0 0) (.slice none 0 0)))) ∧ RT R w w' ∧ Rdr w' R rest 0 := by
  have hRl := h.lt
  rw [show callL x ++ rest = numI x.saga ++ (numI x.seq ++ (numI x.step ++ (numI x.tr ++ (fB x.back :: (rest))))) by unfold callL; simp] at h
  have Hr := Lib.hid h
  have n0 := numI_length x.saga
  have n1 := numI_length x.seq
  have n2 := numI_length x.step
  have n3 := numI_length x.tr
  clear h
  go_enter Tryd.func59, Tryd.ntmps59
  go_upto_region 1 with fail
  have r2 := rowIs_box w 27 109 (recF zR (.slice none 0 0) (.slice none 0 0))
  have hN := NewT.alloc w (.cells (rowA 109 (recF zR (.slice none 0 0) (.slice none 0 0))) 27)
  change Code.wp _ _ _ _ (w.alloc (.cells (rowA 109 (recF zR (.slice none 0 0) (.slice none 0 0))) 27))
  generalize w.alloc (.cells (rowA 109 (recF zR (.slice none 0 0) (.slice none 0 0))) 27) = W0 at r2 hN ⊢
  have R2 := Lib.hid r2
  have HN := Lib.hid hN
  replace Hr := Lib.hid (Rdr.new Hr.out hN)
  have hne : w.heap.size ≠ R := by omega
  clear r2 hN
  refine wp_region_steps (RT R) (fun k w => Rdr w R (([numI x.saga ++ (numI x.seq ++ (numI x.step ++ (numI x.tr ++ (fB x.back :: (rest))))), numI x.saga ++ (numI x.seq ++ (numI x.step ++ (numI x.tr ++ (fB x.back :: (rest))))), numI x.seq ++ (numI x.step ++ (numI x.tr ++ (fB x.back :: (rest)))), numI x.seq ++ (numI x.step ++ (numI x.tr ++ (fB x.back :: (rest)))), numI x.step ++ (numI x.tr ++ (fB x.back :: (rest))), numI x.step ++ (numI x.tr ++ (fB x.back :: (rest))), numI x.tr ++ (fB x.back :: (rest)), numI x.tr ++ (fB x.back :: (rest)), fB x.back :: (rest), fB x.back :: (rest), rest, rest] : List (List UInt8)).getD k []) 0) [SV.eq (.pointer (some ⟨R, 0, none⟩)), SV.eq (.int .i64 (x.saga)), SV.eq (.pointer (some ⟨R, 0, none⟩)), SV.eq (.int .i64 (x.seq)), SV.eq (.pointer (some ⟨R, 0, none⟩)), SV.eq (.int .i64 (x.step)), SV.eq (.pointer (some ⟨R, 0, none⟩)), SV.eq (.int .i64 (x.tr)), SV.eq (.pointer (some ⟨R, 0, none⟩)), SV.eq (.bool (x.back)), SV.eq (.agg (rowA 109 (recF (tryR x) (.slice none 0 0) (.slice none 0 0))))] [([(0, none)], none), ([(3, some 0)], none), ([(0, none)], none), ([(5, some 2)], none), ([(0, none)], none), ([(7, some 4)], none), ([(0, none)], none), ([(9, some 6)], none), ([(0, none)], none), ([(11, some 8)], none), ([(4, some 1), (6, some 3), (8, some 5), (10, some 7), (12, some 9)], none)] 14 11 rfl rfl (by kernel_rfl) RT.trans (RT.refl _ _) Hr.out (Nat.le_of_ble_eq_true rfl) ⟨?_, ?_, ?_, ?_, ?_, ?_, ?_, ?_, ?_, ?_, ?_, trivial⟩ ?_
  · intro a wx hT hF hJ K hK
    replace hK := fun v w' (hN : NewT wx w') c => hK v w' (RT.new (Rdr.lt hJ) hN) (Rdr.new hJ hN) c
    obtain ⟨f0, _⟩ := hF
    have f0 : a.tmps.getD 0 undef = .pointer (some ⟨R, 0, none⟩) := f0
    refine rely_wp rfl ?_
    exact opr_move (.inl rfl) (hK _ _ (NewT.refl _) f0)
  · intro a wx hT hF hJ K hK
    obtain ⟨f3, _⟩ := hF
    have f3 : a.tmps.getD 3 undef = .pointer (some ⟨R, 0, none⟩) := f3
    refine rely_wp rfl ?_
    refine opr_call rfl Tryd.func44 (by kernel_rfl) (by kernel_rfl) (by simp only [List.map_toArray, List.map_cons, List.map_nil, eval_tmp, f3]) ((RNum_put R x.saga _ wx (show Rdr wx R (numI x.saga ++ (numI x.seq ++ (numI x.step ++ (numI x.tr ++ (fB x.back :: (rest)))))) 0 from hJ) (by omega) (by first | omega | (simp; omega) | (simp [hL_length]; omega))).mono ?_)
    rintro e w' ⟨rfl, hT', hr⟩
    exact ⟨_, rfl, hK _ _ hT' hr rfl⟩
  · intro a wx hT hF hJ K hK
    replace hK := fun v w' (hN : NewT wx w') c => hK v w' (RT.new (Rdr.lt hJ) hN) (Rdr.new hJ hN) c
    obtain ⟨f0, _⟩ := hF
    have f0 : a.tmps.getD 0 undef = .pointer (some ⟨R, 0, none⟩) := f0
    refine rely_wp rfl ?_
    exact opr_move (.inl rfl) (hK _ _ (NewT.refl _) f0)
  · intro a wx hT hF hJ K hK
    obtain ⟨f5, _⟩ := hF
    have f5 : a.tmps.getD 5 undef = .pointer (some ⟨R, 0, none⟩) := f5
    refine rely_wp rfl ?_
    refine opr_call rfl Tryd.func44 (by kernel_rfl) (by kernel_rfl) (by simp only [List.map_toArray, List.map_cons, List.map_nil, eval_tmp, f5]) ((RNum_put R x.seq _ wx (show Rdr wx R (numI x.seq ++ (numI x.step ++ (numI x.tr ++ (fB x.back :: (rest))))) 0 from hJ) (by omega) (by first | omega | (simp; omega) | (simp [hL_length]; omega))).mono ?_)
    rintro e w' ⟨rfl, hT', hr⟩
    exact ⟨_, rfl, hK _ _ hT' hr rfl⟩
  · intro a wx hT hF hJ K hK
    replace hK := fun v w' (hN : NewT wx w') c => hK v w' (RT.new (Rdr.lt hJ) hN) (Rdr.new hJ hN) c
    obtain ⟨f0, _⟩ := hF
    have f0 : a.tmps.getD 0 undef = .pointer (some ⟨R, 0, none⟩) := f0
    refine rely_wp rfl ?_
    exact opr_move (.inl rfl) (hK _ _ (NewT.refl _) f0)
  · intro a wx hT hF hJ K hK
    obtain ⟨f7, _⟩ := hF
    have f7 : a.tmps.getD 7 undef = .pointer (some ⟨R, 0, none⟩) := f7
    refine rely_wp rfl ?_
    refine opr_call rfl Tryd.func44 (by kernel_rfl) (by kernel_rfl) (by simp only [List.map_toArray, List.map_cons, List.map_nil, eval_tmp, f7]) ((RNum_put R x.step _ wx (show Rdr wx R (numI x.step ++ (numI x.tr ++ (fB x.back :: (rest)))) 0 from hJ) (by omega) (by first | omega | (simp; omega) | (simp [hL_length]; omega))).mono ?_)
    rintro e w' ⟨rfl, hT', hr⟩
    exact ⟨_, rfl, hK _ _ hT' hr rfl⟩
  · intro a wx hT hF hJ K hK
    replace hK := fun v w' (hN : NewT wx w') c => hK v w' (RT.new (Rdr.lt hJ) hN) (Rdr.new hJ hN) c
    obtain ⟨f0, _⟩ := hF
    have f0 : a.tmps.getD 0 undef = .pointer (some ⟨R, 0, none⟩) := f0
    refine rely_wp rfl ?_
    exact opr_move (.inl rfl) (hK _ _ (NewT.refl _) f0)
  · intro a wx hT hF hJ K hK
    obtain ⟨f9, _⟩ := hF
    have f9 : a.tmps.getD 9 undef = .pointer (some ⟨R, 0, none⟩) := f9
    refine rely_wp rfl ?_
    refine opr_call rfl Tryd.func44 (by kernel_rfl) (by kernel_rfl) (by simp only [List.map_toArray, List.map_cons, List.map_nil, eval_tmp, f9]) ((RNum_put R x.tr _ wx (show Rdr wx R (numI x.tr ++ (fB x.back :: (rest))) 0 from hJ) (by omega) (by first | omega | (simp; omega) | (simp [hL_length]; omega))).mono ?_)
    rintro e w' ⟨rfl, hT', hr⟩
    exact ⟨_, rfl, hK _ _ hT' hr rfl⟩
  · intro a wx hT hF hJ K hK
    replace hK := fun v w' (hN : NewT wx w') c => hK v w' (RT.new (Rdr.lt hJ) hN) (Rdr.new hJ hN) c
    obtain ⟨f0, _⟩ := hF
    have f0 : a.tmps.getD 0 undef = .pointer (some ⟨R, 0, none⟩) := f0
    refine rely_wp rfl ?_
    exact opr_move (.inl rfl) (hK _ _ (NewT.refl _) f0)
  · intro a wx hT hF hJ K hK
    obtain ⟨f11, _⟩ := hF
    have f11 : a.tmps.getD 11 undef = .pointer (some ⟨R, 0, none⟩) := f11
    refine rely_wp rfl ?_
    refine opr_call rfl Tryd.func80 (by kernel_rfl) (by kernel_rfl) (by simp only [List.map_toArray, List.map_cons, List.map_nil, eval_tmp, f11]) ((RFlag_put R x.back _ wx (show Rdr wx R (fB x.back :: (rest)) 0 from hJ) (by first | omega | (simp; omega) | (simp [hL_length]; omega))).mono ?_)
    rintro e w' ⟨rfl, hT', hr⟩
    exact ⟨_, rfl, hK _ _ hT' hr rfl⟩
  · intro a wx hT hF hJ K hK
    replace hK := fun v w' (hN : NewT wx w') c => hK v w' (RT.new (Rdr.lt hJ) hN) (Rdr.new hJ hN) c
    obtain ⟨f4, f6, f8, f10, f12, _⟩ := hF
    have f4 : a.tmps.getD 4 undef = .int .i64 (x.saga) := f4
    have f6 : a.tmps.getD 6 undef = .int .i64 (x.seq) := f6
    have f8 : a.tmps.getD 8 undef = .int .i64 (x.step) := f8
    have f10 : a.tmps.getD 10 undef = .int .i64 (x.tr) := f10
    have f12 : a.tmps.getD 12 undef = .bool (x.back) := f12
    refine rely_wp rfl ?_
    exact opr_build rfl (by simp only [List.map_toArray, List.map_cons, List.map_nil, eval_tmp, f4, f6, f8, f10, f12]) (build_try x.saga x.seq x.step x.tr x.back wx) (hK _ _ (NewT.refl _) rfl)
  · intro e1 h1 hJ
    intro u h; obtain rfl := Eq.symm (h (by simp)); clear h
    intro u h; obtain rfl := Eq.symm (h (by simp)); clear h
    intro u h; obtain rfl := Eq.symm (h (by simp)); clear h
    intro u h; obtain rfl := Eq.symm (h (by simp)); clear h
    intro u h; obtain rfl := Eq.symm (h (by simp)); clear h
    intro u h; obtain rfl := Eq.symm (h (by simp)); clear h
    intro u h; obtain rfl := Eq.symm (h (by simp)); clear h
    intro u h; obtain rfl := Eq.symm (h (by simp)); clear h
    intro u h; obtain rfl := Eq.symm (h (by simp)); clear h
    intro u h; obtain rfl := Eq.symm (h (by simp)); clear h
    intro u h; obtain rfl := Eq.symm (h (by simp)); clear h
    refine relyEnd_nil rfl ?_
    simp only [Act.put, List.setIfInBounds_toArray, List.set_cons_zero, List.set_cons_succ]
    refine wpList_plain rfl (fun K hK => ?_)
    refine opr_putm rfl rfl rfl (h1.row hne R2.out) (by decide) info_rec (recF_one _ _ _ rfl rfl) (put_all _ _) ?_
    intro wq hTq rq
    refine hK _ _ ?_
    refine wpList_end rfl ?_
    go_simp
    go_wp2
    have hRT : RT R w wq := RT.late2 (RT.trans _ _ _ (RT.new hRl HN.out) h1) (Nat.le_refl _) hRl hTq
    exact bodyPost_ret (results_agg rfl _ rfl rq Tryd.underlying27 rfl info_rec) rfl ⟨rfl, hRT, Rdr.rt (show Rdr e1 R rest 0 from hJ) hTq hRl⟩
set_option maxHeartbeats 1000000 in
theorem readClosed_cv (R : Nat) (x : Rc) (rest : List UInt8) (w : World) (h : Rdr w R (clL x ++ rest) 0) (h0 : 0 ≤ x.saga ∧ x.saga ≤ 2147483647) (h1 : 0 ≤ x.seq ∧ x.seq ≤ 2147483647) (h2 : 0 ≤ x.nd ∧ x.nd ≤ 2147483647) (hl : rest.length ≤ 800000) :
    Calls Tryd.prog 63 #[.pointer (some ⟨R, 0, none⟩)] w fun e w' => e = .returned (.agg (rowA 109 (recF ({ zR with saga := x.saga, seq := x.seq, nd := x.nd }) (.slice none 0 0) (.slice none 0 0)))) ∧ RT R w w' ∧ Rdr w' R rest 0 := by
  have hRl := h.lt
  rw [show clL x ++ rest = numI x.saga ++ (numI x.seq ++ (numI x.nd ++ (rest))) by unfold clL; simp] at h
  have Hr := Lib.hid h
  have n0 := numI_length x.saga
  have n1 := numI_length x.seq
  have n2 := numI_length x.nd
  clear h
  go_enter Tryd.func63, Tryd.ntmps63
  go_upto_region 1 with fail
  have r2 := rowIs_box w 27 109 (recF zR (.slice none 0 0) (.slice none 0 0))
  have hN := NewT.alloc w (.cells (rowA 109 (recF zR (.slice none 0 0) (.slice none 0 0))) 27)
  change Code.wp _ _ _ _ (w.alloc (.cells (rowA 109 (recF zR (.slice none 0 0) (.slice none 0 0))) 27))
  generalize w.alloc (.cells (rowA 109 (recF zR (.slice none 0 0) (.slice none 0 0))) 27) = W0 at r2 hN ⊢
  have R2 := Lib.hid r2
  have HN := Lib.hid hN
  replace Hr := Lib.hid (Rdr.new Hr.out hN)
  have hne : w.heap.size ≠ R := by omega
  clear r2 hN
  refine wp_region_steps (RT R) (fun k w => Rdr w R (([numI x.saga ++ (numI x.seq ++ (numI x.nd ++ (rest))), numI x.saga ++ (numI x.seq ++ (numI x.nd ++ (rest))), numI x.seq ++ (numI x.nd ++ (rest)), numI x.seq ++ (numI x.nd ++ (rest)), numI x.nd ++ (rest), numI x.nd ++ (rest), rest, rest] : List (List UInt8)).getD k []) 0) [SV.eq (.pointer (some ⟨R, 0, none⟩)), SV.eq (.int .i64 (x.saga)), SV.eq (.pointer (some ⟨R, 0, none⟩)), SV.eq (.int .i64 (x.seq)), SV.eq (.pointer (some ⟨R, 0, none⟩)), SV.eq (.int .i64 (x.nd)), SV.eq (.agg (rowA 109 (recF ({ zR with saga := x.saga, seq := x.seq, nd := x.nd }) (.slice none 0 0) (.slice none 0 0))))] [([(0, none)], none), ([(3, some 0)], none), ([(0, none)], none), ([(5, some 2)], none), ([(0, none)], none), ([(7, some 4)], none), ([(4, some 1), (6, some 3), (8, some 5)], none)] 10 7 rfl rfl (by kernel_rfl) RT.trans (RT.refl _ _) Hr.out (Nat.le_of_ble_eq_true rfl) ⟨?_, ?_, ?_, ?_, ?_, ?_, ?_, trivial⟩ ?_
  · intro a wx hT hF hJ K hK
    replace hK := fun v w' (hN : NewT wx w') c => hK v w' (RT.new (Rdr.lt hJ) hN) (Rdr.new hJ hN) c
    obtain ⟨f0, _⟩ := hF
    have f0 : a.tmps.getD 0 undef = .pointer (some ⟨R, 0, none⟩) := f0
    refine rely_wp rfl ?_
    exact opr_move (.inl rfl) (hK _ _ (NewT.refl _) f0)
  · intro a wx hT hF hJ K hK
    obtain ⟨f3, _⟩ := hF
    have f3 : a.tmps.getD 3 undef = .pointer (some ⟨R, 0, none⟩) := f3
    refine rely_wp rfl ?_
    refine opr_call rfl Tryd.func44 (by kernel_rfl) (by kernel_rfl) (by simp only [List.map_toArray, List.map_cons, List.map_nil, eval_tmp, f3]) ((RNum_put R x.saga _ wx (show Rdr wx R (numI x.saga ++ (numI x.seq ++ (numI x.nd ++ (rest)))) 0 from hJ) (by omega) (by first | omega | (simp; omega) | (simp [hL_length]; omega))).mono ?_)
    rintro e w' ⟨rfl, hT', hr⟩
    exact ⟨_, rfl, hK _ _ hT' hr rfl⟩
  · intro a wx hT hF hJ K hK
    replace hK := fun v w' (hN : NewT wx w') c => hK v w' (RT.new (Rdr.lt hJ) hN) (Rdr.new hJ hN) c
    obtain ⟨f0, _⟩ := hF
    have f0 : a.tmps.getD 0 undef = .pointer (some ⟨R, 0, none⟩) := f0
    refine rely_wp rfl ?_
    exact opr_move (.inl rfl) (hK _ _ (NewT.refl _) f0)
  · intro a wx hT hF hJ K hK
    obtain ⟨f5, _⟩ := hF
    have f5 : a.tmps.getD 5 undef = .pointer (some ⟨R, 0, none⟩) := f5
    refine rely_wp rfl ?_
    refine opr_call rfl Tryd.func44 (by kernel_rfl) (by kernel_rfl) (by simp only [List.map_toArray, List.map_cons, List.map_nil, eval_tmp, f5]) ((RNum_put R x.seq _ wx (show Rdr wx R (numI x.seq ++ (numI x.nd ++ (rest))) 0 from hJ) (by omega) (by first | omega | (simp; omega) | (simp [hL_length]; omega))).mono ?_)
    rintro e w' ⟨rfl, hT', hr⟩
    exact ⟨_, rfl, hK _ _ hT' hr rfl⟩
  · intro a wx hT hF hJ K hK
    replace hK := fun v w' (hN : NewT wx w') c => hK v w' (RT.new (Rdr.lt hJ) hN) (Rdr.new hJ hN) c
    obtain ⟨f0, _⟩ := hF
    have f0 : a.tmps.getD 0 undef = .pointer (some ⟨R, 0, none⟩) := f0
    refine rely_wp rfl ?_
    exact opr_move (.inl rfl) (hK _ _ (NewT.refl _) f0)
  · intro a wx hT hF hJ K hK
    obtain ⟨f7, _⟩ := hF
    have f7 : a.tmps.getD 7 undef = .pointer (some ⟨R, 0, none⟩) := f7
    refine rely_wp rfl ?_
    refine opr_call rfl Tryd.func44 (by kernel_rfl) (by kernel_rfl) (by simp only [List.map_toArray, List.map_cons, List.map_nil, eval_tmp, f7]) ((RNum_put R x.nd _ wx (show Rdr wx R (numI x.nd ++ (rest)) 0 from hJ) (by omega) (by first | omega | (simp; omega) | (simp [hL_length]; omega))).mono ?_)
    rintro e w' ⟨rfl, hT', hr⟩
    exact ⟨_, rfl, hK _ _ hT' hr rfl⟩
  · intro a wx hT hF hJ K hK
    replace hK := fun v w' (hN : NewT wx w') c => hK v w' (RT.new (Rdr.lt hJ) hN) (Rdr.new hJ hN) c
    obtain ⟨f4, f6, f8, _⟩ := hF
    have f4 : a.tmps.getD 4 undef = .int .i64 (x.saga) := f4
    have f6 : a.tmps.getD 6 undef = .int .i64 (x.seq) := f6
    have f8 : a.tmps.getD 8 undef = .int .i64 (x.nd) := f8
    refine rely_wp rfl ?_
    exact opr_build rfl (by simp only [List.map_toArray, List.map_cons, List.map_nil, eval_tmp, f4, f6, f8]) (build_closed x.saga x.seq x.nd wx) (hK _ _ (NewT.refl _) rfl)
  · intro e1 h1 hJ
    intro u h; obtain rfl := Eq.symm (h (by simp)); clear h
    intro u h; obtain rfl := Eq.symm (h (by simp)); clear h
    intro u h; obtain rfl := Eq.symm (h (by simp)); clear h
    intro u h; obtain rfl := Eq.symm (h (by simp)); clear h
    intro u h; obtain rfl := Eq.symm (h (by simp)); clear h
    intro u h; obtain rfl := Eq.symm (h (by simp)); clear h
    intro u h; obtain rfl := Eq.symm (h (by simp)); clear h
    refine relyEnd_nil rfl ?_
    simp only [Act.put, List.setIfInBounds_toArray, List.set_cons_zero, List.set_cons_succ]
    refine wpList_plain rfl (fun K hK => ?_)
    refine opr_putm rfl rfl rfl (h1.row hne R2.out) (by decide) info_rec (recF_one _ _ _ rfl rfl) (put_all _ _) ?_
    intro wq hTq rq
    refine hK _ _ ?_
    refine wpList_end rfl ?_
    go_simp
    go_wp2
    have hRT : RT R w wq := RT.late2 (RT.trans _ _ _ (RT.new hRl HN.out) h1) (Nat.le_refl _) hRl hTq
    exact bodyPost_ret (results_agg rfl _ rfl rq Tryd.underlying27 rfl info_rec) rfl ⟨rfl, hRT, Rdr.rt (show Rdr e1 R rest 0 from hJ) hTq hRl⟩
set_option maxHeartbeats 1000000 in
theorem readRotate_cv (R : Nat) (x : Rc) (rest : List UInt8) (w : World) (h : Rdr w R (roL x ++ rest) 0) (h0 : 0 ≤ x.part ∧ x.part ≤ 2147483647) (h1 : 0 ≤ x.epoch ∧ x.epoch ≤ 2147483647) (hl : rest.length ≤ 800000) :
    Calls Tryd.prog 65 #[.pointer (some ⟨R, 0, none⟩)] w fun e w' => e = .returned (.agg (rowA 109 (recF ({ zR with part := x.part, epoch := x.epoch }) (.slice none 0 0) (.slice none 0 0)))) ∧ RT R w w' ∧ Rdr w' R rest 0 := by
  have hRl := h.lt
  rw [show roL x ++ rest = numI x.part ++ (numI x.epoch ++ (rest)) by unfold roL; simp] at h
  have Hr := Lib.hid h
  have n0 := numI_length x.part
  have n1 := numI_length x.epoch
  clear h
  go_enter Tryd.func65, Tryd.ntmps65
  go_upto_region 1 with fail
  have r2 := rowIs_box w 27 109 (recF zR (.slice none 0 0) (.slice none 0 0))
  have hN := NewT.alloc w (.cells (rowA 109 (recF zR (.slice none 0 0) (.slice none 0 0))) 27)
  change Code.wp _ _ _ _ (w.alloc (.cells (rowA 109 (recF zR (.slice none 0 0) (.slice none 0 0))) 27))
  generalize w.alloc (.cells (rowA 109 (recF zR (.slice none 0 0) (.slice none 0 0))) 27) = W0 at r2 hN ⊢
  have R2 := Lib.hid r2
  have HN := Lib.hid hN
  replace Hr := Lib.hid (Rdr.new Hr.out hN)
  have hne : w.heap.size ≠ R := by omega
  clear r2 hN
  refine wp_region_steps (RT R) (fun k w => Rdr w R (([numI x.part ++ (numI x.epoch ++ (rest)), numI x.part ++ (numI x.epoch ++ (rest)), numI x.epoch ++ (rest), numI x.epoch ++ (rest), rest, rest] : List (List UInt8)).getD k []) 0) [SV.eq (.pointer (some ⟨R, 0, none⟩)), SV.eq (.int .i64 (x.part)), SV.eq (.pointer (some ⟨R, 0, none⟩)), SV.eq (.int .i64 (x.epoch)), SV.eq (.agg (rowA 109 (recF ({ zR with part := x.part, epoch := x.epoch }) (.slice none 0 0) (.slice none 0 0))))] [([(0, none)], none), ([(3, some 0)], none), ([(0, none)], none), ([(5, some 2)], none), ([(4, some 1), (6, some 3)], none)] 8 5 rfl rfl (by kernel_rfl) RT.trans (RT.refl _ _) Hr.out (Nat.le_of_ble_eq_true rfl) ⟨?_, ?_, ?_, ?_, ?_, trivial⟩ ?_
  · intro a wx hT hF hJ K hK
    replace hK := fun v w' (hN : NewT wx w') c => hK v w' (RT.new (Rdr.lt hJ) hN) (Rdr.new hJ hN) c
    obtain ⟨f0, _⟩ := hF
    have f0 : a.tmps.getD 0 undef = .pointer (some ⟨R, 0, none⟩) := f0
    refine rely_wp rfl ?_
    exact opr_move (.inl rfl) (hK _ _ (NewT.refl _) f0)
  · intro a wx hT hF hJ K hK
    obtain ⟨f3, _⟩ := hF
    have f3 : a.tmps.getD 3 undef = .pointer (some ⟨R, 0, none⟩) := f3
    refine rely_wp rfl ?_
    refine opr_call rfl Tryd.func44 (by kernel_rfl) (by kernel_rfl) (by simp only [List.map_toArray, List.map_cons, List.map_nil, eval_tmp, f3]) ((RNum_put R x.part _ wx (show Rdr wx R (numI x.part ++ (numI x.epoch ++ (rest))) 0 from hJ) (by omega) (by first | omega | (simp; omega) | (simp [hL_length]; omega))).mono ?_)
    rintro e w' ⟨rfl, hT', hr⟩
    exact ⟨_, rfl, hK _ _ hT' hr rfl⟩
  · intro a wx hT hF hJ K hK
    replace hK := fun v w' (hN : NewT wx w') c => hK v w' (RT.new (Rdr.lt hJ) hN) (Rdr.new hJ hN) c
    obtain ⟨f0, _⟩ := hF
    have f0 : a.tmps.getD 0 undef = .pointer (some ⟨R, 0, none⟩) := f0
    refine rely_wp rfl ?_
    exact opr_move (.inl rfl) (hK _ _ (NewT.refl _) f0)
  · intro a wx hT hF hJ K hK
    obtain ⟨f5, _⟩ := hF
    have f5 : a.tmps.getD 5 undef = .pointer (some ⟨R, 0, none⟩) := f5
    refine rely_wp rfl ?_
    refine opr_call rfl Tryd.func44 (by kernel_rfl) (by kernel_rfl) (by simp only [List.map_toArray, List.map_cons, List.map_nil, eval_tmp, f5]) ((RNum_put R x.epoch _ wx (show Rdr wx R (numI x.epoch ++ (rest)) 0 from hJ) (by omega) (by first | omega | (simp; omega) | (simp [hL_length]; omega))).mono ?_)
    rintro e w' ⟨rfl, hT', hr⟩
    exact ⟨_, rfl, hK _ _ hT' hr rfl⟩
  · intro a wx hT hF hJ K hK
    replace hK := fun v w' (hN : NewT wx w') c => hK v w' (RT.new (Rdr.lt hJ) hN) (Rdr.new hJ hN) c
    obtain ⟨f4, f6, _⟩ := hF
    have f4 : a.tmps.getD 4 undef = .int .i64 (x.part) := f4
    have f6 : a.tmps.getD 6 undef = .int .i64 (x.epoch) := f6
    refine rely_wp rfl ?_
    exact opr_build rfl (by simp only [List.map_toArray, List.map_cons, List.map_nil, eval_tmp, f4, f6]) (build_rot x.part x.epoch wx) (hK _ _ (NewT.refl _) rfl)
  · intro e1 h1 hJ
    intro u h; obtain rfl := Eq.symm (h (by simp)); clear h
    intro u h; obtain rfl := Eq.symm (h (by simp)); clear h
    intro u h; obtain rfl := Eq.symm (h (by simp)); clear h
    intro u h; obtain rfl := Eq.symm (h (by simp)); clear h
    intro u h; obtain rfl := Eq.symm (h (by simp)); clear h
    refine relyEnd_nil rfl ?_
    simp only [Act.put, List.setIfInBounds_toArray, List.set_cons_zero, List.set_cons_succ]
    refine wpList_plain rfl (fun K hK => ?_)
    refine opr_putm rfl rfl rfl (h1.row hne R2.out) (by decide) info_rec (recF_one _ _ _ rfl rfl) (put_all _ _) ?_
    intro wq hTq rq
    refine hK _ _ ?_
    refine wpList_end rfl ?_
    go_simp
    go_wp2
    have hRT : RT R w wq := RT.late2 (RT.trans _ _ _ (RT.new hRl HN.out) h1) (Nat.le_refl _) hRl hTq
    exact bodyPost_ret (results_agg rfl _ rfl rq Tryd.underlying27 rfl info_rec) rfl ⟨rfl, hRT, Rdr.rt (show Rdr e1 R rest 0 from hJ) hTq hRl⟩
end Go.Proofs.YthgblcpekhiphaaDoor
