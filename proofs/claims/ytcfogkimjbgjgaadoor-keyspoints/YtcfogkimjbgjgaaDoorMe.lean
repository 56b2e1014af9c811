/- Package rec: only. -/
import Derived.Test.YtcfogkimjbgjgaaDoorMd
import Derived.Lib.SliceRun
import Derived.Test.YtcfogkimjbgjgaaDoorMa
import Derived.Test.YtcfogkimjbgjgaaDoorMb
import Derived.Test.YtcfogkimjbgjgaaDoorMc
set_option linter.all false
namespace Go.Proofs.YtcfogkimjbgjgaaDoor
open Go Go.RowKit
set_option maxRecDepth 8000
set_option linter.all false
set_option maxHeartbeats 8000000 in
theorem only_cv (v : Value) (x : Rc) (w : World) (h : RecV w v x) : Cv 49 #[v] w (svRec (onlyR x)) := by
  obtain ⟨sv, dv, rfl, hs, hd⟩ := h
  unfold Cv
  have oneS := oneP hs
  have oneD := oneR hd
  go_enter Tryd.func49, Tryd.ntmps49
  go_upto_region 1 with fail
  have r1 := (rowIs_box w 30 109 (recF x sv dv)).alloc (.cells (rowA 109 (recF zR (.slice none 0 0) (.slice none 0 0))) 30)
  have r2 := rowIs_box (w.alloc (.cells (rowA 109 (recF x sv dv)) 30)) 30 109 (recF zR (.slice none 0 0) (.slice none 0 0))
  have hN : NewT w ((w.alloc (.cells (rowA 109 (recF x sv dv)) 30)).alloc (.cells (rowA 109 (recF zR (.slice none 0 0) (.slice none 0 0))) 30)) := NewT.trans _ _ _ (NewT.alloc _ _) (NewT.alloc _ _)
  rw [World.size_alloc] at r2
  change Code.wp _ _ _ _ ((w.alloc (.cells (rowA 109 (recF x sv dv)) 30)).alloc (.cells (rowA 109 (recF zR (.slice none 0 0) (.slice none 0 0))) 30))
  generalize hW0 : (w.alloc (.cells (rowA 109 (recF x sv dv)) 30)).alloc (.cells (rowA 109 (recF zR (.slice none 0 0) (.slice none 0 0))) 30) = W0 at r1 r2 hN ⊢
  have R1 := Lib.hid r1
  have hsz : W0.heap.size = w.heap.size + 2 := by rw [← hW0]; simp
  clear hW0
  refine wp_region_steps0 NewT [SV.eq (.pointer (some ⟨w.heap.size, 0, none⟩)), SV.eq (.int .i64 (x.kind)), SV.eq (.agg (rowA 109 (recF ({ zR with kind := x.kind }) (.slice none 0 0) (.slice none 0 0))))] [([(1, none)], none), ([(4, some 0)], none), ([(5, some 1)], none)] 83 3 rfl rfl (by kernel_rfl) NewT.trans (NewT.refl _) (Nat.le_of_ble_eq_true rfl) ⟨?_, ?_, ?_, trivial⟩ ?_
  · exact fun a wx hT hF K hK => rely_wp rfl (opr_fldR (by decide) rfl hF.1 (hK _ _ (NewT.refl _) rfl))
  · exact fun a wx hT hF K hK => rely_wp rfl (opr_ldI (hT.row R1.out) (by decide) rfl rfl hF.1 (hK _ _ (NewT.refl _) rfl))
  · intro a wx hT hF K hK
    obtain ⟨f5, _⟩ := hF
    have f5 : a.tmps.getD 5 undef = .int .i64 (x.kind) := f5
    refine rely_wp rfl ?_
    exact opr_build rfl (by simp only [List.map_toArray, List.map_cons, List.map_nil, eval_tmp, f5]) (build_kind x.kind wx) (hK _ _ (NewT.refl _) rfl)
  · intro wa ha
    iterate 3 (intro u h; obtain rfl := Eq.symm (h (by simp)); clear h)
    refine relyEnd_nil rfl ?_
    simp only [Act.put, List.setIfInBounds_toArray, List.set_cons_zero, List.set_cons_succ]
    refine wpList_new (n := 109) rfl rfl rfl rfl rfl rfl (by simp) run_alloc_rec info_rec (recF_one _ _ _ rfl rfl) rfl ?_
    intro w1 hn1 r3
    refine wpList_end rfl ?_
    simp only [Act.put, List.setIfInBounds_toArray, List.set_cons_zero, List.set_cons_succ]
    go_simp
    have X1 := Lib.hid (hn1.row (ha.row r1))
    have X2 := Lib.hid (hn1.row (ha.row r2))
    have HN := Lib.hid (NewT.trans _ _ _ hN (NewT.trans _ _ _ ha hn1))
    have hR : w.heap.size + 2 ≤ wa.heap.size := by have := ha.out.size; omega
    have hRl : wa.heap.size < w1.heap.size := r3.lt
    have X3 := Lib.hid r3
    clear R1 r1 r2 r3 hN ha hn1 hsz
    generalize wa.heap.size = R at X3 hR hRl ⊢
    have hne1 : w.heap.size ≠ R := by omega
    have hne2 : w.heap.size + 1 ≠ R := by omega
    have c0 : w1.cell? ⟨w.heap.size, 0, none⟩ = some (.int .i64 x.kind) := X1.out.cell (by omega)
    by_cases hk : x.kind = 1
    · rw [hk] at c0
      go_upto_region 9 with fail
      clear c0
      refine wp_region_relyP (RT R) (fun k w => w.rowIs R 30 109 ((fun k => ([recF ({ zR with kind := x.kind }) (.slice none 0 0) (.slice none 0 0), recF ({ zR with kind := x.kind, saga := x.saga }) (.slice none 0 0) (.slice none 0 0)] : List (Nat → Value)).getD k (recF ({ zR with kind := x.kind, saga := x.saga }) (sv) (.slice none 0 0))) k)) [SV.eq (.pointer (some ⟨w.heap.size, 1, none⟩)), SV.eq (.int .i64 (x.saga)), SV.eq (.pointer (some ⟨w.heap.size, 42, none⟩)), SV.eq (sv), SV.eq (.pointer (some ⟨w.heap.size, 76, none⟩)), SV.eq (.bool (x.gone)), SV.eq (.pointer (some ⟨R, 1, none⟩)), SV.any, SV.eq (.pointer (some ⟨R, 42, none⟩)), SV.any, SV.eq (.pointer (some ⟨R, 76, none⟩))] [([(1, none)], none), ([(20, some 0)], none), ([(1, none)], none), ([(22, some 2)], none), ([(1, none)], none), ([(24, some 4)], none), ([(3, none)], none), ([(26, some 6), (21, some 1)], none), ([(3, none)], none), ([(27, some 8), (23, some 3)], none), ([(3, none)], none)] [none, none, none, none, none, none, none, some 0, none, some 1, none] [7, 9] 83 rfl (by kernel_rfl) rfl (by kernel_rfl) (by kernel_rfl) rfl (by kernel_rfl) RT.trans (RT.drew _ _) ((NewT.drew _).row X3.out) (Nat.le_of_ble_eq_true rfl) ⟨?_, ?_, ?_, ?_, ?_, ?_, ?_, ?_, ?_, ?_, ?_, trivial⟩ ?_
      · exact fun a wx hT hF K hK => have hK := fun v w' (hN : NewT wx w') hv => hK v w' (RT.new (Nat.lt_of_lt_of_le hRl hT.size) hN) (fun k h => hN.row h) hv; rely_wp rfl (opr_fldR (by decide) rfl hF.1 (hK _ _ (NewT.refl _) rfl))
      · exact fun a wx hT hF K hK => have hK := fun v w' (hN : NewT wx w') hv => hK v w' (RT.new (Nat.lt_of_lt_of_le hRl hT.size) hN) (fun k h => hN.row h) hv; rely_wp rfl (opr_ldI (hT.row hne1 X1.out) (by decide) rfl rfl hF.1 (hK _ _ (NewT.refl _) rfl))
      · exact fun a wx hT hF K hK => have hK := fun v w' (hN : NewT wx w') hv => hK v w' (RT.new (Nat.lt_of_lt_of_le hRl hT.size) hN) (fun k h => hN.row h) hv; rely_wp rfl (opr_fldR (by decide) rfl hF.1 (hK _ _ (NewT.refl _) rfl))
      · exact fun a wx hT hF K hK => have hK := fun v w' (hN : NewT wx w') hv => hK v w' (RT.new (Nat.lt_of_lt_of_le hRl hT.size) hN) (fun k h => hN.row h) hv; rely_wp rfl (opr_ldS (hT.row hne1 X1.out) (by decide) rfl rfl hF.1 (hK _ _ (NewT.refl _) rfl))
      · exact fun a wx hT hF K hK => have hK := fun v w' (hN : NewT wx w') hv => hK v w' (RT.new (Nat.lt_of_lt_of_le hRl hT.size) hN) (fun k h => hN.row h) hv; rely_wp rfl (opr_fldR (by decide) rfl hF.1 (hK _ _ (NewT.refl _) rfl))
      · exact fun a wx hT hF K hK => have hK := fun v w' (hN : NewT wx w') hv => hK v w' (RT.new (Nat.lt_of_lt_of_le hRl hT.size) hN) (fun k h => hN.row h) hv; rely_wp rfl (opr_ldQ (hT.row hne1 X1.out) (by decide) rfl rfl hF.1 (hK _ _ (NewT.refl _) rfl))
      · exact fun a wx hT hF K hK => have hK := fun v w' (hN : NewT wx w') hv => hK v w' (RT.new (Nat.lt_of_lt_of_le hRl hT.size) hN) (fun k h => hN.row h) hv; rely_wp rfl (opr_fldR (by decide) rfl hF.1 (hK _ _ (NewT.refl _) rfl))
      · intro a wx hT hF hJ K hK
        obtain ⟨f26, f21, _⟩ := hF
        have f26 : a.tmps.getD 26 undef = .pointer (some ⟨R, 1, none⟩) := f26
        have f21 : a.tmps.getD 21 undef = .int .i64 (x.saga) := f21
        refine rely_wp rfl ?_
        refine opr_put1 rfl f26 f21 (show wx.rowIs R 30 109 (recF ({ zR with kind := x.kind }) (.slice none 0 0) (.slice none 0 0)) from hJ) (by decide) info_i1 rfl (fun i _ => rs_saga ({ zR with kind := x.kind }) (.slice none 0 0) (.slice none 0 0) i _) ?_
        intro w' hT' hr'
        exact hK _ _ hT' hr' trivial
      · exact fun a wx hT hF K hK => have hK := fun v w' (hN : NewT wx w') hv => hK v w' (RT.new (Nat.lt_of_lt_of_le hRl hT.size) hN) (fun k h => hN.row h) hv; rely_wp rfl (opr_fldR (by decide) rfl hF.1 (hK _ _ (NewT.refl _) rfl))
      · intro a wx hT hF hJ K hK
        obtain ⟨f27, f23, _⟩ := hF
        have f27 : a.tmps.getD 27 undef = .pointer (some ⟨R, 42, none⟩) := f27
        have f23 : a.tmps.getD 23 undef = sv := f23
        refine rely_wp rfl ?_
        refine opr_put1 rfl f27 f23 (show wx.rowIs R 30 109 (recF ({ zR with kind := x.kind, saga := x.saga }) (.slice none 0 0) (.slice none 0 0)) from hJ) (by decide) info_s1 oneS (fun i _ => rs_steps ({ zR with kind := x.kind, saga := x.saga }) (.slice none 0 0) (.slice none 0 0) i _) ?_
        intro w' hT' hr'
        exact hK _ _ hT' hr' trivial
      · exact fun a wx hT hF K hK => have hK := fun v w' (hN : NewT wx w') hv => hK v w' (RT.new (Nat.lt_of_lt_of_le hRl hT.size) hN) (fun k h => hN.row h) hv; rely_wp rfl (opr_fldR (by decide) rfl hF.1 (hK _ _ (NewT.refl _) rfl))
      · intro e1 h1 hJ
        iterate 7 (intro u h; obtain rfl := Eq.symm (h (by simp)); clear h)
        intro _ _
        intro u h; obtain rfl := Eq.symm (h (by simp)); clear h
        intro _ _
        intro u h; obtain rfl := Eq.symm (h (by simp)); clear h
        refine relyEnd_nil rfl ?_
        simp only [Act.put, List.setIfInBounds_toArray, List.set_cons_zero, List.set_cons_succ]
        refine opr_put1 rfl rfl rfl (show e1.rowIs R 30 109 (recF ({ zR with kind := x.kind, saga := x.saga }) (sv) (.slice none 0 0)) from hJ) (by decide) info_b1 rfl (fun i _ => rs_gone ({ zR with kind := x.kind, saga := x.saga }) (sv) (.slice none 0 0) i _) ?_
        intro e1s hT' hr'
        clear hJ
        go_simp
        have hRT := RT.trans _ _ _ h1 hT'
        have hRl2 : R < e1s.heap.size := hr'.lt
        have c14 : e1s.cell? ⟨w.heap.size, 76, none⟩ = some (.bool x.gone) := (hRT.row hne1 X1.out).cell (i := 76) (by omega)
        cases hg : x.gone
        · have HO : Hid (onlyR x = { zR with kind := x.kind, saga := x.saga, gone := x.gone, salt := x.salt, steps := x.steps, data := x.data }) := Lib.hid (by unfold onlyR; simp only [hk, hg]; simp)
          rw [hg] at c14
          go_upto_region 12 with fail
          clear c14
          refine wp_region_relyP (RT R) (fun k w => w.rowIs R 30 109 ((fun k => ([recF ({ zR with kind := x.kind, saga := x.saga, gone := x.gone }) (sv) (.slice none 0 0)] : List (Nat → Value)).getD k (recF ({ zR with kind := x.kind, saga := x.saga, gone := x.gone }) (sv) (dv))) k)) [SV.eq (.pointer (some ⟨w.heap.size, 43, none⟩)), SV.eq (dv), SV.eq (.pointer (some ⟨w.heap.size, 44, none⟩)), SV.eq (.agg (rowA 32 (bF (x.salt)))), SV.eq (.pointer (some ⟨R, 43, none⟩)), SV.any, SV.eq (.pointer (some ⟨R, 44, none⟩))] [([(1, none)], none), ([(34, some 0)], none), ([(1, none)], none), ([(36, some 2)], none), ([(3, none)], none), ([(38, some 4), (35, some 1)], none), ([(3, none)], none)] [none, none, none, none, none, some 0, none] [5] 83 rfl (by kernel_rfl) rfl (by kernel_rfl) (by kernel_rfl) rfl (by kernel_rfl) RT.trans (RT.drew _ _) ((NewT.drew _).row hr') (Nat.le_of_ble_eq_true rfl) ⟨?_, ?_, ?_, ?_, ?_, ?_, ?_, trivial⟩ ?_
          · exact fun a wx hT hF K hK => have hK := fun v w' (hN : NewT wx w') hv => hK v w' (RT.new (Nat.lt_of_lt_of_le hRl2 hT.size) hN) (fun k h => hN.row h) hv; rely_wp rfl (opr_fldR (by decide) rfl hF.1 (hK _ _ (NewT.refl _) rfl))
          · exact fun a wx hT hF K hK => have hK := fun v w' (hN : NewT wx w') hv => hK v w' (RT.new (Nat.lt_of_lt_of_le hRl2 hT.size) hN) (fun k h => hN.row h) hv; rely_wp rfl (opr_ldB (hT.row hne1 (hRT.row hne1 X1.out)) (by decide) rfl rfl hF.1 (hK _ _ (NewT.refl _) rfl))
          · exact fun a wx hT hF K hK => have hK := fun v w' (hN : NewT wx w') hv => hK v w' (RT.new (Nat.lt_of_lt_of_le hRl2 hT.size) hN) (fun k h => hN.row h) hv; rely_wp rfl (opr_fldR (by decide) rfl hF.1 (hK _ _ (NewT.refl _) rfl))
          · exact fun a wx hT hF K hK => have hK := fun v w' (hN : NewT wx w') hv => hK v w' (RT.new (Nat.lt_of_lt_of_le hRl2 hT.size) hN) (fun k h => hN.row h) hv; rely_wp rfl (opr_ldH (hT.row hne1 (hRT.row hne1 X1.out)) (by decide) (recF_salt x _ _) rfl hF.1 (hK _ _ (NewT.refl _) rfl))
          · exact fun a wx hT hF K hK => have hK := fun v w' (hN : NewT wx w') hv => hK v w' (RT.new (Nat.lt_of_lt_of_le hRl2 hT.size) hN) (fun k h => hN.row h) hv; rely_wp rfl (opr_fldR (by decide) rfl hF.1 (hK _ _ (NewT.refl _) rfl))
          · intro a wx hT hF hJ K hK
            obtain ⟨f38, f35, _⟩ := hF
            have f38 : a.tmps.getD 38 undef = .pointer (some ⟨R, 43, none⟩) := f38
            have f35 : a.tmps.getD 35 undef = dv := f35
            refine rely_wp rfl ?_
            refine opr_put1 rfl f38 f35 (show wx.rowIs R 30 109 (recF ({ zR with kind := x.kind, saga := x.saga, gone := x.gone }) (sv) (.slice none 0 0)) from hJ) (by decide) info_d1 oneD (fun i _ => rs_data ({ zR with kind := x.kind, saga := x.saga, gone := x.gone }) (sv) (.slice none 0 0) i _) ?_
            intro w' hT' hr'
            exact hK _ _ hT' hr' trivial
          · exact fun a wx hT hF K hK => have hK := fun v w' (hN : NewT wx w') hv => hK v w' (RT.new (Nat.lt_of_lt_of_le hRl2 hT.size) hN) (fun k h => hN.row h) hv; rely_wp rfl (opr_fldR (by decide) rfl hF.1 (hK _ _ (NewT.refl _) rfl))
          · intro eb hb hJ
            iterate 5 (intro u h; obtain rfl := Eq.symm (h (by simp)); clear h)
            intro _ _
            intro u h; obtain rfl := Eq.symm (h (by simp)); clear h
            refine relyEnd_nil rfl ?_
            simp only [Act.put, List.setIfInBounds_toArray, List.set_cons_zero, List.set_cons_succ]
            refine opr_putm rfl rfl rfl (show eb.rowIs R 30 109 (recF ({ zR with kind := x.kind, saga := x.saga, gone := x.gone }) (sv) (dv)) from hJ) (by decide) info31 (fun _ => rfl) (fun i hi => rs_salt ({ zR with kind := x.kind, saga := x.saga, gone := x.gone }) (sv) (dv) i _ hi) ?_
            intro ebs hT2 hr2
            clear hJ
            go_simp
            have hRT2 := RT.trans _ _ _ hRT (RT.trans _ _ _ hb hT2)
            go_upto_region 17 with fail
            refine wp_region_steps0 NewT [SV.eq (.agg (rowA 109 (recF ({ zR with kind := x.kind, saga := x.saga, gone := x.gone, salt := x.salt }) (sv) (dv))))] [([(3, none)], none)] 83 1 rfl rfl (by kernel_rfl) NewT.trans (NewT.refl _) (Nat.le_of_ble_eq_true rfl) ⟨?_, trivial⟩ ?_
            · exact fun a wx hT hF K hK => rely_wp rfl (opr_ldR (hT.row hr2) rfl hF.1 (hK _ _ (NewT.refl _) rfl))
            · intro wf hf
              intro u h; obtain rfl := Eq.symm (h (by simp)); clear h
              refine relyEnd_nil rfl ?_
              simp only [Act.put, List.setIfInBounds_toArray, List.set_cons_zero, List.set_cons_succ]
              refine wpList_plain rfl (fun K hK => ?_)
              refine opr_putm rfl rfl rfl (hf.row (hRT2.row hne2 X2.out)) (by decide) info_rec (recF_one _ _ _ oneS oneD) (put_all _ _) ?_
              intro wq hTq rq
              refine hK _ _ ?_
              refine wpList_end rfl ?_
              go_simp
              go_wp2
              have hNq : NewT w wq := (NewT.trans _ _ _ (HN.out.rt hRT2 (by omega)) hf).rt hTq (by omega)
              refine bodyPost_ret (results_agg rfl _ rfl rq Tryd.underlying30 rfl info_rec) rfl ⟨_, rfl, hNq, ?_⟩
              rw [HO.out]
              exact ⟨sv, dv, rfl, hNq.pairs hs, hNq.rd hd⟩
        · have HO : Hid (onlyR x = { zR with kind := x.kind, saga := x.saga, gone := x.gone, com := x.com, steps := x.steps }) := Lib.hid (by unfold onlyR; simp only [hk, hg]; simp)
          rw [hg] at c14
          go_upto_region 11 with fail
          clear c14
          refine wp_region_steps0 NewT [SV.eq (.pointer (some ⟨w.heap.size, 77, none⟩)), SV.eq (.agg (rowA 32 (bF (x.com)))), SV.eq (.pointer (some ⟨R, 77, none⟩))] [([(1, none)], none), ([(31, some 0)], none), ([(3, none)], none)] 83 3 rfl rfl (by kernel_rfl) NewT.trans (NewT.refl _) (Nat.le_of_ble_eq_true rfl) ⟨?_, ?_, ?_, trivial⟩ ?_
          · exact fun a wx hT hF K hK => rely_wp rfl (opr_fldR (by decide) rfl hF.1 (hK _ _ (NewT.refl _) rfl))
          · exact fun a wx hT hF K hK => rely_wp rfl (opr_ldH (hT.row (hRT.row hne1 X1.out)) (by decide) (recF_com x _ _) rfl hF.1 (hK _ _ (NewT.refl _) rfl))
          · exact fun a wx hT hF K hK => rely_wp rfl (opr_fldR (by decide) rfl hF.1 (hK _ _ (NewT.refl _) rfl))
          · intro eb hb
            iterate 3 (intro u h; obtain rfl := Eq.symm (h (by simp)); clear h)
            refine relyEnd_nil rfl ?_
            simp only [Act.put, List.setIfInBounds_toArray, List.set_cons_zero, List.set_cons_succ]
            refine wpList_plain rfl (fun K hK => ?_)
            refine opr_putm rfl rfl rfl (hb.row hr') (by decide) info31 (fun _ => rfl) (fun i hi => rs_com ({ zR with kind := x.kind, saga := x.saga, gone := x.gone }) (sv) (.slice none 0 0) i _ hi) ?_
            intro ebs hT2 hr2
            refine hK _ _ ?_
            refine wpList_end rfl ?_
            go_simp
            have hRT2 := RT.trans _ _ _ hRT (RT.trans _ _ _ (RT.new hRl2 hb) hT2)
            go_upto_region 17 with fail
            refine wp_region_steps0 NewT [SV.eq (.agg (rowA 109 (recF ({ zR with kind := x.kind, saga := x.saga, gone := x.gone, com := x.com }) (sv) (.slice none 0 0))))] [([(3, none)], none)] 83 1 rfl rfl (by kernel_rfl) NewT.trans (NewT.refl _) (Nat.le_of_ble_eq_true rfl) ⟨?_, trivial⟩ ?_
            · exact fun a wx hT hF K hK => rely_wp rfl (opr_ldR (hT.row hr2) rfl hF.1 (hK _ _ (NewT.refl _) rfl))
            · intro wf hf
              intro u h; obtain rfl := Eq.symm (h (by simp)); clear h
              refine relyEnd_nil rfl ?_
              simp only [Act.put, List.setIfInBounds_toArray, List.set_cons_zero, List.set_cons_succ]
              refine wpList_plain rfl (fun K hK => ?_)
              refine opr_putm rfl rfl rfl (hf.row (hRT2.row hne2 X2.out)) (by decide) info_rec (recF_one _ _ _ oneS rfl) (put_all _ _) ?_
              intro wq hTq rq
              refine hK _ _ ?_
              refine wpList_end rfl ?_
              go_simp
              go_wp2
              have hNq : NewT w wq := (NewT.trans _ _ _ (HN.out.rt hRT2 (by omega)) hf).rt hTq (by omega)
              refine bodyPost_ret (results_agg rfl _ rfl rq Tryd.underlying30 rfl info_rec) rfl ⟨_, rfl, hNq, ?_⟩
              rw [HO.out]
              exact ⟨sv, .slice none 0 0, rfl, hNq.pairs hs, rdV_nil _ _⟩
    have k1 := hk
    clear hk
    by_cases hk : x.kind = 3
    · have HO : Hid (onlyR x = { zR with kind := x.kind, good := x.good, part := x.part, epoch := x.epoch, tag := x.tag, saga := x.saga, seq := x.seq, step := x.step, tr := x.tr, back := x.back }) := Lib.hid (by unfold onlyR; simp only [hk]; simp)
      rw [hk] at c0
      go_upto_region 13 with fail
      clear c0
      refine wp_region_relyP (RT R) (fun k w => w.rowIs R 30 109 ((fun k => ([recF ({ zR with kind := x.kind }) (.slice none 0 0) (.slice none 0 0), recF ({ zR with kind := x.kind, good := x.good }) (.slice none 0 0) (.slice none 0 0), recF ({ zR with kind := x.kind, good := x.good, part := x.part }) (.slice none 0 0) (.slice none 0 0)] : List (Nat → Value)).getD k (recF ({ zR with kind := x.kind, good := x.good, part := x.part, epoch := x.epoch }) (.slice none 0 0) (.slice none 0 0))) k)) [SV.eq (.pointer (some ⟨w.heap.size, 6, none⟩)), SV.eq (.bool (x.good)), SV.eq (.pointer (some ⟨w.heap.size, 8, none⟩)), SV.eq (.int .i64 (x.part)), SV.eq (.pointer (some ⟨w.heap.size, 9, none⟩)), SV.eq (.int .i64 (x.epoch)), SV.eq (.pointer (some ⟨w.heap.size, 10, none⟩)), SV.eq (.agg (rowA 32 (bF (x.tag)))), SV.eq (.pointer (some ⟨R, 6, none⟩)), SV.any, SV.eq (.pointer (some ⟨R, 8, none⟩)), SV.any, SV.eq (.pointer (some ⟨R, 9, none⟩)), SV.any, SV.eq (.pointer (some ⟨R, 10, none⟩))] [([(1, none)], none), ([(40, some 0)], none), ([(1, none)], none), ([(42, some 2)], none), ([(1, none)], none), ([(44, some 4)], none), ([(1, none)], none), ([(46, some 6)], none), ([(3, none)], none), ([(48, some 8), (41, some 1)], none), ([(3, none)], none), ([(49, some 10), (43, some 3)], none), ([(3, none)], none), ([(50, some 12), (45, some 5)], none), ([(3, none)], none)] [none, none, none, none, none, none, none, none, none, some 0, none, some 1, none, some 2, none] [9, 11, 13] 83 rfl (by kernel_rfl) rfl (by kernel_rfl) (by kernel_rfl) rfl (by kernel_rfl) RT.trans (RT.drew _ _) ((NewT.drew _).row X3.out) (Nat.le_of_ble_eq_true rfl) ⟨?_, ?_, ?_, ?_, ?_, ?_, ?_, ?_, ?_, ?_, ?_, ?_, ?_, ?_, ?_, trivial⟩ ?_
      · exact fun a wx hT hF K hK => have hK := fun v w' (hN : NewT wx w') hv => hK v w' (RT.new (Nat.lt_of_lt_of_le hRl hT.size) hN) (fun k h => hN.row h) hv; rely_wp rfl (opr_fldR (by decide) rfl hF.1 (hK _ _ (NewT.refl _) rfl))
      · exact fun a wx hT hF K hK => have hK := fun v w' (hN : NewT wx w') hv => hK v w' (RT.new (Nat.lt_of_lt_of_le hRl hT.size) hN) (fun k h => hN.row h) hv; rely_wp rfl (opr_ldQ (hT.row hne1 X1.out) (by decide) rfl rfl hF.1 (hK _ _ (NewT.refl _) rfl))
      · exact fun a wx hT hF K hK => have hK := fun v w' (hN : NewT wx w') hv => hK v w' (RT.new (Nat.lt_of_lt_of_le hRl hT.size) hN) (fun k h => hN.row h) hv; rely_wp rfl (opr_fldR (by decide) rfl hF.1 (hK _ _ (NewT.refl _) rfl))
      · exact fun a wx hT hF K hK => have hK := fun v w' (hN : NewT wx w') hv => hK v w' (RT.new (Nat.lt_of_lt_of_le hRl hT.size) hN) (fun k h => hN.row h) hv; rely_wp rfl (opr_ldI (hT.row hne1 X1.out) (by decide) rfl rfl hF.1 (hK _ _ (NewT.refl _) rfl))
      · exact fun a wx hT hF K hK => have hK := fun v w' (hN : NewT wx w') hv => hK v w' (RT.new (Nat.lt_of_lt_of_le hRl hT.size) hN) (fun k h => hN.row h) hv; rely_wp rfl (opr_fldR (by decide) rfl hF.1 (hK _ _ (NewT.refl _) rfl))
      · exact fun a wx hT hF K hK => have hK := fun v w' (hN : NewT wx w') hv => hK v w' (RT.new (Nat.lt_of_lt_of_le hRl hT.size) hN) (fun k h => hN.row h) hv; rely_wp rfl (opr_ldI (hT.row hne1 X1.out) (by decide) rfl rfl hF.1 (hK _ _ (NewT.refl _) rfl))
      · exact fun a wx hT hF K hK => have hK := fun v w' (hN : NewT wx w') hv => hK v w' (RT.new (Nat.lt_of_lt_of_le hRl hT.size) hN) (fun k h => hN.row h) hv; rely_wp rfl (opr_fldR (by decide) rfl hF.1 (hK _ _ (NewT.refl _) rfl))
      · exact fun a wx hT hF K hK => have hK := fun v w' (hN : NewT wx w') hv => hK v w' (RT.new (Nat.lt_of_lt_of_le hRl hT.size) hN) (fun k h => hN.row h) hv; rely_wp rfl (opr_ldH (hT.row hne1 X1.out) (by decide) (recF_tag x _ _) rfl hF.1 (hK _ _ (NewT.refl _) rfl))
      · exact fun a wx hT hF K hK => have hK := fun v w' (hN : NewT wx w') hv => hK v w' (RT.new (Nat.lt_of_lt_of_le hRl hT.size) hN) (fun k h => hN.row h) hv; rely_wp rfl (opr_fldR (by decide) rfl hF.1 (hK _ _ (NewT.refl _) rfl))
      · intro a wx hT hF hJ K hK
        obtain ⟨f48, f41, _⟩ := hF
        have f48 : a.tmps.getD 48 undef = .pointer (some ⟨R, 6, none⟩) := f48
        have f41 : a.tmps.getD 41 undef = .bool (x.good) := f41
        refine rely_wp rfl ?_
        refine opr_put1 rfl f48 f41 (show wx.rowIs R 30 109 (recF ({ zR with kind := x.kind }) (.slice none 0 0) (.slice none 0 0)) from hJ) (by decide) info_b1 rfl (fun i _ => rs_good ({ zR with kind := x.kind }) (.slice none 0 0) (.slice none 0 0) i _) ?_
        intro w' hT' hr'
        exact hK _ _ hT' hr' trivial
      · exact fun a wx hT hF K hK => have hK := fun v w' (hN : NewT wx w') hv => hK v w' (RT.new (Nat.lt_of_lt_of_le hRl hT.size) hN) (fun k h => hN.row h) hv; rely_wp rfl (opr_fldR (by decide) rfl hF.1 (hK _ _ (NewT.refl _) rfl))
      · intro a wx hT hF hJ K hK
        obtain ⟨f49, f43, _⟩ := hF
        have f49 : a.tmps.getD 49 undef = .pointer (some ⟨R, 8, none⟩) := f49
        have f43 : a.tmps.getD 43 undef = .int .i64 (x.part) := f43
        refine rely_wp rfl ?_
        refine opr_put1 rfl f49 f43 (show wx.rowIs R 30 109 (recF ({ zR with kind := x.kind, good := x.good }) (.slice none 0 0) (.slice none 0 0)) from hJ) (by decide) info_i1 rfl (fun i _ => rs_part ({ zR with kind := x.kind, good := x.good }) (.slice none 0 0) (.slice none 0 0) i _) ?_
        intro w' hT' hr'
        exact hK _ _ hT' hr' trivial
      · exact fun a wx hT hF K hK => have hK := fun v w' (hN : NewT wx w') hv => hK v w' (RT.new (Nat.lt_of_lt_of_le hRl hT.size) hN) (fun k h => hN.row h) hv; rely_wp rfl (opr_fldR (by decide) rfl hF.1 (hK _ _ (NewT.refl _) rfl))
      · intro a wx hT hF hJ K hK
        obtain ⟨f50, f45, _⟩ := hF
        have f50 : a.tmps.getD 50 undef = .pointer (some ⟨R, 9, none⟩) := f50
        have f45 : a.tmps.getD 45 undef = .int .i64 (x.epoch) := f45
        refine rely_wp rfl ?_
        refine opr_put1 rfl f50 f45 (show wx.rowIs R 30 109 (recF ({ zR with kind := x.kind, good := x.good, part := x.part }) (.slice none 0 0) (.slice none 0 0)) from hJ) (by decide) info_i1 rfl (fun i _ => rs_epoch ({ zR with kind := x.kind, good := x.good, part := x.part }) (.slice none 0 0) (.slice none 0 0) i _) ?_
        intro w' hT' hr'
        exact hK _ _ hT' hr' trivial
      · exact fun a wx hT hF K hK => have hK := fun v w' (hN : NewT wx w') hv => hK v w' (RT.new (Nat.lt_of_lt_of_le hRl hT.size) hN) (fun k h => hN.row h) hv; rely_wp rfl (opr_fldR (by decide) rfl hF.1 (hK _ _ (NewT.refl _) rfl))
      · intro e3 h3 hJ
        iterate 9 (intro u h; obtain rfl := Eq.symm (h (by simp)); clear h)
        intro _ _
        intro u h; obtain rfl := Eq.symm (h (by simp)); clear h
        intro _ _
        intro u h; obtain rfl := Eq.symm (h (by simp)); clear h
        intro _ _
        intro u h; obtain rfl := Eq.symm (h (by simp)); clear h
        refine relyEnd_nil rfl ?_
        simp only [Act.put, List.setIfInBounds_toArray, List.set_cons_zero, List.set_cons_succ]
        refine opr_putm rfl rfl rfl (show e3.rowIs R 30 109 (recF ({ zR with kind := x.kind, good := x.good, part := x.part, epoch := x.epoch }) (.slice none 0 0) (.slice none 0 0)) from hJ) (by decide) info31 (fun _ => rfl) (fun i hi => rs_tag ({ zR with kind := x.kind, good := x.good, part := x.part, epoch := x.epoch }) (.slice none 0 0) (.slice none 0 0) i _ hi) ?_
        intro e3s hT' hr'
        clear hJ
        go_simp
        have hRT := RT.trans _ _ _ h3 hT'
        have hRl2 : R < e3s.heap.size := hr'.lt
        go_upto_region 14 with fail
        refine wp_region_relyP (RT R) (fun k w => w.rowIs R 30 109 ((fun k => ([recF ({ zR with kind := x.kind, good := x.good, part := x.part, epoch := x.epoch, tag := x.tag }) (.slice none 0 0) (.slice none 0 0), recF ({ zR with kind := x.kind, good := x.good, part := x.part, epoch := x.epoch, tag := x.tag, saga := x.saga }) (.slice none 0 0) (.slice none 0 0), recF ({ zR with kind := x.kind, good := x.good, part := x.part, epoch := x.epoch, tag := x.tag, saga := x.saga, seq := x.seq }) (.slice none 0 0) (.slice none 0 0), recF ({ zR with kind := x.kind, good := x.good, part := x.part, epoch := x.epoch, tag := x.tag, saga := x.saga, seq := x.seq, step := x.step }) (.slice none 0 0) (.slice none 0 0)] : List (Nat → Value)).getD k (recF ({ zR with kind := x.kind, good := x.good, part := x.part, epoch := x.epoch, tag := x.tag, saga := x.saga, seq := x.seq, step := x.step, tr := x.tr }) (.slice none 0 0) (.slice none 0 0))) k)) [SV.eq (.pointer (some ⟨w.heap.size, 1, none⟩)), SV.eq (.int .i64 (x.saga)), SV.eq (.pointer (some ⟨w.heap.size, 2, none⟩)), SV.eq (.int .i64 (x.seq)), SV.eq (.pointer (some ⟨w.heap.size, 3, none⟩)), SV.eq (.int .i64 (x.step)), SV.eq (.pointer (some ⟨w.heap.size, 4, none⟩)), SV.eq (.int .i64 (x.tr)), SV.eq (.pointer (some ⟨w.heap.size, 5, none⟩)), SV.eq (.bool (x.back)), SV.eq (.pointer (some ⟨R, 1, none⟩)), SV.any, SV.eq (.pointer (some ⟨R, 2, none⟩)), SV.any, SV.eq (.pointer (some ⟨R, 3, none⟩)), SV.any, SV.eq (.pointer (some ⟨R, 4, none⟩)), SV.any, SV.eq (.pointer (some ⟨R, 5, none⟩))] [([(1, none)], none), ([(52, some 0)], none), ([(1, none)], none), ([(54, some 2)], none), ([(1, none)], none), ([(56, some 4)], none), ([(1, none)], none), ([(58, some 6)], none), ([(1, none)], none), ([(60, some 8)], none), ([(3, none)], none), ([(62, some 10), (53, some 1)], none), ([(3, none)], none), ([(63, some 12), (55, some 3)], none), ([(3, none)], none), ([(64, some 14), (57, some 5)], none), ([(3, none)], none), ([(65, some 16), (59, some 7)], none), ([(3, none)], none)] [none, none, none, none, none, none, none, none, none, none, none, some 0, none, some 1, none, some 2, none, some 3, none] [11, 13, 15, 17] 83 rfl (by kernel_rfl) rfl (by kernel_rfl) (by kernel_rfl) rfl (by kernel_rfl) RT.trans (RT.drew _ _) ((NewT.drew _).row hr') (Nat.le_of_ble_eq_true rfl) ⟨?_, ?_, ?_, ?_, ?_, ?_, ?_, ?_, ?_, ?_, ?_, ?_, ?_, ?_, ?_, ?_, ?_, ?_, ?_, trivial⟩ ?_
        · exact fun a wx hT hF K hK => have hK := fun v w' (hN : NewT wx w') hv => hK v w' (RT.new (Nat.lt_of_lt_of_le hRl2 hT.size) hN) (fun k h => hN.row h) hv; rely_wp rfl (opr_fldR (by decide) rfl hF.1 (hK _ _ (NewT.refl _) rfl))
        · exact fun a wx hT hF K hK => have hK := fun v w' (hN : NewT wx w') hv => hK v w' (RT.new (Nat.lt_of_lt_of_le hRl2 hT.size) hN) (fun k h => hN.row h) hv; rely_wp rfl (opr_ldI (hT.row hne1 (hRT.row hne1 X1.out)) (by decide) rfl rfl hF.1 (hK _ _ (NewT.refl _) rfl))
        · exact fun a wx hT hF K hK => have hK := fun v w' (hN : NewT wx w') hv => hK v w' (RT.new (Nat.lt_of_lt_of_le hRl2 hT.size) hN) (fun k h => hN.row h) hv; rely_wp rfl (opr_fldR (by decide) rfl hF.1 (hK _ _ (NewT.refl _) rfl))
        · exact fun a wx hT hF K hK => have hK := fun v w' (hN : NewT wx w') hv => hK v w' (RT.new (Nat.lt_of_lt_of_le hRl2 hT.size) hN) (fun k h => hN.row h) hv; rely_wp rfl (opr_ldI (hT.row hne1 (hRT.row hne1 X1.out)) (by decide) rfl rfl hF.1 (hK _ _ (NewT.refl _) rfl))
        · exact fun a wx hT hF K hK => have hK := fun v w' (hN : NewT wx w') hv => hK v w' (RT.new (Nat.lt_of_lt_of_le hRl2 hT.size) hN) (fun k h => hN.row h) hv; rely_wp rfl (opr_fldR (by decide) rfl hF.1 (hK _ _ (NewT.refl _) rfl))
        · exact fun a wx hT hF K hK => have hK := fun v w' (hN : NewT wx w') hv => hK v w' (RT.new (Nat.lt_of_lt_of_le hRl2 hT.size) hN) (fun k h => hN.row h) hv; rely_wp rfl (opr_ldI (hT.row hne1 (hRT.row hne1 X1.out)) (by decide) rfl rfl hF.1 (hK _ _ (NewT.refl _) rfl))
        · exact fun a wx hT hF K hK => have hK := fun v w' (hN : NewT wx w') hv => hK v w' (RT.new (Nat.lt_of_lt_of_le hRl2 hT.size) hN) (fun k h => hN.row h) hv; rely_wp rfl (opr_fldR (by decide) rfl hF.1 (hK _ _ (NewT.refl _) rfl))
        · exact fun a wx hT hF K hK => have hK := fun v w' (hN : NewT wx w') hv => hK v w' (RT.new (Nat.lt_of_lt_of_le hRl2 hT.size) hN) (fun k h => hN.row h) hv; rely_wp rfl (opr_ldI (hT.row hne1 (hRT.row hne1 X1.out)) (by decide) rfl rfl hF.1 (hK _ _ (NewT.refl _) rfl))
        · exact fun a wx hT hF K hK => have hK := fun v w' (hN : NewT wx w') hv => hK v w' (RT.new (Nat.lt_of_lt_of_le hRl2 hT.size) hN) (fun k h => hN.row h) hv; rely_wp rfl (opr_fldR (by decide) rfl hF.1 (hK _ _ (NewT.refl _) rfl))
        · exact fun a wx hT hF K hK => have hK := fun v w' (hN : NewT wx w') hv => hK v w' (RT.new (Nat.lt_of_lt_of_le hRl2 hT.size) hN) (fun k h => hN.row h) hv; rely_wp rfl (opr_ldQ (hT.row hne1 (hRT.row hne1 X1.out)) (by decide) rfl rfl hF.1 (hK _ _ (NewT.refl _) rfl))
        · exact fun a wx hT hF K hK => have hK := fun v w' (hN : NewT wx w') hv => hK v w' (RT.new (Nat.lt_of_lt_of_le hRl2 hT.size) hN) (fun k h => hN.row h) hv; rely_wp rfl (opr_fldR (by decide) rfl hF.1 (hK _ _ (NewT.refl _) rfl))
        · intro a wx hT hF hJ K hK
          obtain ⟨f62, f53, _⟩ := hF
          have f62 : a.tmps.getD 62 undef = .pointer (some ⟨R, 1, none⟩) := f62
          have f53 : a.tmps.getD 53 undef = .int .i64 (x.saga) := f53
          refine rely_wp rfl ?_
          refine opr_put1 rfl f62 f53 (show wx.rowIs R 30 109 (recF ({ zR with kind := x.kind, good := x.good, part := x.part, epoch := x.epoch, tag := x.tag }) (.slice none 0 0) (.slice none 0 0)) from hJ) (by decide) info_i1 rfl (fun i _ => rs_saga ({ zR with kind := x.kind, good := x.good, part := x.part, epoch := x.epoch, tag := x.tag }) (.slice none 0 0) (.slice none 0 0) i _) ?_
          intro w' hT' hr'
          exact hK _ _ hT' hr' trivial
        · exact fun a wx hT hF K hK => have hK := fun v w' (hN : NewT wx w') hv => hK v w' (RT.new (Nat.lt_of_lt_of_le hRl2 hT.size) hN) (fun k h => hN.row h) hv; rely_wp rfl (opr_fldR (by decide) rfl hF.1 (hK _ _ (NewT.refl _) rfl))
        · intro a wx hT hF hJ K hK
          obtain ⟨f63, f55, _⟩ := hF
          have f63 : a.tmps.getD 63 undef = .pointer (some ⟨R, 2, none⟩) := f63
          have f55 : a.tmps.getD 55 undef = .int .i64 (x.seq) := f55
          refine rely_wp rfl ?_
          refine opr_put1 rfl f63 f55 (show wx.rowIs R 30 109 (recF ({ zR with kind := x.kind, good := x.good, part := x.part, epoch := x.epoch, tag := x.tag, saga := x.saga }) (.slice none 0 0) (.slice none 0 0)) from hJ) (by decide) info_i1 rfl (fun i _ => rs_seq ({ zR with kind := x.kind, good := x.good, part := x.part, epoch := x.epoch, tag := x.tag, saga := x.saga }) (.slice none 0 0) (.slice none 0 0) i _) ?_
          intro w' hT' hr'
          exact hK _ _ hT' hr' trivial
        · exact fun a wx hT hF K hK => have hK := fun v w' (hN : NewT wx w') hv => hK v w' (RT.new (Nat.lt_of_lt_of_le hRl2 hT.size) hN) (fun k h => hN.row h) hv; rely_wp rfl (opr_fldR (by decide) rfl hF.1 (hK _ _ (NewT.refl _) rfl))
        · intro a wx hT hF hJ K hK
          obtain ⟨f64, f57, _⟩ := hF
          have f64 : a.tmps.getD 64 undef = .pointer (some ⟨R, 3, none⟩) := f64
          have f57 : a.tmps.getD 57 undef = .int .i64 (x.step) := f57
          refine rely_wp rfl ?_
          refine opr_put1 rfl f64 f57 (show wx.rowIs R 30 109 (recF ({ zR with kind := x.kind, good := x.good, part := x.part, epoch := x.epoch, tag := x.tag, saga := x.saga, seq := x.seq }) (.slice none 0 0) (.slice none 0 0)) from hJ) (by decide) info_i1 rfl (fun i _ => rs_step ({ zR with kind := x.kind, good := x.good, part := x.part, epoch := x.epoch, tag := x.tag, saga := x.saga, seq := x.seq }) (.slice none 0 0) (.slice none 0 0) i _) ?_
          intro w' hT' hr'
          exact hK _ _ hT' hr' trivial
        · exact fun a wx hT hF K hK => have hK := fun v w' (hN : NewT wx w') hv => hK v w' (RT.new (Nat.lt_of_lt_of_le hRl2 hT.size) hN) (fun k h => hN.row h) hv; rely_wp rfl (opr_fldR (by decide) rfl hF.1 (hK _ _ (NewT.refl _) rfl))
        · intro a wx hT hF hJ K hK
          obtain ⟨f65, f59, _⟩ := hF
          have f65 : a.tmps.getD 65 undef = .pointer (some ⟨R, 4, none⟩) := f65
          have f59 : a.tmps.getD 59 undef = .int .i64 (x.tr) := f59
          refine rely_wp rfl ?_
          refine opr_put1 rfl f65 f59 (show wx.rowIs R 30 109 (recF ({ zR with kind := x.kind, good := x.good, part := x.part, epoch := x.epoch, tag := x.tag, saga := x.saga, seq := x.seq, step := x.step }) (.slice none 0 0) (.slice none 0 0)) from hJ) (by decide) info_i1 rfl (fun i _ => rs_tr ({ zR with kind := x.kind, good := x.good, part := x.part, epoch := x.epoch, tag := x.tag, saga := x.saga, seq := x.seq, step := x.step }) (.slice none 0 0) (.slice none 0 0) i _) ?_
          intro w' hT' hr'
          exact hK _ _ hT' hr' trivial
        · exact fun a wx hT hF K hK => have hK := fun v w' (hN : NewT wx w') hv => hK v w' (RT.new (Nat.lt_of_lt_of_le hRl2 hT.size) hN) (fun k h => hN.row h) hv; rely_wp rfl (opr_fldR (by decide) rfl hF.1 (hK _ _ (NewT.refl _) rfl))
        · intro eb hb hJ
          iterate 11 (intro u h; obtain rfl := Eq.symm (h (by simp)); clear h)
          intro _ _
          intro u h; obtain rfl := Eq.symm (h (by simp)); clear h
          intro _ _
          intro u h; obtain rfl := Eq.symm (h (by simp)); clear h
          intro _ _
          intro u h; obtain rfl := Eq.symm (h (by simp)); clear h
          intro _ _
          intro u h; obtain rfl := Eq.symm (h (by simp)); clear h
          refine relyEnd_nil rfl ?_
          simp only [Act.put, List.setIfInBounds_toArray, List.set_cons_zero, List.set_cons_succ]
          refine opr_put1 rfl rfl rfl (show eb.rowIs R 30 109 (recF ({ zR with kind := x.kind, good := x.good, part := x.part, epoch := x.epoch, tag := x.tag, saga := x.saga, seq := x.seq, step := x.step, tr := x.tr }) (.slice none 0 0) (.slice none 0 0)) from hJ) (by decide) info_b1 rfl (fun i _ => rs_back ({ zR with kind := x.kind, good := x.good, part := x.part, epoch := x.epoch, tag := x.tag, saga := x.saga, seq := x.seq, step := x.step, tr := x.tr }) (.slice none 0 0) (.slice none 0 0) i _) ?_
          intro ebs hT2 hr2
          clear hJ
          go_simp
          have hRT2 := RT.trans _ _ _ hRT (RT.trans _ _ _ hb hT2)
          go_upto_region 17 with fail
          refine wp_region_steps0 NewT [SV.eq (.agg (rowA 109 (recF ({ zR with kind := x.kind, good := x.good, part := x.part, epoch := x.epoch, tag := x.tag, saga := x.saga, seq := x.seq, step := x.step, tr := x.tr, back := x.back }) (.slice none 0 0) (.slice none 0 0))))] [([(3, none)], none)] 83 1 rfl rfl (by kernel_rfl) NewT.trans (NewT.refl _) (Nat.le_of_ble_eq_true rfl) ⟨?_, trivial⟩ ?_
          · exact fun a wx hT hF K hK => rely_wp rfl (opr_ldR (hT.row hr2) rfl hF.1 (hK _ _ (NewT.refl _) rfl))
          · intro wf hf
            intro u h; obtain rfl := Eq.symm (h (by simp)); clear h
            refine relyEnd_nil rfl ?_
            simp only [Act.put, List.setIfInBounds_toArray, List.set_cons_zero, List.set_cons_succ]
            refine wpList_plain rfl (fun K hK => ?_)
            refine opr_putm rfl rfl rfl (hf.row (hRT2.row hne2 X2.out)) (by decide) info_rec (recF_one _ _ _ rfl rfl) (put_all _ _) ?_
            intro wq hTq rq
            refine hK _ _ ?_
            refine wpList_end rfl ?_
            go_simp
            go_wp2
            have hNq : NewT w wq := (NewT.trans _ _ _ (HN.out.rt hRT2 (by omega)) hf).rt hTq (by omega)
            refine bodyPost_ret (results_agg rfl _ rfl rq Tryd.underlying30 rfl info_rec) rfl ⟨_, rfl, hNq, ?_⟩
            rw [HO.out]
            exact ⟨.slice none 0 0, .slice none 0 0, rfl, rdP_nil _, rdV_nil _ _⟩
    have k3 := hk
    clear hk
    by_cases hk : x.kind = 2
    · have HO : Hid (onlyR x = { zR with kind := x.kind, saga := x.saga, seq := x.seq, step := x.step, tr := x.tr, back := x.back }) := Lib.hid (by unfold onlyR; simp only [hk]; simp)
      rw [hk] at c0
      go_upto_region 14 with fail
      clear c0
      refine wp_region_relyP (RT R) (fun k w => w.rowIs R 30 109 ((fun k => ([recF ({ zR with kind := x.kind }) (.slice none 0 0) (.slice none 0 0), recF ({ zR with kind := x.kind, saga := x.saga }) (.slice none 0 0) (.slice none 0 0), recF ({ zR with kind := x.kind, saga := x.saga, seq := x.seq }) (.slice none 0 0) (.slice none 0 0), recF ({ zR with kind := x.kind, saga := x.saga, seq := x.seq, step := x.step }) (.slice none 0 0) (.slice none 0 0)] : List (Nat → Value)).getD k (recF ({ zR with kind := x.kind, saga := x.saga, seq := x.seq, step := x.step, tr := x.tr }) (.slice none 0 0) (.slice none 0 0))) k)) [SV.eq (.pointer (some ⟨w.heap.size, 1, none⟩)), SV.eq (.int .i64 (x.saga)), SV.eq (.pointer (some ⟨w.heap.size, 2, none⟩)), SV.eq (.int .i64 (x.seq)), SV.eq (.pointer (some ⟨w.heap.size, 3, none⟩)), SV.eq (.int .i64 (x.step)), SV.eq (.pointer (some ⟨w.heap.size, 4, none⟩)), SV.eq (.int .i64 (x.tr)), SV.eq (.pointer (some ⟨w.heap.size, 5, none⟩)), SV.eq (.bool (x.back)), SV.eq (.pointer (some ⟨R, 1, none⟩)), SV.any, SV.eq (.pointer (some ⟨R, 2, none⟩)), SV.any, SV.eq (.pointer (some ⟨R, 3, none⟩)), SV.any, SV.eq (.pointer (some ⟨R, 4, none⟩)), SV.any, SV.eq (.pointer (some ⟨R, 5, none⟩))] [([(1, none)], none), ([(52, some 0)], none), ([(1, none)], none), ([(54, some 2)], none), ([(1, none)], none), ([(56, some 4)], none), ([(1, none)], none), ([(58, some 6)], none), ([(1, none)], none), ([(60, some 8)], none), ([(3, none)], none), ([(62, some 10), (53, some 1)], none), ([(3, none)], none), ([(63, some 12), (55, some 3)], none), ([(3, none)], none), ([(64, some 14), (57, some 5)], none), ([(3, none)], none), ([(65, some 16), (59, some 7)], none), ([(3, none)], none)] [none, none, none, none, none, none, none, none, none, none, none, some 0, none, some 1, none, some 2, none, some 3, none] [11, 13, 15, 17] 83 rfl (by kernel_rfl) rfl (by kernel_rfl) (by kernel_rfl) rfl (by kernel_rfl) RT.trans (RT.drew _ _) ((NewT.drew _).row X3.out) (Nat.le_of_ble_eq_true rfl) ⟨?_, ?_, ?_, ?_, ?_, ?_, ?_, ?_, ?_, ?_, ?_, ?_, ?_, ?_, ?_, ?_, ?_, ?_, ?_, trivial⟩ ?_
      · exact fun a wx hT hF K hK => have hK := fun v w' (hN : NewT wx w') hv => hK v w' (RT.new (Nat.lt_of_lt_of_le hRl hT.size) hN) (fun k h => hN.row h) hv; rely_wp rfl (opr_fldR (by decide) rfl hF.1 (hK _ _ (NewT.refl _) rfl))
      · exact fun a wx hT hF K hK => have hK := fun v w' (hN : NewT wx w') hv => hK v w' (RT.new (Nat.lt_of_lt_of_le hRl hT.size) hN) (fun k h => hN.row h) hv; rely_wp rfl (opr_ldI (hT.row hne1 X1.out) (by decide) rfl rfl hF.1 (hK _ _ (NewT.refl _) rfl))
      · exact fun a wx hT hF K hK => have hK := fun v w' (hN : NewT wx w') hv => hK v w' (RT.new (Nat.lt_of_lt_of_le hRl hT.size) hN) (fun k h => hN.row h) hv; rely_wp rfl (opr_fldR (by decide) rfl hF.1 (hK _ _ (NewT.refl _) rfl))
      · exact fun a wx hT hF K hK => have hK := fun v w' (hN : NewT wx w') hv => hK v w' (RT.new (Nat.lt_of_lt_of_le hRl hT.size) hN) (fun k h => hN.row h) hv; rely_wp rfl (opr_ldI (hT.row hne1 X1.out) (by decide) rfl rfl hF.1 (hK _ _ (NewT.refl _) rfl))
      · exact fun a wx hT hF K hK => have hK := fun v w' (hN : NewT wx w') hv => hK v w' (RT.new (Nat.lt_of_lt_of_le hRl hT.size) hN) (fun k h => hN.row h) hv; rely_wp rfl (opr_fldR (by decide) rfl hF.1 (hK _ _ (NewT.refl _) rfl))
      · exact fun a wx hT hF K hK => have hK := fun v w' (hN : NewT wx w') hv => hK v w' (RT.new (Nat.lt_of_lt_of_le hRl hT.size) hN) (fun k h => hN.row h) hv; rely_wp rfl (opr_ldI (hT.row hne1 X1.out) (by decide) rfl rfl hF.1 (hK _ _ (NewT.refl _) rfl))
      · exact fun a wx hT hF K hK => have hK := fun v w' (hN : NewT wx w') hv => hK v w' (RT.new (Nat.lt_of_lt_of_le hRl hT.size) hN) (fun k h => hN.row h) hv; rely_wp rfl (opr_fldR (by decide) rfl hF.1 (hK _ _ (NewT.refl _) rfl))
      · exact fun a wx hT hF K hK => have hK := fun v w' (hN : NewT wx w') hv => hK v w' (RT.new (Nat.lt_of_lt_of_le hRl hT.size) hN) (fun k h => hN.row h) hv; rely_wp rfl (opr_ldI (hT.row hne1 X1.out) (by decide) rfl rfl hF.1 (hK _ _ (NewT.refl _) rfl))
      · exact fun a wx hT hF K hK => have hK := fun v w' (hN : NewT wx w') hv => hK v w' (RT.new (Nat.lt_of_lt_of_le hRl hT.size) hN) (fun k h => hN.row h) hv; rely_wp rfl (opr_fldR (by decide) rfl hF.1 (hK _ _ (NewT.refl _) rfl))
      · exact fun a wx hT hF K hK => have hK := fun v w' (hN : NewT wx w') hv => hK v w' (RT.new (Nat.lt_of_lt_of_le hRl hT.size) hN) (fun k h => hN.row h) hv; rely_wp rfl (opr_ldQ (hT.row hne1 X1.out) (by decide) rfl rfl hF.1 (hK _ _ (NewT.refl _) rfl))
      · exact fun a wx hT hF K hK => have hK := fun v w' (hN : NewT wx w') hv => hK v w' (RT.new (Nat.lt_of_lt_of_le hRl hT.size) hN) (fun k h => hN.row h) hv; rely_wp rfl (opr_fldR (by decide) rfl hF.1 (hK _ _ (NewT.refl _) rfl))
      · intro a wx hT hF hJ K hK
        obtain ⟨f62, f53, _⟩ := hF
        have f62 : a.tmps.getD 62 undef = .pointer (some ⟨R, 1, none⟩) := f62
        have f53 : a.tmps.getD 53 undef = .int .i64 (x.saga) := f53
        refine rely_wp rfl ?_
        refine opr_put1 rfl f62 f53 (show wx.rowIs R 30 109 (recF ({ zR with kind := x.kind }) (.slice none 0 0) (.slice none 0 0)) from hJ) (by decide) info_i1 rfl (fun i _ => rs_saga ({ zR with kind := x.kind }) (.slice none 0 0) (.slice none 0 0) i _) ?_
        intro w' hT' hr'
        exact hK _ _ hT' hr' trivial
      · exact fun a wx hT hF K hK => have hK := fun v w' (hN : NewT wx w') hv => hK v w' (RT.new (Nat.lt_of_lt_of_le hRl hT.size) hN) (fun k h => hN.row h) hv; rely_wp rfl (opr_fldR (by decide) rfl hF.1 (hK _ _ (NewT.refl _) rfl))
      · intro a wx hT hF hJ K hK
        obtain ⟨f63, f55, _⟩ := hF
        have f63 : a.tmps.getD 63 undef = .pointer (some ⟨R, 2, none⟩) := f63
        have f55 : a.tmps.getD 55 undef = .int .i64 (x.seq) := f55
        refine rely_wp rfl ?_
        refine opr_put1 rfl f63 f55 (show wx.rowIs R 30 109 (recF ({ zR with kind := x.kind, saga := x.saga }) (.slice none 0 0) (.slice none 0 0)) from hJ) (by decide) info_i1 rfl (fun i _ => rs_seq ({ zR with kind := x.kind, saga := x.saga }) (.slice none 0 0) (.slice none 0 0) i _) ?_
        intro w' hT' hr'
        exact hK _ _ hT' hr' trivial
      · exact fun a wx hT hF K hK => have hK := fun v w' (hN : NewT wx w') hv => hK v w' (RT.new (Nat.lt_of_lt_of_le hRl hT.size) hN) (fun k h => hN.row h) hv; rely_wp rfl (opr_fldR (by decide) rfl hF.1 (hK _ _ (NewT.refl _) rfl))
      · intro a wx hT hF hJ K hK
        obtain ⟨f64, f57, _⟩ := hF
        have f64 : a.tmps.getD 64 undef = .pointer (some ⟨R, 3, none⟩) := f64
        have f57 : a.tmps.getD 57 undef = .int .i64 (x.step) := f57
        refine rely_wp rfl ?_
        refine opr_put1 rfl f64 f57 (show wx.rowIs R 30 109 (recF ({ zR with kind := x.kind, saga := x.saga, seq := x.seq }) (.slice none 0 0) (.slice none 0 0)) from hJ) (by decide) info_i1 rfl (fun i _ => rs_step ({ zR with kind := x.kind, saga := x.saga, seq := x.seq }) (.slice none 0 0) (.slice none 0 0) i _) ?_
        intro w' hT' hr'
        exact hK _ _ hT' hr' trivial
      · exact fun a wx hT hF K hK => have hK := fun v w' (hN : NewT wx w') hv => hK v w' (RT.new (Nat.lt_of_lt_of_le hRl hT.size) hN) (fun k h => hN.row h) hv; rely_wp rfl (opr_fldR (by decide) rfl hF.1 (hK _ _ (NewT.refl _) rfl))
      · intro a wx hT hF hJ K hK
        obtain ⟨f65, f59, _⟩ := hF
        have f65 : a.tmps.getD 65 undef = .pointer (some ⟨R, 4, none⟩) := f65
        have f59 : a.tmps.getD 59 undef = .int .i64 (x.tr) := f59
        refine rely_wp rfl ?_
        refine opr_put1 rfl f65 f59 (show wx.rowIs R 30 109 (recF ({ zR with kind := x.kind, saga := x.saga, seq := x.seq, step := x.step }) (.slice none 0 0) (.slice none 0 0)) from hJ) (by decide) info_i1 rfl (fun i _ => rs_tr ({ zR with kind := x.kind, saga := x.saga, seq := x.seq, step := x.step }) (.slice none 0 0) (.slice none 0 0) i _) ?_
        intro w' hT' hr'
        exact hK _ _ hT' hr' trivial
      · exact fun a wx hT hF K hK => have hK := fun v w' (hN : NewT wx w') hv => hK v w' (RT.new (Nat.lt_of_lt_of_le hRl hT.size) hN) (fun k h => hN.row h) hv; rely_wp rfl (opr_fldR (by decide) rfl hF.1 (hK _ _ (NewT.refl _) rfl))
      · intro e2 h2 hJ
        iterate 11 (intro u h; obtain rfl := Eq.symm (h (by simp)); clear h)
        intro _ _
        intro u h; obtain rfl := Eq.symm (h (by simp)); clear h
        intro _ _
        intro u h; obtain rfl := Eq.symm (h (by simp)); clear h
        intro _ _
        intro u h; obtain rfl := Eq.symm (h (by simp)); clear h
        intro _ _
        intro u h; obtain rfl := Eq.symm (h (by simp)); clear h
        refine relyEnd_nil rfl ?_
        simp only [Act.put, List.setIfInBounds_toArray, List.set_cons_zero, List.set_cons_succ]
        refine opr_put1 rfl rfl rfl (show e2.rowIs R 30 109 (recF ({ zR with kind := x.kind, saga := x.saga, seq := x.seq, step := x.step, tr := x.tr }) (.slice none 0 0) (.slice none 0 0)) from hJ) (by decide) info_b1 rfl (fun i _ => rs_back ({ zR with kind := x.kind, saga := x.saga, seq := x.seq, step := x.step, tr := x.tr }) (.slice none 0 0) (.slice none 0 0) i _) ?_
        intro e2s hT' hr'
        clear hJ
        go_simp
        have hRT := RT.trans _ _ _ h2 hT'
        go_upto_region 17 with fail
        refine wp_region_steps0 NewT [SV.eq (.agg (rowA 109 (recF ({ zR with kind := x.kind, saga := x.saga, seq := x.seq, step := x.step, tr := x.tr, back := x.back }) (.slice none 0 0) (.slice none 0 0))))] [([(3, none)], none)] 83 1 rfl rfl (by kernel_rfl) NewT.trans (NewT.refl _) (Nat.le_of_ble_eq_true rfl) ⟨?_, trivial⟩ ?_
        · exact fun a wx hT hF K hK => rely_wp rfl (opr_ldR (hT.row hr') rfl hF.1 (hK _ _ (NewT.refl _) rfl))
        · intro wf hf
          intro u h; obtain rfl := Eq.symm (h (by simp)); clear h
          refine relyEnd_nil rfl ?_
          simp only [Act.put, List.setIfInBounds_toArray, List.set_cons_zero, List.set_cons_succ]
          refine wpList_plain rfl (fun K hK => ?_)
          refine opr_putm rfl rfl rfl (hf.row (hRT.row hne2 X2.out)) (by decide) info_rec (recF_one _ _ _ rfl rfl) (put_all _ _) ?_
          intro wq hTq rq
          refine hK _ _ ?_
          refine wpList_end rfl ?_
          go_simp
          go_wp2
          have hNq : NewT w wq := (NewT.trans _ _ _ (HN.out.rt hRT (by omega)) hf).rt hTq (by omega)
          refine bodyPost_ret (results_agg rfl _ rfl rq Tryd.underlying30 rfl info_rec) rfl ⟨_, rfl, hNq, ?_⟩
          rw [HO.out]
          exact ⟨.slice none 0 0, .slice none 0 0, rfl, rdP_nil _, rdV_nil _ _⟩
    have k2 := hk
    clear hk
    by_cases hk : x.kind = 4
    · have HO : Hid (onlyR x = { zR with kind := x.kind, saga := x.saga, seq := x.seq, step := x.step, tr := x.tr, back := x.back }) := Lib.hid (by unfold onlyR; simp only [hk]; simp)
      rw [hk] at c0
      go_upto_region 14 with fail
      clear c0
      refine wp_region_relyP (RT R) (fun k w => w.rowIs R 30 109 ((fun k => ([recF ({ zR with kind := x.kind }) (.slice none 0 0) (.slice none 0 0), recF ({ zR with kind := x.kind, saga := x.saga }) (.slice none 0 0) (.slice none 0 0), recF ({ zR with kind := x.kind, saga := x.saga, seq := x.seq }) (.slice none 0 0) (.slice none 0 0), recF ({ zR with kind := x.kind, saga := x.saga, seq := x.seq, step := x.step }) (.slice none 0 0) (.slice none 0 0)] : List (Nat → Value)).getD k (recF ({ zR with kind := x.kind, saga := x.saga, seq := x.seq, step := x.step, tr := x.tr }) (.slice none 0 0) (.slice none 0 0))) k)) [SV.eq (.pointer (some ⟨w.heap.size, 1, none⟩)), SV.eq (.int .i64 (x.saga)), SV.eq (.pointer (some ⟨w.heap.size, 2, none⟩)), SV.eq (.int .i64 (x.seq)), SV.eq (.pointer (some ⟨w.heap.size, 3, none⟩)), SV.eq (.int .i64 (x.step)), SV.eq (.pointer (some ⟨w.heap.size, 4, none⟩)), SV.eq (.int .i64 (x.tr)), SV.eq (.pointer (some ⟨w.heap.size, 5, none⟩)), SV.eq (.bool (x.back)), SV.eq (.pointer (some ⟨R, 1, none⟩)), SV.any, SV.eq (.pointer (some ⟨R, 2, none⟩)), SV.any, SV.eq (.pointer (some ⟨R, 3, none⟩)), SV.any, SV.eq (.pointer (some ⟨R, 4, none⟩)), SV.any, SV.eq (.pointer (some ⟨R, 5, none⟩))] [([(1, none)], none), ([(52, some 0)], none), ([(1, none)], none), ([(54, some 2)], none), ([(1, none)], none), ([(56, some 4)], none), ([(1, none)], none), ([(58, some 6)], none), ([(1, none)], none), ([(60, some 8)], none), ([(3, none)], none), ([(62, some 10), (53, some 1)], none), ([(3, none)], none), ([(63, some 12), (55, some 3)], none), ([(3, none)], none), ([(64, some 14), (57, some 5)], none), ([(3, none)], none), ([(65, some 16), (59, some 7)], none), ([(3, none)], none)] [none, none, none, none, none, none, none, none, none, none, none, some 0, none, some 1, none, some 2, none, some 3, none] [11, 13, 15, 17] 83 rfl (by kernel_rfl) rfl (by kernel_rfl) (by kernel_rfl) rfl (by kernel_rfl) RT.trans (RT.drew _ _) ((NewT.drew _).row X3.out) (Nat.le_of_ble_eq_true rfl) ⟨?_, ?_, ?_, ?_, ?_, ?_, ?_, ?_, ?_, ?_, ?_, ?_, ?_, ?_, ?_, ?_, ?_, ?_, ?_, trivial⟩ ?_
      · exact fun a wx hT hF K hK => have hK := fun v w' (hN : NewT wx w') hv => hK v w' (RT.new (Nat.lt_of_lt_of_le hRl hT.size) hN) (fun k h => hN.row h) hv; rely_wp rfl (opr_fldR (by decide) rfl hF.1 (hK _ _ (NewT.refl _) rfl))
      · exact fun a wx hT hF K hK => have hK := fun v w' (hN : NewT wx w') hv => hK v w' (RT.new (Nat.lt_of_lt_of_le hRl hT.size) hN) (fun k h => hN.row h) hv; rely_wp rfl (opr_ldI (hT.row hne1 X1.out) (by decide) rfl rfl hF.1 (hK _ _ (NewT.refl _) rfl))
      · exact fun a wx hT hF K hK => have hK := fun v w' (hN : NewT wx w') hv => hK v w' (RT.new (Nat.lt_of_lt_of_le hRl hT.size) hN) (fun k h => hN.row h) hv; rely_wp rfl (opr_fldR (by decide) rfl hF.1 (hK _ _ (NewT.refl _) rfl))
      · exact fun a wx hT hF K hK => have hK := fun v w' (hN : NewT wx w') hv => hK v w' (RT.new (Nat.lt_of_lt_of_le hRl hT.size) hN) (fun k h => hN.row h) hv; rely_wp rfl (opr_ldI (hT.row hne1 X1.out) (by decide) rfl rfl hF.1 (hK _ _ (NewT.refl _) rfl))
      · exact fun a wx hT hF K hK => have hK := fun v w' (hN : NewT wx w') hv => hK v w' (RT.new (Nat.lt_of_lt_of_le hRl hT.size) hN) (fun k h => hN.row h) hv; rely_wp rfl (opr_fldR (by decide) rfl hF.1 (hK _ _ (NewT.refl _) rfl))
      · exact fun a wx hT hF K hK => have hK := fun v w' (hN : NewT wx w') hv => hK v w' (RT.new (Nat.lt_of_lt_of_le hRl hT.size) hN) (fun k h => hN.row h) hv; rely_wp rfl (opr_ldI (hT.row hne1 X1.out) (by decide) rfl rfl hF.1 (hK _ _ (NewT.refl _) rfl))
      · exact fun a wx hT hF K hK => have hK := fun v w' (hN : NewT wx w') hv => hK v w' (RT.new (Nat.lt_of_lt_of_le hRl hT.size) hN) (fun k h => hN.row h) hv; rely_wp rfl (opr_fldR (by decide) rfl hF.1 (hK _ _ (NewT.refl _) rfl))
      · exact fun a wx hT hF K hK => have hK := fun v w' (hN : NewT wx w') hv => hK v w' (RT.new (Nat.lt_of_lt_of_le hRl hT.size) hN) (fun k h => hN.row h) hv; rely_wp rfl (opr_ldI (hT.row hne1 X1.out) (by decide) rfl rfl hF.1 (hK _ _ (NewT.refl _) rfl))
      · exact fun a wx hT hF K hK => have hK := fun v w' (hN : NewT wx w') hv => hK v w' (RT.new (Nat.lt_of_lt_of_le hRl hT.size) hN) (fun k h => hN.row h) hv; rely_wp rfl (opr_fldR (by decide) rfl hF.1 (hK _ _ (NewT.refl _) rfl))
      · exact fun a wx hT hF K hK => have hK := fun v w' (hN : NewT wx w') hv => hK v w' (RT.new (Nat.lt_of_lt_of_le hRl hT.size) hN) (fun k h => hN.row h) hv; rely_wp rfl (opr_ldQ (hT.row hne1 X1.out) (by decide) rfl rfl hF.1 (hK _ _ (NewT.refl _) rfl))
      · exact fun a wx hT hF K hK => have hK := fun v w' (hN : NewT wx w') hv => hK v w' (RT.new (Nat.lt_of_lt_of_le hRl hT.size) hN) (fun k h => hN.row h) hv; rely_wp rfl (opr_fldR (by decide) rfl hF.1 (hK _ _ (NewT.refl _) rfl))
      · intro a wx hT hF hJ K hK
        obtain ⟨f62, f53, _⟩ := hF
        have f62 : a.tmps.getD 62 undef = .pointer (some ⟨R, 1, none⟩) := f62
        have f53 : a.tmps.getD 53 undef = .int .i64 (x.saga) := f53
        refine rely_wp rfl ?_
        refine opr_put1 rfl f62 f53 (show wx.rowIs R 30 109 (recF ({ zR with kind := x.kind }) (.slice none 0 0) (.slice none 0 0)) from hJ) (by decide) info_i1 rfl (fun i _ => rs_saga ({ zR with kind := x.kind }) (.slice none 0 0) (.slice none 0 0) i _) ?_
        intro w' hT' hr'
        exact hK _ _ hT' hr' trivial
      · exact fun a wx hT hF K hK => have hK := fun v w' (hN : NewT wx w') hv => hK v w' (RT.new (Nat.lt_of_lt_of_le hRl hT.size) hN) (fun k h => hN.row h) hv; rely_wp rfl (opr_fldR (by decide) rfl hF.1 (hK _ _ (NewT.refl _) rfl))
      · intro a wx hT hF hJ K hK
        obtain ⟨f63, f55, _⟩ := hF
        have f63 : a.tmps.getD 63 undef = .pointer (some ⟨R, 2, none⟩) := f63
        have f55 : a.tmps.getD 55 undef = .int .i64 (x.seq) := f55
        refine rely_wp rfl ?_
        refine opr_put1 rfl f63 f55 (show wx.rowIs R 30 109 (recF ({ zR with kind := x.kind, saga := x.saga }) (.slice none 0 0) (.slice none 0 0)) from hJ) (by decide) info_i1 rfl (fun i _ => rs_seq ({ zR with kind := x.kind, saga := x.saga }) (.slice none 0 0) (.slice none 0 0) i _) ?_
        intro w' hT' hr'
        exact hK _ _ hT' hr' trivial
      · exact fun a wx hT hF K hK => have hK := fun v w' (hN : NewT wx w') hv => hK v w' (RT.new (Nat.lt_of_lt_of_le hRl hT.size) hN) (fun k h => hN.row h) hv; rely_wp rfl (opr_fldR (by decide) rfl hF.1 (hK _ _ (NewT.refl _) rfl))
      · intro a wx hT hF hJ K hK
        obtain ⟨f64, f57, _⟩ := hF
        have f64 : a.tmps.getD 64 undef = .pointer (some ⟨R, 3, none⟩) := f64
        have f57 : a.tmps.getD 57 undef = .int .i64 (x.step) := f57
        refine rely_wp rfl ?_
        refine opr_put1 rfl f64 f57 (show wx.rowIs R 30 109 (recF ({ zR with kind := x.kind, saga := x.saga, seq := x.seq }) (.slice none 0 0) (.slice none 0 0)) from hJ) (by decide) info_i1 rfl (fun i _ => rs_step ({ zR with kind := x.kind, saga := x.saga, seq := x.seq }) (.slice none 0 0) (.slice none 0 0) i _) ?_
        intro w' hT' hr'
        exact hK _ _ hT' hr' trivial
      · exact fun a wx hT hF K hK => have hK := fun v w' (hN : NewT wx w') hv => hK v w' (RT.new (Nat.lt_of_lt_of_le hRl hT.size) hN) (fun k h => hN.row h) hv; rely_wp rfl (opr_fldR (by decide) rfl hF.1 (hK _ _ (NewT.refl _) rfl))
      · intro a wx hT hF hJ K hK
        obtain ⟨f65, f59, _⟩ := hF
        have f65 : a.tmps.getD 65 undef = .pointer (some ⟨R, 4, none⟩) := f65
        have f59 : a.tmps.getD 59 undef = .int .i64 (x.tr) := f59
        refine rely_wp rfl ?_
        refine opr_put1 rfl f65 f59 (show wx.rowIs R 30 109 (recF ({ zR with kind := x.kind, saga := x.saga, seq := x.seq, step := x.step }) (.slice none 0 0) (.slice none 0 0)) from hJ) (by decide) info_i1 rfl (fun i _ => rs_tr ({ zR with kind := x.kind, saga := x.saga, seq := x.seq, step := x.step }) (.slice none 0 0) (.slice none 0 0) i _) ?_
        intro w' hT' hr'
        exact hK _ _ hT' hr' trivial
      · exact fun a wx hT hF K hK => have hK := fun v w' (hN : NewT wx w') hv => hK v w' (RT.new (Nat.lt_of_lt_of_le hRl hT.size) hN) (fun k h => hN.row h) hv; rely_wp rfl (opr_fldR (by decide) rfl hF.1 (hK _ _ (NewT.refl _) rfl))
      · intro e4 h4 hJ
        iterate 11 (intro u h; obtain rfl := Eq.symm (h (by simp)); clear h)
        intro _ _
        intro u h; obtain rfl := Eq.symm (h (by simp)); clear h
        intro _ _
        intro u h; obtain rfl := Eq.symm (h (by simp)); clear h
        intro _ _
        intro u h; obtain rfl := Eq.symm (h (by simp)); clear h
        intro _ _
        intro u h; obtain rfl := Eq.symm (h (by simp)); clear h
        refine relyEnd_nil rfl ?_
        simp only [Act.put, List.setIfInBounds_toArray, List.set_cons_zero, List.set_cons_succ]
        refine opr_put1 rfl rfl rfl (show e4.rowIs R 30 109 (recF ({ zR with kind := x.kind, saga := x.saga, seq := x.seq, step := x.step, tr := x.tr }) (.slice none 0 0) (.slice none 0 0)) from hJ) (by decide) info_b1 rfl (fun i _ => rs_back ({ zR with kind := x.kind, saga := x.saga, seq := x.seq, step := x.step, tr := x.tr }) (.slice none 0 0) (.slice none 0 0) i _) ?_
        intro e4s hT' hr'
        clear hJ
        go_simp
        have hRT := RT.trans _ _ _ h4 hT'
        go_upto_region 17 with fail
        refine wp_region_steps0 NewT [SV.eq (.agg (rowA 109 (recF ({ zR with kind := x.kind, saga := x.saga, seq := x.seq, step := x.step, tr := x.tr, back := x.back }) (.slice none 0 0) (.slice none 0 0))))] [([(3, none)], none)] 83 1 rfl rfl (by kernel_rfl) NewT.trans (NewT.refl _) (Nat.le_of_ble_eq_true rfl) ⟨?_, trivial⟩ ?_
        · exact fun a wx hT hF K hK => rely_wp rfl (opr_ldR (hT.row hr') rfl hF.1 (hK _ _ (NewT.refl _) rfl))
        · intro wf hf
          intro u h; obtain rfl := Eq.symm (h (by simp)); clear h
          refine relyEnd_nil rfl ?_
          simp only [Act.put, List.setIfInBounds_toArray, List.set_cons_zero, List.set_cons_succ]
          refine wpList_plain rfl (fun K hK => ?_)
          refine opr_putm rfl rfl rfl (hf.row (hRT.row hne2 X2.out)) (by decide) info_rec (recF_one _ _ _ rfl rfl) (put_all _ _) ?_
          intro wq hTq rq
          refine hK _ _ ?_
          refine wpList_end rfl ?_
          go_simp
          go_wp2
          have hNq : NewT w wq := (NewT.trans _ _ _ (HN.out.rt hRT (by omega)) hf).rt hTq (by omega)
          refine bodyPost_ret (results_agg rfl _ rfl rq Tryd.underlying30 rfl info_rec) rfl ⟨_, rfl, hNq, ?_⟩
          rw [HO.out]
          exact ⟨.slice none 0 0, .slice none 0 0, rfl, rdP_nil _, rdV_nil _ _⟩
    have k4 := hk
    clear hk
    by_cases hk : x.kind = 5
    · have HO : Hid (onlyR x = { zR with kind := x.kind, saga := x.saga, seq := x.seq, nd := x.nd }) := Lib.hid (by unfold onlyR; simp only [hk]; simp)
      rw [hk] at c0
      go_upto_region 15 with fail
      clear c0
      refine wp_region_relyP (RT R) (fun k w => w.rowIs R 30 109 ((fun k => ([recF ({ zR with kind := x.kind }) (.slice none 0 0) (.slice none 0 0), recF ({ zR with kind := x.kind, saga := x.saga }) (.slice none 0 0) (.slice none 0 0)] : List (Nat → Value)).getD k (recF ({ zR with kind := x.kind, saga := x.saga, seq := x.seq }) (.slice none 0 0) (.slice none 0 0))) k)) [SV.eq (.pointer (some ⟨w.heap.size, 1, none⟩)), SV.eq (.int .i64 (x.saga)), SV.eq (.pointer (some ⟨w.heap.size, 2, none⟩)), SV.eq (.int .i64 (x.seq)), SV.eq (.pointer (some ⟨w.heap.size, 7, none⟩)), SV.eq (.int .i64 (x.nd)), SV.eq (.pointer (some ⟨R, 1, none⟩)), SV.any, SV.eq (.pointer (some ⟨R, 2, none⟩)), SV.any, SV.eq (.pointer (some ⟨R, 7, none⟩))] [([(1, none)], none), ([(67, some 0)], none), ([(1, none)], none), ([(69, some 2)], none), ([(1, none)], none), ([(71, some 4)], none), ([(3, none)], none), ([(73, some 6), (68, some 1)], none), ([(3, none)], none), ([(74, some 8), (70, some 3)], none), ([(3, none)], none)] [none, none, none, none, none, none, none, some 0, none, some 1, none] [7, 9] 83 rfl (by kernel_rfl) rfl (by kernel_rfl) (by kernel_rfl) rfl (by kernel_rfl) RT.trans (RT.drew _ _) ((NewT.drew _).row X3.out) (Nat.le_of_ble_eq_true rfl) ⟨?_, ?_, ?_, ?_, ?_, ?_, ?_, ?_, ?_, ?_, ?_, trivial⟩ ?_
      · exact fun a wx hT hF K hK => have hK := fun v w' (hN : NewT wx w') hv => hK v w' (RT.new (Nat.lt_of_lt_of_le hRl hT.size) hN) (fun k h => hN.row h) hv; rely_wp rfl (opr_fldR (by decide) rfl hF.1 (hK _ _ (NewT.refl _) rfl))
      · exact fun a wx hT hF K hK => have hK := fun v w' (hN : NewT wx w') hv => hK v w' (RT.new (Nat.lt_of_lt_of_le hRl hT.size) hN) (fun k h => hN.row h) hv; rely_wp rfl (opr_ldI (hT.row hne1 X1.out) (by decide) rfl rfl hF.1 (hK _ _ (NewT.refl _) rfl))
      · exact fun a wx hT hF K hK => have hK := fun v w' (hN : NewT wx w') hv => hK v w' (RT.new (Nat.lt_of_lt_of_le hRl hT.size) hN) (fun k h => hN.row h) hv; rely_wp rfl (opr_fldR (by decide) rfl hF.1 (hK _ _ (NewT.refl _) rfl))
      · exact fun a wx hT hF K hK => have hK := fun v w' (hN : NewT wx w') hv => hK v w' (RT.new (Nat.lt_of_lt_of_le hRl hT.size) hN) (fun k h => hN.row h) hv; rely_wp rfl (opr_ldI (hT.row hne1 X1.out) (by decide) rfl rfl hF.1 (hK _ _ (NewT.refl _) rfl))
      · exact fun a wx hT hF K hK => have hK := fun v w' (hN : NewT wx w') hv => hK v w' (RT.new (Nat.lt_of_lt_of_le hRl hT.size) hN) (fun k h => hN.row h) hv; rely_wp rfl (opr_fldR (by decide) rfl hF.1 (hK _ _ (NewT.refl _) rfl))
      · exact fun a wx hT hF K hK => have hK := fun v w' (hN : NewT wx w') hv => hK v w' (RT.new (Nat.lt_of_lt_of_le hRl hT.size) hN) (fun k h => hN.row h) hv; rely_wp rfl (opr_ldI (hT.row hne1 X1.out) (by decide) rfl rfl hF.1 (hK _ _ (NewT.refl _) rfl))
      · exact fun a wx hT hF K hK => have hK := fun v w' (hN : NewT wx w') hv => hK v w' (RT.new (Nat.lt_of_lt_of_le hRl hT.size) hN) (fun k h => hN.row h) hv; rely_wp rfl (opr_fldR (by decide) rfl hF.1 (hK _ _ (NewT.refl _) rfl))
      · intro a wx hT hF hJ K hK
        obtain ⟨f73, f68, _⟩ := hF
        have f73 : a.tmps.getD 73 undef = .pointer (some ⟨R, 1, none⟩) := f73
        have f68 : a.tmps.getD 68 undef = .int .i64 (x.saga) := f68
        refine rely_wp rfl ?_
        refine opr_put1 rfl f73 f68 (show wx.rowIs R 30 109 (recF ({ zR with kind := x.kind }) (.slice none 0 0) (.slice none 0 0)) from hJ) (by decide) info_i1 rfl (fun i _ => rs_saga ({ zR with kind := x.kind }) (.slice none 0 0) (.slice none 0 0) i _) ?_
        intro w' hT' hr'
        exact hK _ _ hT' hr' trivial
      · exact fun a wx hT hF K hK => have hK := fun v w' (hN : NewT wx w') hv => hK v w' (RT.new (Nat.lt_of_lt_of_le hRl hT.size) hN) (fun k h => hN.row h) hv; rely_wp rfl (opr_fldR (by decide) rfl hF.1 (hK _ _ (NewT.refl _) rfl))
      · intro a wx hT hF hJ K hK
        obtain ⟨f74, f70, _⟩ := hF
        have f74 : a.tmps.getD 74 undef = .pointer (some ⟨R, 2, none⟩) := f74
        have f70 : a.tmps.getD 70 undef = .int .i64 (x.seq) := f70
        refine rely_wp rfl ?_
        refine opr_put1 rfl f74 f70 (show wx.rowIs R 30 109 (recF ({ zR with kind := x.kind, saga := x.saga }) (.slice none 0 0) (.slice none 0 0)) from hJ) (by decide) info_i1 rfl (fun i _ => rs_seq ({ zR with kind := x.kind, saga := x.saga }) (.slice none 0 0) (.slice none 0 0) i _) ?_
        intro w' hT' hr'
        exact hK _ _ hT' hr' trivial
      · exact fun a wx hT hF K hK => have hK := fun v w' (hN : NewT wx w') hv => hK v w' (RT.new (Nat.lt_of_lt_of_le hRl hT.size) hN) (fun k h => hN.row h) hv; rely_wp rfl (opr_fldR (by decide) rfl hF.1 (hK _ _ (NewT.refl _) rfl))
      · intro e5 h5 hJ
        iterate 7 (intro u h; obtain rfl := Eq.symm (h (by simp)); clear h)
        intro _ _
        intro u h; obtain rfl := Eq.symm (h (by simp)); clear h
        intro _ _
        intro u h; obtain rfl := Eq.symm (h (by simp)); clear h
        refine relyEnd_nil rfl ?_
        simp only [Act.put, List.setIfInBounds_toArray, List.set_cons_zero, List.set_cons_succ]
        refine opr_put1 rfl rfl rfl (show e5.rowIs R 30 109 (recF ({ zR with kind := x.kind, saga := x.saga, seq := x.seq }) (.slice none 0 0) (.slice none 0 0)) from hJ) (by decide) info_i1 rfl (fun i _ => rs_nd ({ zR with kind := x.kind, saga := x.saga, seq := x.seq }) (.slice none 0 0) (.slice none 0 0) i _) ?_
        intro e5s hT' hr'
        clear hJ
        go_simp
        have hRT := RT.trans _ _ _ h5 hT'
        go_upto_region 17 with fail
        refine wp_region_steps0 NewT [SV.eq (.agg (rowA 109 (recF ({ zR with kind := x.kind, saga := x.saga, seq := x.seq, nd := x.nd }) (.slice none 0 0) (.slice none 0 0))))] [([(3, none)], none)] 83 1 rfl rfl (by kernel_rfl) NewT.trans (NewT.refl _) (Nat.le_of_ble_eq_true rfl) ⟨?_, trivial⟩ ?_
        · exact fun a wx hT hF K hK => rely_wp rfl (opr_ldR (hT.row hr') rfl hF.1 (hK _ _ (NewT.refl _) rfl))
        · intro wf hf
          intro u h; obtain rfl := Eq.symm (h (by simp)); clear h
          refine relyEnd_nil rfl ?_
          simp only [Act.put, List.setIfInBounds_toArray, List.set_cons_zero, List.set_cons_succ]
          refine wpList_plain rfl (fun K hK => ?_)
          refine opr_putm rfl rfl rfl (hf.row (hRT.row hne2 X2.out)) (by decide) info_rec (recF_one _ _ _ rfl rfl) (put_all _ _) ?_
          intro wq hTq rq
          refine hK _ _ ?_
          refine wpList_end rfl ?_
          go_simp
          go_wp2
          have hNq : NewT w wq := (NewT.trans _ _ _ (HN.out.rt hRT (by omega)) hf).rt hTq (by omega)
          refine bodyPost_ret (results_agg rfl _ rfl rq Tryd.underlying30 rfl info_rec) rfl ⟨_, rfl, hNq, ?_⟩
          rw [HO.out]
          exact ⟨.slice none 0 0, .slice none 0 0, rfl, rdP_nil _, rdV_nil _ _⟩
    have k5 := hk
    clear hk
    by_cases hk : x.kind = 6
    · have HO : Hid (onlyR x = { zR with kind := x.kind, part := x.part, epoch := x.epoch }) := Lib.hid (by unfold onlyR; simp only [hk]; simp)
      rw [hk] at c0
      go_upto_region 16 with fail
      clear c0
      refine wp_region_relyP (RT R) (fun k w => w.rowIs R 30 109 ((fun k => ([recF ({ zR with kind := x.kind }) (.slice none 0 0) (.slice none 0 0)] : List (Nat → Value)).getD k (recF ({ zR with kind := x.kind, part := x.part }) (.slice none 0 0) (.slice none 0 0))) k)) [SV.eq (.pointer (some ⟨w.heap.size, 8, none⟩)), SV.eq (.int .i64 (x.part)), SV.eq (.pointer (some ⟨w.heap.size, 9, none⟩)), SV.eq (.int .i64 (x.epoch)), SV.eq (.pointer (some ⟨R, 8, none⟩)), SV.any, SV.eq (.pointer (some ⟨R, 9, none⟩))] [([(1, none)], none), ([(76, some 0)], none), ([(1, none)], none), ([(78, some 2)], none), ([(3, none)], none), ([(80, some 4), (77, some 1)], none), ([(3, none)], none)] [none, none, none, none, none, some 0, none] [5] 83 rfl (by kernel_rfl) rfl (by kernel_rfl) (by kernel_rfl) rfl (by kernel_rfl) RT.trans (RT.drew _ _) ((NewT.drew _).row X3.out) (Nat.le_of_ble_eq_true rfl) ⟨?_, ?_, ?_, ?_, ?_, ?_, ?_, trivial⟩ ?_
      · exact fun a wx hT hF K hK => have hK := fun v w' (hN : NewT wx w') hv => hK v w' (RT.new (Nat.lt_of_lt_of_le hRl hT.size) hN) (fun k h => hN.row h) hv; rely_wp rfl (opr_fldR (by decide) rfl hF.1 (hK _ _ (NewT.refl _) rfl))
      · exact fun a wx hT hF K hK => have hK := fun v w' (hN : NewT wx w') hv => hK v w' (RT.new (Nat.lt_of_lt_of_le hRl hT.size) hN) (fun k h => hN.row h) hv; rely_wp rfl (opr_ldI (hT.row hne1 X1.out) (by decide) rfl rfl hF.1 (hK _ _ (NewT.refl _) rfl))
      · exact fun a wx hT hF K hK => have hK := fun v w' (hN : NewT wx w') hv => hK v w' (RT.new (Nat.lt_of_lt_of_le hRl hT.size) hN) (fun k h => hN.row h) hv; rely_wp rfl (opr_fldR (by decide) rfl hF.1 (hK _ _ (NewT.refl _) rfl))
      · exact fun a wx hT hF K hK => have hK := fun v w' (hN : NewT wx w') hv => hK v w' (RT.new (Nat.lt_of_lt_of_le hRl hT.size) hN) (fun k h => hN.row h) hv; rely_wp rfl (opr_ldI (hT.row hne1 X1.out) (by decide) rfl rfl hF.1 (hK _ _ (NewT.refl _) rfl))
      · exact fun a wx hT hF K hK => have hK := fun v w' (hN : NewT wx w') hv => hK v w' (RT.new (Nat.lt_of_lt_of_le hRl hT.size) hN) (fun k h => hN.row h) hv; rely_wp rfl (opr_fldR (by decide) rfl hF.1 (hK _ _ (NewT.refl _) rfl))
      · intro a wx hT hF hJ K hK
        obtain ⟨f80, f77, _⟩ := hF
        have f80 : a.tmps.getD 80 undef = .pointer (some ⟨R, 8, none⟩) := f80
        have f77 : a.tmps.getD 77 undef = .int .i64 (x.part) := f77
        refine rely_wp rfl ?_
        refine opr_put1 rfl f80 f77 (show wx.rowIs R 30 109 (recF ({ zR with kind := x.kind }) (.slice none 0 0) (.slice none 0 0)) from hJ) (by decide) info_i1 rfl (fun i _ => rs_part ({ zR with kind := x.kind }) (.slice none 0 0) (.slice none 0 0) i _) ?_
        intro w' hT' hr'
        exact hK _ _ hT' hr' trivial
      · exact fun a wx hT hF K hK => have hK := fun v w' (hN : NewT wx w') hv => hK v w' (RT.new (Nat.lt_of_lt_of_le hRl hT.size) hN) (fun k h => hN.row h) hv; rely_wp rfl (opr_fldR (by decide) rfl hF.1 (hK _ _ (NewT.refl _) rfl))
      · intro e6 h6 hJ
        iterate 5 (intro u h; obtain rfl := Eq.symm (h (by simp)); clear h)
        intro _ _
        intro u h; obtain rfl := Eq.symm (h (by simp)); clear h
        refine relyEnd_nil rfl ?_
        simp only [Act.put, List.setIfInBounds_toArray, List.set_cons_zero, List.set_cons_succ]
        refine opr_put1 rfl rfl rfl (show e6.rowIs R 30 109 (recF ({ zR with kind := x.kind, part := x.part }) (.slice none 0 0) (.slice none 0 0)) from hJ) (by decide) info_i1 rfl (fun i _ => rs_epoch ({ zR with kind := x.kind, part := x.part }) (.slice none 0 0) (.slice none 0 0) i _) ?_
        intro e6s hT' hr'
        clear hJ
        go_simp
        have hRT := RT.trans _ _ _ h6 hT'
        go_upto_region 17 with fail
        refine wp_region_steps0 NewT [SV.eq (.agg (rowA 109 (recF ({ zR with kind := x.kind, part := x.part, epoch := x.epoch }) (.slice none 0 0) (.slice none 0 0))))] [([(3, none)], none)] 83 1 rfl rfl (by kernel_rfl) NewT.trans (NewT.refl _) (Nat.le_of_ble_eq_true rfl) ⟨?_, trivial⟩ ?_
        · exact fun a wx hT hF K hK => rely_wp rfl (opr_ldR (hT.row hr') rfl hF.1 (hK _ _ (NewT.refl _) rfl))
        · intro wf hf
          intro u h; obtain rfl := Eq.symm (h (by simp)); clear h
          refine relyEnd_nil rfl ?_
          simp only [Act.put, List.setIfInBounds_toArray, List.set_cons_zero, List.set_cons_succ]
          refine wpList_plain rfl (fun K hK => ?_)
          refine opr_putm rfl rfl rfl (hf.row (hRT.row hne2 X2.out)) (by decide) info_rec (recF_one _ _ _ rfl rfl) (put_all _ _) ?_
          intro wq hTq rq
          refine hK _ _ ?_
          refine wpList_end rfl ?_
          go_simp
          go_wp2
          have hNq : NewT w wq := (NewT.trans _ _ _ (HN.out.rt hRT (by omega)) hf).rt hTq (by omega)
          refine bodyPost_ret (results_agg rfl _ rfl rq Tryd.underlying30 rfl info_rec) rfl ⟨_, rfl, hNq, ?_⟩
          rw [HO.out]
          exact ⟨.slice none 0 0, .slice none 0 0, rfl, rdP_nil _, rdV_nil _ _⟩
    have k6 := hk
    clear hk
    have HO : Hid (onlyR x = { zR with kind := x.kind }) := Lib.hid (by unfold onlyR; simp [k1, k2, k3, k4, k5, k6])
    have q1 : (x.kind == 1) = false := by simpa using k1
    have q2 : (x.kind == 2) = false := by simpa using k2
    have q3 : (x.kind == 3) = false := by simpa using k3
    have q4 : (x.kind == 4) = false := by simpa using k4
    have q5 : (x.kind == 5) = false := by simpa using k5
    have q6 : (x.kind == 6) = false := by simpa using k6
    clear k1 k2 k3 k4 k5 k6
    go_upto_region 17 with fail
    refine wp_region_steps0 NewT [SV.eq (.agg (rowA 109 (recF ({ zR with kind := x.kind }) (.slice none 0 0) (.slice none 0 0))))] [([(3, none)], none)] 83 1 rfl rfl (by kernel_rfl) NewT.trans (NewT.refl _) (Nat.le_of_ble_eq_true rfl) ⟨?_, trivial⟩ ?_
    · exact fun a wx hT hF K hK => rely_wp rfl (opr_ldR (hT.row X3.out) rfl hF.1 (hK _ _ (NewT.refl _) rfl))
    · intro wf hf
      intro u h; obtain rfl := Eq.symm (h (by simp)); clear h
      refine relyEnd_nil rfl ?_
      simp only [Act.put, List.setIfInBounds_toArray, List.set_cons_zero, List.set_cons_succ]
      refine wpList_plain rfl (fun K hK => ?_)
      refine opr_putm rfl rfl rfl (hf.row X2.out) (by decide) info_rec (recF_one _ _ _ rfl rfl) (put_all _ _) ?_
      intro wq hTq rq
      refine hK _ _ ?_
      refine wpList_end rfl ?_
      go_simp
      go_wp2
      have hNq : NewT w wq := (NewT.trans _ _ _ (HN.out) hf).rt hTq (by omega)
      refine bodyPost_ret (results_agg rfl _ rfl rq Tryd.underlying30 rfl info_rec) rfl ⟨_, rfl, hNq, ?_⟩
      rw [HO.out]
      exact ⟨.slice none 0 0, .slice none 0 0, rfl, rdP_nil _, rdV_nil _ _⟩
end Go.Proofs.YtcfogkimjbgjgaaDoor
/- Slices of steps that a call makes: rows of pairs, appended to, cloned. -/
namespace Go.Proofs.YtcfogkimjbgjgaaDoor
open Go Go.RowKit
set_option maxRecDepth 8000
set_option linter.all false
/-- The cells of steps, one behind the other. -/
def pc (l : List (Int × Int)) : List Value := l.flatMap fun s => [.int .i64 s.1, .int .i64 s.2]
theorem pc_length (l : List (Int × Int)) : (pc l).length = l.length * 2 := by
  induction l with
  | nil => rfl
  | cons s l ih => simp [pc] at ih ⊢; omega
theorem pc_append (l m : List (Int × Int)) : pc (l ++ m) = pc l ++ pc m := by simp [pc]
theorem pc_get (l : List (Int × Int)) (i : Nat) (hi : i < l.length) : (pc l)[2 * i]? = some (.int .i64 (l.getD i (0, 0)).1) ∧ (pc l)[2 * i + 1]? = some (.int .i64 (l.getD i (0, 0)).2) := by
  induction l generalizing i with
  | nil => simp at hi
  | cons s l ih =>
    cases i with
    | zero => simp [pc]
    | succ i =>
      have := ih i (by simpa using hi)
      have e : pc (s :: l) = .int .i64 s.1 :: .int .i64 s.2 :: pc l := by simp [pc]
      rw [e, show 2 * (i + 1) = 2 * i + 1 + 1 by omega]
      simpa using this
theorem pc_one (l : List (Int × Int)) : ∀ u ∈ pc l, u.oneCell' = true := fun u hu => by
  simp only [pc, List.mem_flatMap] at hu
  obtain ⟨s, _, hs⟩ := hu
  simp at hs
  rcases hs with rfl | rfl <;> rfl
theorem rdP_own {W : World} {base : Nat} {v : Value} {l : List (Int × Int)} (h : W.ownsRow base 74 2 v l.length (pc l)) : RdP W v l := by
  have hc : ∀ g : Nat, v.ownBlock = some g → ∀ j u, (pc l)[j]? = some u → W.cell? ((⟨g, 0, none⟩ : Addr).add j) = some u := fun g hg => h.cells hg
  rcases h.2 with ⟨rfl, h0⟩ | ⟨g, cap, cur, rfl, _, _, hnc, hcm, _, _⟩
  · exact ⟨none, 0, by rw [h0], by omega, by unfold maxLen; omega, fun h => absurd h (by omega)⟩
  · refine ⟨some ⟨g, 0, none⟩, cap, rfl, hnc, hcm, fun _ => ⟨g, 0, rfl, fun i hi => ?_⟩⟩
    have h1 := hc g rfl _ _ (pc_get l i hi).1
    have h2 := hc g rfl _ _ (pc_get l i hi).2
    rw [Addr.add_mid] at h1 h2
    exact ⟨h1, by rw [Nat.add_assoc]; exact h2⟩
theorem info_stp : (Tryd.prog.info? 74).map (fun i => (i.zero, i.size, i.bytes)) = some (some (.agg #[.int .i64 0, .int .i64 0]), 2, 16) := by kernel_rfl
theorem info_parts2 {e : TypeId} {z : Value} {s b : Nat} (h : (Tryd.prog.info? e).map (fun i => (i.zero, i.size, i.bytes)) = some (some z, s, b)) : ∃ i0, Tryd.prog.info? e = some i0 ∧ i0.zero = some z ∧ i0.size = s ∧ i0.bytes = b := by
  cases hq : Tryd.prog.info? e with
  | none => rw [hq] at h; cases h
  | some i => rw [hq] at h; simp at h; exact ⟨i, rfl, h.1, h.2.1, h.2.2⟩
/-- A slice of steps, put behind a row of the call's own. -/
theorem run_append_steps {W : World} {base : Nat} {v u : Value} {l m : List (Int × Int)} (ho : W.ownsRow base 74 2 v l.length (pc l)) (hu : RdP W u m) (hu0 : ∀ n c, u ≠ .slice none n c) (hn : l.length + m.length ≤ 1000000) (hb : base ≤ W.heap.size) (ty : TypeId) :
    ∃ v' w', (Builtin.append_ #[27, 27] ty #[v, u]).run Tryd.prog W = .ok v' w' ∧ w'.ownsRow base 74 2 v' (l ++ m).length (pc (l ++ m)) ∧ W.grownBy w' v.ownBlock := by
  obtain ⟨A, c, rfl, h1, h2, h3⟩ := hu
  cases A with
  | none => exact absurd rfl (hu0 _ _)
  | some ad =>
    obtain ⟨i0, hi, hz0, hz1, hz2⟩ := info_parts2 info_stp
    obtain ⟨v', w', hr, ho', hg, _⟩ := run_append_own (P := Tryd.prog) (w := W) base 27 ty 74 i0 _ 2 16 Tryd.underlying27 hi hz0 hz1 hz2 rfl (by omega) v l.length (pc l) ho ad m.length c (pc m) (pc_length m) (fun j x hj => by
      have hjl : j < m.length * 2 := by have := (List.getElem?_eq_some_iff.1 hj).1; rwa [pc_length] at this
      obtain ⟨b, o, hA, hcell⟩ := h3 (by omega)
      cases hA
      have hg := pc_get m (j / 2) (by omega)
      obtain ⟨c0, c1⟩ := hcell (j / 2) (by omega)
      rw [Addr.add_mid]
      by_cases he : j % 2 = 0
      · rw [show j = 2 * (j / 2) by omega] at hj ⊢
        rw [hg.1] at hj; cases hj
        exact c0
      · rw [show j = 2 * (j / 2) + 1 by omega] at hj ⊢
        rw [hg.2] at hj; cases hj
        rw [← Nat.add_assoc]
        exact c1) (pc_one m) (by unfold maxLen; omega) (by omega) hb
    exact ⟨v', w', hr, by rw [List.length_append, pc_append]; exact ho', hg⟩
end Go.Proofs.YtcfogkimjbgjgaaDoor
/- Package rec: Right; commitments. -/
namespace Go.Proofs.YtcfogkimjbgjgaaDoor
open Go Go.RowKit
set_option maxRecDepth 8000
set_option linter.all false
set_option maxHeartbeats 1000000 in
theorem Right_cv (v : Value) (x : Rc) (w : World) (h : RecV w v x) : Cv 32 #[v] w (.eq (.bool (rightB x))) := by
  rw [← right_eq]
  obtain ⟨sv, dv, rfl, hs, hd⟩ := h
  unfold Cv
  have HX : Hid (RecV w (.agg (rowA 109 (recF x sv dv))) x) := Lib.hid ⟨sv, dv, rfl, hs, hd⟩
  have HS := Lib.hid hs
  have HD := Lib.hid hd
  clear hs hd
  go_enter Tryd.func32, Tryd.ntmps32
  go_upto_region 1 with fail
  have r1 := rowIs_box w 30 109 (recF x sv dv)
  have hN := NewT.alloc w (.cells (rowA 109 (recF x sv dv)) 30)
  change Code.wp _ _ _ _ (w.alloc (.cells (rowA 109 (recF x sv dv)) 30))
  generalize w.alloc (.cells (rowA 109 (recF x sv dv)) 30) = W0 at r1 hN ⊢
  have R1 := Lib.hid r1
  have HN := Lib.hid hN
  replace HX := Lib.hid (hN.recV HX.out)
  replace HS := Lib.hid (hN.pairs HS.out)
  replace HD := Lib.hid (hN.rd HD.out)
  clear r1 hN
  refine wp_region_rely (NewT) [SV.eq (.agg (rowA 109 (recF x sv dv))), SV.eq (.bool (inRg x)), SV.eq (.bool (inRg x)), svIf (inRg x) (SV.eq (.agg (rowA 109 (recF x sv dv)))), svIf (inRg x) (SV.eq (.agg (rowA 109 (recF x sv dv)))), svIf (inRg x) (svRec (onlyR x)), svIf (inRg x) (SV.eq (.bool (sameB x (onlyR x)))), SV.eq (.bool ((inRg x) && (sameB x (onlyR x))))] [([(1, none)], none), ([(3, some 0)], none), ([(4, some 1)], none), ([(1, none), (5, some 2)], some (5, true)), ([(1, none), (5, some 2)], some (5, true)), ([(7, some 4), (5, some 2)], some (5, true)), ([(6, some 3), (8, some 5), (5, some 2)], some (5, true)), ([(5, some 2), (9, some 6)], none)] 11 rfl (by kernel_rfl) rfl (by kernel_rfl) (by kernel_rfl) rfl NewT.trans (NewT.drew _) (Nat.le_of_ble_eq_true rfl) ⟨?_, ?_, ?_, ?_, ?_, ?_, ?_, ?_, trivial⟩ ?_
  · exact fun a wx hT hF K hK => rely_wp rfl (opr_ldR (hT.row R1.out) rfl hF.1 (hK _ _ (NewT.refl _) rfl))
  · exact fun a wx hT hF K hK => rely_wp rfl (opr_cv (inRange_cv _ x wx (hT.recV HX.out)) rfl Tryd.func47 (by kernel_rfl) (by kernel_rfl) (evs1 hF.1) hK)
  · exact fun a wx hT hF K hK => rely_wp rfl (opr_move (.inl rfl) (hK _ _ (NewT.refl _) hF.1))
  · exact fun a wx hT hF K hK => rely_if (rely_gt hF.2.1) (NewT.refl _) hK fun hE hK => opr_ldR (hT.row R1.out) rfl hF.1 (hK _ _ (NewT.refl _) rfl)
  · exact fun a wx hT hF K hK => rely_if (rely_gt hF.2.1) (NewT.refl _) hK fun hE hK => opr_ldR (hT.row R1.out) rfl hF.1 (hK _ _ (NewT.refl _) rfl)
  · exact fun a wx hT hF K hK => rely_if (rely_gt hF.2.1) (NewT.refl _) hK fun hE hK => opr_cv (only_cv _ x wx (hT.recV HX.out)) rfl Tryd.func49 (by kernel_rfl) (by kernel_rfl) (evs1 (hF.1 hE)) hK
  · exact fun a wx hT hF K hK => rely_if (rely_gt hF.2.2.1) (NewT.refl _) hK fun hE hK => opr_cv (Same_cv _ _ x (onlyR x) wx (hT.recV HX.out) (hF.2.1 hE)) rfl Tryd.func48 (by kernel_rfl) (by kernel_rfl) (evs2 (hF.1 hE) rfl) hK
  · exact fun a wx hT hF K hK => rely_wp rfl (opr_pick_b rfl hF.1 (fun hb => hK _ _ (NewT.refl _) (pk_and1 (hF.2.1 hb) hb)) (fun hb => hK _ _ (NewT.refl _) (pk_and0 hb)))
  · intro wx hT
    iterate 3 (intro u h; obtain rfl := Eq.symm (h (by simp)); clear h)
    iterate 4 (intro _ _)
    intro u h; obtain rfl := Eq.symm (h (by simp)); clear h
    refine relyEnd_nil rfl ?_
    simp only [Act.put, List.setIfInBounds_toArray, List.set_cons_zero, List.set_cons_succ]
    refine opr_move (.inr rfl) ?_
    go_simp
    go_wp2
    go_ret
    exact ⟨_, rfl, NewT.trans _ _ _ HN.out hT, rfl⟩
end Go.Proofs.YtcfogkimjbgjgaaDoor
/- Package mac, alone: are two hashes the same: what Equal returns, by a closure over all bytes. -/
namespace Go.Proofs.YtcfogkimjbgjgaaDoor
open Go Go.RowKit
set_option maxRecDepth 8000
set_option linter.all false
theorem u8_xorQ (x y : UInt8) : bits .xor .u8 (bN x) (bN y) = bN (x ^^^ y) := by
  have h : ∀ a b : BitVec 8, bits .xor .u8 ((a.toNat : Nat) : Int) ((b.toNat : Nat) : Int) = (((a ^^^ b).toNat : Nat) : Int) := by
    intro a b
    show IntKind.u8.wrap ((BitVec.ofInt 8 ((a.toNat : Nat) : Int) ^^^ BitVec.ofInt 8 ((b.toNat : Nat) : Int)).toNat : Int) = _
    simp only [BitVec.ofInt_natCast, BitVec.ofNat_toNat, BitVec.setWidth_eq]
    rw [wrap_u8]; have := (a ^^^ b).isLt; omega
  exact h x.toBitVec y.toBitVec
theorem u8_or (x y : UInt8) : bits .or .u8 (bN x) (bN y) = bN (x ||| y) := by
  have h : ∀ a b : BitVec 8, bits .or .u8 ((a.toNat : Nat) : Int) ((b.toNat : Nat) : Int) = (((a ||| b).toNat : Nat) : Int) := by
    intro a b
    show IntKind.u8.wrap ((BitVec.ofInt 8 ((a.toNat : Nat) : Int) ||| BitVec.ofInt 8 ((b.toNat : Nat) : Int)).toNat : Int) = _
    simp only [BitVec.ofInt_natCast, BitVec.ofNat_toNat, BitVec.setWidth_eq]
    rw [wrap_u8]; have := (a ||| b).isLt; omega
  exact h x.toBitVec y.toBitVec
attribute [local go_sem] bF_at u8_xorQ u8_or
theorem Eq1_any (x y d : UInt8) (g : Nat) (w : World) (hr : w.rowIs g 5 1 (bF fun _ => d)) :
    Calls Tryd.prog 69 #[.int .u8 (bN x), .int .u8 (bN y), .pointer (some ⟨g, 0, none⟩)] w fun e w' => ∃ v, e = .returned v ∧ w.setCell ⟨g, 0, none⟩ (.int .u8 (bN (d ||| (x ^^^ y)))) = w' := by
  have c0 := hr.cell (i := 0) (by omega)
  have f0 := hr.frozen 0
  go_enter Tryd.func69, Tryd.ntmps69
  go_wp2
  go_end0
  exact ⟨_, rfl, rfl⟩
theorem row1_set {w : World} {g : Nat} {t : TypeId} {d d' : UInt8} (h : w.rowIs g t 1 (bF fun _ => d)) : (w.setCell ⟨g, 0, none⟩ (.int .u8 (bN d'))).rowIs g t 1 (bF fun _ => d') :=
  (h.set 0 _).congr fun i hi => by
    obtain rfl : i = 0 := by omega
    rw [if_pos rfl]; rfl
/-- What the closure has found behind k pairs. -/
def orTo (a b : Nat → UInt8) : Nat → UInt8
  | 0 => 0
  | k + 1 => orTo a b k ||| (a k ^^^ b k)
theorem u8_or_zero (x y : UInt8) : (x ||| y) = 0 ↔ x = 0 ∧ y = 0 := by
  rw [← UInt8.toBitVec_inj, ← UInt8.toBitVec_inj, ← UInt8.toBitVec_inj]
  simp [BitVec.or_eq_zero_iff]
theorem u8_xor_zero (x y : UInt8) : (x ^^^ y) = 0 ↔ x = y := by
  rw [← UInt8.toBitVec_inj, ← UInt8.toBitVec_inj]
  simp [BitVec.xor_eq_zero_iff]
theorem orTo_zero (a b : Nat → UInt8) (k : Nat) : orTo a b k = 0 ↔ ∀ i, i < k → a i = b i := by
  induction k with
  | zero => simp [orTo]
  | succ k ih =>
    rw [orTo, u8_or_zero, ih, u8_xor_zero]
    constructor
    · rintro ⟨h1, h2⟩ i hi
      rcases Nat.lt_succ_iff_lt_or_eq.1 hi with h | rfl
      · exact h1 i h
      · exact h2
    · intro h
      exact ⟨fun i hi => h i (by omega), h k (by omega)⟩
theorem orTo_eqH (a b : Nat → UInt8) : ((bN (orTo a b 32) == 0) : Bool) = eqH a b := by
  rw [Bool.eq_iff_iff, eqH_iff, ← orTo_zero]
  simp only [beq_iff_eq]
  constructor
  · intro h; exact bN_inj (h.trans rfl)
  · intro h; rw [h]; rfl
set_option maxHeartbeats 2000000 in
theorem eachPair_any (a b : Nat → UInt8) (g : Nat) (w : World) (hr : w.rowIs g 5 1 (bF fun _ => 0)) :
    Calls Tryd.prog 68 #[.agg (rowA 32 (bF a)), .agg (rowA 32 (bF b)), .func (.func 69) #[] #[.pointer (some ⟨g, 0, none⟩)]] w fun e w' => ∃ v, e = .returned v ∧ w'.rowIs g 5 1 (bF fun _ => orTo a b 32) ∧ Below g w w' := by
  have hg := hr.lt
  go_enter Tryd.func68, Tryd.ntmps68
  go_upto_region 1 with fail
  have r0 := (rowIs_box w 26 32 (bF a)).alloc (.cells (rowA 32 (bF b)) 26)
  have r1 := rowIs_box (w.alloc (.cells (rowA 32 (bF a)) 26)) 26 32 (bF b)
  rw [World.size_alloc] at r1
  have hB := NewT.trans _ _ _ (NewT.alloc w (.cells (rowA 32 (bF a)) 26)) (NewT.alloc (w.alloc (.cells (rowA 32 (bF a)) 26)) (.cells (rowA 32 (bF b)) 26))
  change Code.wp _ _ _ _ ((w.alloc (.cells (rowA 32 (bF a)) 26)).alloc (.cells (rowA 32 (bF b)) 26))
  generalize ((w.alloc (.cells (rowA 32 (bF a)) 26)).alloc (.cells (rowA 32 (bF b)) 26)) = W0 at r0 r1 hB ⊢
  replace hr := hB.row hr
  have hB0 : Below g w W0 := hB.out.mono (Nat.le_of_lt hg)
  clear hB
  go_wp2
  go_loopw [7] (fun i wr => ∃ k : Nat, k ≤ 32 ∧ i = .int .i64 k ∧ wr.rowIs w.heap.size 26 32 (bF a) ∧ wr.rowIs (w.heap.size + 1) 26 32 (bF b) ∧ wr.rowIs g 5 1 (bF fun _ => orTo a b k) ∧ Below g w wr) (fun i _ => 32 - (intOf i).toNat)
  case atStart => exact ⟨0, by omega, rfl, r0, r1, hr, hB0⟩
  case round =>
    obtain ⟨k, hk, rfl, q0, q1, qr, qB⟩ := hrel
    clear r0 r1 hr hB0
    by_cases hlt : k < 32
    · have hki : (k : Int) < 32 := by omega
      go_upto_region 4 with fail
      refine wp_region_rely NewT [SV.eq (.func (.func 69) #[] #[.pointer (some ⟨g, 0, none⟩)]), SV.eq (.int .i64 (k : Int)), SV.eq (.pointer (some ⟨w.heap.size, k, none⟩)), SV.eq (.int .u8 (bN (a k))), SV.eq (.int .i64 (k : Int)), SV.eq (.pointer (some ⟨w.heap.size + 1, k, none⟩)), SV.eq (.int .u8 (bN (b k)))] [([(2, none)], none), ([(6, none)], none), ([(3, none), (11, some 1)], none), ([(12, some 2)], none), ([(6, none)], none), ([(4, none), (14, some 4)], none), ([(15, some 5)], none)] 19 rfl (by kernel_rfl) rfl (by kernel_rfl) (by kernel_rfl) rfl NewT.trans (NewT.drew _) (Nat.le_of_ble_eq_true rfl) ⟨?_, ?_, ?_, ?_, ?_, ?_, ?_, trivial⟩ ?_
      · -- 0: Op.move t2
        intro a wx hT hF K hK
        obtain ⟨f2, _⟩ := hF
        have f2 : a.tmps.getD 2 undef = .func (.func 69) #[] #[.pointer (some ⟨g, 0, none⟩)] := f2
        refine rely_wp rfl ?_
        exact opr_move (.inl rfl) (hK _ _ (NewT.refl _) f2)
      · -- 1: Op.move t6
        intro a wx hT hF K hK
        obtain ⟨f6, _⟩ := hF
        have f6 : a.tmps.getD 6 undef = .int .i64 (k : Int) := f6
        refine rely_wp rfl ?_
        exact opr_move (.inl rfl) (hK _ _ (NewT.refl _) f6)
      · -- 2: Op.indexAddr 31 t3 t11
        intro a wx hT hF K hK
        obtain ⟨f3, f11, _⟩ := hF
        have f3 : a.tmps.getD 3 undef = .pointer (some ⟨w.heap.size, 0, none⟩) := f3
        have f11 : a.tmps.getD 11 undef = .int .i64 (k : Int) := f11
        refine rely_wp rfl ?_
        simp only [Array.getD_eq_getD_getElem?] at f3
        simp only [Array.getD_eq_getD_getElem?] at f11
        go_simp
        exact hK _ _ (NewT.refl _) rfl
      · -- 3: Op.load 5 t12
        intro a wx hT hF K hK
        obtain ⟨f12, _⟩ := hF
        have f12 : a.tmps.getD 12 undef = .pointer (some ⟨w.heap.size, k, none⟩) := f12
        refine rely_wp rfl ?_
        simp only [Array.getD_eq_getD_getElem?] at f12
        have c := (hT.row q0).cell (i := k) hlt
        rw [bF_at] at c
        go_simp
        exact hK _ _ (NewT.refl _) rfl
      · -- 4: Op.move t6
        intro a wx hT hF K hK
        obtain ⟨f6, _⟩ := hF
        have f6 : a.tmps.getD 6 undef = .int .i64 (k : Int) := f6
        refine rely_wp rfl ?_
        exact opr_move (.inl rfl) (hK _ _ (NewT.refl _) f6)
      · -- 5: Op.indexAddr 31 t4 t14
        intro a wx hT hF K hK
        obtain ⟨f4, f14, _⟩ := hF
        have f4 : a.tmps.getD 4 undef = .pointer (some ⟨w.heap.size + 1, 0, none⟩) := f4
        have f14 : a.tmps.getD 14 undef = .int .i64 (k : Int) := f14
        refine rely_wp rfl ?_
        simp only [Array.getD_eq_getD_getElem?] at f4
        simp only [Array.getD_eq_getD_getElem?] at f14
        go_simp
        exact hK _ _ (NewT.refl _) rfl
      · -- 6: Op.load 5 t15
        intro a wx hT hF K hK
        obtain ⟨f15, _⟩ := hF
        have f15 : a.tmps.getD 15 undef = .pointer (some ⟨w.heap.size + 1, k, none⟩) := f15
        refine rely_wp rfl ?_
        simp only [Array.getD_eq_getD_getElem?] at f15
        have c := (hT.row q1).cell (i := k) hlt
        rw [bF_at] at c
        go_simp
        exact hK _ _ (NewT.refl _) rfl
      · intro wx hT
        intro u h; obtain rfl := h (by simp); clear h
        intro u h; obtain rfl := h (by simp); clear h
        intro u h; obtain rfl := h (by simp); clear h
        intro u h; obtain rfl := h (by simp); clear h
        intro u h; obtain rfl := h (by simp); clear h
        intro u h; obtain rfl := h (by simp); clear h
        intro u h; obtain rfl := h (by simp); clear h
        refine relyEnd_nil rfl ?_
        simp only [Act.put, List.setIfInBounds_toArray, List.set_cons_zero, List.set_cons_succ]
        refine opr_callv rfl rfl Tryd.func69 (by kernel_rfl) (by kernel_rfl) (by simp only [List.map_toArray, List.map_cons, List.map_nil]; rfl) ((Eq1_any (a k) (b k) (orTo a b k) g wx (hT.row qr)).mono ?_)
        rintro e w2 ⟨v, rfl, rfl⟩
        refine ⟨v, rfl, ?_⟩
        have n0 := (hT.row q0).setOther (a := ⟨g, 0, none⟩) (show w.heap.size ≠ g by omega) (.int .u8 (bN (orTo a b k ||| (a k ^^^ b k))))
        have n1 := (hT.row q1).setOther (a := ⟨g, 0, none⟩) (show w.heap.size + 1 ≠ g by omega) (.int .u8 (bN (orTo a b k ||| (a k ^^^ b k))))
        have nr : (wx.setCell ⟨g, 0, none⟩ (.int .u8 (bN (orTo a b k ||| (a k ^^^ b k))))).rowIs g 5 1 (bF fun _ => orTo a b (k + 1)) := row1_set (hT.row qr)
        have nB := (qB.trans (hT.out.mono (by have := qB.size; omega))).setCell (p := ⟨g, 0, none⟩) (Nat.le_refl _) (.int .u8 (bN (orTo a b k ||| (a k ^^^ b k))))
        generalize wx.setCell ⟨g, 0, none⟩ (.int .u8 (bN (orTo a b k ||| (a k ^^^ b k)))) = w3 at n0 n1 nr nB ⊢
        clear q0 q1 qr qB hT
        go_simp
        go_wp2
        go_roundw
        case rel => exact ⟨k + 1, by omega, by go_num, n0, n1, nr, nB⟩
        case measure => simp [intOf]; omega
    · obtain rfl : k = 32 := by omega
      go_wp2
      go_end0
      exact ⟨_, rfl, qr, qB⟩
set_option maxHeartbeats 2000000 in
theorem Equal_cv (a b : Nat → UInt8) (w : World) : Cv 50 #[.agg (rowA 32 (bF a)), .agg (rowA 32 (bF b))] w (.eq (.bool (eqH a b))) := by
  unfold Cv
  go_enter Tryd.func50, Tryd.ntmps50
  go_upto_region 2 with fail
  have hB : NewT w (((w.alloc (.cells (rowA 32 (bF a)) 26)).alloc (.cells (rowA 32 (bF b)) 26)).alloc (.cells #[.int .u8 0] 5)) := NewT.trans _ _ _ (NewT.trans _ _ _ (NewT.alloc w _) (NewT.alloc _ _)) (NewT.alloc _ _)
  have r0 := ((rowIs_box w 26 32 (bF a)).alloc (.cells (rowA 32 (bF b)) 26)).alloc (.cells #[.int .u8 0] 5)
  have r1 := (rowIs_box (w.alloc (.cells (rowA 32 (bF a)) 26)) 26 32 (bF b)).alloc (.cells #[.int .u8 0] 5)
  have r2 := World.rowIs_alloc ((w.alloc (.cells (rowA 32 (bF a)) 26)).alloc (.cells (rowA 32 (bF b)) 26)) #[.int .u8 0] 5 (bF fun _ => 0) (fun i hi => by
    obtain rfl : i = 0 := by simpa using hi
    rfl)
  rw [World.size_alloc] at r1 r2
  rw [World.size_alloc] at r2
  change Code.wp _ _ _ _ (((w.alloc (.cells (rowA 32 (bF a)) 26)).alloc (.cells (rowA 32 (bF b)) 26)).alloc (.cells #[.int .u8 0] 5))
  generalize (((w.alloc (.cells (rowA 32 (bF a)) 26)).alloc (.cells (rowA 32 (bF b)) 26)).alloc (.cells #[.int .u8 0] 5)) = W0 at r0 r1 r2 hB ⊢
  change W0.rowIs (w.heap.size + 1 + 1) 5 1 (bF fun _ => 0) at r2
  refine wp_region_seq NewT [SV.eq (.agg (rowA 32 (bF a))), SV.eq (.agg (rowA 32 (bF b))), SV.eq (.func (.func 69) #[] #[.pointer (some ⟨w.heap.size + 1 + 1, 0, none⟩)])] [([(2, none)], none), ([(3, none)], none), ([(5, none)], none)] 12 rfl rfl (by kernel_rfl) rfl NewT.trans (NewT.refl _) (Nat.le_of_ble_eq_true rfl) ⟨?_, ?_, ?_, trivial⟩ ?_
  · -- 0: Op.load 31 t2
    intro a wx hT hF K hK
    obtain ⟨f2, _⟩ := hF
    have f2 : a.tmps.getD 2 undef = .pointer (some ⟨w.heap.size, 0, none⟩) := f2
    refine rely_wp rfl ?_
    exact opr_load_hash rfl f2 (hT.row r0) (hK _ _ (NewT.refl _) rfl)
  · -- 1: Op.load 31 t3
    intro a wx hT hF K hK
    obtain ⟨f3, _⟩ := hF
    have f3 : a.tmps.getD 3 undef = .pointer (some ⟨w.heap.size + 1, 0, none⟩) := f3
    refine rely_wp rfl ?_
    exact opr_load_hash rfl f3 (hT.row r1) (hK _ _ (NewT.refl _) rfl)
  · -- 2: Op.makeFunc (Fn.func 48) #[] #[t5]
    intro a wx hT hF K hK
    obtain ⟨f5, _⟩ := hF
    have f5 : a.tmps.getD 5 undef = .pointer (some ⟨w.heap.size + 1 + 1, 0, none⟩) := f5
    refine rely_wp rfl ?_
    simp only [Array.getD_eq_getD_getElem?] at f5
    go_simp
    exact hK _ _ (NewT.refl _) rfl
  · intro wx hT
    intro u h; obtain rfl := h (by simp); clear h
    intro u h; obtain rfl := h (by simp); clear h
    intro u h; obtain rfl := h (by simp); clear h
    refine relyEnd_nil rfl ?_
    simp only [Act.put, List.setIfInBounds_toArray, List.set_cons_zero, List.set_cons_succ]
    refine opr_call rfl Tryd.func68 (by kernel_rfl) (by kernel_rfl) (by simp only [List.map_toArray, List.map_cons, List.map_nil]; rfl) ((eachPair_any a b (w.heap.size + 1 + 1) wx (hT.row r2)).mono ?_)
    rintro e w2 ⟨v, rfl, q2, hB2⟩
    refine ⟨v, rfl, ?_⟩
    have hB3 := (NewT.trans _ _ _ hB hT).out.trans (hB2.mono (by omega))
    have c2 := q2.cell (i := 0) (by omega)
    rw [bF_at] at c2
    have he := orTo_eqH a b
    clear hT hB hB2 r0 r1 r2
    generalize bN (orTo a b 32) = z at c2 he
    go_simp
    go_wp2
    go_ret
    exact ⟨_, rfl, hB3, rfl⟩
end Go.Proofs.YtcfogkimjbgjgaaDoor
/- Package keys: receipts' tags; whether one holds. -/
namespace Go.Proofs.YtcfogkimjbgjgaaDoor
open Go Go.RowKit
set_option maxRecDepth 8000
set_option linter.all false
set_option maxHeartbeats 400000 in
theorem Is_cv (d e : Hs) (w : World) : Cv 33 #[.agg (rowA 32 (bF d)), .agg (rowA 32 (bF e))] w (.eq (.bool (eqH d e))) := by
  unfold Cv
  go_enter Tryd.func33, Tryd.ntmps33
  go_upto_region 1 with fail
  have r0 := (rowIs_box w 61 32 (bF d)).alloc (.cells (rowA 32 (bF e)) 26)
  have r1 := rowIs_box (w.alloc (.cells (rowA 32 (bF d)) 61)) 26 32 (bF e)
  have hN : NewT w ((w.alloc (.cells (rowA 32 (bF d)) 61)).alloc (.cells (rowA 32 (bF e)) 26)) := NewT.trans _ _ _ (NewT.alloc _ _) (NewT.alloc _ _)
  rw [World.size_alloc] at r1
  change Code.wp _ _ _ _ ((w.alloc (.cells (rowA 32 (bF d)) 61)).alloc (.cells (rowA 32 (bF e)) 26))
  generalize (w.alloc (.cells (rowA 32 (bF d)) 61)).alloc (.cells (rowA 32 (bF e)) 26) = W0 at r0 r1 hN ⊢
  have R0 := Lib.hid r0
  have R1 := Lib.hid r1
  have HN := Lib.hid hN
  clear r0 r1 hN
  refine wp_region_steps0 NewT [SV.eq (.agg (rowA 32 (bF (d)))), SV.eq (.agg (rowA 32 (bF (e)))), SV.eq (.bool (eqH (d) (e))), SV.eq (.bool (eqH (d) (e)))] [([(2, none)], none), ([(3, none)], none), ([(5, some 0), (6, some 1)], none), ([(7, some 2)], none)] 8 4 rfl rfl (by kernel_rfl) NewT.trans (NewT.refl _) (Nat.le_of_ble_eq_true rfl) ⟨?_, ?_, ?_, ?_, trivial⟩ ?_
  · exact fun a wx hT hF K hK => rely_wp rfl (opr_ldDue (hT.row R0.out) rfl hF.1 (hK _ _ (NewT.refl _) rfl))
  · exact fun a wx hT hF K hK => rely_wp rfl (opr_load_hash rfl hF.1 (hT.row R1.out) (hK _ _ (NewT.refl _) rfl))
  · exact fun a wx hT hF K hK => rely_wp rfl (opr_cv (Equal_cv (d) (e) wx) rfl Tryd.func50 (by kernel_rfl) (by kernel_rfl) (evs2 hF.1 hF.2.1) hK)
  · exact fun a wx hT hF K hK => rely_wp rfl (opr_move (.inr rfl) (hK _ _ (NewT.refl _) hF.1))
  · intro wx hT
    iterate 4 (intro u h; obtain rfl := Eq.symm (h (by simp)); clear h)
    refine relyEnd_nil rfl ?_
    refine wpList_end rfl ?_
    simp only [Act.put, List.setIfInBounds_toArray, List.set_cons_zero, List.set_cons_succ]
    go_simp
    go_wp2
    go_ret
    exact ⟨_, rfl, NewT.trans _ _ _ HN.out hT, rfl⟩
set_option maxHeartbeats 2000000 in
theorem Receipt_cv {kf : Hs → List Int → Hs} {tg : Hs → Hs → Hs} {pf : Int → Hs → Hs} (hX : KeyH kf tg pf) (v u : Value) (ps ws : List Hs) (need : Int) (x : Rc) (w : World) (hT : Tables w) (hk : KeysV w v ps ws need) (hx : RecV w u x) : Cv 16 #[v, u] w (.eq (.agg (rowA 32 (bF (recpH kf ps ws need x))))) := by
  unfold Cv
  obtain ⟨pv, wv, rfl, hpv, hwv⟩ := hk
  obtain ⟨sv, dv, rfl, hs, hd⟩ := hx
  have HT := Lib.hid hT
  clear hT
  go_enter Tryd.func16, Tryd.ntmps16
  go_upto_region 1 with fail
  have rk := ((rowIs_box w 24 3 (keyF pv wv need)).alloc (.cells (rowA 109 (recF x sv dv)) 30)).alloc (.cells (rowA 32 (bF fun _ => 0)) 26)
  have r1 := (rowIs_box (w.alloc (.cells (rowA 3 (keyF pv wv need)) 24)) 30 109 (recF x sv dv)).alloc (.cells (rowA 32 (bF fun _ => 0)) 26)
  have r0 := rowIs_box ((w.alloc (.cells (rowA 3 (keyF pv wv need)) 24)).alloc (.cells (rowA 109 (recF x sv dv)) 30)) 26 32 (bF fun _ => 0)
  have hN : NewT w (((w.alloc (.cells (rowA 3 (keyF pv wv need)) 24)).alloc (.cells (rowA 109 (recF x sv dv)) 30)).alloc (.cells (rowA 32 (bF fun _ => 0)) 26)) := NewT.trans _ _ _ (NewT.alloc _ _) (NewT.trans _ _ _ (NewT.alloc _ _) (NewT.alloc _ _))
  rw [World.size_alloc] at r1
  rw [World.size_alloc, World.size_alloc] at r0
  change Code.wp _ _ _ _ (((w.alloc (.cells (rowA 3 (keyF pv wv need)) 24)).alloc (.cells (rowA 109 (recF x sv dv)) 30)).alloc (.cells (rowA 32 (bF fun _ => 0)) 26))
  generalize ((w.alloc (.cells (rowA 3 (keyF pv wv need)) 24)).alloc (.cells (rowA 109 (recF x sv dv)) 30)).alloc (.cells (rowA 32 (bF fun _ => 0)) 26) = W0 at rk r1 r0 hN ⊢
  have RK := Lib.hid rk
  have R1 := Lib.hid r1
  have R0 := Lib.hid r0
  have HN := Lib.hid hN
  replace HT := Lib.hid (hN.tables HT.out)
  have HK : Hid (KeysV W0 (.agg (rowA 3 (keyF pv wv need))) ps ws need) := Lib.hid (hN.keysV ⟨pv, wv, rfl, hpv, hwv⟩)
  have HP := Lib.hid (hN.hs hpv)
  have HW := Lib.hid (hN.hs hwv)
  have HX : Hid (RecV W0 (.agg (rowA 109 (recF x sv dv))) x) := Lib.hid (hN.recV ⟨sv, dv, rfl, hs, hd⟩)
  have HS := Lib.hid (hN.pairs hs)
  have HD := Lib.hid (hN.rd hd)
  clear rk r0 r1 hpv hwv hN hs hd
  obtain ⟨q1_1, Q1_1⟩ : ∃ bq_, ((x.kind != 3) || (!(hasB ps ws need x.part x.epoch))) = bq_ := ⟨_, rfl⟩
  refine wp_region_steps0 NewT [SV.eq (.pointer (some ⟨w.heap.size + 1, 0, none⟩)), SV.eq (.int .i64 (x.kind)), SV.eq (.bool (x.kind != 3)), SV.eq (.bool (x.kind != 3)), svIf ((!(x.kind != 3))) (SV.eq (.agg (rowA 3 (keyF pv wv need)))), svIf ((!(x.kind != 3))) (SV.eq (.pointer (some ⟨w.heap.size + 1, 8, none⟩))), svIf ((!(x.kind != 3))) (SV.eq (.int .i64 (x.part))), svIf ((!(x.kind != 3))) (SV.eq (.pointer (some ⟨w.heap.size + 1, 9, none⟩))), svIf ((!(x.kind != 3))) (SV.eq (.int .i64 (x.epoch))), svIf ((!(x.kind != 3))) (SV.eq (.bool (hasB ps ws need x.part x.epoch))), svIf ((!(x.kind != 3))) (SV.eq (.bool (!(hasB ps ws need x.part x.epoch)))), SV.eq (.bool (q1_1))] [([(3, none)], none), ([(5, some 0)], none), ([(6, some 1)], none), ([(7, some 2)], none), ([(2, none), (8, some 3)], some (8, false)), ([(3, none), (8, some 3)], some (8, false)), ([(10, some 5), (8, some 3)], some (8, false)), ([(3, none), (8, some 3)], some (8, false)), ([(12, some 7), (8, some 3)], some (8, false)), ([(9, some 4), (11, some 6), (13, some 8), (8, some 3)], some (8, false)), ([(14, some 9), (8, some 3)], some (8, false)), ([(8, some 3), (15, some 10)], none)] 36 12 rfl rfl (by kernel_rfl) NewT.trans (NewT.refl _) (Nat.le_of_ble_eq_true rfl) ⟨?_, ?_, ?_, ?_, ?_, ?_, ?_, ?_, ?_, ?_, ?_, ?_, trivial⟩ ?_
  · exact fun a wx hT hF K hK => rely_wp rfl (opr_fldR (by decide) rfl hF.1 (hK _ _ (NewT.refl _) rfl))
  · exact fun a wx hT hF K hK => rely_wp rfl (opr_ldI (hT.row R1.out) (by decide) rfl rfl hF.1 (hK _ _ (NewT.refl _) rfl))
  · exact fun a wx hT hF K hK => rely_wp rfl (opr_cmp (b := x.kind != 3) (.inr (.inl ⟨rfl, rfl⟩)) Tryd.underlying3 rfl hF.1 rfl (hK _ _ (NewT.refl _) rfl))
  · exact fun a wx hT hF K hK => rely_wp rfl (opr_move (.inl rfl) (hK _ _ (NewT.refl _) hF.1))
  · exact fun a wx hT hF K hK => rely_if (rely_gf hF.2.1) (NewT.refl _) hK fun hE hK => opr_ldY (hT.row RK.out) rfl hF.1 (hK _ _ (NewT.refl _) rfl)
  · exact fun a wx hT hF K hK => rely_if (rely_gf hF.2.1) (NewT.refl _) hK fun hE hK => opr_fldR (by decide) rfl hF.1 (hK _ _ (NewT.refl _) rfl)
  · exact fun a wx hT hF K hK => rely_if (rely_gf hF.2.1) (NewT.refl _) hK fun hE hK => opr_ldI (hT.row R1.out) (by decide) rfl rfl (hF.1 hE) (hK _ _ (NewT.refl _) rfl)
  · exact fun a wx hT hF K hK => rely_if (rely_gf hF.2.1) (NewT.refl _) hK fun hE hK => opr_fldR (by decide) rfl hF.1 (hK _ _ (NewT.refl _) rfl)
  · exact fun a wx hT hF K hK => rely_if (rely_gf hF.2.1) (NewT.refl _) hK fun hE hK => opr_ldI (hT.row R1.out) (by decide) rfl rfl (hF.1 hE) (hK _ _ (NewT.refl _) rfl)
  · exact fun a wx hT hF K hK => rely_if (rely_gf hF.2.2.2.1) (NewT.refl _) hK fun hE hK => opr_cv (hasKey_cv _ ps ws need x.part x.epoch wx (hT.keysV HK.out)) rfl Tryd.func27 (by kernel_rfl) (by kernel_rfl) (evs3 (hF.1 hE) (hF.2.1 hE) (hF.2.2.1 hE)) hK
  · exact fun a wx hT hF K hK => rely_if (rely_gf hF.2.1) (NewT.refl _) hK fun hE hK => opr_not rfl (hF.1 hE) (hK _ _ (NewT.refl _) rfl)
  · exact fun a wx hT hF K hK => rely_wp rfl (opr_pick_b rfl hF.1 (fun hb => hK _ _ (NewT.refl _) (pn_or1 Q1_1 hb)) (fun hb => hK _ _ (NewT.refl _) (pn_or0 Q1_1 (hF.2.1 (bnot hb)) hb)))
  · intro w1 k1
    iterate 4 (intro u h; obtain rfl := Eq.symm (h (by simp)); clear h)
    iterate 7 (intro _ _)
    intro u h; obtain rfl := Eq.symm (h (by simp)); clear h
    subst Q1_1
    refine relyEnd_nil rfl ?_
    refine wpList_end rfl ?_
    simp only [Act.put, List.setIfInBounds_toArray, List.set_cons_zero, List.set_cons_succ]
    go_simp
    replace RK := Lib.hid (k1.row RK.out)
    replace R1 := Lib.hid (k1.row R1.out)
    replace R0 := Lib.hid (k1.row R0.out)
    replace HK := Lib.hid (k1.keysV HK.out)
    replace HP := Lib.hid (k1.hs HP.out)
    replace HW := Lib.hid (k1.hs HW.out)
    replace HX := Lib.hid (k1.recV HX.out)
    replace HS := Lib.hid (k1.pairs HS.out)
    replace HD := Lib.hid (k1.rd HD.out)
    replace HT := Lib.hid (k1.tables HT.out)
    replace HN := Lib.hid (NewT.trans _ _ _ HN.out k1)
    clear k1
    cases hb : ((x.kind != 3) || !hasB ps ws need x.part x.epoch)
    · have HE : Hid (recpH kf ps ws need x = kf (partH kf ps ws need x.part x.epoch) [2, x.saga, x.step, bI x.back, bI x.good]) := Lib.hid (by unfold recpH; rw [or_not hb]; rfl)
      clear hb
      go_upto_region 3 with fail
      refine wp_region_rely (NewT) [SV.eq (.agg (rowA 3 (keyF pv wv need))), SV.eq (.pointer (some ⟨w.heap.size + 1, 8, none⟩)), SV.eq (.int .i64 (x.part)), SV.eq (.pointer (some ⟨w.heap.size + 1, 9, none⟩)), SV.eq (.int .i64 (x.epoch)), SV.eq (.agg (rowA 32 (bF (partH kf ps ws need x.part x.epoch)))), SV.eq (.pointer (some ⟨w.heap.size + 1, 1, none⟩)), SV.eq (.int .i64 (x.saga)), SV.eq (.pointer (some ⟨w.heap.size + 1, 3, none⟩)), SV.eq (.int .i64 (x.step)), SV.eq (.pointer (some ⟨w.heap.size + 1, 5, none⟩)), SV.eq (.bool (x.back)), SV.eq (.int .i64 (bI x.back)), SV.eq (.pointer (some ⟨w.heap.size + 1, 6, none⟩)), SV.eq (.bool (x.good)), SV.eq (.int .i64 (bI x.good)), svInts [2, x.saga, x.step, bI x.back, bI x.good], SV.eq (.agg (rowA 32 (bF (kf (partH kf ps ws need x.part x.epoch) [2, x.saga, x.step, bI x.back, bI x.good]))))] [([(2, none)], none), ([(3, none)], none), ([(19, some 1)], none), ([(3, none)], none), ([(21, some 3)], none), ([(18, some 0), (20, some 2), (22, some 4)], none), ([(3, none)], none), ([(24, some 6)], none), ([(3, none)], none), ([(26, some 8)], none), ([(3, none)], none), ([(28, some 10)], none), ([(29, some 11)], none), ([(3, none)], none), ([(31, some 13)], none), ([(32, some 14)], none), ([(25, some 7), (27, some 9), (30, some 12), (33, some 15)], none), ([(23, some 5), (34, some 16)], none)] 36 rfl (by kernel_rfl) rfl (by kernel_rfl) (by kernel_rfl) rfl NewT.trans (NewT.drew _) (Nat.le_of_ble_eq_true rfl) ⟨?_, ?_, ?_, ?_, ?_, ?_, ?_, ?_, ?_, ?_, ?_, ?_, ?_, ?_, ?_, ?_, ?_, ?_, trivial⟩ ?_
      · exact fun a wx hT hF K hK => rely_wp rfl (opr_ldY (hT.row RK.out) rfl hF.1 (hK _ _ (NewT.refl _) rfl))
      · exact fun a wx hT hF K hK => rely_wp rfl (opr_fldR (by decide) rfl hF.1 (hK _ _ (NewT.refl _) rfl))
      · exact fun a wx hT hF K hK => rely_wp rfl (opr_ldI (hT.row R1.out) (by decide) rfl rfl hF.1 (hK _ _ (NewT.refl _) rfl))
      · exact fun a wx hT hF K hK => rely_wp rfl (opr_fldR (by decide) rfl hF.1 (hK _ _ (NewT.refl _) rfl))
      · exact fun a wx hT hF K hK => rely_wp rfl (opr_ldI (hT.row R1.out) (by decide) rfl rfl hF.1 (hK _ _ (NewT.refl _) rfl))
      · exact fun a wx hT hF K hK => rely_wp rfl (opr_cv (Part_cv hX _ ps ws need x.part x.epoch wx (hT.tables HT.out) (hT.keysV HK.out)) rfl Tryd.func14 (by kernel_rfl) (by kernel_rfl) (evs3 hF.1 hF.2.1 hF.2.2.1) hK)
      · exact fun a wx hT hF K hK => rely_wp rfl (opr_fldR (by decide) rfl hF.1 (hK _ _ (NewT.refl _) rfl))
      · exact fun a wx hT hF K hK => rely_wp rfl (opr_ldI (hT.row R1.out) (by decide) rfl rfl hF.1 (hK _ _ (NewT.refl _) rfl))
      · exact fun a wx hT hF K hK => rely_wp rfl (opr_fldR (by decide) rfl hF.1 (hK _ _ (NewT.refl _) rfl))
      · exact fun a wx hT hF K hK => rely_wp rfl (opr_ldI (hT.row R1.out) (by decide) rfl rfl hF.1 (hK _ _ (NewT.refl _) rfl))
      · exact fun a wx hT hF K hK => rely_wp rfl (opr_fldR (by decide) rfl hF.1 (hK _ _ (NewT.refl _) rfl))
      · exact fun a wx hT hF K hK => rely_wp rfl (opr_ldQ (hT.row R1.out) (by decide) rfl rfl hF.1 (hK _ _ (NewT.refl _) rfl))
      · exact fun a wx hT hF K hK => rely_wp rfl (opr_cv (kBit_cv x.back wx) rfl Tryd.func31 (by kernel_rfl) (by kernel_rfl) (evs1 hF.1) hK)
      · exact fun a wx hT hF K hK => rely_wp rfl (opr_fldR (by decide) rfl hF.1 (hK _ _ (NewT.refl _) rfl))
      · exact fun a wx hT hF K hK => rely_wp rfl (opr_ldQ (hT.row R1.out) (by decide) rfl rfl hF.1 (hK _ _ (NewT.refl _) rfl))
      · exact fun a wx hT hF K hK => rely_wp rfl (opr_cv (kBit_cv x.good wx) rfl Tryd.func31 (by kernel_rfl) (by kernel_rfl) (evs1 hF.1) hK)
      · exact fun a wx hT hF K hK => rely_wp rfl (opr_bsI5 rfl rfl hF.1 hF.2.1 hF.2.2.1 hF.2.2.2.1 hK)
      · exact fun a wx hT hF K hK => rely_wp rfl (opr_cv (Key_cv (partH kf ps ws need x.part x.epoch) _ [2, x.saga, x.step, bI x.back, bI x.good] _ wx (hT.tables HT.out) hF.2.1 (by simp) (hX.key _ _)) rfl Tryd.func28 (by kernel_rfl) (by kernel_rfl) (evs2 hF.1 rfl) hK)
      · intro wx hT
        iterate 16 (intro u h; obtain rfl := Eq.symm (h (by simp)); clear h)
        intro _ _
        intro u h; obtain rfl := Eq.symm (h (by simp)); clear h
        refine relyEnd_nil rfl ?_
        simp only [Act.put, List.setIfInBounds_toArray, List.set_cons_zero, List.set_cons_succ]
        refine opr_store_new (B := w.heap.size) (W := w) info31 rfl rfl rfl (hT.row R0.out) (NewT.trans _ _ _ HN.out hT) (by omega) ?_
        intro w9 hB9 r9
        go_simp
        go_wp2
        exact bodyPost_ret (results_row rfl _ rfl r9 Tryd.underlying26 info31) rfl ⟨_, rfl, hB9, by rw [HE.out]; rfl⟩
    · have HE : Hid (recpH kf ps ws need x = z32) := Lib.hid (by unfold recpH; rw [or_not hb]; rfl)
      clear hb
      go_upto_region 2 with fail
      refine wp_region_steps0 NewT [SV.eq (.agg (rowA 32 (bF (z32))))] [([], none)] 36 1 rfl rfl (by kernel_rfl) NewT.trans (NewT.refl _) (Nat.le_of_ble_eq_true rfl) ⟨?_, trivial⟩ ?_
      · exact fun a wx hT hF K hK => rely_wp rfl (opr_build (pv := #[]) rfl (by simp) (build_z32 wx) (hK _ _ (NewT.refl _) rfl))
      · intro wx hT
        intro u h; obtain rfl := Eq.symm (h (by simp)); clear h
        refine relyEnd_nil rfl ?_
        simp only [Act.put, List.setIfInBounds_toArray, List.set_cons_zero, List.set_cons_succ]
        refine wpList_plain rfl (fun K hK => ?_)
        refine opr_store_new (B := w.heap.size) (W := w) info31 rfl rfl rfl (hT.row R0.out) (NewT.trans _ _ _ HN.out hT) (by omega) ?_
        intro w9 hB9 r9
        refine hK _ _ ?_
        refine wpList_end rfl ?_
        simp only [Act.put, List.setIfInBounds_toArray, List.set_cons_zero, List.set_cons_succ]
        go_simp
        go_wp2
        exact bodyPost_ret (results_row rfl _ rfl r9 Tryd.underlying26 info31) rfl ⟨_, rfl, hB9, by rw [HE.out]; rfl⟩
set_option maxHeartbeats 2000000 in
theorem Holds_cv {kf : Hs → List Int → Hs} {tg : Hs → Hs → Hs} {pf : Int → Hs → Hs} (hX : KeyH kf tg pf) (v u : Value) (ps ws : List Hs) (need : Int) (x : Rc) (w : World) (hT : Tables w) (hk : KeysV w v ps ws need) (hx : RecV w u x) : Cv 18 #[v, u] w (.eq (.bool (holdsB kf ps ws need x))) := by
  unfold Cv
  obtain ⟨pv, wv, rfl, hpv, hwv⟩ := hk
  obtain ⟨sv, dv, rfl, hs, hd⟩ := hx
  have HT := Lib.hid hT
  clear hT
  go_enter Tryd.func18, Tryd.ntmps18
  go_upto_region 1 with fail
  have rk := (rowIs_box w 24 3 (keyF pv wv need)).alloc (.cells (rowA 109 (recF x sv dv)) 30)
  have r1 := rowIs_box (w.alloc (.cells (rowA 3 (keyF pv wv need)) 24)) 30 109 (recF x sv dv)
  have hN : NewT w ((w.alloc (.cells (rowA 3 (keyF pv wv need)) 24)).alloc (.cells (rowA 109 (recF x sv dv)) 30)) := NewT.trans _ _ _ (NewT.alloc _ _) (NewT.alloc _ _)
  rw [World.size_alloc] at r1
  change Code.wp _ _ _ _ ((w.alloc (.cells (rowA 3 (keyF pv wv need)) 24)).alloc (.cells (rowA 109 (recF x sv dv)) 30))
  generalize (w.alloc (.cells (rowA 3 (keyF pv wv need)) 24)).alloc (.cells (rowA 109 (recF x sv dv)) 30) = W0 at rk r1 hN ⊢
  have RK := Lib.hid rk
  have R1 := Lib.hid r1
  have HN := Lib.hid hN
  replace HT := Lib.hid (hN.tables HT.out)
  have HK : Hid (KeysV W0 (.agg (rowA 3 (keyF pv wv need))) ps ws need) := Lib.hid (hN.keysV ⟨pv, wv, rfl, hpv, hwv⟩)
  have HP := Lib.hid (hN.hs hpv)
  have HW := Lib.hid (hN.hs hwv)
  have HX : Hid (RecV W0 (.agg (rowA 109 (recF x sv dv))) x) := Lib.hid (hN.recV ⟨sv, dv, rfl, hs, hd⟩)
  have HS := Lib.hid (hN.pairs hs)
  have HD := Lib.hid (hN.rd hd)
  clear rk r1 hpv hwv hN hs hd
  obtain ⟨q1_1, Q1_1⟩ : ∃ bq_, (((x.kind != 3) || (!(rightB x))) || (!(hasB ps ws need x.part x.epoch))) = bq_ := ⟨_, rfl⟩
  refine wp_region_steps0 NewT [SV.eq (.pointer (some ⟨w.heap.size + 1, 0, none⟩)), SV.eq (.int .i64 (x.kind)), SV.eq (.bool (x.kind != 3)), SV.eq (.bool (x.kind != 3)), svIf ((!(x.kind != 3))) (SV.eq (.agg (rowA 109 (recF x sv dv)))), svIf ((!(x.kind != 3))) (SV.eq (.bool (rightB x))), svIf ((!(x.kind != 3))) (SV.eq (.bool (!(rightB x)))), SV.eq (.bool ((x.kind != 3) || (!(rightB x)))), SV.eq (.bool ((x.kind != 3) || (!(rightB x)))), svIf ((!((x.kind != 3) || (!(rightB x))))) (SV.eq (.agg (rowA 3 (keyF pv wv need)))), svIf ((!((x.kind != 3) || (!(rightB x))))) (SV.eq (.pointer (some ⟨w.heap.size + 1, 8, none⟩))), svIf ((!((x.kind != 3) || (!(rightB x))))) (SV.eq (.int .i64 (x.part))), svIf ((!((x.kind != 3) || (!(rightB x))))) (SV.eq (.pointer (some ⟨w.heap.size + 1, 9, none⟩))), svIf ((!((x.kind != 3) || (!(rightB x))))) (SV.eq (.int .i64 (x.epoch))), svIf ((!((x.kind != 3) || (!(rightB x))))) (SV.eq (.bool (hasB ps ws need x.part x.epoch))), svIf ((!((x.kind != 3) || (!(rightB x))))) (SV.eq (.bool (!(hasB ps ws need x.part x.epoch)))), SV.eq (.bool (q1_1))] [([(3, none)], none), ([(6, some 0)], none), ([(7, some 1)], none), ([(8, some 2)], none), ([(3, none), (9, some 3)], some (9, false)), ([(10, some 4), (9, some 3)], some (9, false)), ([(11, some 5), (9, some 3)], some (9, false)), ([(9, some 3), (12, some 6)], none), ([(13, some 7)], none), ([(2, none), (14, some 8)], some (14, false)), ([(3, none), (14, some 8)], some (14, false)), ([(16, some 10), (14, some 8)], some (14, false)), ([(3, none), (14, some 8)], some (14, false)), ([(18, some 12), (14, some 8)], some (14, false)), ([(15, some 9), (17, some 11), (19, some 13), (14, some 8)], some (14, false)), ([(20, some 14), (14, some 8)], some (14, false)), ([(14, some 8), (21, some 15)], none)] 31 17 rfl rfl (by kernel_rfl) NewT.trans (NewT.refl _) (Nat.le_of_ble_eq_true rfl) ⟨?_, ?_, ?_, ?_, ?_, ?_, ?_, ?_, ?_, ?_, ?_, ?_, ?_, ?_, ?_, ?_, ?_, trivial⟩ ?_
  · exact fun a wx hT hF K hK => rely_wp rfl (opr_fldR (by decide) rfl hF.1 (hK _ _ (NewT.refl _) rfl))
  · exact fun a wx hT hF K hK => rely_wp rfl (opr_ldI (hT.row R1.out) (by decide) rfl rfl hF.1 (hK _ _ (NewT.refl _) rfl))
  · exact fun a wx hT hF K hK => rely_wp rfl (opr_cmp (b := x.kind != 3) (.inr (.inl ⟨rfl, rfl⟩)) Tryd.underlying3 rfl hF.1 rfl (hK _ _ (NewT.refl _) rfl))
  · exact fun a wx hT hF K hK => rely_wp rfl (opr_move (.inl rfl) (hK _ _ (NewT.refl _) hF.1))
  · exact fun a wx hT hF K hK => rely_if (rely_gf hF.2.1) (NewT.refl _) hK fun hE hK => opr_ldR (hT.row R1.out) rfl hF.1 (hK _ _ (NewT.refl _) rfl)
  · exact fun a wx hT hF K hK => rely_if (rely_gf hF.2.1) (NewT.refl _) hK fun hE hK => opr_cv (Right_cv _ x wx (hT.recV HX.out)) rfl Tryd.func32 (by kernel_rfl) (by kernel_rfl) (evs1 (hF.1 hE)) hK
  · exact fun a wx hT hF K hK => rely_if (rely_gf hF.2.1) (NewT.refl _) hK fun hE hK => opr_not rfl (hF.1 hE) (hK _ _ (NewT.refl _) rfl)
  · exact fun a wx hT hF K hK => rely_wp rfl (opr_pick_b rfl hF.1 (fun hb => hK _ _ (NewT.refl _) (pk_or1 hb)) (fun hb => hK _ _ (NewT.refl _) (pk_or0 (hF.2.1 (bnot hb)) hb)))
  · exact fun a wx hT hF K hK => rely_wp rfl (opr_move (.inl rfl) (hK _ _ (NewT.refl _) hF.1))
  · exact fun a wx hT hF K hK => rely_if (rely_gf hF.2.1) (NewT.refl _) hK fun hE hK => opr_ldY (hT.row RK.out) rfl hF.1 (hK _ _ (NewT.refl _) rfl)
  · exact fun a wx hT hF K hK => rely_if (rely_gf hF.2.1) (NewT.refl _) hK fun hE hK => opr_fldR (by decide) rfl hF.1 (hK _ _ (NewT.refl _) rfl)
  · exact fun a wx hT hF K hK => rely_if (rely_gf hF.2.1) (NewT.refl _) hK fun hE hK => opr_ldI (hT.row R1.out) (by decide) rfl rfl (hF.1 hE) (hK _ _ (NewT.refl _) rfl)
  · exact fun a wx hT hF K hK => rely_if (rely_gf hF.2.1) (NewT.refl _) hK fun hE hK => opr_fldR (by decide) rfl hF.1 (hK _ _ (NewT.refl _) rfl)
  · exact fun a wx hT hF K hK => rely_if (rely_gf hF.2.1) (NewT.refl _) hK fun hE hK => opr_ldI (hT.row R1.out) (by decide) rfl rfl (hF.1 hE) (hK _ _ (NewT.refl _) rfl)
  · exact fun a wx hT hF K hK => rely_if (rely_gf hF.2.2.2.1) (NewT.refl _) hK fun hE hK => opr_cv (hasKey_cv _ ps ws need x.part x.epoch wx (hT.keysV HK.out)) rfl Tryd.func27 (by kernel_rfl) (by kernel_rfl) (evs3 (hF.1 hE) (hF.2.1 hE) (hF.2.2.1 hE)) hK
  · exact fun a wx hT hF K hK => rely_if (rely_gf hF.2.1) (NewT.refl _) hK fun hE hK => opr_not rfl (hF.1 hE) (hK _ _ (NewT.refl _) rfl)
  · exact fun a wx hT hF K hK => rely_wp rfl (opr_pick_b rfl hF.1 (fun hb => hK _ _ (NewT.refl _) (pn_or1 Q1_1 hb)) (fun hb => hK _ _ (NewT.refl _) (pn_or0 Q1_1 (hF.2.1 (bnot hb)) hb)))
  · intro w1 k1
    iterate 4 (intro u h; obtain rfl := Eq.symm (h (by simp)); clear h)
    iterate 3 (intro _ _)
    iterate 2 (intro u h; obtain rfl := Eq.symm (h (by simp)); clear h)
    iterate 7 (intro _ _)
    intro u h; obtain rfl := Eq.symm (h (by simp)); clear h
    subst Q1_1
    refine relyEnd_nil rfl ?_
    refine wpList_end rfl ?_
    simp only [Act.put, List.setIfInBounds_toArray, List.set_cons_zero, List.set_cons_succ]
    go_simp
    replace RK := Lib.hid (k1.row RK.out)
    replace R1 := Lib.hid (k1.row R1.out)
    replace HK := Lib.hid (k1.keysV HK.out)
    replace HP := Lib.hid (k1.hs HP.out)
    replace HW := Lib.hid (k1.hs HW.out)
    replace HX := Lib.hid (k1.recV HX.out)
    replace HS := Lib.hid (k1.pairs HS.out)
    replace HD := Lib.hid (k1.rd HD.out)
    replace HT := Lib.hid (k1.tables HT.out)
    replace HN := Lib.hid (NewT.trans _ _ _ HN.out k1)
    clear k1
    cases hb : (((x.kind != 3) || !rightB x) || !hasB ps ws need x.part x.epoch)
    · have HE : Hid (holdsB kf ps ws need x = eqH (recpH kf ps ws need x) x.tag) := Lib.hid (by unfold holdsB; rw [or_not3 hb]; rfl)
      clear hb
      go_upto_region 3 with fail
      refine wp_region_steps0 NewT [SV.eq (.agg (rowA 3 (keyF pv wv need))), SV.eq (.agg (rowA 109 (recF x sv dv))), SV.eq (.agg (rowA 32 (bF (recpH kf ps ws need x)))), SV.eq ((.func (.func 33) #[.agg (rowA 32 (bF (recpH kf ps ws need x)))] #[])), SV.eq ((.func (.func 33) #[.agg (rowA 32 (bF (recpH kf ps ws need x)))] #[]))] [([(2, none)], none), ([(3, none)], none), ([(23, some 0), (24, some 1)], none), ([(25, some 2)], none), ([(26, some 3)], none)] 31 5 rfl rfl (by kernel_rfl) NewT.trans (NewT.refl _) (Nat.le_of_ble_eq_true rfl) ⟨?_, ?_, ?_, ?_, ?_, trivial⟩ ?_
      · exact fun a wx hT hF K hK => rely_wp rfl (opr_ldY (hT.row RK.out) rfl hF.1 (hK _ _ (NewT.refl _) rfl))
      · exact fun a wx hT hF K hK => rely_wp rfl (opr_ldR (hT.row R1.out) rfl hF.1 (hK _ _ (NewT.refl _) rfl))
      · exact fun a wx hT hF K hK => rely_wp rfl (opr_cv (Receipt_cv hX _ _ ps ws need x wx (hT.tables HT.out) (hT.keysV HK.out) (hT.recV HX.out)) rfl Tryd.func16 (by kernel_rfl) (by kernel_rfl) (evs2 hF.1 hF.2.1) hK)
      · exact fun a wx hT hF K hK => rely_wp rfl (opr_mkm rfl hF.1 (hK _ _ (NewT.refl _) rfl))
      · exact fun a wx hT hF K hK => rely_wp rfl (opr_move (.inr rfl) (hK _ _ (NewT.refl _) hF.1))
      · intro w3 k3
        iterate 5 (intro u h; obtain rfl := Eq.symm (h (by simp)); clear h)
        refine relyEnd_nil rfl ?_
        refine wpList_end rfl ?_
        simp only [Act.put, List.setIfInBounds_toArray, List.set_cons_zero, List.set_cons_succ]
        go_simp
        replace RK := Lib.hid (k3.row RK.out)
        replace R1 := Lib.hid (k3.row R1.out)
        replace HK := Lib.hid (k3.keysV HK.out)
        replace HP := Lib.hid (k3.hs HP.out)
        replace HW := Lib.hid (k3.hs HW.out)
        replace HX := Lib.hid (k3.recV HX.out)
        replace HS := Lib.hid (k3.pairs HS.out)
        replace HD := Lib.hid (k3.rd HD.out)
        replace HT := Lib.hid (k3.tables HT.out)
        replace HN := Lib.hid (NewT.trans _ _ _ HN.out k3)
        clear k3
        go_upto_region 4 with fail
        refine wp_region_steps0 NewT [SV.eq ((.func (.func 33) #[.agg (rowA 32 (bF (recpH kf ps ws need x)))] #[])), SV.eq (.pointer (some ⟨w.heap.size + 1, 10, none⟩)), SV.eq (.agg (rowA 32 (bF (x.tag)))), SV.eq (.bool (eqH (recpH kf ps ws need x) (x.tag))), SV.eq (.bool (eqH (recpH kf ps ws need x) (x.tag)))] [([(5, none)], none), ([(3, none)], none), ([(28, some 1)], none), ([(27, some 0), (29, some 2)], none), ([(30, some 3)], none)] 31 5 rfl rfl (by kernel_rfl) NewT.trans (NewT.refl _) (Nat.le_of_ble_eq_true rfl) ⟨?_, ?_, ?_, ?_, ?_, trivial⟩ ?_
        · exact fun a wx hT hF K hK => rely_wp rfl (opr_move (.inl rfl) (hK _ _ (NewT.refl _) hF.1))
        · exact fun a wx hT hF K hK => rely_wp rfl (opr_fldR (by decide) rfl hF.1 (hK _ _ (NewT.refl _) rfl))
        · exact fun a wx hT hF K hK => rely_wp rfl (opr_ldH (hT.row R1.out) (by decide) (recF_tag x _ _) rfl hF.1 (hK _ _ (NewT.refl _) rfl))
        · intro a wx hT hF K hK
          obtain ⟨f27, f29, _⟩ := hF
          have f27 : a.tmps.getD 27 undef = (.func (.func 33) #[.agg (rowA 32 (bF (recpH kf ps ws need x)))] #[]) := f27
          have f29 : a.tmps.getD 29 undef = .agg (rowA 32 (bF (x.tag))) := f29
          refine rely_wp rfl ?_
          exact opr_cvm (Is_cv (recpH kf ps ws need x) (x.tag) wx) rfl f27 Tryd.func33 (by kernel_rfl) (by kernel_rfl) (by simp only [List.map_toArray, List.map_cons, List.map_nil, List.append_toArray, List.cons_append, List.nil_append, eval_tmp, f29]) hK
        · exact fun a wx hT hF K hK => rely_wp rfl (opr_move (.inr rfl) (hK _ _ (NewT.refl _) hF.1))
        · intro wx hT
          iterate 5 (intro u h; obtain rfl := Eq.symm (h (by simp)); clear h)
          refine relyEnd_nil rfl ?_
          refine wpList_end rfl ?_
          simp only [Act.put, List.setIfInBounds_toArray, List.set_cons_zero, List.set_cons_succ]
          go_simp
          go_wp2
          go_ret
          exact ⟨_, rfl, NewT.trans _ _ _ HN.out hT, by rw [HE.out]; rfl⟩
    · have HE : Hid (holdsB kf ps ws need x = false) := Lib.hid (by unfold holdsB; rw [or_not3 hb]; rfl)
      clear hb
      go_wp2
      go_ret
      exact ⟨_, rfl, HN.out, by rw [HE.out]; rfl⟩
end Go.Proofs.YtcfogkimjbgjgaaDoor
/- Package keys: witnesses' tags. -/
namespace Go.Proofs.YtcfogkimjbgjgaaDoor
open Go Go.RowKit
set_option maxRecDepth 8000
set_option linter.all false
set_option maxHeartbeats 2000000 in
theorem Sign_cv {kf : Hs → List Int → Hs} {tg : Hs → Hs → Hs} {pf : Int → Hs → Hs} (hX : KeyH kf tg pf) (v u : Value) (ps ws : List Hs) (need wit size : Int) (root : Hs) (l : List (Int × Hs)) (w : World) (hT : Tables w) (hk : KeysV w v ps ws need) (hp : PointV w u size root l) : Cv 20 #[v, .int .i64 wit, u] w (.eq (.agg (rowA 32 (bF (signH tg pf ps ws need wit size root))))) := by
  unfold Cv
  obtain ⟨pv, wv, rfl, hpv, hwv⟩ := hk
  obtain ⟨sv, rfl, hsv⟩ := hp
  have HT := Lib.hid hT
  clear hT
  go_enter Tryd.func20, Tryd.ntmps20
  go_upto_region 1 with fail
  have rk := ((rowIs_box w 24 3 (keyF pv wv need)).alloc (.cells (rowA 34 (ptF size root sv)) 40)).alloc (.cells (rowA 32 (bF fun _ => 0)) 26)
  have rp := (rowIs_box (w.alloc (.cells (rowA 3 (keyF pv wv need)) 24)) 40 34 (ptF size root sv)).alloc (.cells (rowA 32 (bF fun _ => 0)) 26)
  have r0 := rowIs_box ((w.alloc (.cells (rowA 3 (keyF pv wv need)) 24)).alloc (.cells (rowA 34 (ptF size root sv)) 40)) 26 32 (bF fun _ => 0)
  have hN : NewT w (((w.alloc (.cells (rowA 3 (keyF pv wv need)) 24)).alloc (.cells (rowA 34 (ptF size root sv)) 40)).alloc (.cells (rowA 32 (bF fun _ => 0)) 26)) := NewT.trans _ _ _ (NewT.alloc _ _) (NewT.trans _ _ _ (NewT.alloc _ _) (NewT.alloc _ _))
  rw [World.size_alloc] at rp
  rw [World.size_alloc, World.size_alloc] at r0
  change Code.wp _ _ _ _ (((w.alloc (.cells (rowA 3 (keyF pv wv need)) 24)).alloc (.cells (rowA 34 (ptF size root sv)) 40)).alloc (.cells (rowA 32 (bF fun _ => 0)) 26))
  generalize ((w.alloc (.cells (rowA 3 (keyF pv wv need)) 24)).alloc (.cells (rowA 34 (ptF size root sv)) 40)).alloc (.cells (rowA 32 (bF fun _ => 0)) 26) = W0 at rk rp r0 hN ⊢
  have RK := Lib.hid rk
  have RP := Lib.hid rp
  have R0 := Lib.hid r0
  have HN := Lib.hid hN
  replace HT := Lib.hid (hN.tables HT.out)
  have HK : Hid (KeysV W0 (.agg (rowA 3 (keyF pv wv need))) ps ws need) := Lib.hid (hN.keysV ⟨pv, wv, rfl, hpv, hwv⟩)
  have HP := Lib.hid (hN.hs hpv)
  have HW := Lib.hid (hN.hs hwv)
  have HPT : Hid (PointV W0 (.agg (rowA 34 (ptF size root sv))) size root l) := Lib.hid (hN.pointV ⟨sv, rfl, hsv⟩)
  have HG := Lib.hid (hN.sigs hsv)
  clear rk r0 rp hpv hwv hN hsv
  obtain ⟨q1_1, Q1_1⟩ : ∃ bq_, ((!(mayB ps ws need)) || (!(inR wit 0 ((List.length ws : Int) - 1)))) = bq_ := ⟨_, rfl⟩
  refine wp_region_steps0 NewT [SV.eq (.agg (rowA 3 (keyF pv wv need))), SV.eq (.bool (mayB ps ws need)), SV.eq (.bool (!(mayB ps ws need))), SV.eq (.bool (!(mayB ps ws need))), svIf ((!(!(mayB ps ws need)))) (SV.eq (.int .i64 (wit))), svIf ((!(!(mayB ps ws need)))) (SV.eq (.pointer (some ⟨w.heap.size, 1, none⟩))), svIf ((!(!(mayB ps ws need)))) (SV.eq (wv)), svIf ((!(!(mayB ps ws need)))) (SV.eq (.bool (inR wit 0 ((List.length ws : Int) - 1)))), svIf ((!(!(mayB ps ws need)))) (SV.eq (.bool (!(inR wit 0 ((List.length ws : Int) - 1))))), SV.eq (.bool (q1_1)), SV.eq (.bool (q1_1)), svIf ((!q1_1)) (SV.eq (.pointer (some ⟨w.heap.size + 1, 0, none⟩))), svIf ((!q1_1)) (SV.eq (.int .i64 (size))), svIf ((!q1_1)) (SV.eq (.bool (inR size 0 400))), svIf ((!q1_1)) (SV.eq (.bool (!(inR size 0 400)))), SV.eq (.bool (q1_1 || (!(inR size 0 400))))] [([(3, none)], none), ([(8, some 0)], none), ([(9, some 1)], none), ([(10, some 2)], none), ([(1, none), (11, some 3)], some (11, false)), ([(3, none), (11, some 3)], some (11, false)), ([(13, some 5), (11, some 3)], some (11, false)), ([(12, some 4), (14, some 6), (11, some 3)], some (11, false)), ([(15, some 7), (11, some 3)], some (11, false)), ([(11, some 3), (16, some 8)], none), ([(17, some 9)], none), ([(5, none), (18, some 10)], some (18, false)), ([(19, some 11), (18, some 10)], some (18, false)), ([(20, some 12), (18, some 10)], some (18, false)), ([(21, some 13), (18, some 10)], some (18, false)), ([(18, some 10), (22, some 14)], none)] 41 16 rfl rfl (by kernel_rfl) NewT.trans (NewT.refl _) (Nat.le_of_ble_eq_true rfl) ⟨?_, ?_, ?_, ?_, ?_, ?_, ?_, ?_, ?_, ?_, ?_, ?_, ?_, ?_, ?_, ?_, trivial⟩ ?_
  · exact fun a wx hT hF K hK => rely_wp rfl (opr_ldY (hT.row RK.out) rfl hF.1 (hK _ _ (NewT.refl _) rfl))
  · exact fun a wx hT hF K hK => rely_wp rfl (opr_cv (May_cv _ ps ws need wx (hT.keysV HK.out)) rfl Tryd.func12 (by kernel_rfl) (by kernel_rfl) (evs1 hF.1) hK)
  · exact fun a wx hT hF K hK => rely_wp rfl (opr_not rfl hF.1 (hK _ _ (NewT.refl _) rfl))
  · exact fun a wx hT hF K hK => rely_wp rfl (opr_move (.inl rfl) (hK _ _ (NewT.refl _) hF.1))
  · exact fun a wx hT hF K hK => rely_if (rely_gf hF.2.1) (NewT.refl _) hK fun hE hK => opr_move (.inl rfl) (hK _ _ (NewT.refl _) hF.1)
  · exact fun a wx hT hF K hK => rely_if (rely_gf hF.2.1) (NewT.refl _) hK fun hE hK => opr_fldY1 rfl hF.1 (hK _ _ (NewT.refl _) rfl)
  · exact fun a wx hT hF K hK => rely_if (rely_gf hF.2.1) (NewT.refl _) hK fun hE hK => opr_ldHs (hT.row RK.out) (by decide) rfl rfl (hF.1 hE) (hK _ _ (NewT.refl _) rfl)
  · exact fun a wx hT hF K hK => rely_if (rely_gf hF.2.2.1) (NewT.refl _) hK fun hE hK => opr_cv (kPlace_cv wit _ ws wx (hT.hs HW.out)) rfl Tryd.func34 (by kernel_rfl) (by kernel_rfl) (evs2 (hF.1 hE) (hF.2.1 hE)) hK
  · exact fun a wx hT hF K hK => rely_if (rely_gf hF.2.1) (NewT.refl _) hK fun hE hK => opr_not rfl (hF.1 hE) (hK _ _ (NewT.refl _) rfl)
  · exact fun a wx hT hF K hK => rely_wp rfl (opr_pick_b rfl hF.1 (fun hb => hK _ _ (NewT.refl _) (pn_or1 Q1_1 hb)) (fun hb => hK _ _ (NewT.refl _) (pn_or0 Q1_1 (hF.2.1 (bnot hb)) hb)))
  · exact fun a wx hT hF K hK => rely_wp rfl (opr_move (.inl rfl) (hK _ _ (NewT.refl _) hF.1))
  · exact fun a wx hT hF K hK => rely_if (rely_gf hF.2.1) (NewT.refl _) hK fun hE hK => opr_fldZ0 rfl hF.1 (hK _ _ (NewT.refl _) rfl)
  · exact fun a wx hT hF K hK => rely_if (rely_gf hF.2.1) (NewT.refl _) hK fun hE hK => opr_ldI (hT.row RP.out) (by decide) rfl rfl (hF.1 hE) (hK _ _ (NewT.refl _) rfl)
  · exact fun a wx hT hF K hK => rely_if (rely_gf hF.2.1) (NewT.refl _) hK fun hE hK => opr_cv (kSize_cv size wx) rfl Tryd.func35 (by kernel_rfl) (by kernel_rfl) (evs1 (hF.1 hE)) hK
  · exact fun a wx hT hF K hK => rely_if (rely_gf hF.2.1) (NewT.refl _) hK fun hE hK => opr_not rfl (hF.1 hE) (hK _ _ (NewT.refl _) rfl)
  · exact fun a wx hT hF K hK => rely_wp rfl (opr_pick_b rfl hF.1 (fun hb => hK _ _ (NewT.refl _) (pk_or1 hb)) (fun hb => hK _ _ (NewT.refl _) (pk_or0 (hF.2.1 (bnot hb)) hb)))
  · intro w1 k1
    iterate 4 (intro u h; obtain rfl := Eq.symm (h (by simp)); clear h)
    iterate 5 (intro _ _)
    iterate 2 (intro u h; obtain rfl := Eq.symm (h (by simp)); clear h)
    iterate 4 (intro _ _)
    intro u h; obtain rfl := Eq.symm (h (by simp)); clear h
    subst Q1_1
    refine relyEnd_nil rfl ?_
    refine wpList_end rfl ?_
    simp only [Act.put, List.setIfInBounds_toArray, List.set_cons_zero, List.set_cons_succ]
    go_simp
    replace RK := Lib.hid (k1.row RK.out)
    replace RP := Lib.hid (k1.row RP.out)
    replace R0 := Lib.hid (k1.row R0.out)
    replace HK := Lib.hid (k1.keysV HK.out)
    replace HP := Lib.hid (k1.hs HP.out)
    replace HW := Lib.hid (k1.hs HW.out)
    replace HPT := Lib.hid (k1.pointV HPT.out)
    replace HG := Lib.hid (k1.sigs HG.out)
    replace HT := Lib.hid (k1.tables HT.out)
    replace HN := Lib.hid (NewT.trans _ _ _ HN.out k1)
    clear k1
    cases hb : ((!mayB ps ws need || !inR wit 0 ((List.length ws : Int) - 1)) || !inR size 0 400)
    · have hm : mayS ps ws need wit size = true := or_not3 hb
      obtain ⟨_, ⟨h0, h1⟩, _⟩ := (mayS_iff _ _ _ _ _).1 hm
      obtain ⟨i, rfl⟩ : ∃ i : Nat, wit = (i : Int) := ⟨wit.toNat, by omega⟩
      obtain ⟨d, hdd⟩ := hid_ex (ws.getD i z32)
      have HD : Hid (ws[i]? = some d) := Lib.hid (by rw [← hdd.out, List.getD, List.getElem?_eq_getElem (show i < ws.length by omega)]; rfl)
      have HE : Hid (signH tg pf ps ws need (i : Int) size root = tg d (pf size root)) := Lib.hid (by unfold signH sgH; rw [hm, if_pos rfl, Int.toNat_natCast, hdd.out])
      clear hb hm h0 h1 hdd
      go_upto_region 3 with fail
      refine wp_region_rely (NewT) [SV.eq (.pointer (some ⟨w.heap.size + 1, 0, none⟩)), SV.eq (.int .i64 (size)), svRd (numI size), SV.eq (.pointer (some ⟨w.heap.size + 1, 1, none⟩)), svRd (digL (root)), svParts [numI size, digL (root)], SV.eq (.agg (rowA 32 (bF (pf size root)))), svNew w1 26 32] [([(5, none)], none), ([(25, some 0)], none), ([(26, some 1)], none), ([(5, none)], none), ([(28, some 3)], none), ([(27, some 2), (29, some 4)], none), ([(30, some 5)], none), ([], none)] 41 rfl (by kernel_rfl) rfl (by kernel_rfl) (by kernel_rfl) rfl NewT.trans (NewT.drew _) (Nat.le_of_ble_eq_true rfl) ⟨?_, ?_, ?_, ?_, ?_, ?_, ?_, ?_, trivial⟩ ?_
      · exact fun a wx hT hF K hK => rely_wp rfl (opr_fldZ0 rfl hF.1 (hK _ _ (NewT.refl _) rfl))
      · exact fun a wx hT hF K hK => rely_wp rfl (opr_ldI (hT.row RP.out) (by decide) rfl rfl hF.1 (hK _ _ (NewT.refl _) rfl))
      · exact fun a wx hT hF K hK => rely_wp rfl (opr_cv (Num_rd size _ wx rfl) rfl Tryd.func37 (by kernel_rfl) (by kernel_rfl) (evs1 hF.1) hK)
      · exact fun a wx hT hF K hK => rely_wp rfl (opr_fldZ1 rfl hF.1 (hK _ _ (NewT.refl _) rfl))
      · exact fun a wx hT hF K hK => rely_wp rfl (opr_sliceH rfl hF.1 (hK _ _ (NewT.refl _) (rd_rowH (hT.row RP.out) (by decide) (ptF_h _ _ _))))
      · exact fun a wx hT hF K hK => rely_wp rfl (opr_bs2 rfl hF.1 hF.2.1 hK)
      · exact fun a wx hT hF K hK => rely_wp rfl (opr_cv (Of_cv 6 _ [numI size, digL root] (pf size root) wx (hT.tables HT.out) hF.1 (by simp) (by have := numI_length size; simp [digL_length]; omega) (hX.pt _ _)) rfl Tryd.func36 (by kernel_rfl) (by kernel_rfl) (evs2 rfl rfl) hK)
      · exact fun a wx hT hF K hK => rely_wp rfl (opr_alloc_hash rfl hT hK)
      · intro w2 k2
        iterate 2 (intro u h; obtain rfl := Eq.symm (h (by simp)); clear h)
        intro _ _
        intro u h; obtain rfl := Eq.symm (h (by simp)); clear h
        iterate 2 (intro _ _)
        intro u h; obtain rfl := Eq.symm (h (by simp)); clear h
        intro u7 h; have g7 := h (by simp); clear h; replace g7 := show (svNew w1 26 32).pred u7 w2 from g7
        refine relyEnd_nil rfl ?_
        simp only [Act.put, List.setIfInBounds_toArray, List.set_cons_zero, List.set_cons_succ]
        obtain ⟨p7, hv7, hp7, rr7⟩ := svNew_out g7
        subst hv7
        refine opr_store_new (B := w1.heap.size) (W := w1) (D := pf size root) info31 rfl rfl rfl rr7 k2.out hp7 ?_
        intro w3 hB3 r3
        clear g7 rr7
        go_simp
        have R7 := Lib.hid r3
        have k3 := NewT.of hB3
        replace RK := Lib.hid (k3.row RK.out)
        replace RP := Lib.hid (k3.row RP.out)
        replace R0 := Lib.hid (k3.row R0.out)
        replace HK := Lib.hid (k3.keysV HK.out)
        replace HP := Lib.hid (k3.hs HP.out)
        replace HW := Lib.hid (k3.hs HW.out)
        replace HPT := Lib.hid (k3.pointV HPT.out)
        replace HG := Lib.hid (k3.sigs HG.out)
        replace HT := Lib.hid (k3.tables HT.out)
        replace HN := Lib.hid (NewT.trans _ _ _ HN.out k3)
        clear k2 k3 hB3 r3 hp7
        go_upto_region 4 with fail
        refine wp_region_rely (NewT) [SV.eq (.pointer (some ⟨w.heap.size, 1, none⟩)), SV.eq (wv), SV.eq (.int .i64 ((i : Int))), svP (d), svRd (digL (d)), svRd ([3]), svRd (digL (pf size root)), svParts [[3], digL (pf size root)], SV.eq (.agg (rowA 32 (bF (tg d ((pf size root))))))] [([(3, none)], none), ([(32, some 0)], none), ([(1, none)], none), ([(33, some 1), (34, some 2)], none), ([(35, some 3)], none), ([], none), ([(7, none)], none), ([(37, some 5), (38, some 6)], none), ([(36, some 4), (39, some 7)], none)] 41 rfl (by kernel_rfl) rfl (by kernel_rfl) (by kernel_rfl) rfl NewT.trans (NewT.drew _) (Nat.le_of_ble_eq_true rfl) ⟨?_, ?_, ?_, ?_, ?_, ?_, ?_, ?_, ?_, trivial⟩ ?_
        · exact fun a wx hT hF K hK => rely_wp rfl (opr_fldY1 rfl hF.1 (hK _ _ (NewT.refl _) rfl))
        · exact fun a wx hT hF K hK => rely_wp rfl (opr_ldHs (hT.row RK.out) (by decide) rfl rfl hF.1 (hK _ _ (NewT.refl _) rfl))
        · exact fun a wx hT hF K hK => rely_wp rfl (opr_move (.inl rfl) (hK _ _ (NewT.refl _) hF.1))
        · intro a wx hT hF K hK
          obtain ⟨f33, f34, _⟩ := hF
          have f33 : a.tmps.getD 33 undef = wv := f33
          have f34 : a.tmps.getD 34 undef = .int .i64 ((i : Int)) := f34
          refine rely_wp rfl ?_
          exact opr_idxH (i := i) (d := d) (HD.out) (rfl) rfl (by rw [eval_tmp, f33]; exact (hT.hs HW.out)) f34 (fun v hv => hK v _ (NewT.refl _) hv)
        · exact fun a wx hT hF K hK => rely_wp rfl (opr_slicePd rfl hF.1 (fun u hu => hK u _ (NewT.refl _) hu))
        · exact fun a wx hT hF K hK => rely_wp rfl (opr_bsb1 (b := 3) rfl rfl hK)
        · exact fun a wx hT hF K hK => rely_wp rfl (opr_sliceH rfl hF.1 (hK _ _ (NewT.refl _) (rd_rowH (hT.row R7.out) (by decide) (fun j _ => by rw [Nat.zero_add]))))
        · exact fun a wx hT hF K hK => rely_wp rfl (opr_bs2 rfl hF.1 hF.2.1 hK)
        · exact fun a wx hT hF K hK => rely_wp rfl (opr_cv (Tag_cv _ _ (digL d) [[3], digL ((pf size root))] (tg d ((pf size root))) wx (hT.tables HT.out) hF.1 (by rw [digL_length]; omega) hF.2.1 (by simp) (by simp [digL_length]) (by simpa using hX.tag _ _)) rfl Tryd.func38 (by kernel_rfl) (by kernel_rfl) (evs2 rfl rfl) hK)
        · intro wx hT
          iterate 3 (intro u h; obtain rfl := Eq.symm (h (by simp)); clear h)
          iterate 5 (intro _ _)
          intro u h; obtain rfl := Eq.symm (h (by simp)); clear h
          refine relyEnd_nil rfl ?_
          simp only [Act.put, List.setIfInBounds_toArray, List.set_cons_zero, List.set_cons_succ]
          refine opr_store_new (B := w.heap.size) (W := w) info31 rfl rfl rfl (hT.row R0.out) (NewT.trans _ _ _ HN.out hT) (by omega) ?_
          intro w9 hB9 r9
          go_simp
          go_wp2
          exact bodyPost_ret (results_row rfl _ rfl r9 Tryd.underlying26 info31) rfl ⟨_, rfl, hB9, by rw [HE.out]; rfl⟩
    · have HE : Hid (signH tg pf ps ws need wit size root = z32) := Lib.hid (by unfold signH; rw [show mayS ps ws need wit size = false from or_not3 hb]; rfl)
      clear hb
      go_upto_region 2 with fail
      refine wp_region_steps0 NewT [SV.eq (.agg (rowA 32 (bF (z32))))] [([], none)] 41 1 rfl rfl (by kernel_rfl) NewT.trans (NewT.refl _) (Nat.le_of_ble_eq_true rfl) ⟨?_, trivial⟩ ?_
      · exact fun a wx hT hF K hK => rely_wp rfl (opr_build (pv := #[]) rfl (by simp) (build_z32 wx) (hK _ _ (NewT.refl _) rfl))
      · intro wx hT
        intro u h; obtain rfl := Eq.symm (h (by simp)); clear h
        refine relyEnd_nil rfl ?_
        simp only [Act.put, List.setIfInBounds_toArray, List.set_cons_zero, List.set_cons_succ]
        refine wpList_plain rfl (fun K hK => ?_)
        refine opr_store_new (B := w.heap.size) (W := w) info31 rfl rfl rfl (hT.row R0.out) (NewT.trans _ _ _ HN.out hT) (by omega) ?_
        intro w9 hB9 r9
        refine hK _ _ ?_
        refine wpList_end rfl ?_
        simp only [Act.put, List.setIfInBounds_toArray, List.set_cons_zero, List.set_cons_succ]
        go_simp
        go_wp2
        exact bodyPost_ret (results_row rfl _ rfl r9 Tryd.underlying26 info31) rfl ⟨_, rfl, hB9, by rw [HE.out]; rfl⟩
end Go.Proofs.YtcfogkimjbgjgaaDoor
/- Arrays of method values and of flags in memory: witnesses' tags that are due, witnesses that were. -/
namespace Go.Proofs.YtcfogkimjbgjgaaDoor
open Go Go.RowKit
set_option maxRecDepth 8000
set_option linter.all false
/-- An array of which the first n are what says whether a tag is due. -/
def fnF (n : Nat) (sg : Nat → Hs) (i : Nat) : Value := bif Nat.blt i n then .func (.func 33) #[.agg (rowA 32 (bF (sg i)))] #[] else .nilFunc
theorem fnF_one (n : Nat) (sg : Nat → Hs) (i : Nat) : (fnF n sg i).oneCell' = true := by unfold fnF; cases Nat.blt i n <;> rfl
theorem fnF_at {n i : Nat} (sg : Nat → Hs) (h : i < n) : fnF n sg i = .func (.func 33) #[.agg (rowA 32 (bF (sg i)))] #[] := by
  unfold fnF
  rw [show Nat.blt i n = true from by rw [Nat.blt_eq]; exact h]; rfl
theorem fnF_set (n : Nat) (sg : Nat → Hs) (i : Nat) : fnF (n + 1) sg i = if i = n then .func (.func 33) #[.agg (rowA 32 (bF (sg n)))] #[] else fnF n sg i := by
  by_cases h : i = n
  · subst h; rw [if_pos rfl]; exact fnF_at sg (Nat.lt_succ_self _)
  · rw [if_neg h]
    unfold fnF
    have e : Nat.blt i (n + 1) = Nat.blt i n := by
      rw [Bool.eq_iff_iff, Nat.blt_eq, Nat.blt_eq]; omega
    rw [e]
/-- Which witnesses were. -/
def wrF (l : List (Int × Hs)) (i : Nat) : Value := .bool (l.any fun q => q.1 == (i : Int))
theorem wrF_set (l : List (Int × Hs)) (j : Nat) (d : Hs) (i : Nat) : wrF (l ++ [((j : Int), d)]) i = if i = j then .bool true else wrF l i := by
  unfold wrF
  rw [List.any_append]
  by_cases h : i = j
  · subst h; simp
  · rw [if_neg h]
    have : ((j : Int) == (i : Int)) = false := by rw [beq_eq_false_iff_ne]; omega
    simp [this]
theorem info_fns : (Tryd.prog.info? 70).map (·.size) = some 4 := by kernel_rfl
theorem info_fn1 : (Tryd.prog.info? 60).map (·.size) = some 1 := by kernel_rfl
theorem info_flags : (Tryd.prog.info? 72).map (·.size) = some 4 := by kernel_rfl
theorem info_flag1 : (Tryd.prog.info? 4).map (·.size) = some 1 := by kernel_rfl
theorem run_alloc_fns (w : World) : (Instr.alloc 70 true (.tuple #[])).run Tryd.prog w = .ok (.pointer (some ⟨w.heap.size, 0, none⟩)) (w.alloc (.cells (rowA 4 (fnF 0 fun _ => z32)) 70)) := by kernel_rfl
theorem run_alloc_sig (w : World) : (Instr.alloc 49 true (.tuple #[])).run Tryd.prog w = .ok (.pointer (some ⟨w.heap.size, 0, none⟩)) (w.alloc (.cells (rowA 33 (sigF (0, z32))) 49)) := by kernel_rfl
section
variable {a : Act} {w : World} {o : Oper} {K : Act → World → Prop} {Q : Exit → Act → World → Prop} {x y z : Operand} {g n o0 : Nat} {t' : TypeId} {F : Nat → Value} {v : Value}
theorem run_size_one {t : TypeId} (h : (Tryd.prog.info? t).map (·.size) = some 1) (w : World) : (sizeOf t).run Tryd.prog w = .ok 1 w := by
  cases hq : Tryd.prog.info? t with
  | none => simp [hq] at h
  | some i => simp [hq] at h; simp [sizeOf, typeInfo, hq, h]
theorem opr_idxFn {i : Nat} (hi : i < 4) (ho : o.op = .indexAddr 70 x y) (hx : a.eval x = .pointer (some ⟨g, 0, none⟩)) (hy : a.eval y = .int .i64 (i : Int)) (h : K (a.put o.dst (.pointer (some ⟨g, i, none⟩))) w) : o.wp Tryd.prog a w K Q := by
  obtain ⟨dst, op, type, pos, after, guard⟩ := o
  simp only at ho
  subst ho
  refine opr_val (s := Instr.indexAt 70 (a.eval x) (a.eval y)) rfl ?_ h
  rw [hx, hy]
  simp [Instr.indexAt, Instr.sureAddr, asIntOf, run_underlying Tryd.underlying70, run_size_one info_fn1, hi, Addr.add_mid]
theorem opr_idxQ {i : Nat} (hi : i < 4) (ho : o.op = .indexAddr 72 x y) (hx : a.eval x = .pointer (some ⟨g, 0, none⟩)) (hy : a.eval y = .int .i64 (i : Int)) (h : K (a.put o.dst (.pointer (some ⟨g, i, none⟩))) w) : o.wp Tryd.prog a w K Q := by
  obtain ⟨dst, op, type, pos, after, guard⟩ := o
  simp only at ho
  subst ho
  refine opr_val (s := Instr.indexAt 72 (a.eval x) (a.eval y)) rfl ?_ h
  rw [hx, hy]
  simp [Instr.indexAt, Instr.sureAddr, asIntOf, run_underlying Tryd.underlying72, run_size_one info_flag1, hi, Addr.add_mid]
theorem opr_ldFn (hr : w.rowIs g t' n F) (hn : o0 < n) (hv : F o0 = v) (ho : o.op = .load 60 x) (hx : a.eval x = .pointer (some ⟨g, o0, none⟩)) (h : K (a.put o.dst v) w) : o.wp Tryd.prog a w K Q :=
  opr_ld1 Tryd.underlying60 rfl ho hx (by rw [hr.cell hn, hv]) h
theorem opr_ldFns (hr : w.rowIs g t' 4 F) (ho : o.op = .load 70 x) (hx : a.eval x = .pointer (some ⟨g, 0, none⟩)) (h : K (a.put o.dst (.agg (rowA 4 F))) w) : o.wp Tryd.prog a w K Q := by
  refine opr_ldm Tryd.underlying70 rfl info_fns ho hx hr (by omega) ?_
  simpa using h
end
end Go.Proofs.YtcfogkimjbgjgaaDoor
/- Package keys: the tags that are due. -/
namespace Go.Proofs.YtcfogkimjbgjgaaDoor
open Go Go.RowKit
set_option maxRecDepth 8000
set_option linter.all false
set_option maxHeartbeats 2000000 in
theorem tagsDue_cv {kf : Hs → List Int → Hs} {tg : Hs → Hs → Hs} {pf : Int → Hs → Hs} (hX : KeyH kf tg pf) (v u : Value) (ps ws : List Hs) (need size : Int) (root : Hs) (l : List (Int × Hs)) (sg : Nat → Hs) (w : World) (hT : Tables w) (hk : KeysV w v ps ws need) (hp : PointV w u size root l) (hw4 : ws.length ≤ 4) (hsg : ∀ i : Nat, i < ws.length → signH tg pf ps ws need (i : Int) size root = sg i) : Cv 42 #[v, u] w (.eq (.agg (rowA 4 (fnF ws.length sg)))) := by
  unfold Cv
  obtain ⟨pv, wv, rfl, hpv, hwv⟩ := hk
  obtain ⟨sv, rfl, hsv⟩ := hp
  have HT := Lib.hid hT
  have HSGS := Lib.hid hsg
  have HK : Hid (KeysV w (.agg (rowA 3 (keyF pv wv need))) ps ws need) := Lib.hid ⟨pv, wv, rfl, hpv, hwv⟩
  have HP := Lib.hid hpv
  have HW := Lib.hid hwv
  have HPT : Hid (PointV w (.agg (rowA 34 (ptF size root sv))) size root l) := Lib.hid ⟨sv, rfl, hsv⟩
  have HG := Lib.hid hsv
  clear hT hsg
  go_enter Tryd.func42, Tryd.ntmps42
  go_upto_region 2 with fail
  have rk := (((rowIs_box w 24 3 (keyF pv wv need)).alloc (.cells (rowA 34 (ptF size root sv)) 40)).alloc (.cells (rowA 4 (fnF 0 sg)) 70)).alloc (.cells (rowA 4 (fnF 0 sg)) 70)
  have rp := ((rowIs_box (w.alloc (.cells (rowA 3 (keyF pv wv need)) 24)) 40 34 (ptF size root sv)).alloc (.cells (rowA 4 (fnF 0 sg)) 70)).alloc (.cells (rowA 4 (fnF 0 sg)) 70)
  have r0 := (rowIs_box ((w.alloc (.cells (rowA 3 (keyF pv wv need)) 24)).alloc (.cells (rowA 34 (ptF size root sv)) 40)) 70 4 (fnF 0 sg)).alloc (.cells (rowA 4 (fnF 0 sg)) 70)
  have rf := rowIs_box (((w.alloc (.cells (rowA 3 (keyF pv wv need)) 24)).alloc (.cells (rowA 34 (ptF size root sv)) 40)).alloc (.cells (rowA 4 (fnF 0 sg)) 70)) 70 4 (fnF 0 sg)
  have hN : NewT w ((((w.alloc (.cells (rowA 3 (keyF pv wv need)) 24)).alloc (.cells (rowA 34 (ptF size root sv)) 40)).alloc (.cells (rowA 4 (fnF 0 sg)) 70)).alloc (.cells (rowA 4 (fnF 0 sg)) 70)) := NewT.trans _ _ _ (NewT.alloc _ _) (NewT.trans _ _ _ (NewT.alloc _ _) (NewT.trans _ _ _ (NewT.alloc _ _) (NewT.alloc _ _)))
  rw [World.size_alloc] at rp
  rw [World.size_alloc, World.size_alloc] at r0
  rw [World.size_alloc, World.size_alloc, World.size_alloc] at rf
  change Code.wp _ _ _ _ ((((w.alloc (.cells (rowA 3 (keyF pv wv need)) 24)).alloc (.cells (rowA 34 (ptF size root sv)) 40)).alloc (.cells (rowA 4 (fnF 0 sg)) 70)).alloc (.cells (rowA 4 (fnF 0 sg)) 70))
  generalize (((w.alloc (.cells (rowA 3 (keyF pv wv need)) 24)).alloc (.cells (rowA 34 (ptF size root sv)) 40)).alloc (.cells (rowA 4 (fnF 0 sg)) 70)).alloc (.cells (rowA 4 (fnF 0 sg)) 70) = W0 at rk rp r0 rf hN ⊢
  have RK := Lib.hid rk
  have RP := Lib.hid rp
  have R0 := Lib.hid r0
  have RF := Lib.hid rf
  have HN := Lib.hid hN
  clear rk r0 rp rf hpv hwv hN hsv
  refine wp_region_steps0 NewT [SV.eq (.pointer (some ⟨w.heap.size, 1, none⟩)), SV.eq (wv), SV.eq (.int .i64 ((List.length (ws) : Int))), SV.eq (.int .i64 (0))] [([(2, none)], none), ([(7, some 0)], none), ([(8, some 1)], none), ([], none)] 22 4 rfl rfl (by kernel_rfl) NewT.trans (NewT.refl _) (Nat.le_of_ble_eq_true rfl) ⟨?_, ?_, ?_, ?_, trivial⟩ ?_
  · exact fun a wx hT hF K hK => rely_wp rfl (opr_fldY1 rfl hF.1 (hK _ _ (NewT.refl _) rfl))
  · exact fun a wx hT hF K hK => rely_wp rfl (opr_ldHs (hT.row RK.out) (by decide) rfl rfl hF.1 (hK _ _ (NewT.refl _) rfl))
  · intro a wx hT hF K hK
    obtain ⟨f8, _⟩ := hF
    have f8 : a.tmps.getD 8 undef = wv := f8
    refine rely_wp rfl ?_
    exact opr_len_h rfl (by rw [eval_tmp, f8]; exact ((NewT.trans _ _ _ HN.out hT).hs HW.out)) (hK _ _ (NewT.refl _) rfl)
  · exact fun a wx hT hF K hK => rely_wp rfl (opr_move (.inl rfl) (hK _ _ (NewT.refl _) rfl))
  · intro w2 k2
    iterate 4 (intro u h; obtain rfl := Eq.symm (h (by simp)); clear h)
    refine relyEnd_nil rfl ?_
    refine wpList_end rfl ?_
    simp only [Act.put, List.setIfInBounds_toArray, List.set_cons_zero, List.set_cons_succ]
    go_simp
    replace RK := Lib.hid (k2.row RK.out)
    replace RP := Lib.hid (k2.row RP.out)
    replace R0 := Lib.hid (k2.row R0.out)
    replace RF := Lib.hid (k2.row RF.out)
    replace HN := Lib.hid (NewT.trans _ _ _ HN.out k2)
    have HLT := Lib.hid RF.out.lt
    clear k2
    obtain ⟨m, hm⟩ : ∃ m, ws.length = m := ⟨_, rfl⟩
    rw [hm] at hw4 ⊢
    have HM := Lib.hid hm
    clear hm
    go_wp2
    go_loopw [10] (fun i wr => ∃ k : Nat, k ≤ m ∧ i = .int .i64 k ∧ Hid (wr.rowIs (w.heap.size + 3) 70 4 (fnF k sg)) ∧ Hid (RT (w.heap.size + 3) w2 wr)) (fun i _ => m - (intOf i).toNat)
    case atStart => exact ⟨0, by omega, rfl, RF, Lib.hid (RT.refl _ _)⟩
    case round =>
      clear RF
      obtain ⟨k, hk, rfl, RF, HRT⟩ := hrel
      have rk := HRT.out.row (by omega) RK.out
      have rp := HRT.out.row (by omega) RP.out
      have r0 := HRT.out.row (by omega) R0.out
      have hN := NewT.rt HN.out HRT.out (by omega)
      replace RK := Lib.hid rk
      replace RP := Lib.hid rp
      replace R0 := Lib.hid r0
      replace HN := Lib.hid hN
      clear rk rp r0 hN
      by_cases hlt : k < m
      · have hk4 : k < 4 := by omega
        have it : (k : Int) < (m : Int) := by omega
        have HSG : Hid (signH tg pf ps ws need (k : Int) size root = sg k) := Lib.hid (HSGS.out k (by rw [HM.out]; exact hlt))
        go_upto_region 5 with fail
        refine wp_region_steps0 NewT [SV.eq (.int .i64 ((k : Int))), SV.eq (.agg (rowA 3 (keyF pv wv need))), SV.eq (.int .i64 ((k : Int))), SV.eq (.agg (rowA 34 (ptF size root sv))), SV.eq (.agg (rowA 32 (bF (sg k)))), SV.eq ((.func (.func 33) #[.agg (rowA 32 (bF (sg k)))] #[])), SV.eq (.pointer (some ⟨w.heap.size + 3, k, none⟩))] [([(6, none)], none), ([(2, none)], none), ([(6, none)], none), ([(3, none)], none), ([(14, some 1), (15, some 2), (16, some 3)], none), ([(17, some 4)], none), ([(5, none), (13, some 0)], none)] 22 7 rfl rfl (by kernel_rfl) NewT.trans (NewT.refl _) (Nat.le_of_ble_eq_true rfl) ⟨?_, ?_, ?_, ?_, ?_, ?_, ?_, trivial⟩ ?_
        · exact fun a wx hT hF K hK => rely_wp rfl (opr_move (.inl rfl) (hK _ _ (NewT.refl _) hF.1))
        · exact fun a wx hT hF K hK => rely_wp rfl (opr_ldY (hT.row RK.out) rfl hF.1 (hK _ _ (NewT.refl _) rfl))
        · exact fun a wx hT hF K hK => rely_wp rfl (opr_move (.inl rfl) (hK _ _ (NewT.refl _) hF.1))
        · exact fun a wx hT hF K hK => rely_wp rfl (opr_ldZ (hT.row RP.out) rfl hF.1 (hK _ _ (NewT.refl _) rfl))
        · exact fun a wx hT hF K hK => rely_wp rfl (opr_cv (HSG.out ▸ Sign_cv hX _ _ ps ws need (k : Int) size root l wx ((NewT.trans _ _ _ HN.out hT).tables HT.out) ((NewT.trans _ _ _ HN.out hT).keysV HK.out) ((NewT.trans _ _ _ HN.out hT).pointV HPT.out)) rfl Tryd.func20 (by kernel_rfl) (by kernel_rfl) (evs3 hF.1 hF.2.1 hF.2.2.1) hK)
        · exact fun a wx hT hF K hK => rely_wp rfl (opr_mkm rfl hF.1 (hK _ _ (NewT.refl _) rfl))
        · exact fun a wx hT hF K hK => rely_wp rfl (opr_idxFn hk4 rfl hF.1 hF.2.1 (hK _ _ (NewT.refl _) rfl))
        · intro w5 hT
          iterate 7 (intro u h; obtain rfl := Eq.symm (h (by simp)); clear h)
          refine relyEnd_nil rfl ?_
          simp only [Act.put, List.setIfInBounds_toArray, List.set_cons_zero, List.set_cons_succ]
          refine wpList_plain rfl (fun K hK => ?_)
          refine opr_put1 (F := fnF (k + 1) sg) rfl rfl rfl (hT.row RF.out) hk4 info_fn1 rfl (fun i _ => fnF_set k sg i) ?_
          intro w6 hR6 r6
          refine hK _ _ ?_
          refine wpList_end rfl ?_
          simp only [Act.put, List.setIfInBounds_toArray, List.set_cons_zero, List.set_cons_succ]
          have HR6 := Lib.hid (RT.trans _ _ _ HRT.out (RT.trans _ _ _ (RT.new (by have := RF.out.lt; omega) hT) hR6))
          have RF6 := Lib.hid r6
          clear hR6 r6 hT
          go_simp
          go_wp2
          go_roundw
          case rel => exact ⟨k + 1, by omega, by go_num, RF6, HR6⟩
          case measure => simp [intOf]; omega
      · obtain rfl : k = m := by omega
        go_upto_region 7 with fail
        refine wp_region_steps0 NewT [SV.eq (.agg (rowA 4 (fnF k sg)))] [([(5, none)], none)] 22 1 rfl rfl (by kernel_rfl) NewT.trans (NewT.refl _) (Nat.le_of_ble_eq_true rfl) ⟨?_, trivial⟩ ?_
        · exact fun a wx hT hF K hK => rely_wp rfl (opr_ldFns (hT.row RF.out) rfl hF.1 (hK _ _ (NewT.refl _) rfl))
        · intro wx hT
          intro u h; obtain rfl := Eq.symm (h (by simp)); clear h
          refine relyEnd_nil rfl ?_
          simp only [Act.put, List.setIfInBounds_toArray, List.set_cons_zero, List.set_cons_succ]
          refine wpList_plain rfl (fun K hK => ?_)
          refine opr_putm (g := w.heap.size + 2) (o0 := 0) (m := 4) (f := fnF k sg) (F := fnF k sg) rfl rfl rfl (hT.row R0.out) (by decide) info_fns (fnF_one k sg) (fun i hi => by rw [if_pos (by omega), Nat.sub_zero]) ?_
          intro w9 hR9 r9
          refine hK _ _ ?_
          refine wpList_end rfl ?_
          simp only [Act.put, List.setIfInBounds_toArray, List.set_cons_zero, List.set_cons_succ]
          go_simp
          go_wp2
          refine bodyPost_ret (results_agg rfl _ rfl r9 Tryd.underlying70 rfl info_fns) rfl ⟨_, rfl, NewT.rt (NewT.trans _ _ _ HN.out hT) hR9 (by omega), by rw [HM.out]; rfl⟩
end Go.Proofs.YtcfogkimjbgjgaaDoor
/- Package keys: what Check answers. -/
namespace Go.Proofs.YtcfogkimjbgjgaaDoor
open Go Go.RowKit
set_option maxRecDepth 8000
set_option linter.all false
set_option maxHeartbeats 4000000 in
theorem Check_cv {kf : Hs → List Int → Hs} {tg : Hs → Hs → Hs} {pf : Int → Hs → Hs} (hX : KeyH kf tg pf) (v u : Value) (ps ws : List Hs) (need size : Int) (root : Hs) (l : List (Int × Hs)) (w : World) (hT : Tables w) (hk : KeysV w v ps ws need) (hp : PointV w u size root l) : Cv 22 #[v, u] w (.eq (.int .i64 (checkI ps ws need size (sgH tg pf ws size root) l))) := by
  unfold Cv
  obtain ⟨pv, wv, rfl, hpv, hwv⟩ := hk
  obtain ⟨sv, rfl, hsv⟩ := hp
  have HT := Lib.hid hT
  have HK : Hid (KeysV w (.agg (rowA 3 (keyF pv wv need))) ps ws need) := Lib.hid ⟨pv, wv, rfl, hpv, hwv⟩
  have HP := Lib.hid hpv
  have HW := Lib.hid hwv
  have HPT : Hid (PointV w (.agg (rowA 34 (ptF size root sv))) size root l) := Lib.hid ⟨sv, rfl, hsv⟩
  have HG := Lib.hid hsv
  clear hT
  go_enter Tryd.func22, Tryd.ntmps22
  go_upto_region 1 with fail
  have rk := (rowIs_box w 24 3 (keyF pv wv need)).alloc (.cells (rowA 34 (ptF size root sv)) 40)
  have rp := rowIs_box (w.alloc (.cells (rowA 3 (keyF pv wv need)) 24)) 40 34 (ptF size root sv)
  have hN : NewT w ((w.alloc (.cells (rowA 3 (keyF pv wv need)) 24)).alloc (.cells (rowA 34 (ptF size root sv)) 40)) := NewT.trans _ _ _ (NewT.alloc _ _) (NewT.alloc _ _)
  rw [World.size_alloc] at rp
  change Code.wp _ _ _ _ ((w.alloc (.cells (rowA 3 (keyF pv wv need)) 24)).alloc (.cells (rowA 34 (ptF size root sv)) 40))
  generalize (w.alloc (.cells (rowA 3 (keyF pv wv need)) 24)).alloc (.cells (rowA 34 (ptF size root sv)) 40) = W0 at rk rp hN ⊢
  have RK := Lib.hid rk
  have RP := Lib.hid rp
  have HN := Lib.hid hN
  clear rk rp hpv hwv hN hsv
  obtain ⟨q1_1, Q1_1⟩ : ∃ bq_, ((!(mayB ps ws need)) || (!(inR size 0 400))) = bq_ := ⟨_, rfl⟩
  refine wp_region_steps0 NewT [SV.eq (.agg (rowA 3 (keyF pv wv need))), SV.eq (.bool (mayB ps ws need)), SV.eq (.bool (!(mayB ps ws need))), SV.eq (.bool (!(mayB ps ws need))), svIf ((!(!(mayB ps ws need)))) (SV.eq (.pointer (some ⟨w.heap.size + 1, 0, none⟩))), svIf ((!(!(mayB ps ws need)))) (SV.eq (.int .i64 (size))), svIf ((!(!(mayB ps ws need)))) (SV.eq (.bool (inR size 0 400))), svIf ((!(!(mayB ps ws need)))) (SV.eq (.bool (!(inR size 0 400)))), SV.eq (.bool (q1_1))] [([(2, none)], none), ([(9, some 0)], none), ([(10, some 1)], none), ([(11, some 2)], none), ([(3, none), (12, some 3)], some (12, false)), ([(13, some 4), (12, some 3)], some (12, false)), ([(14, some 5), (12, some 3)], some (12, false)), ([(15, some 6), (12, some 3)], some (12, false)), ([(12, some 3), (16, some 7)], none)] 60 9 rfl rfl (by kernel_rfl) NewT.trans (NewT.refl _) (Nat.le_of_ble_eq_true rfl) ⟨?_, ?_, ?_, ?_, ?_, ?_, ?_, ?_, ?_, trivial⟩ ?_
  · exact fun a wx hT hF K hK => rely_wp rfl (opr_ldY (hT.row RK.out) rfl hF.1 (hK _ _ (NewT.refl _) rfl))
  · exact fun a wx hT hF K hK => rely_wp rfl (opr_cv (May_cv _ ps ws need wx ((NewT.trans _ _ _ HN.out hT).keysV HK.out)) rfl Tryd.func12 (by kernel_rfl) (by kernel_rfl) (evs1 hF.1) hK)
  · exact fun a wx hT hF K hK => rely_wp rfl (opr_not rfl hF.1 (hK _ _ (NewT.refl _) rfl))
  · exact fun a wx hT hF K hK => rely_wp rfl (opr_move (.inl rfl) (hK _ _ (NewT.refl _) hF.1))
  · exact fun a wx hT hF K hK => rely_if (rely_gf hF.2.1) (NewT.refl _) hK fun hE hK => opr_fldZ0 rfl hF.1 (hK _ _ (NewT.refl _) rfl)
  · exact fun a wx hT hF K hK => rely_if (rely_gf hF.2.1) (NewT.refl _) hK fun hE hK => opr_ldI (hT.row RP.out) (by decide) rfl rfl (hF.1 hE) (hK _ _ (NewT.refl _) rfl)
  · exact fun a wx hT hF K hK => rely_if (rely_gf hF.2.1) (NewT.refl _) hK fun hE hK => opr_cv (kSize_cv size wx) rfl Tryd.func35 (by kernel_rfl) (by kernel_rfl) (evs1 (hF.1 hE)) hK
  · exact fun a wx hT hF K hK => rely_if (rely_gf hF.2.1) (NewT.refl _) hK fun hE hK => opr_not rfl (hF.1 hE) (hK _ _ (NewT.refl _) rfl)
  · exact fun a wx hT hF K hK => rely_wp rfl (opr_pick_b rfl hF.1 (fun hb => hK _ _ (NewT.refl _) (pn_or1 Q1_1 hb)) (fun hb => hK _ _ (NewT.refl _) (pn_or0 Q1_1 (hF.2.1 (bnot hb)) hb)))
  · intro w1 k1
    iterate 4 (intro u h; obtain rfl := Eq.symm (h (by simp)); clear h)
    iterate 4 (intro _ _)
    intro u h; obtain rfl := Eq.symm (h (by simp)); clear h
    subst Q1_1
    refine relyEnd_nil rfl ?_
    refine wpList_end rfl ?_
    simp only [Act.put, List.setIfInBounds_toArray, List.set_cons_zero, List.set_cons_succ]
    go_simp
    replace RK := Lib.hid (k1.row RK.out)
    replace RP := Lib.hid (k1.row RP.out)
    replace HN := Lib.hid (NewT.trans _ _ _ HN.out k1)
    clear k1
    cases hb : (!mayB ps ws need || !inR size 0 400)
    rotate_left
    · have HE := Lib.hid (checkI_arg (sg := sgH tg pf ws size root) (l := l) (or_not hb))
      clear hb
      go_wp2
      go_ret
      exact ⟨_, rfl, HN.out, by rw [HE.out]; rfl⟩
    have HB : Hid ((mayB ps ws need && inR size 0 400) = true) := Lib.hid (or_not hb)
    clear hb
    obtain ⟨hm, hsz⟩ := Bool.and_eq_true _ _ |>.mp HB.out
    have HW4 : Hid (ws.length ≤ 4) := Lib.hid ((mayB_iff _ _ _).1 hm).2.1.2
    obtain ⟨sg, hsg⟩ := hid_ex (sgH tg pf ws size root)
    have HSG : Hid (∀ i : Nat, i < ws.length → signH tg pf ps ws need (i : Int) size root = sg i) := Lib.hid (fun i hi => by
      unfold signH
      rw [(mayS_iff _ _ _ _ _).2 ⟨hm, ⟨by omega, by omega⟩, (inR_iff _ _ _).1 hsz⟩, if_pos rfl, hsg.out, Int.toNat_natCast])
    have HEQ : Hid (checkI ps ws need size (sgH tg pf ws size root) l = checkI ps ws need size sg l) := Lib.hid (by rw [hsg.out])
    clear hm hsz hsg
    go_upto_region 3 with fail
    refine wp_region_steps0 NewT [SV.eq (.agg (rowA 3 (keyF pv wv need))), SV.eq (.agg (rowA 34 (ptF size root sv))), SV.eq ((.agg (rowA 4 (fnF (List.length ws) sg))))] [([(2, none)], none), ([(3, none)], none), ([(18, some 0), (19, some 1)], none)] 60 3 rfl rfl (by kernel_rfl) NewT.trans (NewT.refl _) (Nat.le_of_ble_eq_true rfl) ⟨?_, ?_, ?_, trivial⟩ ?_
    · exact fun a wx hT hF K hK => rely_wp rfl (opr_ldY (hT.row RK.out) rfl hF.1 (hK _ _ (NewT.refl _) rfl))
    · exact fun a wx hT hF K hK => rely_wp rfl (opr_ldZ (hT.row RP.out) rfl hF.1 (hK _ _ (NewT.refl _) rfl))
    · exact fun a wx hT hF K hK => rely_wp rfl (opr_cv (tagsDue_cv hX _ _ ps ws need size root l sg wx ((NewT.trans _ _ _ HN.out hT).tables HT.out) ((NewT.trans _ _ _ HN.out hT).keysV HK.out) ((NewT.trans _ _ _ HN.out hT).pointV HPT.out) HW4.out HSG.out) rfl Tryd.func42 (by kernel_rfl) (by kernel_rfl) (evs2 hF.1 hF.2.1) hK)
    · intro w2 k2
      iterate 3 (intro u h; obtain rfl := Eq.symm (h (by simp)); clear h)
      refine relyEnd_nil rfl ?_
      simp only [Act.put, List.setIfInBounds_toArray, List.set_cons_zero, List.set_cons_succ]
      refine wpList_new (n := 4) (f := fnF ws.length sg) rfl rfl rfl rfl rfl rfl (by simp) run_alloc_fns info_fns (fnF_one _ _) rfl ?_
      intro w3 hn3 r5
      refine wpList_end rfl ?_
      simp only [Act.put, List.setIfInBounds_toArray, List.set_cons_zero, List.set_cons_succ]
      go_simp
      have k3 := NewT.trans _ _ _ k2 hn3
      obtain ⟨g5, hg5⟩ : ∃ g5, w2.heap.size = g5 := ⟨_, rfl⟩
      rw [hg5] at r5 ⊢
      replace RK := Lib.hid (k3.row RK.out)
      replace RP := Lib.hid (k3.row RP.out)
      replace HN := Lib.hid (NewT.trans _ _ _ HN.out k3)
      clear k2 k3 hn3 hg5
      go_upto_region 5 with fail
      have r6 := rowIs_box w3 72 4 (wrF [])
      have hN := NewT.alloc w3 (.cells (rowA 4 (wrF [])) 72)
      change Code.wp _ _ _ _ (w3.alloc (.cells (rowA 4 (wrF [])) 72))
      have hg56 : g5 < w3.heap.size := r5.lt
      have hgk : w.heap.size + 1 < w3.heap.size := RP.out.lt
      have R5 := Lib.hid (hN.row r5)
      replace RK := Lib.hid (hN.row RK.out)
      replace RP := Lib.hid (hN.row RP.out)
      replace HN := Lib.hid (NewT.trans _ _ _ HN.out hN)
      generalize w3.alloc (.cells (rowA 4 (wrF [])) 72) = W4 at *
      generalize w3.heap.size = g6 at *
      have RW := Lib.hid r6
      clear r5 r6 hN
      refine wp_region_steps0 NewT [SV.eq (.pointer (some ⟨w.heap.size + 1, 33, none⟩)), SV.eq (sv), SV.eq (.int .i64 ((List.length (l) : Int))), SV.eq (.int .i64 (0))] [([(3, none)], none), ([(21, some 0)], none), ([(22, some 1)], none), ([], none)] 60 4 rfl rfl (by kernel_rfl) NewT.trans (NewT.refl _) (Nat.le_of_ble_eq_true rfl) ⟨?_, ?_, ?_, ?_, trivial⟩ ?_
      · exact fun a wx hT hF K hK => rely_wp rfl (opr_fldZ2 rfl hF.1 (hK _ _ (NewT.refl _) rfl))
      · exact fun a wx hT hF K hK => rely_wp rfl (opr_ldGs (hT.row RP.out) (by decide) rfl rfl hF.1 (hK _ _ (NewT.refl _) rfl))
      · intro a wx hT hF K hK
        obtain ⟨f22, _⟩ := hF
        have f22 : a.tmps.getD 22 undef = sv := f22
        refine rely_wp rfl ?_
        exact opr_len_g rfl (by rw [eval_tmp, f22]; exact ((NewT.trans _ _ _ HN.out hT).sigs HG.out)) (hK _ _ (NewT.refl _) rfl)
      · exact fun a wx hT hF K hK => rely_wp rfl (opr_move (.inl rfl) (hK _ _ (NewT.refl _) rfl))
      · intro w5 k5
        iterate 4 (intro u h; obtain rfl := Eq.symm (h (by simp)); clear h)
        refine relyEnd_nil rfl ?_
        refine wpList_end rfl ?_
        simp only [Act.put, List.setIfInBounds_toArray, List.set_cons_zero, List.set_cons_succ]
        go_simp
        replace R5 := Lib.hid (k5.row R5.out)
        replace RW := Lib.hid (k5.row RW.out)
        replace RK := Lib.hid (k5.row RK.out)
        replace RP := Lib.hid (k5.row RP.out)
        replace HN := Lib.hid (NewT.trans _ _ _ HN.out k5)
        clear k5
        obtain ⟨m, hm⟩ : ∃ m, l.length = m := ⟨_, rfl⟩
        rw [hm]
        have HM := Lib.hid hm
        have hmx : m ≤ 9223372036854775807 := by obtain ⟨_, _, _, h1, h2, _⟩ := HG.out; unfold maxLen at h2; omega
        clear hm
        go_wp2
        go_loopw [24] (fun i wr => ∃ k : Nat, k ≤ m ∧ i = .int .i64 k ∧ Hid (okTo ws.length sg l k = true) ∧ Hid (wr.rowIs g6 72 4 (wrF (List.take k l))) ∧ Hid (RT g6 w5 wr)) (fun i _ => m - (intOf i).toNat)
        case atStart => exact ⟨0, by omega, rfl, Lib.hid rfl, RW, Lib.hid (RT.refl _ _)⟩
        case round =>
          clear RW
          obtain ⟨k, hk, rfl, HOK, RW, HRT⟩ := hrel
          have rk := HRT.out.row (by omega) RK.out
          have rp := HRT.out.row (by omega) RP.out
          have r5 := HRT.out.row (by omega) R5.out
          have hN := NewT.rt HN.out HRT.out (by omega)
          replace RK := Lib.hid rk
          replace RP := Lib.hid rp
          replace R5 := Lib.hid r5
          replace HN := Lib.hid hN
          clear rk rp r5 hN
          by_cases hlt : k < m
          · have it : (k : Int) < (m : Int) := by omega
            obtain ⟨⟨j, d⟩, hs⟩ : ∃ s, l[k]? = some s := ⟨_, List.getElem?_eq_getElem (by rw [HM.out]; exact hlt)⟩
            have HS := Lib.hid hs
            have HBAD : Hid (okAt ws.length sg (List.take k l) (j, d) = false → checkI ps ws need size sg l = 8) := Lib.hid (fun h => checkI_bad HB.out (okTo_bad hs h))
            have HNX : Hid (okAt ws.length sg (List.take k l) (j, d) = true → okTo ws.length sg l (k + 1) = true) := Lib.hid (fun h => (okTo_next hs HOK.out).trans h)
            have HTK : Hid (List.take (k + 1) l = List.take k l ++ [(j, d)]) := Lib.hid (by rw [List.take_add_one, hs]; rfl)
            clear hs
            go_upto_region 7 with fail
            refine wp_region_steps0 NewT [svPG (j, d), SV.eq ((.agg (rowA 33 (sigF (j, d)))))] [([(22, none), (24, none)], none), ([(26, some 0)], none)] 60 2 rfl rfl (by kernel_rfl) NewT.trans (NewT.refl _) (Nat.le_of_ble_eq_true rfl) ⟨?_, ?_, trivial⟩ ?_
            · intro a wx hT hF K hK
              obtain ⟨f22, f24, _⟩ := hF
              have f22 : a.tmps.getD 22 undef = sv := f22
              have f24 : a.tmps.getD 24 undef = .int .i64 ((k : Int)) := f24
              refine rely_wp rfl ?_
              exact opr_idxG (i := k) (d := (j, d)) HS.out rfl rfl (by rw [eval_tmp, f22]; exact (NewT.trans _ _ _ HN.out hT).sigs HG.out) f24 (fun v hv => hK v _ (NewT.refl _) hv)
            · exact fun a wx hT hF K hK => rely_wp rfl (opr_ldPG rfl hF.1 (hK _ _ (NewT.refl _) rfl))
            · intro w6 k6
              intro _ _
              intro u h; obtain rfl := Eq.symm (h (by simp)); clear h
              refine relyEnd_nil rfl ?_
              simp only [Act.put, List.setIfInBounds_toArray, List.set_cons_zero, List.set_cons_succ]
              refine wpList_new (n := 33) (f := sigF (j, d)) rfl rfl rfl rfl rfl rfl (by simp) run_alloc_sig infoGs (sigF_one _) rfl ?_
              intro w8 hn8 r8
              refine wpList_end rfl ?_
              simp only [Act.put, List.setIfInBounds_toArray, List.set_cons_zero, List.set_cons_succ]
              go_simp
              have k8 := NewT.trans _ _ _ k6 hn8
              obtain ⟨g8, hg8⟩ : ∃ g8, w6.heap.size = g8 := ⟨_, rfl⟩
              rw [hg8] at r8 ⊢
              have R8 := Lib.hid r8
              replace R5 := Lib.hid (k8.row R5.out)
              replace HRT := Lib.hid (RT.trans _ _ _ HRT.out (RT.new (by have := RW.out.lt; omega) k8))
              replace RW := Lib.hid (k8.row RW.out)
              replace RK := Lib.hid (k8.row RK.out)
              replace RP := Lib.hid (k8.row RP.out)
              replace HN := Lib.hid (NewT.trans _ _ _ HN.out k8)
              clear k6 k8 hn8 r8 hg8
              cases hin : inR j 0 ((List.length ws : Int) - 1)
              · have HIN := Lib.hid hin
                have HE : Hid (checkI ps ws need size sg l = 8) := Lib.hid (HBAD.out (by unfold okAt; rw [hin]; rfl))
                clear hin
                go_upto_region 8 with fail
                refine wp_region_rely (NewT) [SV.eq (.pointer (some ⟨g8, 0, none⟩)), SV.eq (.int .i64 (j)), SV.eq (.pointer (some ⟨w.heap.size, 1, none⟩)), SV.eq (wv), SV.eq (.bool false), SV.eq (.bool true), SV.eq (.bool true), SV.eq (undef), SV.eq (undef), SV.eq (undef), SV.eq (undef), SV.eq (.bool true), SV.eq (.bool true), SV.eq (undef), SV.eq (undef), SV.eq (undef), SV.eq (undef), SV.eq (undef), SV.eq (undef), SV.eq (undef), SV.eq (undef)] [([(8, none)], none), ([(28, some 0)], none), ([(2, none)], none), ([(30, some 2)], none), ([(29, some 1), (31, some 3)], none), ([(32, some 4)], none), ([(33, some 5)], none), ([(8, none), (34, some 6)], some (34, false)), ([(35, some 7), (34, some 6)], some (34, false)), ([(6, none), (36, some 8), (34, some 6)], some (34, false)), ([(37, some 9), (34, some 6)], some (34, false)), ([(34, some 6), (38, some 10)], none), ([(39, some 11)], none), ([(8, none), (40, some 12)], some (40, false)), ([(41, some 13), (40, some 12)], some (40, false)), ([(5, none), (42, some 14), (40, some 12)], some (40, false)), ([(43, some 15), (40, some 12)], some (40, false)), ([(8, none), (40, some 12)], some (40, false)), ([(45, some 17), (40, some 12)], some (40, false)), ([(44, some 16), (46, some 18), (40, some 12)], some (40, false)), ([(47, some 19), (40, some 12)], some (40, false))] 60 rfl (by kernel_rfl) rfl (by kernel_rfl) (by kernel_rfl) rfl NewT.trans (NewT.drew _) (Nat.le_of_ble_eq_true rfl) ⟨?_, ?_, ?_, ?_, ?_, ?_, ?_, ?_, ?_, ?_, ?_, ?_, ?_, ?_, ?_, ?_, ?_, ?_, ?_, ?_, ?_, trivial⟩ ?_
                · exact fun a wx hT hF K hK => rely_wp rfl (opr_fldX0 rfl hF.1 (hK _ _ (NewT.refl _) rfl))
                · exact fun a wx hT hF K hK => rely_wp rfl (opr_ldI (hT.row R8.out) (by decide) rfl rfl hF.1 (hK _ _ (NewT.refl _) rfl))
                · exact fun a wx hT hF K hK => rely_wp rfl (opr_fldY1 rfl hF.1 (hK _ _ (NewT.refl _) rfl))
                · exact fun a wx hT hF K hK => rely_wp rfl (opr_ldHs (hT.row RK.out) (by decide) rfl rfl hF.1 (hK _ _ (NewT.refl _) rfl))
                · exact fun a wx hT hF K hK => rely_wp rfl (opr_cv (HIN.out ▸ kPlace_cv j _ ws wx ((NewT.trans _ _ _ HN.out hT).hs HW.out)) rfl Tryd.func34 (by kernel_rfl) (by kernel_rfl) (evs2 hF.1 hF.2.1) hK)
                · exact fun a wx hT hF K hK => rely_wp rfl (opr_not rfl hF.1 (hK _ _ (NewT.refl _) rfl))
                · exact fun a wx hT hF K hK => rely_wp rfl (opr_move (.inl rfl) (hK _ _ (NewT.refl _) hF.1))
                · exact fun a wx hT hF K hK => rely_skip (rely_guard_no hF.2.1 (by decide)) (hK _ _ (NewT.refl _) rfl)
                · exact fun a wx hT hF K hK => rely_skip (rely_guard_no hF.2.1 (by decide)) (hK _ _ (NewT.refl _) rfl)
                · exact fun a wx hT hF K hK => rely_skip (rely_guard_no hF.2.2.1 (by decide)) (hK _ _ (NewT.refl _) rfl)
                · exact fun a wx hT hF K hK => rely_skip (rely_guard_no hF.2.1 (by decide)) (hK _ _ (NewT.refl _) rfl)
                · exact fun a wx hT hF K hK => rely_wp rfl (opr_pick_true rfl hF.1 (hK _ _ (NewT.refl _) rfl))
                · exact fun a wx hT hF K hK => rely_wp rfl (opr_move (.inl rfl) (hK _ _ (NewT.refl _) hF.1))
                · exact fun a wx hT hF K hK => rely_skip (rely_guard_no hF.2.1 (by decide)) (hK _ _ (NewT.refl _) rfl)
                · exact fun a wx hT hF K hK => rely_skip (rely_guard_no hF.2.1 (by decide)) (hK _ _ (NewT.refl _) rfl)
                · exact fun a wx hT hF K hK => rely_skip (rely_guard_no hF.2.2.1 (by decide)) (hK _ _ (NewT.refl _) rfl)
                · exact fun a wx hT hF K hK => rely_skip (rely_guard_no hF.2.1 (by decide)) (hK _ _ (NewT.refl _) rfl)
                · exact fun a wx hT hF K hK => rely_skip (rely_guard_no hF.2.1 (by decide)) (hK _ _ (NewT.refl _) rfl)
                · exact fun a wx hT hF K hK => rely_skip (rely_guard_no hF.2.1 (by decide)) (hK _ _ (NewT.refl _) rfl)
                · exact fun a wx hT hF K hK => rely_skip (rely_guard_no hF.2.2.1 (by decide)) (hK _ _ (NewT.refl _) rfl)
                · exact fun a wx hT hF K hK => rely_skip (rely_guard_no hF.2.1 (by decide)) (hK _ _ (NewT.refl _) rfl)
                · intro w9 k9
                  iterate 21 (intro u h; obtain rfl := Eq.symm (h (by simp)); clear h)
                  refine relyEnd_nil rfl ?_
                  simp only [Act.put, List.setIfInBounds_toArray, List.set_cons_zero, List.set_cons_succ]
                  refine opr_pick_true rfl rfl ?_
                  go_simp
                  go_wp2
                  go_ret
                  exact ⟨_, rfl, NewT.trans _ _ _ HN.out k9, by rw [HEQ.out, HE.out]; rfl⟩
              · have hin' := (inR_iff _ _ _).1 hin
                obtain ⟨i, rfl⟩ : ∃ i : Nat, j = (i : Int) := ⟨j.toNat, by omega⟩
                have HIN := Lib.hid hin
                have HIW : Hid (i < ws.length) := Lib.hid (by omega)
                have HI4 : Hid (i < 4) := Lib.hid (by have := HW4.out; omega)
                obtain ⟨sn, hsn⟩ := hid_ex ((List.take k l).any fun q => q.1 == (i : Int))
                have HSN : Hid (wrF (List.take k l) i = .bool sn) := Lib.hid (by unfold wrF; rw [hsn.out])
                have HOA : Hid (okAt ws.length sg (List.take k l) ((i : Int), d) = (!(sn || !eqH (sg i) d))) := Lib.hid (by
                  unfold okAt
                  rw [hin, hsn.out, Int.toNat_natCast]
                  cases sn <;> cases eqH (sg i) d <;> rfl)
                have HWR : Hid (∀ q, wrF (List.take (k + 1) l) q = if q = i then .bool true else wrF (List.take k l) q) := Lib.hid (fun q => by rw [HTK.out]; exact wrF_set _ _ _ _)
                clear hin hin' hsn
                go_upto_region 8 with fail
                refine wp_region_rely (NewT) [SV.eq (.pointer (some ⟨g8, 0, none⟩)), SV.eq (.int .i64 ((i : Int))), SV.eq (.pointer (some ⟨w.heap.size, 1, none⟩)), SV.eq (wv), SV.eq (.bool true), SV.eq (.bool false), SV.eq (.bool false), SV.eq (.pointer (some ⟨g8, 0, none⟩)), SV.eq (.int .i64 ((i : Int))), SV.eq (.pointer (some ⟨g6, i, none⟩)), SV.eq (.bool (sn)), SV.eq (.bool (sn)), SV.eq (.bool (sn)), svIf ((!sn)) (SV.eq (.pointer (some ⟨g8, 0, none⟩))), svIf ((!sn)) (SV.eq (.int .i64 ((i : Int)))), svIf ((!sn)) (SV.eq (.pointer (some ⟨g5, i, none⟩))), svIf ((!sn)) (SV.eq ((.func (.func 33) #[.agg (rowA 32 (bF (sg i)))] #[]))), svIf ((!sn)) (SV.eq (.pointer (some ⟨g8, 1, none⟩))), svIf ((!sn)) (SV.eq (.agg (rowA 32 (bF (d))))), svIf ((!sn)) (SV.eq (.bool (eqH (sg i) (d)))), svIf ((!sn)) (SV.eq (.bool (!(eqH (sg i) (d)))))] [([(8, none)], none), ([(28, some 0)], none), ([(2, none)], none), ([(30, some 2)], none), ([(29, some 1), (31, some 3)], none), ([(32, some 4)], none), ([(33, some 5)], none), ([(8, none), (34, some 6)], some (34, false)), ([(35, some 7), (34, some 6)], some (34, false)), ([(6, none), (36, some 8), (34, some 6)], some (34, false)), ([(37, some 9), (34, some 6)], some (34, false)), ([(34, some 6), (38, some 10)], none), ([(39, some 11)], none), ([(8, none), (40, some 12)], some (40, false)), ([(41, some 13), (40, some 12)], some (40, false)), ([(5, none), (42, some 14), (40, some 12)], some (40, false)), ([(43, some 15), (40, some 12)], some (40, false)), ([(8, none), (40, some 12)], some (40, false)), ([(45, some 17), (40, some 12)], some (40, false)), ([(44, some 16), (46, some 18), (40, some 12)], some (40, false)), ([(47, some 19), (40, some 12)], some (40, false))] 60 rfl (by kernel_rfl) rfl (by kernel_rfl) (by kernel_rfl) rfl NewT.trans (NewT.drew _) (Nat.le_of_ble_eq_true rfl) ⟨?_, ?_, ?_, ?_, ?_, ?_, ?_, ?_, ?_, ?_, ?_, ?_, ?_, ?_, ?_, ?_, ?_, ?_, ?_, ?_, ?_, trivial⟩ ?_
                · exact fun a wx hT hF K hK => rely_wp rfl (opr_fldX0 rfl hF.1 (hK _ _ (NewT.refl _) rfl))
                · exact fun a wx hT hF K hK => rely_wp rfl (opr_ldI (hT.row R8.out) (by decide) rfl rfl hF.1 (hK _ _ (NewT.refl _) rfl))
                · exact fun a wx hT hF K hK => rely_wp rfl (opr_fldY1 rfl hF.1 (hK _ _ (NewT.refl _) rfl))
                · exact fun a wx hT hF K hK => rely_wp rfl (opr_ldHs (hT.row RK.out) (by decide) rfl rfl hF.1 (hK _ _ (NewT.refl _) rfl))
                · exact fun a wx hT hF K hK => rely_wp rfl (opr_cv (HIN.out ▸ kPlace_cv ((i : Int)) _ ws wx ((NewT.trans _ _ _ HN.out hT).hs HW.out)) rfl Tryd.func34 (by kernel_rfl) (by kernel_rfl) (evs2 hF.1 hF.2.1) hK)
                · exact fun a wx hT hF K hK => rely_wp rfl (opr_not rfl hF.1 (hK _ _ (NewT.refl _) rfl))
                · exact fun a wx hT hF K hK => rely_wp rfl (opr_move (.inl rfl) (hK _ _ (NewT.refl _) hF.1))
                · exact fun a wx hT hF K hK => rely_wp (rely_guard hF.2.1) (opr_fldX0 rfl hF.1 (hK _ _ (NewT.refl _) rfl))
                · exact fun a wx hT hF K hK => rely_wp (rely_guard hF.2.1) (opr_ldI (hT.row R8.out) (by decide) rfl rfl hF.1 (hK _ _ (NewT.refl _) rfl))
                · exact fun a wx hT hF K hK => rely_wp (rely_guard hF.2.2.1) (opr_idxQ HI4.out rfl hF.1 hF.2.1 (hK _ _ (NewT.refl _) rfl))
                · exact fun a wx hT hF K hK => rely_wp (rely_guard hF.2.1) (opr_ldQ (hT.row RW.out) HI4.out HSN.out rfl hF.1 (hK _ _ (NewT.refl _) rfl))
                · exact fun a wx hT hF K hK => rely_wp rfl (opr_pick_false rfl hF.1 (hK _ _ (NewT.refl _) hF.2.1))
                · exact fun a wx hT hF K hK => rely_wp rfl (opr_move (.inl rfl) (hK _ _ (NewT.refl _) hF.1))
                · exact fun a wx hT hF K hK => rely_if (rely_gf hF.2.1) (NewT.refl _) hK fun hE hK => opr_fldX0 rfl hF.1 (hK _ _ (NewT.refl _) rfl)
                · exact fun a wx hT hF K hK => rely_if (rely_gf hF.2.1) (NewT.refl _) hK fun hE hK => opr_ldI (hT.row R8.out) (by decide) rfl rfl (hF.1 hE) (hK _ _ (NewT.refl _) rfl)
                · exact fun a wx hT hF K hK => rely_if (rely_gf hF.2.2.1) (NewT.refl _) hK fun hE hK => opr_idxFn HI4.out rfl hF.1 (hF.2.1 hE) (hK _ _ (NewT.refl _) rfl)
                · exact fun a wx hT hF K hK => rely_if (rely_gf hF.2.1) (NewT.refl _) hK fun hE hK => opr_ldFn (hT.row R5.out) HI4.out (fnF_at sg HIW.out) rfl (hF.1 hE) (hK _ _ (NewT.refl _) rfl)
                · exact fun a wx hT hF K hK => rely_if (rely_gf hF.2.1) (NewT.refl _) hK fun hE hK => opr_fldX1 rfl hF.1 (hK _ _ (NewT.refl _) rfl)
                · exact fun a wx hT hF K hK => rely_if (rely_gf hF.2.1) (NewT.refl _) hK fun hE hK => opr_ldH (hT.row R8.out) (by decide) (sigF_h _) rfl (hF.1 hE) (hK _ _ (NewT.refl _) rfl)
                · intro a wx hT hF K hK
                  obtain ⟨f44, f46, f40, _⟩ := hF
                  have f44 : ((!sn)) = true → a.tmps.getD 44 undef = (.func (.func 33) #[.agg (rowA 32 (bF (sg i)))] #[]) := f44
                  have f46 : ((!sn)) = true → a.tmps.getD 46 undef = .agg (rowA 32 (bF (d))) := f46
                  have f40 : a.tmps.getD 40 undef = .bool (sn) := f40
                  refine rely_if (rely_gf f40) (NewT.refl _) hK (fun hE hK => ?_)
                  exact opr_cvm (Is_cv (sg i) (d) wx) rfl (f44 hE) Tryd.func33 (by kernel_rfl) (by kernel_rfl) (by simp only [List.map_toArray, List.map_cons, List.map_nil, List.append_toArray, List.cons_append, List.nil_append, eval_tmp, (f46 hE)]) hK
                · exact fun a wx hT hF K hK => rely_if (rely_gf hF.2.1) (NewT.refl _) hK fun hE hK => opr_not rfl (hF.1 hE) (hK _ _ (NewT.refl _) rfl)
                · intro w9 k9
                  iterate 13 (intro u h; obtain rfl := Eq.symm (h (by simp)); clear h)
                  iterate 7 (intro _ _)
                  intro u48 h; have g48 := h (by simp); clear h; replace g48 := show (svIf ((!sn)) (SV.eq (.bool (!(eqH (sg i) (d)))))).pred u48 w9 from g48
                  refine relyEnd_nil rfl ?_
                  simp only [Act.put, List.setIfInBounds_toArray, List.set_cons_zero, List.set_cons_succ]
                  refine opr_pick_or (b := sn) (e := !(eqH (sg i) (d))) rfl rfl (fun hb => g48 (bnot hb)) ?_
                  go_simp
                  cases hv : (sn || !eqH (sg i) d)
                  · have HV : Hid (okAt ws.length sg (List.take k l) ((i : Int), d) = true) := Lib.hid (by rw [HOA.out, hv]; rfl)
                    clear hv
                    replace R8 := Lib.hid (k9.row R8.out)
                    replace HRT := Lib.hid (RT.trans _ _ _ HRT.out (RT.new (by have := RW.out.lt; omega) k9))
                    replace RW := Lib.hid (k9.row RW.out)
                    replace RK := Lib.hid (k9.row RK.out)
                    replace RP := Lib.hid (k9.row RP.out)
                    replace HN := Lib.hid (NewT.trans _ _ _ HN.out k9)
                    clear k9
                    go_upto_region 10 with fail
                    refine wp_region_steps0 NewT [SV.eq (.pointer (some ⟨g8, 0, none⟩)), SV.eq (.int .i64 ((i : Int))), SV.eq (.pointer (some ⟨g6, i, none⟩))] [([(8, none)], none), ([(50, some 0)], none), ([(6, none), (51, some 1)], none)] 60 3 rfl rfl (by kernel_rfl) NewT.trans (NewT.refl _) (Nat.le_of_ble_eq_true rfl) ⟨?_, ?_, ?_, trivial⟩ ?_
                    · exact fun a wx hT hF K hK => rely_wp rfl (opr_fldX0 rfl hF.1 (hK _ _ (NewT.refl _) rfl))
                    · exact fun a wx hT hF K hK => rely_wp rfl (opr_ldI (hT.row R8.out) (by decide) rfl rfl hF.1 (hK _ _ (NewT.refl _) rfl))
                    · exact fun a wx hT hF K hK => rely_wp rfl (opr_idxQ HI4.out rfl hF.1 hF.2.1 (hK _ _ (NewT.refl _) rfl))
                    · intro wx hT
                      iterate 3 (intro u h; obtain rfl := Eq.symm (h (by simp)); clear h)
                      refine relyEnd_nil rfl ?_
                      simp only [Act.put, List.setIfInBounds_toArray, List.set_cons_zero, List.set_cons_succ]
                      refine wpList_plain rfl (fun K hK => ?_)
                      refine opr_put1 (g := g6) (o0 := i) (v := .bool true) (F := wrF (List.take (k + 1) l)) rfl rfl rfl (hT.row RW.out) HI4.out info_flag1 rfl (fun q _ => HWR.out q) ?_
                      intro wa hRa ra
                      refine hK _ _ ?_
                      refine wpList_end rfl ?_
                      simp only [Act.put, List.setIfInBounds_toArray, List.set_cons_zero, List.set_cons_succ]
                      have RWa := Lib.hid ra
                      have HRa := Lib.hid (RT.trans _ _ _ HRT.out (RT.trans _ _ _ (RT.new (by have := RW.out.lt; omega) hT) hRa))
                      clear hRa ra hT
                      go_simp
                      go_wp2
                      go_roundw
                      case rel => exact ⟨k + 1, by omega, by go_num, Lib.hid (HNX.out HV.out), RWa, HRa⟩
                      case measure => simp [intOf]; omega
                  · have HE : Hid (checkI ps ws need size sg l = 8) := Lib.hid (HBAD.out (by rw [HOA.out, hv]; rfl))
                    clear hv
                    go_wp2
                    go_ret
                    exact ⟨_, rfl, NewT.trans _ _ _ HN.out k9, by rw [HEQ.out, HE.out]; rfl⟩
          · obtain rfl : k = m := by omega
            have HOL : Hid (okTo ws.length sg l l.length = true) := Lib.hid (by rw [HM.out]; exact HOK.out)
            go_upto_region 12 with fail
            refine wp_region_steps0 NewT [SV.eq (.pointer (some ⟨w.heap.size + 1, 33, none⟩)), SV.eq (sv), SV.eq (.int .i64 ((List.length (l) : Int))), SV.eq (.pointer (some ⟨w.heap.size, 2, none⟩)), SV.eq (.int .i64 (need)), SV.eq (.bool (decide (((List.length (l) : Int)) < need)))] [([(3, none)], none), ([(54, some 0)], none), ([(55, some 1)], none), ([(2, none)], none), ([(57, some 3)], none), ([(56, some 2), (58, some 4)], none)] 60 6 rfl rfl (by kernel_rfl) NewT.trans (NewT.refl _) (Nat.le_of_ble_eq_true rfl) ⟨?_, ?_, ?_, ?_, ?_, ?_, trivial⟩ ?_
            · exact fun a wx hT hF K hK => rely_wp rfl (opr_fldZ2 rfl hF.1 (hK _ _ (NewT.refl _) rfl))
            · exact fun a wx hT hF K hK => rely_wp rfl (opr_ldGs (hT.row RP.out) (by decide) rfl rfl hF.1 (hK _ _ (NewT.refl _) rfl))
            · intro a wx hT hF K hK
              obtain ⟨f55, _⟩ := hF
              have f55 : a.tmps.getD 55 undef = sv := f55
              refine rely_wp rfl ?_
              exact opr_len_g rfl (by rw [eval_tmp, f55]; exact ((NewT.trans _ _ _ HN.out hT).sigs HG.out)) (hK _ _ (NewT.refl _) rfl)
            · exact fun a wx hT hF K hK => rely_wp rfl (opr_fldY2 rfl hF.1 (hK _ _ (NewT.refl _) rfl))
            · exact fun a wx hT hF K hK => rely_wp rfl (opr_ldI (hT.row RK.out) (by decide) rfl rfl hF.1 (hK _ _ (NewT.refl _) rfl))
            · exact fun a wx hT hF K hK => rely_wp rfl (opr_cmp (b := decide (((List.length (l) : Int)) < need)) (.inr (.inr (.inr (.inl ⟨rfl, rfl⟩)))) Tryd.underlying3 rfl hF.1 hF.2.1 (hK _ _ (NewT.refl _) rfl))
            · intro wb kb
              iterate 6 (intro u h; obtain rfl := Eq.symm (h (by simp)); clear h)
              refine relyEnd_nil rfl ?_
              refine wpList_end rfl ?_
              simp only [Act.put, List.setIfInBounds_toArray, List.set_cons_zero, List.set_cons_succ]
              go_simp
              cases hq : decide ((List.length l : Int) < need)
              · have HE := Lib.hid (checkI_ok HB.out HOL.out hq)
                clear hq
                go_wp2
                go_ret
                exact ⟨_, rfl, NewT.trans _ _ _ HN.out kb, by rw [HEQ.out, HE.out]; rfl⟩
              · have HE := Lib.hid (checkI_few (sg := sg) HB.out hq)
                clear hq
                go_wp2
                go_ret
                exact ⟨_, rfl, NewT.trans _ _ _ HN.out kb, by rw [HEQ.out, HE.out]; rfl⟩
end Go.Proofs.YtcfogkimjbgjgaaDoor
/- Keys, checkpoints and marks that are made: what is built, new slices of marks and appends onto them; a checkpoint in memory whose marks turn. -/
namespace Go.Proofs.YtcfogkimjbgjgaaDoor
open Go Go.RowKit
set_option maxRecDepth 8000
set_option linter.all false
/-- A hash that begins with b, with zeros behind. -/
def oneH (b : UInt8) : Hs := fun i => bif Nat.blt i 1 then b else 0
/-- A value that is keys. -/
def svKeys (ps ws : List Hs) (need : Int) : SV NewT := ⟨fun v w => KeysV w v ps ws need, fun _ _ _ h hT => hT.keysV h⟩
/-- A slice of marks in a row from block B on. -/
def RdSB (B : Nat) (w : World) (v : Value) (l : List (Int × Hs)) : Prop := RdS w v l ∧ ∀ k, v.ownBlock = some k → B ≤ k
theorem RdSB.rt {B g : Nat} {w w' : World} {v : Value} {l : List (Int × Hs)} (h : RdSB B w v l) (hg : g < B) (hT : RT g w w') : RdSB B w' v l := by
  obtain ⟨⟨A, cap, hv, h1, h2, h3⟩, hb⟩ := h
  refine ⟨⟨A, cap, hv, h1, h2, fun h0 => ?_⟩, hb⟩
  obtain ⟨b, o, hA, hc⟩ := h3 h0
  have : B ≤ b := hb b (by rw [hv, hA]; rfl)
  exact ⟨b, o, hA, fun i x hx j hj => hT.keep.cell (by simp; omega) (hc i x hx j hj)⟩
theorem RdSB.new {B : Nat} {w w' : World} {v : Value} {l : List (Int × Hs)} (h : RdSB B w v l) (hT : NewT w w') : RdSB B w' v l := ⟨hT.sigs h.1, h.2⟩
/-- Marks in a new row, with no room behind them. -/
def svGB (B : Nat) (l : List (Int × Hs)) : SV NewT := ⟨fun v w => (∃ A, v = .slice A l.length l.length) ∧ RdSB B w v l, fun _ _ _ h hT => ⟨h.1, h.2.new hT⟩⟩
theorem svGB.f {B : Nat} {l : List (Int × Hs)} {v : Value} {w : World} (h : (svGB B l).pred v w) : (svGF l).pred v w := ⟨h.1, h.2.1⟩
/-- Marks in a new row. -/
def svGN (B : Nat) (l : List (Int × Hs)) : SV NewT := ⟨fun v w => RdSB B w v l, fun _ _ _ h hT => h.new hT⟩
/-- Hashes lie apart from a row that has no bytes. -/
theorem RdH.apart {w w' : World} {v : Value} {l : List Hs} {g n : Nat} {t : TypeId} {F : Nat → Value} (h : RdH w v l) (hr : w.rowIs g t n F) (hF : ∀ i z, F i ≠ .int .u8 z) (hT : RT g w w') : RdH w' v l := by
  obtain ⟨A, cap, hv, h1, h2, h3⟩ := h
  refine ⟨A, cap, hv, h1, h2, fun h0 => ?_⟩
  obtain ⟨b, o, hA, hc⟩ := h3 h0
  have hb : b ≠ g := by
    rintro rfl
    have hd := hc 0 _ (List.getElem?_eq_getElem h0) 0 (by omega)
    obtain ⟨c, hg, hs, hx⟩ := hr
    unfold World.cell? at hd
    simp only [hg, Option.isSome_none, Bool.false_eq_true, if_false] at hd
    have hlt : o + 0 * 32 + 0 < n := by rw [← hs]; exact (Array.getElem?_eq_some_iff.1 hd).1
    rw [hx _ hlt] at hd
    injection hd with hd
    exact hF _ _ hd
  exact ⟨b, o, hA, fun i d hd j hj => hT.keep.cell (by simpa using hb) (hc i d hd j hj)⟩
theorem keyF_no (A1 A2 : Option Addr) (n1 c1 n2 c2 : Nat) (n : Int) (i : Nat) (z : Int) : keyF (.slice A1 n1 c1) (.slice A2 n2 c2) n i ≠ .int .u8 z := by
  unfold keyF; split; simp; split <;> simp
theorem info_ssl1 : (Tryd.prog.info? 38).map (·.size) = some 1 := by kernel_rfl
theorem ptF_sigs (size : Int) (root : Hs) (sv v : Value) (i : Nat) (h : i < 34) : ptF size root v i = if i = 33 then v else ptF size root sv i := by
  unfold ptF
  by_cases h0 : i = 0
  · subst h0; rfl
  · by_cases h3 : i < 33
    · rw [if_neg h0, if_pos h3, if_neg (by omega)]
      rw [if_neg h0, if_pos h3]
    · obtain rfl : i = 33 := by omega
      rfl
theorem run_alloc_ky (w : World) : (Instr.alloc 24 true (.tuple #[])).run Tryd.prog w = .ok (.pointer (some ⟨w.heap.size, 0, none⟩)) (w.alloc (.cells (rowA 3 (keyF (.slice none 0 0) (.slice none 0 0) 0)) 24)) := by kernel_rfl
theorem run_alloc_pt (w : World) : (Instr.alloc 40 true (.tuple #[])).run Tryd.prog w = .ok (.pointer (some ⟨w.heap.size, 0, none⟩)) (w.alloc (.cells (rowA 34 (ptF 0 z32 (.slice none 0 0))) 40)) := by kernel_rfl
theorem run_bld_one (b : UInt8) (w : World) : (Instr.build 26 #[(0, .int .u8 (bN b))]).run Tryd.prog w = .ok (.agg (rowA 32 (bF (oneH b)))) w := by kernel_rfl
theorem run_bld_ky (A1 A2 : Option Addr) (n1 c1 n2 c2 : Nat) (n : Int) (w : World) : (Instr.build 24 #[(0, .slice A1 n1 c1), (1, .slice A2 n2 c2), (2, .int .i64 n)]).run Tryd.prog w = .ok (.agg (rowA 3 (keyF (.slice A1 n1 c1) (.slice A2 n2 c2) n))) w := by kernel_rfl
theorem run_bld_pt (n : Int) (d : Hs) (w : World) : (Instr.build 40 #[(0, .int .i64 n), (1, .agg (rowA 32 (bF d)))]).run Tryd.prog w = .ok (.agg (rowA 34 (ptF n d (.slice none 0 0)))) w := by kernel_rfl
theorem run_bld_sg (n : Int) (d : Hs) (w : World) : (Instr.build 49 #[(0, .int .i64 n), (1, .agg (rowA 32 (bF d)))]).run Tryd.prog w = .ok (.agg (rowA 33 (sigF (n, d)))) w := by kernel_rfl
theorem run_bld_sg0 (n : Int) (w : World) : (Instr.build 49 #[(0, .int .i64 n)]).run Tryd.prog w = .ok (.agg (rowA 33 (sigF (n, z32)))) w := by kernel_rfl
theorem run_bsH3 (d e f : Hs) (w : World) : (Instr.buildSlice 22 3 #[(0, .agg (rowA 32 (bF d))), (1, .agg (rowA 32 (bF e))), (2, .agg (rowA 32 (bF f)))]).run Tryd.prog w = .ok (.slice (some ⟨w.heap.size, 0, none⟩) 3 3) (w.alloc (.cells (rowA 96 fun i => bif Nat.blt i 32 then bF d i else bif Nat.blt i 64 then bF e (i - 32) else bF f (i - 64)) 26)) := by kernel_rfl
section
variable {a : Act} {w : World} {o : Oper} {K : Act → World → Prop} {Q : Exit → Act → World → Prop} {x y z : Operand}
theorem opr_bsH3 {d e f : Hs} (ho : o.op = .buildSlice 22 3 #[(0, x), (1, y), (2, z)]) (hx : a.eval x = .agg (rowA 32 (bF d))) (hy : a.eval y = .agg (rowA 32 (bF e))) (hz : a.eval z = .agg (rowA 32 (bF f))) (h : ∀ v w', NewT w w' → RdH w' v [d, e, f] → K (a.put o.dst v) w') : o.wp Tryd.prog a w K Q := by
  obtain ⟨dst, op, type, pos, after, guard⟩ := o
  simp only at ho
  subst ho
  refine opr_val (s := Instr.buildSlice 22 3 #[(0, a.eval x), (1, a.eval y), (2, a.eval z)]) (by simp [execOp]) (by rw [hx, hy, hz]; exact run_bsH3 d e f w) (h _ _ (NewT.alloc _ _) ?_)
  refine rdH_row (l := [d, e, f]) (rowIs_box w 26 96 _) (by simp) (by simp [maxLen]) fun i g he j hj => ?_
  have hi : i < 3 := (List.getElem?_eq_some_iff.1 he).1
  have b : ∀ n m : Nat, n < m → Nat.blt n m = true := fun n m h => by rw [Nat.blt_eq]; exact h
  have b' : ∀ n m : Nat, m ≤ n → Nat.blt n m = false := fun n m h => by rw [← Bool.not_eq_true, Nat.blt_eq]; omega
  have hi' : i = 0 ∨ i = 1 ∨ i = 2 := by omega
  rcases hi' with rfl | rfl | rfl
  · simp at he; subst he
    rw [b (0 * 32 + j) 32 (by omega), show 0 * 32 + j = j by omega]; rfl
  · simp at he; subst he
    rw [b' (1 * 32 + j) 32 (by omega), b (1 * 32 + j) 64 (by omega), show 1 * 32 + j - 32 = j by omega]; rfl
  · simp at he; subst he
    rw [b' (2 * 32 + j) 32 (by omega), b' (2 * 32 + j) 64 (by omega), show 2 * 32 + j - 64 = j by omega]; rfl
theorem opr_bldY {ps ws : List Hs} {n : Int} (ho : o.op = .build 24 #[(0, x), (1, y), (2, .const (.int .i64 n))]) (hx : RdH w (a.eval x) ps) (hy : RdH w (a.eval y) ws) (h : ∀ v, (svKeys ps ws n).pred v w → K (a.put o.dst v) w) : o.wp Tryd.prog a w K Q := by
  obtain ⟨dst, op, type, pos, after, guard⟩ := o
  simp only at ho
  subst ho
  obtain ⟨A1, c1, h1⟩ := rdH_form hx
  obtain ⟨A2, c2, h2⟩ := rdH_form hy
  exact opr_val (s := Instr.build 24 #[(0, a.eval x), (1, a.eval y), (2, .int .i64 n)]) (by simp [execOp, eval_const]) (by rw [h1, h2]; exact run_bld_ky _ _ _ _ _ _ _ w) (h _ ⟨_, _, rfl, h1 ▸ hx, h2 ▸ hy⟩)
theorem opr_bldZ {n : Int} {d : Hs} (ho : o.op = .build 40 #[(0, x), (1, y)]) (hx : a.eval x = .int .i64 n) (hy : a.eval y = .agg (rowA 32 (bF d))) (h : K (a.put o.dst (.agg (rowA 34 (ptF n d (.slice none 0 0))))) w) : o.wp Tryd.prog a w K Q := by
  obtain ⟨dst, op, type, pos, after, guard⟩ := o
  simp only at ho
  subst ho
  exact opr_val (s := Instr.build 40 #[(0, a.eval x), (1, a.eval y)]) (by simp [execOp]) (by rw [hx, hy]; exact run_bld_pt n d w) h
theorem opr_bldX {n : Int} {d : Hs} (ho : o.op = .build 49 #[(0, x), (1, y)]) (hx : a.eval x = .int .i64 n) (hy : a.eval y = .agg (rowA 32 (bF d))) (h : K (a.put o.dst (.agg (rowA 33 (sigF (n, d))))) w) : o.wp Tryd.prog a w K Q := by
  obtain ⟨dst, op, type, pos, after, guard⟩ := o
  simp only at ho
  subst ho
  exact opr_val (s := Instr.build 49 #[(0, a.eval x), (1, a.eval y)]) (by simp [execOp]) (by rw [hx, hy]; exact run_bld_sg n d w) h
/-- New slices of one mark, of two. -/
theorem opr_bsG1F {B : Nat} {d : Int × Hs} (hB : B ≤ w.heap.size) (ho : o.op = .buildSlice 38 1 #[(0, x)]) (hx : a.eval x = .agg (rowA 33 (sigF d))) (h : ∀ v w', NewT w w' → (svGB B [d]).pred v w' → K (a.put o.dst v) w') : o.wp Tryd.prog a w K Q := by
  obtain ⟨dst, op, type, pos, after, guard⟩ := o
  simp only at ho
  subst ho
  exact opr_val (s := Instr.buildSlice 38 1 #[(0, a.eval x)]) (by simp [execOp]) (by rw [hx]; exact run_bsG1 d w) (h _ _ (NewT.alloc _ _) ⟨⟨_, rfl⟩, rdS_one w d, fun k hk => by simp [Value.ownBlock] at hk; omega⟩)
theorem opr_bsG2F {B : Nat} {d e : Int × Hs} (hB : B ≤ w.heap.size) (ho : o.op = .buildSlice 38 2 #[(0, x), (1, y)]) (hx : a.eval x = .agg (rowA 33 (sigF d))) (hy : a.eval y = .agg (rowA 33 (sigF e))) (h : ∀ v w', NewT w w' → (svGN B [d, e]).pred v w' → K (a.put o.dst v) w') : o.wp Tryd.prog a w K Q := by
  obtain ⟨dst, op, type, pos, after, guard⟩ := o
  simp only at ho
  subst ho
  refine opr_val (s := Instr.buildSlice 38 2 #[(0, a.eval x), (1, a.eval y)]) (by simp [execOp]) (by rw [hx, hy]; exact run_bsG2 d e w) (h _ _ (NewT.alloc _ _) ⟨?_, fun k hk => by simp [Value.ownBlock] at hk; omega⟩)
  refine rdS_row (l := [d, e]) (rowIs_box w 49 66 _) (by simp) (by simp [maxLen]) fun i f he j hj => ?_
  have hi : i < 2 := (List.getElem?_eq_some_iff.1 he).1
  have hi' : i = 0 ∨ i = 1 := by omega
  rcases hi' with rfl | rfl
  · simp at he; subst he
    have : Nat.blt (0 * 33 + j) 33 = true := by rw [Nat.blt_eq]; omega
    rw [this, show 0 * 33 + j = j by omega]; rfl
  · simp at he; subst he
    have : Nat.blt (1 * 33 + j) 33 = false := by
      cases hb : Nat.blt (1 * 33 + j) 33
      · rfl
      · rw [Nat.blt_eq] at hb; omega
    rw [this, show 1 * 33 + j - 33 = j by omega]; rfl
/-- Marks put behind such as have no room behind them. -/
theorem opr_appGF {B : Nat} {l m : List (Int × Hs)} (hB : B ≤ w.heap.size) (hm : 0 < m.length) (hn : l.length + m.length ≤ 1000000) (ho : o.op = .call { callee := .builtin .append, args := #[x, y], argTypes := #[38, 38] }) (hx : (svGF l).pred (a.eval x) w) (hy : RdS w (a.eval y) m) (h : ∀ v w', NewT w w' → (svGN B (l ++ m)).pred v w' → K (a.put o.dst v) w') : o.wp Tryd.prog a w K Q := by
  obtain ⟨v', w', hrun, hN, hr, hb⟩ := run_appGF hx hy hm hn o.type
  exact opr_append ho rfl rfl hrun (h v' w' hN ⟨hr, fun k hk => Nat.le_trans hB (hb k hk)⟩)
end
end Go.Proofs.YtcfogkimjbgjgaaDoor
