/- Package rec: only. -/
import Derived.Test.YtilmeffmdgcblaaDoorMd
import Derived.Test.YtilmeffmdgcblaaDoorMa
import Derived.Test.YtilmeffmdgcblaaDoorProg
import Derived.StillTactics
import Derived.Deep.RegionHeld3
import Derived.Deep.RegionWith
import Derived.Deep.DeepCutAuto
import Derived.Maps.AppendAt
import Derived.Deep.AppendLies
import Derived.Test.YtilmeffmdgcblaaDoorMb
import Derived.KernelRfl
import Derived.Laws.CopyOwn
set_option linter.all false
namespace Go.Proofs.YtilmeffmdgcblaaDoor
open Go Go.RowKit
set_option maxRecDepth 8000
set_option linter.all false
set_option maxHeartbeats 8000000 in
theorem only_cv (v : Value) (x : Rc) (w : World) (h : RecV w v x) : Cv 31 #[v] w (svRec (onlyR x)) := by
  obtain ⟨sv, dv, rfl, hs, hd⟩ := h
  unfold Cv
  have oneS := oneP hs
  have oneD := oneR hd
  go_enter Tryd.func31, Tryd.ntmps31
  go_upto_region 1 with fail
  have r1 := (rowIs_box w 32 109 (recF x sv dv)).alloc (.cells (rowA 109 (recF zR (.slice none 0 0) (.slice none 0 0))) 32)
  have r2 := rowIs_box (w.alloc (.cells (rowA 109 (recF x sv dv)) 32)) 32 109 (recF zR (.slice none 0 0) (.slice none 0 0))
  have hN : NewT w ((w.alloc (.cells (rowA 109 (recF x sv dv)) 32)).alloc (.cells (rowA 109 (recF zR (.slice none 0 0) (.slice none 0 0))) 32)) := NewT.trans _ _ _ (NewT.alloc _ _) (NewT.alloc _ _)
  rw [World.size_alloc] at r2
  change Code.wp _ _ _ _ ((w.alloc (.cells (rowA 109 (recF x sv dv)) 32)).alloc (.cells (rowA 109 (recF zR (.slice none 0 0) (.slice none 0 0))) 32))
  generalize hW0 : (w.alloc (.cells (rowA 109 (recF x sv dv)) 32)).alloc (.cells (rowA 109 (recF zR (.slice none 0 0) (.slice none 0 0))) 32) = W0 at r1 r2 hN ⊢
  have R1 := Lib.hid r1
  have hsz : W0.heap.size = w.heap.size + 2 := by rw [← hW0]; simp
  clear hW0
  refine wp_region_steps0 NewT [SV.eq (.pointer (some ⟨w.heap.size, 0, none⟩)), SV.eq (.int .i64 (x.kind)), SV.eq (.agg (rowA 109 (recF ({ zR with kind := x.kind }) (.slice none 0 0) (.slice none 0 0))))] [([(1, none)], none), ([(4, some 0)], none), ([(5, some 1)], none)] 83 3 rfl rfl (by kernel_rfl) NewT.trans (NewT.refl _) (Nat.le_of_ble_eq_true rfl) ⟨?_, ?_, ?_, trivial⟩ ?_
  · exact fun a wx hT hF K hK => rely_wp rfl (opr_fldR (by decide) rfl hF.1 (hK _ _ (NewT.refl _) rfl))
  · exact fun a wx hT hF K hK => rely_wp rfl (opr_ldI (hT.row R1.out) (by decide) rfl rfl hF.1 (hK _ _ (NewT.refl _) rfl))
  · intro a wx hT hF K hK
    obtain ⟨f5, _⟩ := hF
    have f5 : a.tmps.getD 5 undef = .int .i64 (x.kind) := f5
    refine rely_wp rfl ?_
    exact opr_build rfl (by simp only [List.map_toArray, List.map_cons, List.map_nil, eval_tmp, f5]) (build_kind x.kind wx) (hK _ _ (NewT.refl _) rfl)
  · intro wa ha
    iterate 3 (intro u h; obtain rfl := Eq.symm (h (by simp)); clear h)
    refine relyEnd_nil rfl ?_
    simp only [Act.put, List.setIfInBounds_toArray, List.set_cons_zero, List.set_cons_succ]
    refine wpList_new (n := 109) rfl rfl rfl rfl rfl rfl (by simp) run_alloc_rec info_rec (recF_one _ _ _ rfl rfl) rfl ?_
    intro w1 hn1 r3
    refine wpList_end rfl ?_
    simp only [Act.put, List.setIfInBounds_toArray, List.set_cons_zero, List.set_cons_succ]
    go_simp
    have X1 := Lib.hid (hn1.row (ha.row r1))
    have X2 := Lib.hid (hn1.row (ha.row r2))
    have HN := Lib.hid (NewT.trans _ _ _ hN (NewT.trans _ _ _ ha hn1))
    have hR : w.heap.size + 2 ≤ wa.heap.size := by have := ha.out.size; omega
    have hRl : wa.heap.size < w1.heap.size := r3.lt
    have X3 := Lib.hid r3
    clear R1 r1 r2 r3 hN ha hn1 hsz
    generalize wa.heap.size = R at X3 hR hRl ⊢
    have hne1 : w.heap.size ≠ R := by omega
    have hne2 : w.heap.size + 1 ≠ R := by omega
    have c0 : w1.cell? ⟨w.heap.size, 0, none⟩ = some (.int .i64 x.kind) := X1.out.cell (by omega)
    by_cases hk : x.kind = 1
    · rw [hk] at c0
      go_upto_region 9 with fail
      clear c0
      refine wp_region_relyP (RT R) (fun k w => w.rowIs R 32 109 ((fun k => ([recF ({ zR with kind := x.kind }) (.slice none 0 0) (.slice none 0 0), recF ({ zR with kind := x.kind, saga := x.saga }) (.slice none 0 0) (.slice none 0 0)] : List (Nat → Value)).getD k (recF ({ zR with kind := x.kind, saga := x.saga }) (sv) (.slice none 0 0))) k)) [SV.eq (.pointer (some ⟨w.heap.size, 1, none⟩)), SV.eq (.int .i64 (x.saga)), SV.eq (.pointer (some ⟨w.heap.size, 42, none⟩)), SV.eq (sv), SV.eq (.pointer (some ⟨w.heap.size, 76, none⟩)), SV.eq (.bool (x.gone)), SV.eq (.pointer (some ⟨R, 1, none⟩)), SV.any, SV.eq (.pointer (some ⟨R, 42, none⟩)), SV.any, SV.eq (.pointer (some ⟨R, 76, none⟩))] [([(1, none)], none), ([(20, some 0)], none), ([(1, none)], none), ([(22, some 2)], none), ([(1, none)], none), ([(24, some 4)], none), ([(3, none)], none), ([(26, some 6), (21, some 1)], none), ([(3, none)], none), ([(27, some 8), (23, some 3)], none), ([(3, none)], none)] [none, none, none, none, none, none, none, some 0, none, some 1, none] [7, 9] 83 rfl (by kernel_rfl) rfl (by kernel_rfl) (by kernel_rfl) rfl (by kernel_rfl) RT.trans (RT.drew _ _) ((NewT.drew _).row X3.out) (Nat.le_of_ble_eq_true rfl) ⟨?_, ?_, ?_, ?_, ?_, ?_, ?_, ?_, ?_, ?_, ?_, trivial⟩ ?_
      · exact fun a wx hT hF K hK => have hK := fun v w' (hN : NewT wx w') hv => hK v w' (RT.new (Nat.lt_of_lt_of_le hRl hT.size) hN) (fun k h => hN.row h) hv; rely_wp rfl (opr_fldR (by decide) rfl hF.1 (hK _ _ (NewT.refl _) rfl))
      · exact fun a wx hT hF K hK => have hK := fun v w' (hN : NewT wx w') hv => hK v w' (RT.new (Nat.lt_of_lt_of_le hRl hT.size) hN) (fun k h => hN.row h) hv; rely_wp rfl (opr_ldI (hT.row hne1 X1.out) (by decide) rfl rfl hF.1 (hK _ _ (NewT.refl _) rfl))
      · exact fun a wx hT hF K hK => have hK := fun v w' (hN : NewT wx w') hv => hK v w' (RT.new (Nat.lt_of_lt_of_le hRl hT.size) hN) (fun k h => hN.row h) hv; rely_wp rfl (opr_fldR (by decide) rfl hF.1 (hK _ _ (NewT.refl _) rfl))
      · exact fun a wx hT hF K hK => have hK := fun v w' (hN : NewT wx w') hv => hK v w' (RT.new (Nat.lt_of_lt_of_le hRl hT.size) hN) (fun k h => hN.row h) hv; rely_wp rfl (opr_ldS (hT.row hne1 X1.out) (by decide) rfl rfl hF.1 (hK _ _ (NewT.refl _) rfl))
      · exact fun a wx hT hF K hK => have hK := fun v w' (hN : NewT wx w') hv => hK v w' (RT.new (Nat.lt_of_lt_of_le hRl hT.size) hN) (fun k h => hN.row h) hv; rely_wp rfl (opr_fldR (by decide) rfl hF.1 (hK _ _ (NewT.refl _) rfl))
      · exact fun a wx hT hF K hK => have hK := fun v w' (hN : NewT wx w') hv => hK v w' (RT.new (Nat.lt_of_lt_of_le hRl hT.size) hN) (fun k h => hN.row h) hv; rely_wp rfl (opr_ldQ (hT.row hne1 X1.out) (by decide) rfl rfl hF.1 (hK _ _ (NewT.refl _) rfl))
      · exact fun a wx hT hF K hK => have hK := fun v w' (hN : NewT wx w') hv => hK v w' (RT.new (Nat.lt_of_lt_of_le hRl hT.size) hN) (fun k h => hN.row h) hv; rely_wp rfl (opr_fldR (by decide) rfl hF.1 (hK _ _ (NewT.refl _) rfl))
      · intro a wx hT hF hJ K hK
        obtain ⟨f26, f21, _⟩ := hF
        have f26 : a.tmps.getD 26 undef = .pointer (some ⟨R, 1, none⟩) := f26
        have f21 : a.tmps.getD 21 undef = .int .i64 (x.saga) := f21
        refine rely_wp rfl ?_
        refine opr_put1 rfl f26 f21 (show wx.rowIs R 32 109 (recF ({ zR with kind := x.kind }) (.slice none 0 0) (.slice none 0 0)) from hJ) (by decide) info_i1 rfl (fun i _ => rs_saga ({ zR with kind := x.kind }) (.slice none 0 0) (.slice none 0 0) i _) ?_
        intro w' hT' hr'
        exact hK _ _ hT' hr' trivial
      · exact fun a wx hT hF K hK => have hK := fun v w' (hN : NewT wx w') hv => hK v w' (RT.new (Nat.lt_of_lt_of_le hRl hT.size) hN) (fun k h => hN.row h) hv; rely_wp rfl (opr_fldR (by decide) rfl hF.1 (hK _ _ (NewT.refl _) rfl))
      · intro a wx hT hF hJ K hK
        obtain ⟨f27, f23, _⟩ := hF
        have f27 : a.tmps.getD 27 undef = .pointer (some ⟨R, 42, none⟩) := f27
        have f23 : a.tmps.getD 23 undef = sv := f23
        refine rely_wp rfl ?_
        refine opr_put1 rfl f27 f23 (show wx.rowIs R 32 109 (recF ({ zR with kind := x.kind, saga := x.saga }) (.slice none 0 0) (.slice none 0 0)) from hJ) (by decide) info_s1 oneS (fun i _ => rs_steps ({ zR with kind := x.kind, saga := x.saga }) (.slice none 0 0) (.slice none 0 0) i _) ?_
        intro w' hT' hr'
        exact hK _ _ hT' hr' trivial
      · exact fun a wx hT hF K hK => have hK := fun v w' (hN : NewT wx w') hv => hK v w' (RT.new (Nat.lt_of_lt_of_le hRl hT.size) hN) (fun k h => hN.row h) hv; rely_wp rfl (opr_fldR (by decide) rfl hF.1 (hK _ _ (NewT.refl _) rfl))
      · intro e1 h1 hJ
        iterate 7 (intro u h; obtain rfl := Eq.symm (h (by simp)); clear h)
        intro _ _
        intro u h; obtain rfl := Eq.symm (h (by simp)); clear h
        intro _ _
        intro u h; obtain rfl := Eq.symm (h (by simp)); clear h
        refine relyEnd_nil rfl ?_
        simp only [Act.put, List.setIfInBounds_toArray, List.set_cons_zero, List.set_cons_succ]
        refine opr_put1 rfl rfl rfl (show e1.rowIs R 32 109 (recF ({ zR with kind := x.kind, saga := x.saga }) (sv) (.slice none 0 0)) from hJ) (by decide) info_b1 rfl (fun i _ => rs_gone ({ zR with kind := x.kind, saga := x.saga }) (sv) (.slice none 0 0) i _) ?_
        intro e1s hT' hr'
        clear hJ
        go_simp
        have hRT := RT.trans _ _ _ h1 hT'
        have hRl2 : R < e1s.heap.size := hr'.lt
        have c14 : e1s.cell? ⟨w.heap.size, 76, none⟩ = some (.bool x.gone) := (hRT.row hne1 X1.out).cell (i := 76) (by omega)
        cases hg : x.gone
        · have HO : Hid (onlyR x = { zR with kind := x.kind, saga := x.saga, gone := x.gone, salt := x.salt, steps := x.steps, data := x.data }) := Lib.hid (by unfold onlyR; simp only [hk, hg]; simp)
          rw [hg] at c14
          go_upto_region 12 with fail
          clear c14
          refine wp_region_relyP (RT R) (fun k w => w.rowIs R 32 109 ((fun k => ([recF ({ zR with kind := x.kind, saga := x.saga, gone := x.gone }) (sv) (.slice none 0 0)] : List (Nat → Value)).getD k (recF ({ zR with kind := x.kind, saga := x.saga, gone := x.gone }) (sv) (dv))) k)) [SV.eq (.pointer (some ⟨w.heap.size, 43, none⟩)), SV.eq (dv), SV.eq (.pointer (some ⟨w.heap.size, 44, none⟩)), SV.eq (.agg (rowA 32 (bF (x.salt)))), SV.eq (.pointer (some ⟨R, 43, none⟩)), SV.any, SV.eq (.pointer (some ⟨R, 44, none⟩))] [([(1, none)], none), ([(34, some 0)], none), ([(1, none)], none), ([(36, some 2)], none), ([(3, none)], none), ([(38, some 4), (35, some 1)], none), ([(3, none)], none)] [none, none, none, none, none, some 0, none] [5] 83 rfl (by kernel_rfl) rfl (by kernel_rfl) (by kernel_rfl) rfl (by kernel_rfl) RT.trans (RT.drew _ _) ((NewT.drew _).row hr') (Nat.le_of_ble_eq_true rfl) ⟨?_, ?_, ?_, ?_, ?_, ?_, ?_, trivial⟩ ?_
          · exact fun a wx hT hF K hK => have hK := fun v w' (hN : NewT wx w') hv => hK v w' (RT.new (Nat.lt_of_lt_of_le hRl2 hT.size) hN) (fun k h => hN.row h) hv; rely_wp rfl (opr_fldR (by decide) rfl hF.1 (hK _ _ (NewT.refl _) rfl))
          · exact fun a wx hT hF K hK => have hK := fun v w' (hN : NewT wx w') hv => hK v w' (RT.new (Nat.lt_of_lt_of_le hRl2 hT.size) hN) (fun k h => hN.row h) hv; rely_wp rfl (opr_ldB (hT.row hne1 (hRT.row hne1 X1.out)) (by decide) rfl rfl hF.1 (hK _ _ (NewT.refl _) rfl))
          · exact fun a wx hT hF K hK => have hK := fun v w' (hN : NewT wx w') hv => hK v w' (RT.new (Nat.lt_of_lt_of_le hRl2 hT.size) hN) (fun k h => hN.row h) hv; rely_wp rfl (opr_fldR (by decide) rfl hF.1 (hK _ _ (NewT.refl _) rfl))
          · exact fun a wx hT hF K hK => have hK := fun v w' (hN : NewT wx w') hv => hK v w' (RT.new (Nat.lt_of_lt_of_le hRl2 hT.size) hN) (fun k h => hN.row h) hv; rely_wp rfl (opr_ldH (hT.row hne1 (hRT.row hne1 X1.out)) (by decide) (recF_salt x _ _) rfl hF.1 (hK _ _ (NewT.refl _) rfl))
          · exact fun a wx hT hF K hK => have hK := fun v w' (hN : NewT wx w') hv => hK v w' (RT.new (Nat.lt_of_lt_of_le hRl2 hT.size) hN) (fun k h => hN.row h) hv; rely_wp rfl (opr_fldR (by decide) rfl hF.1 (hK _ _ (NewT.refl _) rfl))
          · intro a wx hT hF hJ K hK
            obtain ⟨f38, f35, _⟩ := hF
            have f38 : a.tmps.getD 38 undef = .pointer (some ⟨R, 43, none⟩) := f38
            have f35 : a.tmps.getD 35 undef = dv := f35
            refine rely_wp rfl ?_
            refine opr_put1 rfl f38 f35 (show wx.rowIs R 32 109 (recF ({ zR with kind := x.kind, saga := x.saga, gone := x.gone }) (sv) (.slice none 0 0)) from hJ) (by decide) info_d1 oneD (fun i _ => rs_data ({ zR with kind := x.kind, saga := x.saga, gone := x.gone }) (sv) (.slice none 0 0) i _) ?_
            intro w' hT' hr'
            exact hK _ _ hT' hr' trivial
          · exact fun a wx hT hF K hK => have hK := fun v w' (hN : NewT wx w') hv => hK v w' (RT.new (Nat.lt_of_lt_of_le hRl2 hT.size) hN) (fun k h => hN.row h) hv; rely_wp rfl (opr_fldR (by decide) rfl hF.1 (hK _ _ (NewT.refl _) rfl))
          · intro eb hb hJ
            iterate 5 (intro u h; obtain rfl := Eq.symm (h (by simp)); clear h)
            intro _ _
            intro u h; obtain rfl := Eq.symm (h (by simp)); clear h
            refine relyEnd_nil rfl ?_
            simp only [Act.put, List.setIfInBounds_toArray, List.set_cons_zero, List.set_cons_succ]
            refine opr_putm rfl rfl rfl (show eb.rowIs R 32 109 (recF ({ zR with kind := x.kind, saga := x.saga, gone := x.gone }) (sv) (dv)) from hJ) (by decide) info31 (fun _ => rfl) (fun i hi => rs_salt ({ zR with kind := x.kind, saga := x.saga, gone := x.gone }) (sv) (dv) i _ hi) ?_
            intro ebs hT2 hr2
            clear hJ
            go_simp
            have hRT2 := RT.trans _ _ _ hRT (RT.trans _ _ _ hb hT2)
            go_upto_region 17 with fail
            refine wp_region_steps0 NewT [SV.eq (.agg (rowA 109 (recF ({ zR with kind := x.kind, saga := x.saga, gone := x.gone, salt := x.salt }) (sv) (dv))))] [([(3, none)], none)] 83 1 rfl rfl (by kernel_rfl) NewT.trans (NewT.refl _) (Nat.le_of_ble_eq_true rfl) ⟨?_, trivial⟩ ?_
            · exact fun a wx hT hF K hK => rely_wp rfl (opr_ldR (hT.row hr2) rfl hF.1 (hK _ _ (NewT.refl _) rfl))
            · intro wf hf
              intro u h; obtain rfl := Eq.symm (h (by simp)); clear h
              refine relyEnd_nil rfl ?_
              simp only [Act.put, List.setIfInBounds_toArray, List.set_cons_zero, List.set_cons_succ]
              refine wpList_plain rfl (fun K hK => ?_)
              refine opr_putm rfl rfl rfl (hf.row (hRT2.row hne2 X2.out)) (by decide) info_rec (recF_one _ _ _ oneS oneD) (put_all _ _) ?_
              intro wq hTq rq
              refine hK _ _ ?_
              refine wpList_end rfl ?_
              go_simp
              go_wp2
              have hNq : NewT w wq := (NewT.trans _ _ _ (HN.out.rt hRT2 (by omega)) hf).rt hTq (by omega)
              refine bodyPost_ret (results_agg rfl _ rfl rq Tryd.underlying32 rfl info_rec) rfl ⟨_, rfl, hNq, ?_⟩
              rw [HO.out]
              exact ⟨sv, dv, rfl, hNq.pairs hs, hNq.rd hd⟩
        · have HO : Hid (onlyR x = { zR with kind := x.kind, saga := x.saga, gone := x.gone, com := x.com, steps := x.steps }) := Lib.hid (by unfold onlyR; simp only [hk, hg]; simp)
          rw [hg] at c14
          go_upto_region 11 with fail
          clear c14
          refine wp_region_steps0 NewT [SV.eq (.pointer (some ⟨w.heap.size, 77, none⟩)), SV.eq (.agg (rowA 32 (bF (x.com)))), SV.eq (.pointer (some ⟨R, 77, none⟩))] [([(1, none)], none), ([(31, some 0)], none), ([(3, none)], none)] 83 3 rfl rfl (by kernel_rfl) NewT.trans (NewT.refl _) (Nat.le_of_ble_eq_true rfl) ⟨?_, ?_, ?_, trivial⟩ ?_
          · exact fun a wx hT hF K hK => rely_wp rfl (opr_fldR (by decide) rfl hF.1 (hK _ _ (NewT.refl _) rfl))
          · exact fun a wx hT hF K hK => rely_wp rfl (opr_ldH (hT.row (hRT.row hne1 X1.out)) (by decide) (recF_com x _ _) rfl hF.1 (hK _ _ (NewT.refl _) rfl))
          · exact fun a wx hT hF K hK => rely_wp rfl (opr_fldR (by decide) rfl hF.1 (hK _ _ (NewT.refl _) rfl))
          · intro eb hb
            iterate 3 (intro u h; obtain rfl := Eq.symm (h (by simp)); clear h)
            refine relyEnd_nil rfl ?_
            simp only [Act.put, List.setIfInBounds_toArray, List.set_cons_zero, List.set_cons_succ]
            refine wpList_plain rfl (fun K hK => ?_)
            refine opr_putm rfl rfl rfl (hb.row hr') (by decide) info31 (fun _ => rfl) (fun i hi => rs_com ({ zR with kind := x.kind, saga := x.saga, gone := x.gone }) (sv) (.slice none 0 0) i _ hi) ?_
            intro ebs hT2 hr2
            refine hK _ _ ?_
            refine wpList_end rfl ?_
            go_simp
            have hRT2 := RT.trans _ _ _ hRT (RT.trans _ _ _ (RT.new hRl2 hb) hT2)
            go_upto_region 17 with fail
            refine wp_region_steps0 NewT [SV.eq (.agg (rowA 109 (recF ({ zR with kind := x.kind, saga := x.saga, gone := x.gone, com := x.com }) (sv) (.slice none 0 0))))] [([(3, none)], none)] 83 1 rfl rfl (by kernel_rfl) NewT.trans (NewT.refl _) (Nat.le_of_ble_eq_true rfl) ⟨?_, trivial⟩ ?_
            · exact fun a wx hT hF K hK => rely_wp rfl (opr_ldR (hT.row hr2) rfl hF.1 (hK _ _ (NewT.refl _) rfl))
            · intro wf hf
              intro u h; obtain rfl := Eq.symm (h (by simp)); clear h
              refine relyEnd_nil rfl ?_
              simp only [Act.put, List.setIfInBounds_toArray, List.set_cons_zero, List.set_cons_succ]
              refine wpList_plain rfl (fun K hK => ?_)
              refine opr_putm rfl rfl rfl (hf.row (hRT2.row hne2 X2.out)) (by decide) info_rec (recF_one _ _ _ oneS rfl) (put_all _ _) ?_
              intro wq hTq rq
              refine hK _ _ ?_
              refine wpList_end rfl ?_
              go_simp
              go_wp2
              have hNq : NewT w wq := (NewT.trans _ _ _ (HN.out.rt hRT2 (by omega)) hf).rt hTq (by omega)
              refine bodyPost_ret (results_agg rfl _ rfl rq Tryd.underlying32 rfl info_rec) rfl ⟨_, rfl, hNq, ?_⟩
              rw [HO.out]
              exact ⟨sv, .slice none 0 0, rfl, hNq.pairs hs, rdV_nil _ _⟩
    have k1 := hk
    clear hk
    by_cases hk : x.kind = 3
    · have HO : Hid (onlyR x = { zR with kind := x.kind, good := x.good, part := x.part, epoch := x.epoch, tag := x.tag, saga := x.saga, seq := x.seq, step := x.step, tr := x.tr, back := x.back }) := Lib.hid (by unfold onlyR; simp only [hk]; simp)
      rw [hk] at c0
      go_upto_region 13 with fail
      clear c0
      refine wp_region_relyP (RT R) (fun k w => w.rowIs R 32 109 ((fun k => ([recF ({ zR with kind := x.kind }) (.slice none 0 0) (.slice none 0 0), recF ({ zR with kind := x.kind, good := x.good }) (.slice none 0 0) (.slice none 0 0), recF ({ zR with kind := x.kind, good := x.good, part := x.part }) (.slice none 0 0) (.slice none 0 0)] : List (Nat → Value)).getD k (recF ({ zR with kind := x.kind, good := x.good, part := x.part, epoch := x.epoch }) (.slice none 0 0) (.slice none 0 0))) k)) [SV.eq (.pointer (some ⟨w.heap.size, 6, none⟩)), SV.eq (.bool (x.good)), SV.eq (.pointer (some ⟨w.heap.size, 8, none⟩)), SV.eq (.int .i64 (x.part)), SV.eq (.pointer (some ⟨w.heap.size, 9, none⟩)), SV.eq (.int .i64 (x.epoch)), SV.eq (.pointer (some ⟨w.heap.size, 10, none⟩)), SV.eq (.agg (rowA 32 (bF (x.tag)))), SV.eq (.pointer (some ⟨R, 6, none⟩)), SV.any, SV.eq (.pointer (some ⟨R, 8, none⟩)), SV.any, SV.eq (.pointer (some ⟨R, 9, none⟩)), SV.any, SV.eq (.pointer (some ⟨R, 10, none⟩))] [([(1, none)], none), ([(40, some 0)], none), ([(1, none)], none), ([(42, some 2)], none), ([(1, none)], none), ([(44, some 4)], none), ([(1, none)], none), ([(46, some 6)], none), ([(3, none)], none), ([(48, some 8), (41, some 1)], none), ([(3, none)], none), ([(49, some 10), (43, some 3)], none), ([(3, none)], none), ([(50, some 12), (45, some 5)], none), ([(3, none)], none)] [none, none, none, none, none, none, none, none, none, some 0, none, some 1, none, some 2, none] [9, 11, 13] 83 rfl (by kernel_rfl) rfl (by kernel_rfl) (by kernel_rfl) rfl (by kernel_rfl) RT.trans (RT.drew _ _) ((NewT.drew _).row X3.out) (Nat.le_of_ble_eq_true rfl) ⟨?_, ?_, ?_, ?_, ?_, ?_, ?_, ?_, ?_, ?_, ?_, ?_, ?_, ?_, ?_, trivial⟩ ?_
      · exact fun a wx hT hF K hK => have hK := fun v w' (hN : NewT wx w') hv => hK v w' (RT.new (Nat.lt_of_lt_of_le hRl hT.size) hN) (fun k h => hN.row h) hv; rely_wp rfl (opr_fldR (by decide) rfl hF.1 (hK _ _ (NewT.refl _) rfl))
      · exact fun a wx hT hF K hK => have hK := fun v w' (hN : NewT wx w') hv => hK v w' (RT.new (Nat.lt_of_lt_of_le hRl hT.size) hN) (fun k h => hN.row h) hv; rely_wp rfl (opr_ldQ (hT.row hne1 X1.out) (by decide) rfl rfl hF.1 (hK _ _ (NewT.refl _) rfl))
      · exact fun a wx hT hF K hK => have hK := fun v w' (hN : NewT wx w') hv => hK v w' (RT.new (Nat.lt_of_lt_of_le hRl hT.size) hN) (fun k h => hN.row h) hv; rely_wp rfl (opr_fldR (by decide) rfl hF.1 (hK _ _ (NewT.refl _) rfl))
      · exact fun a wx hT hF K hK => have hK := fun v w' (hN : NewT wx w') hv => hK v w' (RT.new (Nat.lt_of_lt_of_le hRl hT.size) hN) (fun k h => hN.row h) hv; rely_wp rfl (opr_ldI (hT.row hne1 X1.out) (by decide) rfl rfl hF.1 (hK _ _ (NewT.refl _) rfl))
      · exact fun a wx hT hF K hK => have hK := fun v w' (hN : NewT wx w') hv => hK v w' (RT.new (Nat.lt_of_lt_of_le hRl hT.size) hN) (fun k h => hN.row h) hv; rely_wp rfl (opr_fldR (by decide) rfl hF.1 (hK _ _ (NewT.refl _) rfl))
      · exact fun a wx hT hF K hK => have hK := fun v w' (hN : NewT wx w') hv => hK v w' (RT.new (Nat.lt_of_lt_of_le hRl hT.size) hN) (fun k h => hN.row h) hv; rely_wp rfl (opr_ldI (hT.row hne1 X1.out) (by decide) rfl rfl hF.1 (hK _ _ (NewT.refl _) rfl))
      · exact fun a wx hT hF K hK => have hK := fun v w' (hN : NewT wx w') hv => hK v w' (RT.new (Nat.lt_of_lt_of_le hRl hT.size) hN) (fun k h => hN.row h) hv; rely_wp rfl (opr_fldR (by decide) rfl hF.1 (hK _ _ (NewT.refl _) rfl))
      · exact fun a wx hT hF K hK => have hK := fun v w' (hN : NewT wx w') hv => hK v w' (RT.new (Nat.lt_of_lt_of_le hRl hT.size) hN) (fun k h => hN.row h) hv; rely_wp rfl (opr_ldH (hT.row hne1 X1.out) (by decide) (recF_tag x _ _) rfl hF.1 (hK _ _ (NewT.refl _) rfl))
      · exact fun a wx hT hF K hK => have hK := fun v w' (hN : NewT wx w') hv => hK v w' (RT.new (Nat.lt_of_lt_of_le hRl hT.size) hN) (fun k h => hN.row h) hv; rely_wp rfl (opr_fldR (by decide) rfl hF.1 (hK _ _ (NewT.refl _) rfl))
      · intro a wx hT hF hJ K hK
        obtain ⟨f48, f41, _⟩ := hF
        have f48 : a.tmps.getD 48 undef = .pointer (some ⟨R, 6, none⟩) := f48
        have f41 : a.tmps.getD 41 undef = .bool (x.good) := f41
        refine rely_wp rfl ?_
        refine opr_put1 rfl f48 f41 (show wx.rowIs R 32 109 (recF ({ zR with kind := x.kind }) (.slice none 0 0) (.slice none 0 0)) from hJ) (by decide) info_b1 rfl (fun i _ => rs_good ({ zR with kind := x.kind }) (.slice none 0 0) (.slice none 0 0) i _) ?_
        intro w' hT' hr'
        exact hK _ _ hT' hr' trivial
      · exact fun a wx hT hF K hK => have hK := fun v w' (hN : NewT wx w') hv => hK v w' (RT.new (Nat.lt_of_lt_of_le hRl hT.size) hN) (fun k h => hN.row h) hv; rely_wp rfl (opr_fldR (by decide) rfl hF.1 (hK _ _ (NewT.refl _) rfl))
      · intro a wx hT hF hJ K hK
        obtain ⟨f49, f43, _⟩ := hF
        have f49 : a.tmps.getD 49 undef = .pointer (some ⟨R, 8, none⟩) := f49
        have f43 : a.tmps.getD 43 undef = .int .i64 (x.part) := f43
        refine rely_wp rfl ?_
        refine opr_put1 rfl f49 f43 (show wx.rowIs R 32 109 (recF ({ zR with kind := x.kind, good := x.good }) (.slice none 0 0) (.slice none 0 0)) from hJ) (by decide) info_i1 rfl (fun i _ => rs_part ({ zR with kind := x.kind, good := x.good }) (.slice none 0 0) (.slice none 0 0) i _) ?_
        intro w' hT' hr'
        exact hK _ _ hT' hr' trivial
      · exact fun a wx hT hF K hK => have hK := fun v w' (hN : NewT wx w') hv => hK v w' (RT.new (Nat.lt_of_lt_of_le hRl hT.size) hN) (fun k h => hN.row h) hv; rely_wp rfl (opr_fldR (by decide) rfl hF.1 (hK _ _ (NewT.refl _) rfl))
      · intro a wx hT hF hJ K hK
        obtain ⟨f50, f45, _⟩ := hF
        have f50 : a.tmps.getD 50 undef = .pointer (some ⟨R, 9, none⟩) := f50
        have f45 : a.tmps.getD 45 undef = .int .i64 (x.epoch) := f45
        refine rely_wp rfl ?_
        refine opr_put1 rfl f50 f45 (show wx.rowIs R 32 109 (recF ({ zR with kind := x.kind, good := x.good, part := x.part }) (.slice none 0 0) (.slice none 0 0)) from hJ) (by decide) info_i1 rfl (fun i _ => rs_epoch ({ zR with kind := x.kind, good := x.good, part := x.part }) (.slice none 0 0) (.slice none 0 0) i _) ?_
        intro w' hT' hr'
        exact hK _ _ hT' hr' trivial
      · exact fun a wx hT hF K hK => have hK := fun v w' (hN : NewT wx w') hv => hK v w' (RT.new (Nat.lt_of_lt_of_le hRl hT.size) hN) (fun k h => hN.row h) hv; rely_wp rfl (opr_fldR (by decide) rfl hF.1 (hK _ _ (NewT.refl _) rfl))
      · intro e3 h3 hJ
        iterate 9 (intro u h; obtain rfl := Eq.symm (h (by simp)); clear h)
        intro _ _
        intro u h; obtain rfl := Eq.symm (h (by simp)); clear h
        intro _ _
        intro u h; obtain rfl := Eq.symm (h (by simp)); clear h
        intro _ _
        intro u h; obtain rfl := Eq.symm (h (by simp)); clear h
        refine relyEnd_nil rfl ?_
        simp only [Act.put, List.setIfInBounds_toArray, List.set_cons_zero, List.set_cons_succ]
        refine opr_putm rfl rfl rfl (show e3.rowIs R 32 109 (recF ({ zR with kind := x.kind, good := x.good, part := x.part, epoch := x.epoch }) (.slice none 0 0) (.slice none 0 0)) from hJ) (by decide) info31 (fun _ => rfl) (fun i hi => rs_tag ({ zR with kind := x.kind, good := x.good, part := x.part, epoch := x.epoch }) (.slice none 0 0) (.slice none 0 0) i _ hi) ?_
        intro e3s hT' hr'
        clear hJ
        go_simp
        have hRT := RT.trans _ _ _ h3 hT'
        have hRl2 : R < e3s.heap.size := hr'.lt
        go_upto_region 14 with fail
        refine wp_region_relyP (RT R) (fun k w => w.rowIs R 32 109 ((fun k => ([recF ({ zR with kind := x.kind, good := x.good, part := x.part, epoch := x.epoch, tag := x.tag }) (.slice none 0 0) (.slice none 0 0), recF ({ zR with kind := x.kind, good := x.good, part := x.part, epoch := x.epoch, tag := x.tag, saga := x.saga }) (.slice none 0 0) (.slice none 0 0), recF ({ zR with kind := x.kind, good := x.good, part := x.part, epoch := x.epoch, tag := x.tag, saga := x.saga, seq := x.seq }) (.slice none 0 0) (.slice none 0 0), recF ({ zR with kind := x.kind, good := x.good, part := x.part, epoch := x.epoch, tag := x.tag, saga := x.saga, seq := x.seq, step := x.step }) (.slice none 0 0) (.slice none 0 0)] : List (Nat → Value)).getD k (recF ({ zR with kind := x.kind, good := x.good, part := x.part, epoch := x.epoch, tag := x.tag, saga := x.saga, seq := x.seq, step := x.step, tr := x.tr }) (.slice none 0 0) (.slice none 0 0))) k)) [SV.eq (.pointer (some ⟨w.heap.size, 1, none⟩)), SV.eq (.int .i64 (x.saga)), SV.eq (.pointer (some ⟨w.heap.size, 2, none⟩)), SV.eq (.int .i64 (x.seq)), SV.eq (.pointer (some ⟨w.heap.size, 3, none⟩)), SV.eq (.int .i64 (x.step)), SV.eq (.pointer (some ⟨w.heap.size, 4, none⟩)), SV.eq (.int .i64 (x.tr)), SV.eq (.pointer (some ⟨w.heap.size, 5, none⟩)), SV.eq (.bool (x.back)), SV.eq (.pointer (some ⟨R, 1, none⟩)), SV.any, SV.eq (.pointer (some ⟨R, 2, none⟩)), SV.any, SV.eq (.pointer (some ⟨R, 3, none⟩)), SV.any, SV.eq (.pointer (some ⟨R, 4, none⟩)), SV.any, SV.eq (.pointer (some ⟨R, 5, none⟩))] [([(1, none)], none), ([(52, some 0)], none), ([(1, none)], none), ([(54, some 2)], none), ([(1, none)], none), ([(56, some 4)], none), ([(1, none)], none), ([(58, some 6)], none), ([(1, none)], none), ([(60, some 8)], none), ([(3, none)], none), ([(62, some 10), (53, some 1)], none), ([(3, none)], none), ([(63, some 12), (55, some 3)], none), ([(3, none)], none), ([(64, some 14), (57, some 5)], none), ([(3, none)], none), ([(65, some 16), (59, some 7)], none), ([(3, none)], none)] [none, none, none, none, none, none, none, none, none, none, none, some 0, none, some 1, none, some 2, none, some 3, none] [11, 13, 15, 17] 83 rfl (by kernel_rfl) rfl (by kernel_rfl) (by kernel_rfl) rfl (by kernel_rfl) RT.trans (RT.drew _ _) ((NewT.drew _).row hr') (Nat.le_of_ble_eq_true rfl) ⟨?_, ?_, ?_, ?_, ?_, ?_, ?_, ?_, ?_, ?_, ?_, ?_, ?_, ?_, ?_, ?_, ?_, ?_, ?_, trivial⟩ ?_
        · exact fun a wx hT hF K hK => have hK := fun v w' (hN : NewT wx w') hv => hK v w' (RT.new (Nat.lt_of_lt_of_le hRl2 hT.size) hN) (fun k h => hN.row h) hv; rely_wp rfl (opr_fldR (by decide) rfl hF.1 (hK _ _ (NewT.refl _) rfl))
        · exact fun a wx hT hF K hK => have hK := fun v w' (hN : NewT wx w') hv => hK v w' (RT.new (Nat.lt_of_lt_of_le hRl2 hT.size) hN) (fun k h => hN.row h) hv; rely_wp rfl (opr_ldI (hT.row hne1 (hRT.row hne1 X1.out)) (by decide) rfl rfl hF.1 (hK _ _ (NewT.refl _) rfl))
        · exact fun a wx hT hF K hK => have hK := fun v w' (hN : NewT wx w') hv => hK v w' (RT.new (Nat.lt_of_lt_of_le hRl2 hT.size) hN) (fun k h => hN.row h) hv; rely_wp rfl (opr_fldR (by decide) rfl hF.1 (hK _ _ (NewT.refl _) rfl))
        · exact fun a wx hT hF K hK => have hK := fun v w' (hN : NewT wx w') hv => hK v w' (RT.new (Nat.lt_of_lt_of_le hRl2 hT.size) hN) (fun k h => hN.row h) hv; rely_wp rfl (opr_ldI (hT.row hne1 (hRT.row hne1 X1.out)) (by decide) rfl rfl hF.1 (hK _ _ (NewT.refl _) rfl))
        · exact fun a wx hT hF K hK => have hK := fun v w' (hN : NewT wx w') hv => hK v w' (RT.new (Nat.lt_of_lt_of_le hRl2 hT.size) hN) (fun k h => hN.row h) hv; rely_wp rfl (opr_fldR (by decide) rfl hF.1 (hK _ _ (NewT.refl _) rfl))
        · exact fun a wx hT hF K hK => have hK := fun v w' (hN : NewT wx w') hv => hK v w' (RT.new (Nat.lt_of_lt_of_le hRl2 hT.size) hN) (fun k h => hN.row h) hv; rely_wp rfl (opr_ldI (hT.row hne1 (hRT.row hne1 X1.out)) (by decide) rfl rfl hF.1 (hK _ _ (NewT.refl _) rfl))
        · exact fun a wx hT hF K hK => have hK := fun v w' (hN : NewT wx w') hv => hK v w' (RT.new (Nat.lt_of_lt_of_le hRl2 hT.size) hN) (fun k h => hN.row h) hv; rely_wp rfl (opr_fldR (by decide) rfl hF.1 (hK _ _ (NewT.refl _) rfl))
        · exact fun a wx hT hF K hK => have hK := fun v w' (hN : NewT wx w') hv => hK v w' (RT.new (Nat.lt_of_lt_of_le hRl2 hT.size) hN) (fun k h => hN.row h) hv; rely_wp rfl (opr_ldI (hT.row hne1 (hRT.row hne1 X1.out)) (by decide) rfl rfl hF.1 (hK _ _ (NewT.refl _) rfl))
        · exact fun a wx hT hF K hK => have hK := fun v w' (hN : NewT wx w') hv => hK v w' (RT.new (Nat.lt_of_lt_of_le hRl2 hT.size) hN) (fun k h => hN.row h) hv; rely_wp rfl (opr_fldR (by decide) rfl hF.1 (hK _ _ (NewT.refl _) rfl))
        · exact fun a wx hT hF K hK => have hK := fun v w' (hN : NewT wx w') hv => hK v w' (RT.new (Nat.lt_of_lt_of_le hRl2 hT.size) hN) (fun k h => hN.row h) hv; rely_wp rfl (opr_ldQ (hT.row hne1 (hRT.row hne1 X1.out)) (by decide) rfl rfl hF.1 (hK _ _ (NewT.refl _) rfl))
        · exact fun a wx hT hF K hK => have hK := fun v w' (hN : NewT wx w') hv => hK v w' (RT.new (Nat.lt_of_lt_of_le hRl2 hT.size) hN) (fun k h => hN.row h) hv; rely_wp rfl (opr_fldR (by decide) rfl hF.1 (hK _ _ (NewT.refl _) rfl))
        · intro a wx hT hF hJ K hK
          obtain ⟨f62, f53, _⟩ := hF
          have f62 : a.tmps.getD 62 undef = .pointer (some ⟨R, 1, none⟩) := f62
          have f53 : a.tmps.getD 53 undef = .int .i64 (x.saga) := f53
          refine rely_wp rfl ?_
          refine opr_put1 rfl f62 f53 (show wx.rowIs R 32 109 (recF ({ zR with kind := x.kind, good := x.good, part := x.part, epoch := x.epoch, tag := x.tag }) (.slice none 0 0) (.slice none 0 0)) from hJ) (by decide) info_i1 rfl (fun i _ => rs_saga ({ zR with kind := x.kind, good := x.good, part := x.part, epoch := x.epoch, tag := x.tag }) (.slice none 0 0) (.slice none 0 0) i _) ?_
          intro w' hT' hr'
          exact hK _ _ hT' hr' trivial
        · exact fun a wx hT hF K hK => have hK := fun v w' (hN : NewT wx w') hv => hK v w' (RT.new (Nat.lt_of_lt_of_le hRl2 hT.size) hN) (fun k h => hN.row h) hv; rely_wp rfl (opr_fldR (by decide) rfl hF.1 (hK _ _ (NewT.refl _) rfl))
        · intro a wx hT hF hJ K hK
          obtain ⟨f63, f55, _⟩ := hF
          have f63 : a.tmps.getD 63 undef = .pointer (some ⟨R, 2, none⟩) := f63
          have f55 : a.tmps.getD 55 undef = .int .i64 (x.seq) := f55
          refine rely_wp rfl ?_
          refine opr_put1 rfl f63 f55 (show wx.rowIs R 32 109 (recF ({ zR with kind := x.kind, good := x.good, part := x.part, epoch := x.epoch, tag := x.tag, saga := x.saga }) (.slice none 0 0) (.slice none 0 0)) from hJ) (by decide) info_i1 rfl (fun i _ => rs_seq ({ zR with kind := x.kind, good := x.good, part := x.part, epoch := x.epoch, tag := x.tag, saga := x.saga }) (.slice none 0 0) (.slice none 0 0) i _) ?_
          intro w' hT' hr'
          exact hK _ _ hT' hr' trivial
        · exact fun a wx hT hF K hK => have hK := fun v w' (hN : NewT wx w') hv => hK v w' (RT.new (Nat.lt_of_lt_of_le hRl2 hT.size) hN) (fun k h => hN.row h) hv; rely_wp rfl (opr_fldR (by decide) rfl hF.1 (hK _ _ (NewT.refl _) rfl))
        · intro a wx hT hF hJ K hK
          obtain ⟨f64, f57, _⟩ := hF
          have f64 : a.tmps.getD 64 undef = .pointer (some ⟨R, 3, none⟩) := f64
          have f57 : a.tmps.getD 57 undef = .int .i64 (x.step) := f57
          refine rely_wp rfl ?_
          refine opr_put1 rfl f64 f57 (show wx.rowIs R 32 109 (recF ({ zR with kind := x.kind, good := x.good, part := x.part, epoch := x.epoch, tag := x.tag, saga := x.saga, seq := x.seq }) (.slice none 0 0) (.slice none 0 0)) from hJ) (by decide) info_i1 rfl (fun i _ => rs_step ({ zR with kind := x.kind, good := x.good, part := x.part, epoch := x.epoch, tag := x.tag, saga := x.saga, seq := x.seq }) (.slice none 0 0) (.slice none 0 0) i _) ?_
          intro w' hT' hr'
          exact hK _ _ hT' hr' trivial
        · exact fun a wx hT hF K hK => have hK := fun v w' (hN : NewT wx w') hv => hK v w' (RT.new (Nat.lt_of_lt_of_le hRl2 hT.size) hN) (fun k h => hN.row h) hv; rely_wp rfl (opr_fldR (by decide) rfl hF.1 (hK _ _ (NewT.refl _) rfl))
        · intro a wx hT hF hJ K hK
          obtain ⟨f65, f59, _⟩ := hF
          have f65 : a.tmps.getD 65 undef = .pointer (some ⟨R, 4, none⟩) := f65
          have f59 : a.tmps.getD 59 undef = .int .i64 (x.tr) := f59
          refine rely_wp rfl ?_
          refine opr_put1 rfl f65 f59 (show wx.rowIs R 32 109 (recF ({ zR with kind := x.kind, good := x.good, part := x.part, epoch := x.epoch, tag := x.tag, saga := x.saga, seq := x.seq, step := x.step }) (.slice none 0 0) (.slice none 0 0)) from hJ) (by decide) info_i1 rfl (fun i _ => rs_tr ({ zR with kind := x.kind, good := x.good, part := x.part, epoch := x.epoch, tag := x.tag, saga := x.saga, seq := x.seq, step := x.step }) (.slice none 0 0) (.slice none 0 0) i _) ?_
          intro w' hT' hr'
          exact hK _ _ hT' hr' trivial
        · exact fun a wx hT hF K hK => have hK := fun v w' (hN : NewT wx w') hv => hK v w' (RT.new (Nat.lt_of_lt_of_le hRl2 hT.size) hN) (fun k h => hN.row h) hv; rely_wp rfl (opr_fldR (by decide) rfl hF.1 (hK _ _ (NewT.refl _) rfl))
        · intro eb hb hJ
          iterate 11 (intro u h; obtain rfl := Eq.symm (h (by simp)); clear h)
          intro _ _
          intro u h; obtain rfl := Eq.symm (h (by simp)); clear h
          intro _ _
          intro u h; obtain rfl := Eq.symm (h (by simp)); clear h
          intro _ _
          intro u h; obtain rfl := Eq.symm (h (by simp)); clear h
          intro _ _
          intro u h; obtain rfl := Eq.symm (h (by simp)); clear h
          refine relyEnd_nil rfl ?_
          simp only [Act.put, List.setIfInBounds_toArray, List.set_cons_zero, List.set_cons_succ]
          refine opr_put1 rfl rfl rfl (show eb.rowIs R 32 109 (recF ({ zR with kind := x.kind, good := x.good, part := x.part, epoch := x.epoch, tag := x.tag, saga := x.saga, seq := x.seq, step := x.step, tr := x.tr }) (.slice none 0 0) (.slice none 0 0)) from hJ) (by decide) info_b1 rfl (fun i _ => rs_back ({ zR with kind := x.kind, good := x.good, part := x.part, epoch := x.epoch, tag := x.tag, saga := x.saga, seq := x.seq, step := x.step, tr := x.tr }) (.slice none 0 0) (.slice none 0 0) i _) ?_
          intro ebs hT2 hr2
          clear hJ
          go_simp
          have hRT2 := RT.trans _ _ _ hRT (RT.trans _ _ _ hb hT2)
          go_upto_region 17 with fail
          refine wp_region_steps0 NewT [SV.eq (.agg (rowA 109 (recF ({ zR with kind := x.kind, good := x.good, part := x.part, epoch := x.epoch, tag := x.tag, saga := x.saga, seq := x.seq, step := x.step, tr := x.tr, back := x.back }) (.slice none 0 0) (.slice none 0 0))))] [([(3, none)], none)] 83 1 rfl rfl (by kernel_rfl) NewT.trans (NewT.refl _) (Nat.le_of_ble_eq_true rfl) ⟨?_, trivial⟩ ?_
          · exact fun a wx hT hF K hK => rely_wp rfl (opr_ldR (hT.row hr2) rfl hF.1 (hK _ _ (NewT.refl _) rfl))
          · intro wf hf
            intro u h; obtain rfl := Eq.symm (h (by simp)); clear h
            refine relyEnd_nil rfl ?_
            simp only [Act.put, List.setIfInBounds_toArray, List.set_cons_zero, List.set_cons_succ]
            refine wpList_plain rfl (fun K hK => ?_)
            refine opr_putm rfl rfl rfl (hf.row (hRT2.row hne2 X2.out)) (by decide) info_rec (recF_one _ _ _ rfl rfl) (put_all _ _) ?_
            intro wq hTq rq
            refine hK _ _ ?_
            refine wpList_end rfl ?_
            go_simp
            go_wp2
            have hNq : NewT w wq := (NewT.trans _ _ _ (HN.out.rt hRT2 (by omega)) hf).rt hTq (by omega)
            refine bodyPost_ret (results_agg rfl _ rfl rq Tryd.underlying32 rfl info_rec) rfl ⟨_, rfl, hNq, ?_⟩
            rw [HO.out]
            exact ⟨.slice none 0 0, .slice none 0 0, rfl, rdP_nil _, rdV_nil _ _⟩
    have k3 := hk
    clear hk
    by_cases hk : x.kind = 2
    · have HO : Hid (onlyR x = { zR with kind := x.kind, saga := x.saga, seq := x.seq, step := x.step, tr := x.tr, back := x.back }) := Lib.hid (by unfold onlyR; simp only [hk]; simp)
      rw [hk] at c0
      go_upto_region 14 with fail
      clear c0
      refine wp_region_relyP (RT R) (fun k w => w.rowIs R 32 109 ((fun k => ([recF ({ zR with kind := x.kind }) (.slice none 0 0) (.slice none 0 0), recF ({ zR with kind := x.kind, saga := x.saga }) (.slice none 0 0) (.slice none 0 0), recF ({ zR with kind := x.kind, saga := x.saga, seq := x.seq }) (.slice none 0 0) (.slice none 0 0), recF ({ zR with kind := x.kind, saga := x.saga, seq := x.seq, step := x.step }) (.slice none 0 0) (.slice none 0 0)] : List (Nat → Value)).getD k (recF ({ zR with kind := x.kind, saga := x.saga, seq := x.seq, step := x.step, tr := x.tr }) (.slice none 0 0) (.slice none 0 0))) k)) [SV.eq (.pointer (some ⟨w.heap.size, 1, none⟩)), SV.eq (.int .i64 (x.saga)), SV.eq (.pointer (some ⟨w.heap.size, 2, none⟩)), SV.eq (.int .i64 (x.seq)), SV.eq (.pointer (some ⟨w.heap.size, 3, none⟩)), SV.eq (.int .i64 (x.step)), SV.eq (.pointer (some ⟨w.heap.size, 4, none⟩)), SV.eq (.int .i64 (x.tr)), SV.eq (.pointer (some ⟨w.heap.size, 5, none⟩)), SV.eq (.bool (x.back)), SV.eq (.pointer (some ⟨R, 1, none⟩)), SV.any, SV.eq (.pointer (some ⟨R, 2, none⟩)), SV.any, SV.eq (.pointer (some ⟨R, 3, none⟩)), SV.any, SV.eq (.pointer (some ⟨R, 4, none⟩)), SV.any, SV.eq (.pointer (some ⟨R, 5, none⟩))] [([(1, none)], none), ([(52, some 0)], none), ([(1, none)], none), ([(54, some 2)], none), ([(1, none)], none), ([(56, some 4)], none), ([(1, none)], none), ([(58, some 6)], none), ([(1, none)], none), ([(60, some 8)], none), ([(3, none)], none), ([(62, some 10), (53, some 1)], none), ([(3, none)], none), ([(63, some 12), (55, some 3)], none), ([(3, none)], none), ([(64, some 14), (57, some 5)], none), ([(3, none)], none), ([(65, some 16), (59, some 7)], none), ([(3, none)], none)] [none, none, none, none, none, none, none, none, none, none, none, some 0, none, some 1, none, some 2, none, some 3, none] [11, 13, 15, 17] 83 rfl (by kernel_rfl) rfl (by kernel_rfl) (by kernel_rfl) rfl (by kernel_rfl) RT.trans (RT.drew _ _) ((NewT.drew _).row X3.out) (Nat.le_of_ble_eq_true rfl) ⟨?_, ?_, ?_, ?_, ?_, ?_, ?_, ?_, ?_, ?_, ?_, ?_, ?_, ?_, ?_, ?_, ?_, ?_, ?_, trivial⟩ ?_
      · exact fun a wx hT hF K hK => have hK := fun v w' (hN : NewT wx w') hv => hK v w' (RT.new (Nat.lt_of_lt_of_le hRl hT.size) hN) (fun k h => hN.row h) hv; rely_wp rfl (opr_fldR (by decide) rfl hF.1 (hK _ _ (NewT.refl _) rfl))
      · exact fun a wx hT hF K hK => have hK := fun v w' (hN : NewT wx w') hv => hK v w' (RT.new (Nat.lt_of_lt_of_le hRl hT.size) hN) (fun k h => hN.row h) hv; rely_wp rfl (opr_ldI (hT.row hne1 X1.out) (by decide) rfl rfl hF.1 (hK _ _ (NewT.refl _) rfl))
      · exact fun a wx hT hF K hK => have hK := fun v w' (hN : NewT wx w') hv => hK v w' (RT.new (Nat.lt_of_lt_of_le hRl hT.size) hN) (fun k h => hN.row h) hv; rely_wp rfl (opr_fldR (by decide) rfl hF.1 (hK _ _ (NewT.refl _) rfl))
      · exact fun a wx hT hF K hK => have hK := fun v w' (hN : NewT wx w') hv => hK v w' (RT.new (Nat.lt_of_lt_of_le hRl hT.size) hN) (fun k h => hN.row h) hv; rely_wp rfl (opr_ldI (hT.row hne1 X1.out) (by decide) rfl rfl hF.1 (hK _ _ (NewT.refl _) rfl))
      · exact fun a wx hT hF K hK => have hK := fun v w' (hN : NewT wx w') hv => hK v w' (RT.new (Nat.lt_of_lt_of_le hRl hT.size) hN) (fun k h => hN.row h) hv; rely_wp rfl (opr_fldR (by decide) rfl hF.1 (hK _ _ (NewT.refl _) rfl))
      · exact fun a wx hT hF K hK => have hK := fun v w' (hN : NewT wx w') hv => hK v w' (RT.new (Nat.lt_of_lt_of_le hRl hT.size) hN) (fun k h => hN.row h) hv; rely_wp rfl (opr_ldI (hT.row hne1 X1.out) (by decide) rfl rfl hF.1 (hK _ _ (NewT.refl _) rfl))
      · exact fun a wx hT hF K hK => have hK := fun v w' (hN : NewT wx w') hv => hK v w' (RT.new (Nat.lt_of_lt_of_le hRl hT.size) hN) (fun k h => hN.row h) hv; rely_wp rfl (opr_fldR (by decide) rfl hF.1 (hK _ _ (NewT.refl _) rfl))
      · exact fun a wx hT hF K hK => have hK := fun v w' (hN : NewT wx w') hv => hK v w' (RT.new (Nat.lt_of_lt_of_le hRl hT.size) hN) (fun k h => hN.row h) hv; rely_wp rfl (opr_ldI (hT.row hne1 X1.out) (by decide) rfl rfl hF.1 (hK _ _ (NewT.refl _) rfl))
      · exact fun a wx hT hF K hK => have hK := fun v w' (hN : NewT wx w') hv => hK v w' (RT.new (Nat.lt_of_lt_of_le hRl hT.size) hN) (fun k h => hN.row h) hv; rely_wp rfl (opr_fldR (by decide) rfl hF.1 (hK _ _ (NewT.refl _) rfl))
      · exact fun a wx hT hF K hK => have hK := fun v w' (hN : NewT wx w') hv => hK v w' (RT.new (Nat.lt_of_lt_of_le hRl hT.size) hN) (fun k h => hN.row h) hv; rely_wp rfl (opr_ldQ (hT.row hne1 X1.out) (by decide) rfl rfl hF.1 (hK _ _ (NewT.refl _) rfl))
      · exact fun a wx hT hF K hK => have hK := fun v w' (hN : NewT wx w') hv => hK v w' (RT.new (Nat.lt_of_lt_of_le hRl hT.size) hN) (fun k h => hN.row h) hv; rely_wp rfl (opr_fldR (by decide) rfl hF.1 (hK _ _ (NewT.refl _) rfl))
      · intro a wx hT hF hJ K hK
        obtain ⟨f62, f53, _⟩ := hF
        have f62 : a.tmps.getD 62 undef = .pointer (some ⟨R, 1, none⟩) := f62
        have f53 : a.tmps.getD 53 undef = .int .i64 (x.saga) := f53
        refine rely_wp rfl ?_
        refine opr_put1 rfl f62 f53 (show wx.rowIs R 32 109 (recF ({ zR with kind := x.kind }) (.slice none 0 0) (.slice none 0 0)) from hJ) (by decide) info_i1 rfl (fun i _ => rs_saga ({ zR with kind := x.kind }) (.slice none 0 0) (.slice none 0 0) i _) ?_
        intro w' hT' hr'
        exact hK _ _ hT' hr' trivial
      · exact fun a wx hT hF K hK => have hK := fun v w' (hN : NewT wx w') hv => hK v w' (RT.new (Nat.lt_of_lt_of_le hRl hT.size) hN) (fun k h => hN.row h) hv; rely_wp rfl (opr_fldR (by decide) rfl hF.1 (hK _ _ (NewT.refl _) rfl))
      · intro a wx hT hF hJ K hK
        obtain ⟨f63, f55, _⟩ := hF
        have f63 : a.tmps.getD 63 undef = .pointer (some ⟨R, 2, none⟩) := f63
        have f55 : a.tmps.getD 55 undef = .int .i64 (x.seq) := f55
        refine rely_wp rfl ?_
        refine opr_put1 rfl f63 f55 (show wx.rowIs R 32 109 (recF ({ zR with kind := x.kind, saga := x.saga }) (.slice none 0 0) (.slice none 0 0)) from hJ) (by decide) info_i1 rfl (fun i _ => rs_seq ({ zR with kind := x.kind, saga := x.saga }) (.slice none 0 0) (.slice none 0 0) i _) ?_
        intro w' hT' hr'
        exact hK _ _ hT' hr' trivial
      · exact fun a wx hT hF K hK => have hK := fun v w' (hN : NewT wx w') hv => hK v w' (RT.new (Nat.lt_of_lt_of_le hRl hT.size) hN) (fun k h => hN.row h) hv; rely_wp rfl (opr_fldR (by decide) rfl hF.1 (hK _ _ (NewT.refl _) rfl))
      · intro a wx hT hF hJ K hK
        obtain ⟨f64, f57, _⟩ := hF
        have f64 : a.tmps.getD 64 undef = .pointer (some ⟨R, 3, none⟩) := f64
        have f57 : a.tmps.getD 57 undef = .int .i64 (x.step) := f57
        refine rely_wp rfl ?_
        refine opr_put1 rfl f64 f57 (show wx.rowIs R 32 109 (recF ({ zR with kind := x.kind, saga := x.saga, seq := x.seq }) (.slice none 0 0) (.slice none 0 0)) from hJ) (by decide) info_i1 rfl (fun i _ => rs_step ({ zR with kind := x.kind, saga := x.saga, seq := x.seq }) (.slice none 0 0) (.slice none 0 0) i _) ?_
        intro w' hT' hr'
        exact hK _ _ hT' hr' trivial
      · exact fun a wx hT hF K hK => have hK := fun v w' (hN : NewT wx w') hv => hK v w' (RT.new (Nat.lt_of_lt_of_le hRl hT.size) hN) (fun k h => hN.row h) hv; rely_wp rfl (opr_fldR (by decide) rfl hF.1 (hK _ _ (NewT.refl _) rfl))
      · intro a wx hT hF hJ K hK
        obtain ⟨f65, f59, _⟩ := hF
        have f65 : a.tmps.getD 65 undef = .pointer (some ⟨R, 4, none⟩) := f65
        have f59 : a.tmps.getD 59 undef = .int .i64 (x.tr) := f59
        refine rely_wp rfl ?_
        refine opr_put1 rfl f65 f59 (show wx.rowIs R 32 109 (recF ({ zR with kind := x.kind, saga := x.saga, seq := x.seq, step := x.step }) (.slice none 0 0) (.slice none 0 0)) from hJ) (by decide) info_i1 rfl (fun i _ => rs_tr ({ zR with kind := x.kind, saga := x.saga, seq := x.seq, step := x.step }) (.slice none 0 0) (.slice none 0 0) i _) ?_
        intro w' hT' hr'
        exact hK _ _ hT' hr' trivial
      · exact fun a wx hT hF K hK => have hK := fun v w' (hN : NewT wx w') hv => hK v w' (RT.new (Nat.lt_of_lt_of_le hRl hT.size) hN) (fun k h => hN.row h) hv; rely_wp rfl (opr_fldR (by decide) rfl hF.1 (hK _ _ (NewT.refl _) rfl))
      · intro e2 h2 hJ
        iterate 11 (intro u h; obtain rfl := Eq.symm (h (by simp)); clear h)
        intro _ _
        intro u h; obtain rfl := Eq.symm (h (by simp)); clear h
        intro _ _
        intro u h; obtain rfl := Eq.symm (h (by simp)); clear h
        intro _ _
        intro u h; obtain rfl := Eq.symm (h (by simp)); clear h
        intro _ _
        intro u h; obtain rfl := Eq.symm (h (by simp)); clear h
        refine relyEnd_nil rfl ?_
        simp only [Act.put, List.setIfInBounds_toArray, List.set_cons_zero, List.set_cons_succ]
        refine opr_put1 rfl rfl rfl (show e2.rowIs R 32 109 (recF ({ zR with kind := x.kind, saga := x.saga, seq := x.seq, step := x.step, tr := x.tr }) (.slice none 0 0) (.slice none 0 0)) from hJ) (by decide) info_b1 rfl (fun i _ => rs_back ({ zR with kind := x.kind, saga := x.saga, seq := x.seq, step := x.step, tr := x.tr }) (.slice none 0 0) (.slice none 0 0) i _) ?_
        intro e2s hT' hr'
        clear hJ
        go_simp
        have hRT := RT.trans _ _ _ h2 hT'
        go_upto_region 17 with fail
        refine wp_region_steps0 NewT [SV.eq (.agg (rowA 109 (recF ({ zR with kind := x.kind, saga := x.saga, seq := x.seq, step := x.step, tr := x.tr, back := x.back }) (.slice none 0 0) (.slice none 0 0))))] [([(3, none)], none)] 83 1 rfl rfl (by kernel_rfl) NewT.trans (NewT.refl _) (Nat.le_of_ble_eq_true rfl) ⟨?_, trivial⟩ ?_
        · exact fun a wx hT hF K hK => rely_wp rfl (opr_ldR (hT.row hr') rfl hF.1 (hK _ _ (NewT.refl _) rfl))
        · intro wf hf
          intro u h; obtain rfl := Eq.symm (h (by simp)); clear h
          refine relyEnd_nil rfl ?_
          simp only [Act.put, List.setIfInBounds_toArray, List.set_cons_zero, List.set_cons_succ]
          refine wpList_plain rfl (fun K hK => ?_)
          refine opr_putm rfl rfl rfl (hf.row (hRT.row hne2 X2.out)) (by decide) info_rec (recF_one _ _ _ rfl rfl) (put_all _ _) ?_
          intro wq hTq rq
          refine hK _ _ ?_
          refine wpList_end rfl ?_
          go_simp
          go_wp2
          have hNq : NewT w wq := (NewT.trans _ _ _ (HN.out.rt hRT (by omega)) hf).rt hTq (by omega)
          refine bodyPost_ret (results_agg rfl _ rfl rq Tryd.underlying32 rfl info_rec) rfl ⟨_, rfl, hNq, ?_⟩
          rw [HO.out]
          exact ⟨.slice none 0 0, .slice none 0 0, rfl, rdP_nil _, rdV_nil _ _⟩
    have k2 := hk
    clear hk
    by_cases hk : x.kind = 4
    · have HO : Hid (onlyR x = { zR with kind := x.kind, saga := x.saga, seq := x.seq, step := x.step, tr := x.tr, back := x.back }) := Lib.hid (by unfold onlyR; simp only [hk]; simp)
      rw [hk] at c0
      go_upto_region 14 with fail
      clear c0
      refine wp_region_relyP (RT R) (fun k w => w.rowIs R 32 109 ((fun k => ([recF ({ zR with kind := x.kind }) (.slice none 0 0) (.slice none 0 0), recF ({ zR with kind := x.kind, saga := x.saga }) (.slice none 0 0) (.slice none 0 0), recF ({ zR with kind := x.kind, saga := x.saga, seq := x.seq }) (.slice none 0 0) (.slice none 0 0), recF ({ zR with kind := x.kind, saga := x.saga, seq := x.seq, step := x.step }) (.slice none 0 0) (.slice none 0 0)] : List (Nat → Value)).getD k (recF ({ zR with kind := x.kind, saga := x.saga, seq := x.seq, step := x.step, tr := x.tr }) (.slice none 0 0) (.slice none 0 0))) k)) [SV.eq (.pointer (some ⟨w.heap.size, 1, none⟩)), SV.eq (.int .i64 (x.saga)), SV.eq (.pointer (some ⟨w.heap.size, 2, none⟩)), SV.eq (.int .i64 (x.seq)), SV.eq (.pointer (some ⟨w.heap.size, 3, none⟩)), SV.eq (.int .i64 (x.step)), SV.eq (.pointer (some ⟨w.heap.size, 4, none⟩)), SV.eq (.int .i64 (x.tr)), SV.eq (.pointer (some ⟨w.heap.size, 5, none⟩)), SV.eq (.bool (x.back)), SV.eq (.pointer (some ⟨R, 1, none⟩)), SV.any, SV.eq (.pointer (some ⟨R, 2, none⟩)), SV.any, SV.eq (.pointer (some ⟨R, 3, none⟩)), SV.any, SV.eq (.pointer (some ⟨R, 4, none⟩)), SV.any, SV.eq (.pointer (some ⟨R, 5, none⟩))] [([(1, none)], none), ([(52, some 0)], none), ([(1, none)], none), ([(54, some 2)], none), ([(1, none)], none), ([(56, some 4)], none), ([(1, none)], none), ([(58, some 6)], none), ([(1, none)], none), ([(60, some 8)], none), ([(3, none)], none), ([(62, some 10), (53, some 1)], none), ([(3, none)], none), ([(63, some 12), (55, some 3)], none), ([(3, none)], none), ([(64, some 14), (57, some 5)], none), ([(3, none)], none), ([(65, some 16), (59, some 7)], none), ([(3, none)], none)] [none, none, none, none, none, none, none, none, none, none, none, some 0, none, some 1, none, some 2, none, some 3, none] [11, 13, 15, 17] 83 rfl (by kernel_rfl) rfl (by kernel_rfl) (by kernel_rfl) rfl (by kernel_rfl) RT.trans (RT.drew _ _) ((NewT.drew _).row X3.out) (Nat.le_of_ble_eq_true rfl) ⟨?_, ?_, ?_, ?_, ?_, ?_, ?_, ?_, ?_, ?_, ?_, ?_, ?_, ?_, ?_, ?_, ?_, ?_, ?_, trivial⟩ ?_
      · exact fun a wx hT hF K hK => have hK := fun v w' (hN : NewT wx w') hv => hK v w' (RT.new (Nat.lt_of_lt_of_le hRl hT.size) hN) (fun k h => hN.row h) hv; rely_wp rfl (opr_fldR (by decide) rfl hF.1 (hK _ _ (NewT.refl _) rfl))
      · exact fun a wx hT hF K hK => have hK := fun v w' (hN : NewT wx w') hv => hK v w' (RT.new (Nat.lt_of_lt_of_le hRl hT.size) hN) (fun k h => hN.row h) hv; rely_wp rfl (opr_ldI (hT.row hne1 X1.out) (by decide) rfl rfl hF.1 (hK _ _ (NewT.refl _) rfl))
      · exact fun a wx hT hF K hK => have hK := fun v w' (hN : NewT wx w') hv => hK v w' (RT.new (Nat.lt_of_lt_of_le hRl hT.size) hN) (fun k h => hN.row h) hv; rely_wp rfl (opr_fldR (by decide) rfl hF.1 (hK _ _ (NewT.refl _) rfl))
      · exact fun a wx hT hF K hK => have hK := fun v w' (hN : NewT wx w') hv => hK v w' (RT.new (Nat.lt_of_lt_of_le hRl hT.size) hN) (fun k h => hN.row h) hv; rely_wp rfl (opr_ldI (hT.row hne1 X1.out) (by decide) rfl rfl hF.1 (hK _ _ (NewT.refl _) rfl))
      · exact fun a wx hT hF K hK => have hK := fun v w' (hN : NewT wx w') hv => hK v w' (RT.new (Nat.lt_of_lt_of_le hRl hT.size) hN) (fun k h => hN.row h) hv; rely_wp rfl (opr_fldR (by decide) rfl hF.1 (hK _ _ (NewT.refl _) rfl))
      · exact fun a wx hT hF K hK => have hK := fun v w' (hN : NewT wx w') hv => hK v w' (RT.new (Nat.lt_of_lt_of_le hRl hT.size) hN) (fun k h => hN.row h) hv; rely_wp rfl (opr_ldI (hT.row hne1 X1.out) (by decide) rfl rfl hF.1 (hK _ _ (NewT.refl _) rfl))
      · exact fun a wx hT hF K hK => have hK := fun v w' (hN : NewT wx w') hv => hK v w' (RT.new (Nat.lt_of_lt_of_le hRl hT.size) hN) (fun k h => hN.row h) hv; rely_wp rfl (opr_fldR (by decide) rfl hF.1 (hK _ _ (NewT.refl _) rfl))
      · exact fun a wx hT hF K hK => have hK := fun v w' (hN : NewT wx w') hv => hK v w' (RT.new (Nat.lt_of_lt_of_le hRl hT.size) hN) (fun k h => hN.row h) hv; rely_wp rfl (opr_ldI (hT.row hne1 X1.out) (by decide) rfl rfl hF.1 (hK _ _ (NewT.refl _) rfl))
      · exact fun a wx hT hF K hK => have hK := fun v w' (hN : NewT wx w') hv => hK v w' (RT.new (Nat.lt_of_lt_of_le hRl hT.size) hN) (fun k h => hN.row h) hv; rely_wp rfl (opr_fldR (by decide) rfl hF.1 (hK _ _ (NewT.refl _) rfl))
      · exact fun a wx hT hF K hK => have hK := fun v w' (hN : NewT wx w') hv => hK v w' (RT.new (Nat.lt_of_lt_of_le hRl hT.size) hN) (fun k h => hN.row h) hv; rely_wp rfl (opr_ldQ (hT.row hne1 X1.out) (by decide) rfl rfl hF.1 (hK _ _ (NewT.refl _) rfl))
      · exact fun a wx hT hF K hK => have hK := fun v w' (hN : NewT wx w') hv => hK v w' (RT.new (Nat.lt_of_lt_of_le hRl hT.size) hN) (fun k h => hN.row h) hv; rely_wp rfl (opr_fldR (by decide) rfl hF.1 (hK _ _ (NewT.refl _) rfl))
      · intro a wx hT hF hJ K hK
        obtain ⟨f62, f53, _⟩ := hF
        have f62 : a.tmps.getD 62 undef = .pointer (some ⟨R, 1, none⟩) := f62
        have f53 : a.tmps.getD 53 undef = .int .i64 (x.saga) := f53
        refine rely_wp rfl ?_
        refine opr_put1 rfl f62 f53 (show wx.rowIs R 32 109 (recF ({ zR with kind := x.kind }) (.slice none 0 0) (.slice none 0 0)) from hJ) (by decide) info_i1 rfl (fun i _ => rs_saga ({ zR with kind := x.kind }) (.slice none 0 0) (.slice none 0 0) i _) ?_
        intro w' hT' hr'
        exact hK _ _ hT' hr' trivial
      · exact fun a wx hT hF K hK => have hK := fun v w' (hN : NewT wx w') hv => hK v w' (RT.new (Nat.lt_of_lt_of_le hRl hT.size) hN) (fun k h => hN.row h) hv; rely_wp rfl (opr_fldR (by decide) rfl hF.1 (hK _ _ (NewT.refl _) rfl))
      · intro a wx hT hF hJ K hK
        obtain ⟨f63, f55, _⟩ := hF
        have f63 : a.tmps.getD 63 undef = .pointer (some ⟨R, 2, none⟩) := f63
        have f55 : a.tmps.getD 55 undef = .int .i64 (x.seq) := f55
        refine rely_wp rfl ?_
        refine opr_put1 rfl f63 f55 (show wx.rowIs R 32 109 (recF ({ zR with kind := x.kind, saga := x.saga }) (.slice none 0 0) (.slice none 0 0)) from hJ) (by decide) info_i1 rfl (fun i _ => rs_seq ({ zR with kind := x.kind, saga := x.saga }) (.slice none 0 0) (.slice none 0 0) i _) ?_
        intro w' hT' hr'
        exact hK _ _ hT' hr' trivial
      · exact fun a wx hT hF K hK => have hK := fun v w' (hN : NewT wx w') hv => hK v w' (RT.new (Nat.lt_of_lt_of_le hRl hT.size) hN) (fun k h => hN.row h) hv; rely_wp rfl (opr_fldR (by decide) rfl hF.1 (hK _ _ (NewT.refl _) rfl))
      · intro a wx hT hF hJ K hK
        obtain ⟨f64, f57, _⟩ := hF
        have f64 : a.tmps.getD 64 undef = .pointer (some ⟨R, 3, none⟩) := f64
        have f57 : a.tmps.getD 57 undef = .int .i64 (x.step) := f57
        refine rely_wp rfl ?_
        refine opr_put1 rfl f64 f57 (show wx.rowIs R 32 109 (recF ({ zR with kind := x.kind, saga := x.saga, seq := x.seq }) (.slice none 0 0) (.slice none 0 0)) from hJ) (by decide) info_i1 rfl (fun i _ => rs_step ({ zR with kind := x.kind, saga := x.saga, seq := x.seq }) (.slice none 0 0) (.slice none 0 0) i _) ?_
        intro w' hT' hr'
        exact hK _ _ hT' hr' trivial
      · exact fun a wx hT hF K hK => have hK := fun v w' (hN : NewT wx w') hv => hK v w' (RT.new (Nat.lt_of_lt_of_le hRl hT.size) hN) (fun k h => hN.row h) hv; rely_wp rfl (opr_fldR (by decide) rfl hF.1 (hK _ _ (NewT.refl _) rfl))
      · intro a wx hT hF hJ K hK
        obtain ⟨f65, f59, _⟩ := hF
        have f65 : a.tmps.getD 65 undef = .pointer (some ⟨R, 4, none⟩) := f65
        have f59 : a.tmps.getD 59 undef = .int .i64 (x.tr) := f59
        refine rely_wp rfl ?_
        refine opr_put1 rfl f65 f59 (show wx.rowIs R 32 109 (recF ({ zR with kind := x.kind, saga := x.saga, seq := x.seq, step := x.step }) (.slice none 0 0) (.slice none 0 0)) from hJ) (by decide) info_i1 rfl (fun i _ => rs_tr ({ zR with kind := x.kind, saga := x.saga, seq := x.seq, step := x.step }) (.slice none 0 0) (.slice none 0 0) i _) ?_
        intro w' hT' hr'
        exact hK _ _ hT' hr' trivial
      · exact fun a wx hT hF K hK => have hK := fun v w' (hN : NewT wx w') hv => hK v w' (RT.new (Nat.lt_of_lt_of_le hRl hT.size) hN) (fun k h => hN.row h) hv; rely_wp rfl (opr_fldR (by decide) rfl hF.1 (hK _ _ (NewT.refl _) rfl))
      · intro e4 h4 hJ
        iterate 11 (intro u h; obtain rfl := Eq.symm (h (by simp)); clear h)
        intro _ _
        intro u h; obtain rfl := Eq.symm (h (by simp)); clear h
        intro _ _
        intro u h; obtain rfl := Eq.symm (h (by simp)); clear h
        intro _ _
        intro u h; obtain rfl := Eq.symm (h (by simp)); clear h
        intro _ _
        intro u h; obtain rfl := Eq.symm (h (by simp)); clear h
        refine relyEnd_nil rfl ?_
        simp only [Act.put, List.setIfInBounds_toArray, List.set_cons_zero, List.set_cons_succ]
        refine opr_put1 rfl rfl rfl (show e4.rowIs R 32 109 (recF ({ zR with kind := x.kind, saga := x.saga, seq := x.seq, step := x.step, tr := x.tr }) (.slice none 0 0) (.slice none 0 0)) from hJ) (by decide) info_b1 rfl (fun i _ => rs_back ({ zR with kind := x.kind, saga := x.saga, seq := x.seq, step := x.step, tr := x.tr }) (.slice none 0 0) (.slice none 0 0) i _) ?_
        intro e4s hT' hr'
        clear hJ
        go_simp
        have hRT := RT.trans _ _ _ h4 hT'
        go_upto_region 17 with fail
        refine wp_region_steps0 NewT [SV.eq (.agg (rowA 109 (recF ({ zR with kind := x.kind, saga := x.saga, seq := x.seq, step := x.step, tr := x.tr, back := x.back }) (.slice none 0 0) (.slice none 0 0))))] [([(3, none)], none)] 83 1 rfl rfl (by kernel_rfl) NewT.trans (NewT.refl _) (Nat.le_of_ble_eq_true rfl) ⟨?_, trivial⟩ ?_
        · exact fun a wx hT hF K hK => rely_wp rfl (opr_ldR (hT.row hr') rfl hF.1 (hK _ _ (NewT.refl _) rfl))
        · intro wf hf
          intro u h; obtain rfl := Eq.symm (h (by simp)); clear h
          refine relyEnd_nil rfl ?_
          simp only [Act.put, List.setIfInBounds_toArray, List.set_cons_zero, List.set_cons_succ]
          refine wpList_plain rfl (fun K hK => ?_)
          refine opr_putm rfl rfl rfl (hf.row (hRT.row hne2 X2.out)) (by decide) info_rec (recF_one _ _ _ rfl rfl) (put_all _ _) ?_
          intro wq hTq rq
          refine hK _ _ ?_
          refine wpList_end rfl ?_
          go_simp
          go_wp2
          have hNq : NewT w wq := (NewT.trans _ _ _ (HN.out.rt hRT (by omega)) hf).rt hTq (by omega)
          refine bodyPost_ret (results_agg rfl _ rfl rq Tryd.underlying32 rfl info_rec) rfl ⟨_, rfl, hNq, ?_⟩
          rw [HO.out]
          exact ⟨.slice none 0 0, .slice none 0 0, rfl, rdP_nil _, rdV_nil _ _⟩
    have k4 := hk
    clear hk
    by_cases hk : x.kind = 5
    · have HO : Hid (onlyR x = { zR with kind := x.kind, saga := x.saga, seq := x.seq, nd := x.nd }) := Lib.hid (by unfold onlyR; simp only [hk]; simp)
      rw [hk] at c0
      go_upto_region 15 with fail
      clear c0
      refine wp_region_relyP (RT R) (fun k w => w.rowIs R 32 109 ((fun k => ([recF ({ zR with kind := x.kind }) (.slice none 0 0) (.slice none 0 0), recF ({ zR with kind := x.kind, saga := x.saga }) (.slice none 0 0) (.slice none 0 0)] : List (Nat → Value)).getD k (recF ({ zR with kind := x.kind, saga := x.saga, seq := x.seq }) (.slice none 0 0) (.slice none 0 0))) k)) [SV.eq (.pointer (some ⟨w.heap.size, 1, none⟩)), SV.eq (.int .i64 (x.saga)), SV.eq (.pointer (some ⟨w.heap.size, 2, none⟩)), SV.eq (.int .i64 (x.seq)), SV.eq (.pointer (some ⟨w.heap.size, 7, none⟩)), SV.eq (.int .i64 (x.nd)), SV.eq (.pointer (some ⟨R, 1, none⟩)), SV.any, SV.eq (.pointer (some ⟨R, 2, none⟩)), SV.any, SV.eq (.pointer (some ⟨R, 7, none⟩))] [([(1, none)], none), ([(67, some 0)], none), ([(1, none)], none), ([(69, some 2)], none), ([(1, none)], none), ([(71, some 4)], none), ([(3, none)], none), ([(73, some 6), (68, some 1)], none), ([(3, none)], none), ([(74, some 8), (70, some 3)], none), ([(3, none)], none)] [none, none, none, none, none, none, none, some 0, none, some 1, none] [7, 9] 83 rfl (by kernel_rfl) rfl (by kernel_rfl) (by kernel_rfl) rfl (by kernel_rfl) RT.trans (RT.drew _ _) ((NewT.drew _).row X3.out) (Nat.le_of_ble_eq_true rfl) ⟨?_, ?_, ?_, ?_, ?_, ?_, ?_, ?_, ?_, ?_, ?_, trivial⟩ ?_
      · exact fun a wx hT hF K hK => have hK := fun v w' (hN : NewT wx w') hv => hK v w' (RT.new (Nat.lt_of_lt_of_le hRl hT.size) hN) (fun k h => hN.row h) hv; rely_wp rfl (opr_fldR (by decide) rfl hF.1 (hK _ _ (NewT.refl _) rfl))
      · exact fun a wx hT hF K hK => have hK := fun v w' (hN : NewT wx w') hv => hK v w' (RT.new (Nat.lt_of_lt_of_le hRl hT.size) hN) (fun k h => hN.row h) hv; rely_wp rfl (opr_ldI (hT.row hne1 X1.out) (by decide) rfl rfl hF.1 (hK _ _ (NewT.refl _) rfl))
      · exact fun a wx hT hF K hK => have hK := fun v w' (hN : NewT wx w') hv => hK v w' (RT.new (Nat.lt_of_lt_of_le hRl hT.size) hN) (fun k h => hN.row h) hv; rely_wp rfl (opr_fldR (by decide) rfl hF.1 (hK _ _ (NewT.refl _) rfl))
      · exact fun a wx hT hF K hK => have hK := fun v w' (hN : NewT wx w') hv => hK v w' (RT.new (Nat.lt_of_lt_of_le hRl hT.size) hN) (fun k h => hN.row h) hv; rely_wp rfl (opr_ldI (hT.row hne1 X1.out) (by decide) rfl rfl hF.1 (hK _ _ (NewT.refl _) rfl))
      · exact fun a wx hT hF K hK => have hK := fun v w' (hN : NewT wx w') hv => hK v w' (RT.new (Nat.lt_of_lt_of_le hRl hT.size) hN) (fun k h => hN.row h) hv; rely_wp rfl (opr_fldR (by decide) rfl hF.1 (hK _ _ (NewT.refl _) rfl))
      · exact fun a wx hT hF K hK => have hK := fun v w' (hN : NewT wx w') hv => hK v w' (RT.new (Nat.lt_of_lt_of_le hRl hT.size) hN) (fun k h => hN.row h) hv; rely_wp rfl (opr_ldI (hT.row hne1 X1.out) (by decide) rfl rfl hF.1 (hK _ _ (NewT.refl _) rfl))
      · exact fun a wx hT hF K hK => have hK := fun v w' (hN : NewT wx w') hv => hK v w' (RT.new (Nat.lt_of_lt_of_le hRl hT.size) hN) (fun k h => hN.row h) hv; rely_wp rfl (opr_fldR (by decide) rfl hF.1 (hK _ _ (NewT.refl _) rfl))
      · intro a wx hT hF hJ K hK
        obtain ⟨f73, f68, _⟩ := hF
        have f73 : a.tmps.getD 73 undef = .pointer (some ⟨R, 1, none⟩) := f73
        have f68 : a.tmps.getD 68 undef = .int .i64 (x.saga) := f68
        refine rely_wp rfl ?_
        refine opr_put1 rfl f73 f68 (show wx.rowIs R 32 109 (recF ({ zR with kind := x.kind }) (.slice none 0 0) (.slice none 0 0)) from hJ) (by decide) info_i1 rfl (fun i _ => rs_saga ({ zR with kind := x.kind }) (.slice none 0 0) (.slice none 0 0) i _) ?_
        intro w' hT' hr'
        exact hK _ _ hT' hr' trivial
      · exact fun a wx hT hF K hK => have hK := fun v w' (hN : NewT wx w') hv => hK v w' (RT.new (Nat.lt_of_lt_of_le hRl hT.size) hN) (fun k h => hN.row h) hv; rely_wp rfl (opr_fldR (by decide) rfl hF.1 (hK _ _ (NewT.refl _) rfl))
      · intro a wx hT hF hJ K hK
        obtain ⟨f74, f70, _⟩ := hF
        have f74 : a.tmps.getD 74 undef = .pointer (some ⟨R, 2, none⟩) := f74
        have f70 : a.tmps.getD 70 undef = .int .i64 (x.seq) := f70
        refine rely_wp rfl ?_
        refine opr_put1 rfl f74 f70 (show wx.rowIs R 32 109 (recF ({ zR with kind := x.kind, saga := x.saga }) (.slice none 0 0) (.slice none 0 0)) from hJ) (by decide) info_i1 rfl (fun i _ => rs_seq ({ zR with kind := x.kind, saga := x.saga }) (.slice none 0 0) (.slice none 0 0) i _) ?_
        intro w' hT' hr'
        exact hK _ _ hT' hr' trivial
      · exact fun a wx hT hF K hK => have hK := fun v w' (hN : NewT wx w') hv => hK v w' (RT.new (Nat.lt_of_lt_of_le hRl hT.size) hN) (fun k h => hN.row h) hv; rely_wp rfl (opr_fldR (by decide) rfl hF.1 (hK _ _ (NewT.refl _) rfl))
      · intro e5 h5 hJ
        iterate 7 (intro u h; obtain rfl := Eq.symm (h (by simp)); clear h)
        intro _ _
        intro u h; obtain rfl := Eq.symm (h (by simp)); clear h
        intro _ _
        intro u h; obtain rfl := Eq.symm (h (by simp)); clear h
        refine relyEnd_nil rfl ?_
        simp only [Act.put, List.setIfInBounds_toArray, List.set_cons_zero, List.set_cons_succ]
        refine opr_put1 rfl rfl rfl (show e5.rowIs R 32 109 (recF ({ zR with kind := x.kind, saga := x.saga, seq := x.seq }) (.slice none 0 0) (.slice none 0 0)) from hJ) (by decide) info_i1 rfl (fun i _ => rs_nd ({ zR with kind := x.kind, saga := x.saga, seq := x.seq }) (.slice none 0 0) (.slice none 0 0) i _) ?_
        intro e5s hT' hr'
        clear hJ
        go_simp
        have hRT := RT.trans _ _ _ h5 hT'
        go_upto_region 17 with fail
        refine wp_region_steps0 NewT [SV.eq (.agg (rowA 109 (recF ({ zR with kind := x.kind, saga := x.saga, seq := x.seq, nd := x.nd }) (.slice none 0 0) (.slice none 0 0))))] [([(3, none)], none)] 83 1 rfl rfl (by kernel_rfl) NewT.trans (NewT.refl _) (Nat.le_of_ble_eq_true rfl) ⟨?_, trivial⟩ ?_
        · exact fun a wx hT hF K hK => rely_wp rfl (opr_ldR (hT.row hr') rfl hF.1 (hK _ _ (NewT.refl _) rfl))
        · intro wf hf
          intro u h; obtain rfl := Eq.symm (h (by simp)); clear h
          refine relyEnd_nil rfl ?_
          simp only [Act.put, List.setIfInBounds_toArray, List.set_cons_zero, List.set_cons_succ]
          refine wpList_plain rfl (fun K hK => ?_)
          refine opr_putm rfl rfl rfl (hf.row (hRT.row hne2 X2.out)) (by decide) info_rec (recF_one _ _ _ rfl rfl) (put_all _ _) ?_
          intro wq hTq rq
          refine hK _ _ ?_
          refine wpList_end rfl ?_
          go_simp
          go_wp2
          have hNq : NewT w wq := (NewT.trans _ _ _ (HN.out.rt hRT (by omega)) hf).rt hTq (by omega)
          refine bodyPost_ret (results_agg rfl _ rfl rq Tryd.underlying32 rfl info_rec) rfl ⟨_, rfl, hNq, ?_⟩
          rw [HO.out]
          exact ⟨.slice none 0 0, .slice none 0 0, rfl, rdP_nil _, rdV_nil _ _⟩
    have k5 := hk
    clear hk
    by_cases hk : x.kind = 6
    · have HO : Hid (onlyR x = { zR with kind := x.kind, part := x.part, epoch := x.epoch }) := Lib.hid (by unfold onlyR; simp only [hk]; simp)
      rw [hk] at c0
      go_upto_region 16 with fail
      clear c0
      refine wp_region_relyP (RT R) (fun k w => w.rowIs R 32 109 ((fun k => ([recF ({ zR with kind := x.kind }) (.slice none 0 0) (.slice none 0 0)] : List (Nat → Value)).getD k (recF ({ zR with kind := x.kind, part := x.part }) (.slice none 0 0) (.slice none 0 0))) k)) [SV.eq (.pointer (some ⟨w.heap.size, 8, none⟩)), SV.eq (.int .i64 (x.part)), SV.eq (.pointer (some ⟨w.heap.size, 9, none⟩)), SV.eq (.int .i64 (x.epoch)), SV.eq (.pointer (some ⟨R, 8, none⟩)), SV.any, SV.eq (.pointer (some ⟨R, 9, none⟩))] [([(1, none)], none), ([(76, some 0)], none), ([(1, none)], none), ([(78, some 2)], none), ([(3, none)], none), ([(80, some 4), (77, some 1)], none), ([(3, none)], none)] [none, none, none, none, none, some 0, none] [5] 83 rfl (by kernel_rfl) rfl (by kernel_rfl) (by kernel_rfl) rfl (by kernel_rfl) RT.trans (RT.drew _ _) ((NewT.drew _).row X3.out) (Nat.le_of_ble_eq_true rfl) ⟨?_, ?_, ?_, ?_, ?_, ?_, ?_, trivial⟩ ?_
      · exact fun a wx hT hF K hK => have hK := fun v w' (hN : NewT wx w') hv => hK v w' (RT.new (Nat.lt_of_lt_of_le hRl hT.size) hN) (fun k h => hN.row h) hv; rely_wp rfl (opr_fldR (by decide) rfl hF.1 (hK _ _ (NewT.refl _) rfl))
      · exact fun a wx hT hF K hK => have hK := fun v w' (hN : NewT wx w') hv => hK v w' (RT.new (Nat.lt_of_lt_of_le hRl hT.size) hN) (fun k h => hN.row h) hv; rely_wp rfl (opr_ldI (hT.row hne1 X1.out) (by decide) rfl rfl hF.1 (hK _ _ (NewT.refl _) rfl))
      · exact fun a wx hT hF K hK => have hK := fun v w' (hN : NewT wx w') hv => hK v w' (RT.new (Nat.lt_of_lt_of_le hRl hT.size) hN) (fun k h => hN.row h) hv; rely_wp rfl (opr_fldR (by decide) rfl hF.1 (hK _ _ (NewT.refl _) rfl))
      · exact fun a wx hT hF K hK => have hK := fun v w' (hN : NewT wx w') hv => hK v w' (RT.new (Nat.lt_of_lt_of_le hRl hT.size) hN) (fun k h => hN.row h) hv; rely_wp rfl (opr_ldI (hT.row hne1 X1.out) (by decide) rfl rfl hF.1 (hK _ _ (NewT.refl _) rfl))
      · exact fun a wx hT hF K hK => have hK := fun v w' (hN : NewT wx w') hv => hK v w' (RT.new (Nat.lt_of_lt_of_le hRl hT.size) hN) (fun k h => hN.row h) hv; rely_wp rfl (opr_fldR (by decide) rfl hF.1 (hK _ _ (NewT.refl _) rfl))
      · intro a wx hT hF hJ K hK
        obtain ⟨f80, f77, _⟩ := hF
        have f80 : a.tmps.getD 80 undef = .pointer (some ⟨R, 8, none⟩) := f80
        have f77 : a.tmps.getD 77 undef = .int .i64 (x.part) := f77
        refine rely_wp rfl ?_
        refine opr_put1 rfl f80 f77 (show wx.rowIs R 32 109 (recF ({ zR with kind := x.kind }) (.slice none 0 0) (.slice none 0 0)) from hJ) (by decide) info_i1 rfl (fun i _ => rs_part ({ zR with kind := x.kind }) (.slice none 0 0) (.slice none 0 0) i _) ?_
        intro w' hT' hr'
        exact hK _ _ hT' hr' trivial
      · exact fun a wx hT hF K hK => have hK := fun v w' (hN : NewT wx w') hv => hK v w' (RT.new (Nat.lt_of_lt_of_le hRl hT.size) hN) (fun k h => hN.row h) hv; rely_wp rfl (opr_fldR (by decide) rfl hF.1 (hK _ _ (NewT.refl _) rfl))
      · intro e6 h6 hJ
        iterate 5 (intro u h; obtain rfl := Eq.symm (h (by simp)); clear h)
        intro _ _
        intro u h; obtain rfl := Eq.symm (h (by simp)); clear h
        refine relyEnd_nil rfl ?_
        simp only [Act.put, List.setIfInBounds_toArray, List.set_cons_zero, List.set_cons_succ]
        refine opr_put1 rfl rfl rfl (show e6.rowIs R 32 109 (recF ({ zR with kind := x.kind, part := x.part }) (.slice none 0 0) (.slice none 0 0)) from hJ) (by decide) info_i1 rfl (fun i _ => rs_epoch ({ zR with kind := x.kind, part := x.part }) (.slice none 0 0) (.slice none 0 0) i _) ?_
        intro e6s hT' hr'
        clear hJ
        go_simp
        have hRT := RT.trans _ _ _ h6 hT'
        go_upto_region 17 with fail
        refine wp_region_steps0 NewT [SV.eq (.agg (rowA 109 (recF ({ zR with kind := x.kind, part := x.part, epoch := x.epoch }) (.slice none 0 0) (.slice none 0 0))))] [([(3, none)], none)] 83 1 rfl rfl (by kernel_rfl) NewT.trans (NewT.refl _) (Nat.le_of_ble_eq_true rfl) ⟨?_, trivial⟩ ?_
        · exact fun a wx hT hF K hK => rely_wp rfl (opr_ldR (hT.row hr') rfl hF.1 (hK _ _ (NewT.refl _) rfl))
        · intro wf hf
          intro u h; obtain rfl := Eq.symm (h (by simp)); clear h
          refine relyEnd_nil rfl ?_
          simp only [Act.put, List.setIfInBounds_toArray, List.set_cons_zero, List.set_cons_succ]
          refine wpList_plain rfl (fun K hK => ?_)
          refine opr_putm rfl rfl rfl (hf.row (hRT.row hne2 X2.out)) (by decide) info_rec (recF_one _ _ _ rfl rfl) (put_all _ _) ?_
          intro wq hTq rq
          refine hK _ _ ?_
          refine wpList_end rfl ?_
          go_simp
          go_wp2
          have hNq : NewT w wq := (NewT.trans _ _ _ (HN.out.rt hRT (by omega)) hf).rt hTq (by omega)
          refine bodyPost_ret (results_agg rfl _ rfl rq Tryd.underlying32 rfl info_rec) rfl ⟨_, rfl, hNq, ?_⟩
          rw [HO.out]
          exact ⟨.slice none 0 0, .slice none 0 0, rfl, rdP_nil _, rdV_nil _ _⟩
    have k6 := hk
    clear hk
    have HO : Hid (onlyR x = { zR with kind := x.kind }) := Lib.hid (by unfold onlyR; simp [k1, k2, k3, k4, k5, k6])
    have q1 : (x.kind == 1) = false := by simpa using k1
    have q2 : (x.kind == 2) = false := by simpa using k2
    have q3 : (x.kind == 3) = false := by simpa using k3
    have q4 : (x.kind == 4) = false := by simpa using k4
    have q5 : (x.kind == 5) = false := by simpa using k5
    have q6 : (x.kind == 6) = false := by simpa using k6
    clear k1 k2 k3 k4 k5 k6
    go_upto_region 17 with fail
    refine wp_region_steps0 NewT [SV.eq (.agg (rowA 109 (recF ({ zR with kind := x.kind }) (.slice none 0 0) (.slice none 0 0))))] [([(3, none)], none)] 83 1 rfl rfl (by kernel_rfl) NewT.trans (NewT.refl _) (Nat.le_of_ble_eq_true rfl) ⟨?_, trivial⟩ ?_
    · exact fun a wx hT hF K hK => rely_wp rfl (opr_ldR (hT.row X3.out) rfl hF.1 (hK _ _ (NewT.refl _) rfl))
    · intro wf hf
      intro u h; obtain rfl := Eq.symm (h (by simp)); clear h
      refine relyEnd_nil rfl ?_
      simp only [Act.put, List.setIfInBounds_toArray, List.set_cons_zero, List.set_cons_succ]
      refine wpList_plain rfl (fun K hK => ?_)
      refine opr_putm rfl rfl rfl (hf.row X2.out) (by decide) info_rec (recF_one _ _ _ rfl rfl) (put_all _ _) ?_
      intro wq hTq rq
      refine hK _ _ ?_
      refine wpList_end rfl ?_
      go_simp
      go_wp2
      have hNq : NewT w wq := (NewT.trans _ _ _ (HN.out) hf).rt hTq (by omega)
      refine bodyPost_ret (results_agg rfl _ rfl rq Tryd.underlying32 rfl info_rec) rfl ⟨_, rfl, hNq, ?_⟩
      rw [HO.out]
      exact ⟨.slice none 0 0, .slice none 0 0, rfl, rdP_nil _, rdV_nil _ _⟩
end Go.Proofs.YtilmeffmdgcblaaDoor
/- The small functions of package sha: rotations, the six sums, choose and majority: each call returns the document's number and leaves the world as it was. -/
namespace Go.Proofs.YtilmeffmdgcblaaDoor
open Go.RowKit
set_option maxRecDepth 8000
set_option linter.all false
attribute [local go_sem] u32_add u32_xor u32_and u32_or u32_not signed_u32 wrap_uN u32_shl u32_shr u32_div8 u32_div1024

theorem and31 (n : Nat) (hn : 0 < n) (hn2 : n < 32) : bits .and .u64 (IntKind.u64.wrap (-(n : Int))) 31 = ((32 - n : Nat) : Int) := by
  have : ∀ k : Fin 32, 0 < k.val → bits .and .u64 (IntKind.u64.wrap (-(k.val : Int))) 31 = ((32 - k.val : Nat) : Int) := by decide
  exact this ⟨n, hn2⟩ hn
set_option maxHeartbeats 400000 in
theorem rot_any (x : BitVec 32) (n : Nat) (hn : 0 < n) (hn2 : n < 32) (w : World) :
    Calls Tryd.prog 86 #[.int .u32 (uN x), .int .i64 (-(n : Int))] w fun e w' => e = .returned (.int .u32 (uN (x.rotateRight n))) ∧ w = w' := by
  have hs := and31 n hn hn2
  obtain ⟨m, hm⟩ : ∃ m, 32 - n = m := ⟨_, rfl⟩
  have Hm := Lib.hid hm
  rw [hm] at hs
  have h1 : 1 ≤ m := by omega
  have h2 : m ≤ 31 := by omega
  clear hm
  go_enter Tryd.func86, Tryd.ntmps86
  go_wp2
  go_ret
  refine ⟨?_, rfl⟩
  have hm := Hm.out
  obtain rfl : n = 32 - m := by omega
  have e := uN_rotr x (32 - m) hn2
  rw [u32_or, show 32 - (32 - m) = m by omega] at e
  exact congrArg (fun z => Ending.returned (Value.int IntKind.u32 z)) e
set_option maxHeartbeats 400000 in
theorem turnRight_any (x : BitVec 32) (n : Int) (hn : 0 < n) (hn2 : n < 32) (w : World) :
    Calls Tryd.prog 82 #[.int .u32 (uN x), .int .i64 n] w fun e w' => e = .returned (.int .u32 (uN (x.rotateRight n.toNat))) ∧ w = w' := by
  obtain ⟨m, rfl⟩ := Int.eq_ofNat_of_zero_le (Int.le_of_lt hn)
  rw [Int.toNat_natCast]
  go_enter Tryd.func82, Tryd.ntmps82
  go_wp2_with fail
  refine (rot_any x m (by omega) (by omega) _).mono ?_
  rintro e w' ⟨rfl, rfl⟩
  go_wp2
  go_ret
  exact ⟨rfl, rfl⟩
def bs1 (x : BitVec 32) : BitVec 32 := x.rotateRight 6 ^^^ x.rotateRight 11 ^^^ x.rotateRight 25
set_option maxHeartbeats 400000 in
theorem bs1_any (x : BitVec 32) (w : World) :
    Calls Tryd.prog 72 #[.int .u32 (uN x)] w fun e w' => e = .returned (.int .u32 (uN (bs1 x))) ∧ w = w' := by
  go_enter Tryd.func72, Tryd.ntmps72
  go_wp2_with (go_at_call 82; refine (turnRight_any x _ (by decide) (by decide) _).mono ?_; rintro e w' ⟨rfl, rfl⟩)
  go_ret
  exact ⟨rfl, rfl⟩
def bs0 (x : BitVec 32) : BitVec 32 := x.rotateRight 2 ^^^ x.rotateRight 13 ^^^ x.rotateRight 22
set_option maxHeartbeats 400000 in
theorem bs0_any (x : BitVec 32) (w : World) :
    Calls Tryd.prog 74 #[.int .u32 (uN x)] w fun e w' => e = .returned (.int .u32 (uN (bs0 x))) ∧ w = w' := by
  go_enter Tryd.func74, Tryd.ntmps74
  go_wp2_with (go_at_call 82; refine (turnRight_any x _ (by decide) (by decide) _).mono ?_; rintro e w' ⟨rfl, rfl⟩)
  go_ret
  exact ⟨rfl, rfl⟩
def ss1 (x : BitVec 32) : BitVec 32 := x.rotateRight 17 ^^^ x.rotateRight 19 ^^^ x >>> 10
set_option maxHeartbeats 400000 in
theorem ss1_any (x : BitVec 32) (w : World) :
    Calls Tryd.prog 76 #[.int .u32 (uN x)] w fun e w' => e = .returned (.int .u32 (uN (ss1 x))) ∧ w = w' := by
  go_enter Tryd.func76, Tryd.ntmps76
  go_wp2_with (go_at_call 82; refine (turnRight_any x _ (by decide) (by decide) _).mono ?_; rintro e w' ⟨rfl, rfl⟩)
  go_ret
  exact ⟨rfl, rfl⟩
def ss0 (x : BitVec 32) : BitVec 32 := x.rotateRight 7 ^^^ x.rotateRight 18 ^^^ x >>> 3
set_option maxHeartbeats 400000 in
theorem ss0_any (x : BitVec 32) (w : World) :
    Calls Tryd.prog 77 #[.int .u32 (uN x)] w fun e w' => e = .returned (.int .u32 (uN (ss0 x))) ∧ w = w' := by
  go_enter Tryd.func77, Tryd.ntmps77
  go_wp2_with (go_at_call 82; refine (turnRight_any x _ (by decide) (by decide) _).mono ?_; rintro e w' ⟨rfl, rfl⟩)
  go_ret
  exact ⟨rfl, rfl⟩
def chs (x y z : BitVec 32) : BitVec 32 := (x &&& y) ^^^ (~~~x &&& z)
set_option maxHeartbeats 400000 in
theorem chs_any (x y z : BitVec 32) (w : World) :
    Calls Tryd.prog 73 #[.int .u32 (uN x), .int .u32 (uN y), .int .u32 (uN z)] w fun e w' => e = .returned (.int .u32 (uN (chs x y z))) ∧ w = w' := by
  go_enter Tryd.func73, Tryd.ntmps73
  go_wp2
  go_ret
  exact ⟨rfl, rfl⟩
def maj (x y z : BitVec 32) : BitVec 32 := (x &&& y) ^^^ (x &&& z) ^^^ (y &&& z)
set_option maxHeartbeats 400000 in
theorem maj_any (x y z : BitVec 32) (w : World) :
    Calls Tryd.prog 75 #[.int .u32 (uN x), .int .u32 (uN y), .int .u32 (uN z)] w fun e w' => e = .returned (.int .u32 (uN (maj x y z))) ∧ w = w' := by
  go_enter Tryd.func75, Tryd.ntmps75
  go_wp2
  go_ret
  exact ⟨rfl, rfl⟩
end Go.Proofs.YtilmeffmdgcblaaDoor
namespace Go.Proofs.YtilmeffmdgcblaaDoor
open Go.RowKit
set_option maxRecDepth 8000
set_option linter.all false
attribute [local go_sem] u32_add u32_xor u32_and u32_or u32_not signed_u32 wrap_uN u32_mul256 bN_u32

def wordTo (l : List UInt8) (t : Nat) : Nat → BitVec 32
  | 0 => 0
  | j + 1 => (wordTo l t j <<< 8) ||| (bAt l (4 * t + j)).toBitVec.setWidth 32
def zero64 : Nat → Value := fun _ => .int .u32 0
def part1 (l : List UInt8) (k j : Nat) : Nat → Value := fun i => .int .u32 (uN (if i < k then wordTo l i 4 else if i = k then wordTo l k j else 0))

theorem rowIs_zeros (w : World) (t : TypeId) : (w.alloc (.cells (Array.replicate 64 (.int .u32 0)) t)).rowIs w.heap.size t 64 zero64 := by
  have := World.rowIs_alloc w (Array.replicate 64 (.int .u32 0)) t zero64 (fun i hi => by simp at hi; simp [zero64, hi])
  simpa using this
theorem part1_start (l : List UInt8) (i : Nat) : zero64 i = part1 l 0 0 i := by
  simp only [zero64, part1]; by_cases h : i = 0 <;> simp [h, wordTo, uN]
theorem part1_next (l : List UInt8) (k i : Nat) : part1 l k 4 i = part1 l (k + 1) 0 i := by
  simp only [part1]
  by_cases h : i < k
  · rw [if_pos h, if_pos (by omega)]
  · by_cases h2 : i = k
    · subst h2; simp
    · rw [if_neg h, if_neg h2, if_neg (by omega)]; by_cases h3 : i = k + 1 <;> simp [h3, wordTo]
theorem part1_set (l : List UInt8) (k j i : Nat) : (if i = k then Value.int .u32 (uN (wordTo l k (j + 1))) else part1 l k j i) = part1 l k (j + 1) i := by
  simp only [part1]
  by_cases h : i = k
  · subst h; simp
  · simp [h]
def schedL (l : List UInt8) : Nat → List (BitVec 32)
  | 0 => (List.range 16).map fun i => wordTo l i 4
  | n + 1 => schedL l n ++ [ss1 ((schedL l n).getD (n + 14) 0) + (schedL l n).getD (n + 9) 0 + ss0 ((schedL l n).getD (n + 1) 0) + (schedL l n).getD n 0]
def wS (l : List UInt8) (n i : Nat) : BitVec 32 := (schedL l n).getD i 0
def part2 (l : List UInt8) (n : Nat) : Nat → Value := fun i => .int .u32 (uN (wS l n i))
theorem schedL_length (l : List UInt8) (n : Nat) : (schedL l n).length = 16 + n := by
  induction n with
  | zero => simp [schedL]
  | succ n ih => simp [schedL, ih]; omega
theorem part2_start (l : List UInt8) (i : Nat) : part1 l 16 0 i = part2 l 0 i := by
  simp only [part1, part2, wS, schedL]
  by_cases h : i < 16
  · simp [h]
  · by_cases h2 : i = 16
    · subst h2; simp [wordTo]
    · simp [h, h2]
theorem wS_old (l : List UInt8) (n i : Nat) (h : i < 16 + n) : wS l (n + 1) i = wS l n i := by
  have := schedL_length l n
  simp only [wS, schedL]
  simp [List.getElem?_append, this, h]
theorem wS_new (l : List UInt8) (n : Nat) : wS l (n + 1) (16 + n) = ss1 (wS l n (n + 14)) + wS l n (n + 9) + ss0 (wS l n (n + 1)) + wS l n n := by
  have := schedL_length l n
  simp only [wS, schedL]
  simp [this]
theorem wS_past (l : List UInt8) (n i : Nat) (h : 16 + n ≤ i) : wS l n i = 0 := by
  have := schedL_length l n
  simp only [wS]
  simp [this, h]
theorem part2_set (l : List UInt8) (t : Nat) (ht : 16 ≤ t) (i : Nat) :
    (if i = t then Value.int .u32 (uN (ss1 (wS l (t - 16) (t - 2)) + wS l (t - 16) (t - 7) + ss0 (wS l (t - 16) (t - 15)) + wS l (t - 16) (t - 16))) else part2 l (t - 16) i) = part2 l (t + 1 - 16) i := by
  obtain ⟨n, rfl⟩ : ∃ n, t = 16 + n := ⟨t - 16, by omega⟩
  rw [show 16 + n - 16 = n by omega, show 16 + n - 2 = n + 14 by omega, show 16 + n - 7 = n + 9 by omega, show 16 + n - 15 = n + 1 by omega, show 16 + n + 1 - 16 = n + 1 by omega]
  simp only [part2]
  by_cases h : i = 16 + n
  · subst h; rw [if_pos rfl, wS_new]
  · rw [if_neg h]
    by_cases h2 : i < 16 + n
    · rw [wS_old l n i h2]
    · rw [wS_past l n i (by omega), wS_past l (n + 1) i (by omega)]
theorem part1_at (l : List UInt8) (k j : Nat) : part1 l k j k = .int .u32 (uN (wordTo l k j)) := by simp [part1]

set_option maxHeartbeats 400000 in
theorem schedule_any (l : List UInt8) (b o cap : Nat) (hcap : 64 ≤ cap) (hm : cap ≤ maxLen) (w : World) (hb : b < w.heap.size)
    (hc : ∀ i, i < 64 → w.cell? ⟨b, o + i, none⟩ = some (.int .u8 (bN (bAt l i)))) :
    Calls Tryd.prog 64 #[.slice (some ⟨b, o, none⟩) 64 cap] w fun e w' => e = .returned (.agg (rowA 64 fun i => .int .u32 (uN (wS l 48 i)))) ∧ Below w.heap.size w w' := by
  unfold maxLen at hm
  have HC := Lib.hid hc
  clear hc
  go_enter Tryd.func64, Tryd.ntmps64
  go_wp2
  go_loopw [8] (fun i wr => ∃ k : Nat, k ≤ 16 ∧ i = .int .i64 k ∧ wr.rowIs w.heap.size 98 64 zero64 ∧ wr.rowIs (w.heap.size + 1) 98 64 (part1 l k 0) ∧ Below w.heap.size w wr) (fun i _ => 16 - (intOf i).toNat)
  case atStart =>
    refine ⟨0, Nat.zero_le _, rfl, (rowIs_zeros w 98).alloc _, ?_, ((Below.refl _ w).alloc (Nat.le_refl _) _).alloc (by simp) _⟩
    have h := rowIs_zeros (w.alloc (.cells (Array.replicate 64 (.int .u32 0)) 98)) 98
    rw [World.size_alloc] at h
    exact h.congr fun i _ => part1_start l i
  case round =>
    obtain ⟨k, hk, rfl, hz, hr, hB⟩ := hrel
    by_cases hlt : k < 16
    · go_wp2
      go_loopw [19] (fun i wr => ∃ j : Nat, j ≤ 4 ∧ i = .int .i64 j ∧ wr.rowIs w.heap.size 98 64 zero64 ∧ wr.rowIs (w.heap.size + 1) 98 64 (part1 l k j) ∧ Below w.heap.size w wr) (fun i _ => 4 - (intOf i).toNat)
      case atStart => exact ⟨0, Nat.zero_le _, rfl, hz, hr, hB⟩
      case round =>
        obtain ⟨j, hj, rfl, hz2, hr2, hB2⟩ := hrel
        clear hz hr hB
        by_cases hlt2 : j < 4
        · have hcell := (hB2.cell (p := ⟨b, o + (4 * k + j), none⟩) hb).trans (HC.out (4 * k + j) (by omega))
          rw [← Nat.add_assoc] at hcell
          have hw := hr2.cell (i := k) (by omega)
          rw [part1_at] at hw
          have hf := hr2.frozen k
          go_wp2
          go_roundw
          case rel => exact ⟨j + 1, by omega, by go_num, hz2.setOther (by simp) _, (hr2.set k _).congr fun i _ => part1_set l k j i, hB2.setCell (by simp) _⟩
          case measure => simp [intOf]; omega
        · obtain rfl : j = 4 := by omega
          go_wp2
          go_roundw
          case rel => exact ⟨k + 1, by omega, by go_num, hz2, hr2.congr fun i _ => part1_next l k i, hB2⟩
          case measure => simp [intOf]; omega
    · obtain rfl : k = 16 := by omega
      rw [show ((16 : Nat) : Int) = 16 from rfl]
      go_wp2
      go_loopw [7] (fun i wr => ∃ t : Nat, 16 ≤ t ∧ t ≤ 64 ∧ i = .int .i64 t ∧ wr.rowIs w.heap.size 98 64 zero64 ∧ wr.rowIs (w.heap.size + 1) 98 64 (part2 l (t - 16)) ∧ Below w.heap.size w wr) (fun i _ => 64 - (intOf i).toNat)
      case atStart => exact ⟨16, by omega, by omega, rfl, hz, hr.congr fun i _ => part2_start l i, hB⟩
      case round =>
        obtain ⟨t, ht1, ht2, rfl, hz2, hr2, hB2⟩ := hrel
        clear hz hr hB
        by_cases hlt : t < 64
        · have c0 : wr.cell? ⟨w.heap.size + 1, t, none⟩ = some (.int .u32 (uN (wS l (t - 16) t))) := hr2.cell (i := t) (by omega)
          have c2 : wr.cell? ⟨w.heap.size + 1, t - 2, none⟩ = some (.int .u32 (uN (wS l (t - 16) (t - 2)))) := hr2.cell (i := t - 2) (by omega)
          have c7 : wr.cell? ⟨w.heap.size + 1, t - 7, none⟩ = some (.int .u32 (uN (wS l (t - 16) (t - 7)))) := hr2.cell (i := t - 7) (by omega)
          have c15 : wr.cell? ⟨w.heap.size + 1, t - 15, none⟩ = some (.int .u32 (uN (wS l (t - 16) (t - 15)))) := hr2.cell (i := t - 15) (by omega)
          have c16 : wr.cell? ⟨w.heap.size + 1, t - 16, none⟩ = some (.int .u32 (uN (wS l (t - 16) (t - 16)))) := hr2.cell (i := t - 16) (by omega)
          have hf := hr2.frozen t
          have i2 : (2 : Int) ≤ t := by omega
          have j2 : (t : Int) - 2 < 64 := by omega
          have i7 : (7 : Int) ≤ t := by omega
          have j7 : (t : Int) - 7 < 64 := by omega
          have i15 : (15 : Int) ≤ t := by omega
          have j15 : (t : Int) - 15 < 64 := by omega
          have i16 : (16 : Int) ≤ t := by omega
          have j16 : (t : Int) - 16 < 64 := by omega
          go_wp2
          refine wp_region_still_tail 23 (by kernel_rfl) (by kernel_rfl) ?_
          simp only [List.take_succ_cons, List.take_zero, List.drop_succ_cons, List.drop_zero]
          iterate 5 (refine wpStill_step (fun K hK => ?_); go_simp; (try go_bits); refine hK _ ?_; clear hK K)
          (refine wpStill_step (fun K hK => ?_); go_simp; refine ⟨_, ((ss1_any _ _).mono fun _ _ h => ⟨h.1, h.2.symm⟩), hK _ ?_⟩; clear hK K)
          iterate 9 (refine wpStill_step (fun K hK => ?_); go_simp; (try go_bits); refine hK _ ?_; clear hK K)
          (refine wpStill_step (fun K hK => ?_); go_simp; refine ⟨_, ((ss0_any _ _).mono fun _ _ h => ⟨h.1, h.2.symm⟩), hK _ ?_⟩; clear hK K)
          iterate 7 (refine wpStill_step (fun K hK => ?_); go_simp; (try go_bits); refine hK _ ?_; clear hK K)
          refine wpStill_nil ?_
          go_wp2
          go_roundw
          case rel => exact ⟨t + 1, by omega, by omega, by go_num, hz2.setOther (by simp) _, (hr2.set t _).congr fun i _ => part2_set l t ht1 i, (hB2.setCell (p := ⟨w.heap.size + 1, t, none⟩) (by simp) _).drew⟩
          case measure => simp [intOf]; omega
        · obtain rfl : t = 64 := by omega
          have hsz : (Tryd.prog.info? 98).map (·.size) = some 64 := by kernel_rfl
          have hR := rangeAt_row hr2
          go_wp2_with (first
            | (refine wpList_load_mid rfl 98 (.tmp 3) rfl (w.heap.size + 1) 0 rfl (rowA 64 (part2 l (64 - 16))).toList _ hR Tryd.underlying98 rfl (by rw [rowA_toList]; simpa using hsz) ?_)
            | (refine wpList_store_mid rfl 98 (.tmp 2) (.tmp 61) rfl w.heap.size 0 (rowA 64 (part2 l (64 - 16))) rfl rfl (by rw [rowA_size]; exact there_row hz2) (by rw [rowA_size]; exact hsz) (rowA_one _ _ fun _ => rfl) ?_))
          exact bodyPost_ret (results_row rfl _ rfl (rowIs_setAll hz2 (part2 l 48)) Tryd.underlying98 hsz) rfl ⟨rfl, below_setCells _ (Nat.le_refl _) _ _ _ hB2⟩
end Go.Proofs.YtilmeffmdgcblaaDoor
namespace Go.Proofs.YtilmeffmdgcblaaDoor
open Go.RowKit
set_option maxRecDepth 8000
set_option linter.all false
attribute [local go_sem] u32_add u32_xor u32_and u32_or u32_not signed_u32 wrap_uN rowA_at

/-- Eight numbers as the model has them. -/
def uF (s : Nat → BitVec 32) : Nat → Value := fun i => .int .u32 (uN (s i))
theorem uF_at (s : Nat → BitVec 32) (i : Nat) : uF s i = .int .u32 (uN (s i)) := rfl
attribute [local go_sem] uF_at
structure ShSt where
  a : BitVec 32
  b : BitVec 32
  c : BitVec 32
  d : BitVec 32
  e : BitVec 32
  f : BitVec 32
  g : BitVec 32
  h : BitVec 32
def ShSt.get (s : ShSt) : Nat → BitVec 32
  | 0 => s.a | 1 => s.b | 2 => s.c | 3 => s.d | 4 => s.e | 5 => s.f | 6 => s.g | 7 => s.h | _ => 0
def ShSt.of (f : Nat → BitVec 32) : ShSt := ⟨f 0, f 1, f 2, f 3, f 4, f 5, f 6, f 7⟩
def ShSt.one (s : ShSt) (k w : BitVec 32) : BitVec 32 := s.h + bs1 s.e + chs s.e s.f s.g + k + w
def ShSt.two (s : ShSt) : BitVec 32 := bs0 s.a + maj s.a s.b s.c
def ShSt.next (s : ShSt) (k w : BitVec 32) : ShSt := ⟨s.one k w + s.two, s.a, s.b, s.c, s.d + s.one k w, s.e, s.f, s.g⟩
def runTo (K W : Nat → BitVec 32) (s : ShSt) : Nat → ShSt
  | 0 => s
  | t + 1 => (runTo K W s t).next (K t) (W t)

theorem cell_drew {w : World} {a : Addr} {v : Value} (h : w.cell? a = some v) : w.drew.cell? a = some v := h
set_option maxHeartbeats 800000 in
theorem rounds_any (K s W : Nat → BitVec 32) (w : World) (h1 : 1 < w.heap.size)
    (hK : ∀ i, i < 64 → w.cell? ⟨1, i, none⟩ = some (.int .u32 (uN (K i)))) :
    Calls Tryd.prog 63 #[.agg (rowA 8 (uF s)), .agg (rowA 64 (uF W))] w fun e w' => e = .returned (.agg (rowA 8 (uF (runTo K W (ShSt.of s) 64).get))) ∧ Below w.heap.size w w' := by
  have HK := Lib.hid hK
  clear hK
  go_enter Tryd.func63, Tryd.ntmps63
  go_wp2
  have r0 := ((rowIs_box w 86 8 (uF s)).alloc (.cells (rowA 64 (uF W)) 98)).alloc (.cells (rowA 8 fun _ => .int .u32 0) 86)
  have r1 := (rowIs_box (w.alloc (.cells (rowA 8 (uF s)) 86)) 98 64 (uF W)).alloc (.cells (rowA 8 fun _ => .int .u32 0) 86)
  have r2 := rowIs_box ((w.alloc (.cells (rowA 8 (uF s)) 86)).alloc (.cells (rowA 64 (uF W)) 98)) 86 8 fun _ => .int .u32 0
  have hB : Below w.heap.size w (((w.alloc (.cells (rowA 8 (uF s)) 86)).alloc (.cells (rowA 64 (uF W)) 98)).alloc (.cells (rowA 8 fun _ => .int .u32 0) 86)) :=
    (((Below.refl _ w).alloc (Nat.le_refl _) _).alloc (by simp) _).alloc (by simp; omega) _
  rw [World.size_alloc] at r1 r2
  rw [World.size_alloc] at r2
  rw [show (#[Value.int IntKind.u32 0, Value.int IntKind.u32 0, Value.int IntKind.u32 0, Value.int IntKind.u32 0, Value.int IntKind.u32 0, Value.int IntKind.u32 0, Value.int IntKind.u32 0, Value.int IntKind.u32 0] : Array Value) = rowA 8 (fun _ => .int .u32 0) from rfl]
  generalize (((w.alloc (.cells (rowA 8 (uF s)) 86)).alloc (.cells (rowA 64 (uF W)) 98)).alloc (.cells (rowA 8 fun _ => .int .u32 0) 86)) = W0 at r0 r1 r2 hB ⊢
  have c0 := r0.cell (i := 0) (by omega)
  have c1 := r0.cell (i := 1) (by omega)
  have c2 := r0.cell (i := 2) (by omega)
  have c3 := r0.cell (i := 3) (by omega)
  have c4 := r0.cell (i := 4) (by omega)
  have c5 := r0.cell (i := 5) (by omega)
  have c6 := r0.cell (i := 6) (by omega)
  have c7 := r0.cell (i := 7) (by omega)
  clear r0
  go_still (by kernel_rfl)
  clear c0 c1 c2 c3
  replace c4 := cell_drew c4
  replace c5 := cell_drew c5
  replace c6 := cell_drew c6
  replace c7 := cell_drew c7
  replace r1 := r1.drew
  replace r2 := r2.drew
  replace hB := hB.drew
  go_wp2
  change Code.wp _ _ _ _ W0.drew
  generalize W0.drew = W1 at c4 c5 c6 c7 r1 r2 hB ⊢
  go_still (by kernel_rfl)
  clear c4 c5 c6 c7
  replace r1 := r1.drew
  replace r2 := r2.drew
  replace hB := hB.drew
  go_wp2
  change Code.wp _ _ _ _ W1.drew
  generalize W1.drew = W2 at r1 r2 hB ⊢
  go_loopw [5, 6, 7, 8, 9, 10, 11, 12, 32] (fun a b c d e f g h i wr => ∃ t : Nat, ∃ x : ShSt, t ≤ 64 ∧ i = .int .i64 t ∧ Hid (x = runTo K W (ShSt.of s) t) ∧ a = .int .u32 (uN x.a) ∧ b = .int .u32 (uN x.b) ∧ c = .int .u32 (uN x.c) ∧ d = .int .u32 (uN x.d) ∧ e = .int .u32 (uN x.e) ∧ f = .int .u32 (uN x.f) ∧ g = .int .u32 (uN x.g) ∧ h = .int .u32 (uN x.h) ∧ wr.rowIs (w.heap.size + 1) 98 64 (uF W) ∧ wr.rowIs (w.heap.size + 1 + 1) 86 8 (fun _ => .int .u32 0) ∧ Below w.heap.size w wr) (fun _ _ _ _ _ _ _ _ i _ => 64 - (intOf i).toNat)
  case atStart => exact ⟨0, ShSt.of s, by omega, rfl, rfl, rfl, rfl, rfl, rfl, rfl, rfl, rfl, rfl, r1, r2, hB⟩
  case round =>
    obtain ⟨t, x, ht, rfl, hx, rfl, rfl, rfl, rfl, rfl, rfl, rfl, rfl, q1, q2, qB⟩ := hrel
    clear r1 r2 hB
    by_cases hlt : t < 64
    · have cW := q1.cell (i := t) (by omega)
      have cK := (qB.cell (p := ⟨1, t, none⟩) h1).trans (HK.out t hlt)
      have i64 : (t : Int) < 64 := by omega
      go_wp2
      refine wp_region_still_lit (by kernel_rfl) (by kernel_rfl) ?_
      iterate 2 (refine wpStill_step (fun K hK => ?_); go_simp; (try go_bits); refine hK _ ?_; clear hK K)
      (refine wpStill_step (fun K hK => ?_); go_simp; refine ⟨_, ((bs1_any _ _).mono fun _ _ h => ⟨h.1, h.2.symm⟩), hK _ ?_⟩; clear hK K)
      iterate 4 (refine wpStill_step (fun K hK => ?_); go_simp; (try go_bits); refine hK _ ?_; clear hK K)
      (refine wpStill_step (fun K hK => ?_); go_simp; refine ⟨_, ((chs_any _ _ _ _).mono fun _ _ h => ⟨h.1, h.2.symm⟩), hK _ ?_⟩; clear hK K)
      iterate 10 (refine wpStill_step (fun K hK => ?_); go_simp; (try go_bits); refine hK _ ?_; clear hK K)
      refine wpStill_nil ?_
      go_wp2_with (first | (go_at_call 74; refine (bs0_any _ _).mono ?_; rintro e w' ⟨rfl, rfl⟩) | (go_at_call 75; refine (maj_any _ _ _ _).mono ?_; rintro e w' ⟨rfl, rfl⟩))
      go_roundw
      case rel => exact ⟨t + 1, x.next (K t) (W t), by omega, by go_num, Lib.hid (by rw [hx.out]; rfl), rfl, rfl, rfl, rfl, rfl, rfl, rfl, rfl, q1.drew, q2.drew, qB.drew⟩
      case measure => simp [intOf]; omega
    · obtain rfl : t = 64 := by omega
      have hsz : (Tryd.prog.info? 86).map (·.size) = some 8 := by kernel_rfl
      go_wp2_with (refine wpList_store_mid rfl 86 (.tmp 4) (.tmp 80) rfl (w.heap.size + 1 + 1) 0 (rowA 8 (uF x.get)) rfl rfl (by rw [rowA_size]; exact there_row q2) (by rw [rowA_size]; exact hsz) (rowA_one _ _ fun _ => rfl) ?_)
      exact bodyPost_ret (results_row rfl _ rfl (rowIs_setAll q2 (uF x.get)) Tryd.underlying86 hsz) rfl ⟨by rw [hx.out], below_setCells _ (by omega) _ _ _ qB⟩
end Go.Proofs.YtilmeffmdgcblaaDoor
namespace Go.Proofs.YtilmeffmdgcblaaDoor
open Go.RowKit
set_option maxRecDepth 8000
set_option linter.all false
attribute [local go_sem] u32_add u32_xor u32_and u32_or u32_not signed_u32 wrap_uN uF_at

theorem info23 : (Tryd.prog.info? 86).map (·.size) = some 8 := by kernel_rfl

/-- A row of eight cells of type 23 that may be written. -/
def Row8 (W : World) (g : Nat) : Prop := ∃ f, W.rowIs g 86 8 f
theorem Row8_drew (W : World) (g : Nat) : Row8 W.drew g ↔ Row8 W g := Iff.rfl
theorem Row8_new (W : World) (f : Nat → Value) (g : Nat) (h : g = W.heap.size) : Row8 (W.alloc (.cells #[f 0, f 1, f 2, f 3, f 4, f 5, f 6, f 7] 86)) g := by subst h; exact ⟨f, rowIs_box W 86 8 f⟩
theorem Row8_zero (W : World) (g : Nat) (h : W.heap.size = g) : Row8 (W.alloc (.cells #[.int .u32 0, .int .u32 0, .int .u32 0, .int .u32 0, .int .u32 0, .int .u32 0, .int .u32 0, .int .u32 0] 86)) g := Row8_new W (fun _ => .int .u32 0) _ h.symm
theorem Row8_below {W W' : World} (h : Below W.heap.size W W') (g : Nat) (hg : Row8 W g) : Row8 W' g := by obtain ⟨f, r⟩ := hg; exact ⟨f, rowIs_below r h r.lt⟩
theorem run_store8 {W : World} {g : Nat} (h : Row8 W g) (f : Nat → BitVec 32) : (storeCells ⟨g, 0, none⟩ (rowA 8 (uF f)).toList).run Tryd.prog W = .ok () (W.setCells g 0 (rowA 8 (uF f)).toList) := by
  obtain ⟨z, r⟩ := h
  have := run_storeCells_cells (P := Tryd.prog) g 0 (rowA 8 (uF f)).toList 0 W (fun j hj => by simpa using (there_row r j (by rw [rowA_toList] at hj; simpa using hj)).1) (fun j hj => by simpa using (there_row r j (by rw [rowA_toList] at hj; simpa using hj)).2)
    (fun v hv => by rw [rowA_toList] at hv; obtain ⟨i, _, rfl⟩ := List.mem_map.1 hv; rfl)
  simpa using this
theorem Row8.setAll {W : World} {g : Nat} (h : Row8 W g) (f : Nat → Value) : (W.setCells g 0 (rowA 8 f).toList).rowIs g 86 8 f := by obtain ⟨z, r⟩ := h; exact rowIs_setAll r f
def mixed (s T : Nat → BitVec 32) (k : Nat) : Nat → BitVec 32 := fun i => if i < k then s i + T i else s i
theorem mixed_set (s T : Nat → BitVec 32) (k i : Nat) : (if i = k then Value.int .u32 (uN (s k + T k)) else uF (mixed s T k) i) = uF (mixed s T (k + 1)) i := by
  simp only [uF, mixed]
  by_cases h : i = k
  · subst h; simp
  · by_cases h2 : i < k
    · rw [if_neg h, if_pos h2, if_pos (by omega)]
    · rw [if_neg h, if_neg h2, if_neg (by omega)]
theorem schedule_near {B : Nat} {W0 : World} (l : List UInt8) (b o cap : Nat) (hcap : 64 ≤ cap) (hm : cap ≤ maxLen) (hb : b < B)
    (hc : ∀ i, i < 64 → W0.cell? ⟨b, o + i, none⟩ = some (.int .u8 (bN (bAt l i)))) (w : World) (hB : Below B W0 w) (hs : B ≤ w.heap.size) :
    Calls Tryd.prog 64 #[.slice (some ⟨b, o, none⟩) 64 cap] w fun e w' => e = .returned (.agg (rowA 64 (uF (wS l 48)))) ∧ Below B W0 w' ∧ (∀ g, Row8 w g → Row8 w' g) ∧ w.heap.size ≤ w'.heap.size :=
  (schedule_any l b o cap hcap hm w (by omega) (fun i hi => (hB.cell (p := ⟨b, o + i, none⟩) hb).trans (hc i hi))).mono fun _ _ h => ⟨h.1, hB.trans (h.2.mono hs), Row8_below h.2, h.2.size⟩
theorem rounds_near {B : Nat} {W0 : World} (K s W : Nat → BitVec 32) (h1 : 1 < B)
    (hK : ∀ i, i < 64 → W0.cell? ⟨1, i, none⟩ = some (.int .u32 (uN (K i)))) (w : World) (hB : Below B W0 w) (hs : B ≤ w.heap.size) :
    Calls Tryd.prog 63 #[.agg (rowA 8 (uF s)), .agg (rowA 64 (uF W))] w fun e w' => e = .returned (.agg (rowA 8 (uF (runTo K W (ShSt.of s) 64).get))) ∧ Below B W0 w' ∧ (∀ g, Row8 w g → Row8 w' g) ∧ w.heap.size ≤ w'.heap.size :=
  (rounds_any K s W w (by omega) (fun i hi => (hB.cell (p := ⟨1, i, none⟩) h1).trans (hK i hi))).mono fun _ _ h => ⟨h.1, hB.trans (h.2.mono hs), Row8_below h.2, h.2.size⟩

attribute [local go_sem] Row8_drew Row8_zero run_store8
set_option maxHeartbeats 1000000 in
theorem Turn_any (K s : Nat → BitVec 32) (l : List UInt8) (b o cap : Nat) (hcap : 64 ≤ cap) (hm : cap ≤ maxLen) (w : World) (hb : b < w.heap.size) (h1 : 1 < w.heap.size)
    (hK : ∀ i, i < 64 → w.cell? ⟨1, i, none⟩ = some (.int .u32 (uN (K i))))
    (hc : ∀ i, i < 64 → w.cell? ⟨b, o + i, none⟩ = some (.int .u8 (bN (bAt l i)))) :
    Calls Tryd.prog 54 #[.agg (rowA 8 (uF s)), .slice (some ⟨b, o, none⟩) 64 cap] w fun e w' => e = .returned (.agg (rowA 8 (uF fun i => s i + (runTo K (wS l 48) (ShSt.of s) 64).get i))) ∧ Below w.heap.size w w' := by
  have HK := Lib.hid hK
  have HC := Lib.hid hc
  clear hK hc
  go_enter Tryd.func54, Tryd.ntmps54
  go_wp2
  have r0 := (rowIs_box w 86 8 (uF s)).alloc (.cells (rowA 8 fun _ => .int .u32 0) 86)
  have r1 := rowIs_box (w.alloc (.cells (rowA 8 (uF s)) 86)) 86 8 fun _ => .int .u32 0
  have hB : Below w.heap.size w ((w.alloc (.cells (rowA 8 (uF s)) 86)).alloc (.cells (rowA 8 fun _ => .int .u32 0) 86)) :=
    ((Below.refl _ w).alloc (Nat.le_refl _) _).alloc (by simp) _
  have hs : ((w.alloc (.cells (rowA 8 (uF s)) 86)).alloc (.cells (rowA 8 fun _ => .int .u32 0) 86)).heap.size = w.heap.size + 2 := by simp
  rw [World.size_alloc] at r1
  rw [show (#[Value.int IntKind.u32 0, Value.int IntKind.u32 0, Value.int IntKind.u32 0, Value.int IntKind.u32 0, Value.int IntKind.u32 0, Value.int IntKind.u32 0, Value.int IntKind.u32 0, Value.int IntKind.u32 0] : Array Value) = rowA 8 (fun _ => .int .u32 0) from rfl]
  generalize ((w.alloc (.cells (rowA 8 (uF s)) 86)).alloc (.cells (rowA 8 fun _ => .int .u32 0) 86)) = W0 at r0 r1 hB hs ⊢
  have hB2 := Below.refl (w.heap.size + 2) W0
  have HB2 := Lib.hid hB2
  clear hB2
  have HK2 : Hid (∀ i, i < 64 → W0.cell? ⟨1, i, none⟩ = some (.int .u32 (uN (K i)))) := Lib.hid fun i hi => (hB.cell (p := ⟨1, i, none⟩) h1).trans (HK.out i hi)
  have HC2 : Hid (∀ i, i < 64 → W0.cell? ⟨b, o + i, none⟩ = some (.int .u8 (bN (bAt l i)))) := Lib.hid fun i hi => (hB.cell (p := ⟨b, o + i, none⟩) hb).trans (HC.out i hi)
  go_cut [5] (fun p wx => ∃ g : Nat, w.heap.size + 2 ≤ g ∧ p = .pointer (some ⟨g, 0, none⟩) ∧ wx.rowIs g 86 8 (uF (runTo K (wS l 48) (ShSt.of s) 64).get) ∧ Below (w.heap.size + 2) W0 wx)
  case first =>
    have HS : Hid (∀ w' : World, Below (w.heap.size + 2) W0 w' → w'.cell? ⟨w.heap.size, 0, none⟩ = some (uF s 0) ∧ w'.cell? ⟨w.heap.size, 1, none⟩ = some (uF s 1) ∧ w'.cell? ⟨w.heap.size, 2, none⟩ = some (uF s 2) ∧ w'.cell? ⟨w.heap.size, 3, none⟩ = some (uF s 3) ∧ w'.cell? ⟨w.heap.size, 4, none⟩ = some (uF s 4) ∧ w'.cell? ⟨w.heap.size, 5, none⟩ = some (uF s 5) ∧ w'.cell? ⟨w.heap.size, 6, none⟩ = some (uF s 6) ∧ w'.cell? ⟨w.heap.size, 7, none⟩ = some (uF s 7)) := Lib.hid fun w' h => by
      have r := rowIs_below r0 h (by omega)
      exact ⟨r.cell (by omega), r.cell (by omega), r.cell (by omega), r.cell (by omega), r.cell (by omega), r.cell (by omega), r.cell (by omega), r.cell (by omega)⟩
    have c0 := r0.cell (i := 0) (by omega)
    have c1 := r0.cell (i := 1) (by omega)
    have c2 := r0.cell (i := 2) (by omega)
    have c3 := r0.cell (i := 3) (by omega)
    have c4 := r0.cell (i := 4) (by omega)
    have c5 := r0.cell (i := 5) (by omega)
    have c6 := r0.cell (i := 6) (by omega)
    have c7 := r0.cell (i := 7) (by omega)
    go_region_held3 (fun w' => w'.cell? ⟨w.heap.size, 0, none⟩ = some (uF s 0) ∧ w'.cell? ⟨w.heap.size, 1, none⟩ = some (uF s 1) ∧ w'.cell? ⟨w.heap.size, 2, none⟩ = some (uF s 2) ∧ w'.cell? ⟨w.heap.size, 3, none⟩ = some (uF s 3) ∧ w'.cell? ⟨w.heap.size, 4, none⟩ = some (uF s 4) ∧ w'.cell? ⟨w.heap.size, 5, none⟩ = some (uF s 5) ∧ w'.cell? ⟨w.heap.size, 6, none⟩ = some (uF s 6) ∧ w'.cell? ⟨w.heap.size, 7, none⟩ = some (uF s 7)) (first | with_reducible exact HS.out _ hb2 | with_reducible exact HS.out _ (hb2.alloc (by simp at hz1 hz2; omega) _) | with_reducible exact HS.out _ (below_setCells _ (by first | omega | (simp at hz1 hz2 ⊢; omega)) _ _ _ (hb2.alloc (by simp at hz1 hz2; omega) _)) | with_reducible exact HS.out _ (below_setCells _ (by first | omega | (simp at hz1 hz2 ⊢; omega)) _ _ _ hb2) | with_reducible exact HS.out _ hb1 | with_reducible exact HS.out _ (hb1.alloc (by simp at hz1; omega) _) | with_reducible exact HS.out _ HB2.out.drew | with_reducible exact HS.out _ (HB2.out.alloc (by omega) _).drew | with_reducible exact HS.out _ HB2.out | (trace "keep"; go_keep)) (first
      | (go_at_call 64; refine (schedule_near (B := w.heap.size + 2) (W0 := W0) l b o cap hcap hm (by omega) HC2.out _ (by first | with_reducible exact HB2.out.drew | with_reducible exact (HB2.out.alloc (by omega) _).drew) (by simp; omega)).mono ?_; rintro e w1 ⟨rfl, hb1, hg1, hz1⟩; (first | (have z1 := hg1 _ ((Row8_drew _ _).2 (Row8_zero W0 _ hs))) | skip))
      | (go_at_call 63; refine (rounds_near (B := w.heap.size + 2) (W0 := W0) K s _ (by omega) HK2.out _ (by first | with_reducible exact hb1 | with_reducible exact hb1.alloc (by simp at hz1; omega) _) (by simp at hz1 ⊢; omega)).mono ?_; rintro e w2 ⟨rfl, hb2, hg2, hz2⟩; (first | (have z2 := hg2 _ (Row8_zero w1 _ rfl)) | (have z2 := hg2 _ z1) | skip)))
    · go_wp2_with fail
      go_meet
      case rel => exact ⟨_, by simp at hz1 hz2; omega, rfl, (Row8_zero w2 _ rfl).setAll _, below_setCells _ (by simp at hz1 hz2; omega) _ _ _ (hb2.alloc (by simp at hz1 hz2; omega) _)⟩
    · go_wp2_with fail
      go_meet
      case rel => exact ⟨_, by simp at hz1; omega, rfl, z2.setAll _, below_setCells _ (by simp at hz1; omega) _ _ _ hb2⟩
    · go_wp2_with fail
      go_meet
      case rel => exact ⟨_, Nat.le_refl _, rfl, z2.setAll _, below_setCells _ (Nat.le_refl _) _ _ _ hb2⟩
  case rest =>
    obtain ⟨g, hg, rfl, q2, qB⟩ := hcut
    have q0 := rowIs_below r0 qB (by omega)
    have q1 := rowIs_below r1 qB (by omega)
    have qw : Below w.heap.size w wc := hB.trans (qB.mono (by omega))
    clear r0 r1 hB hs HB2 HK2 HC2 HK HC qB
    generalize HT : (runTo K (wS l 48) (ShSt.of s) 64).get = T at q2
    have HT2 := Lib.hid HT
    clear HT
    go_wp2
    go_loopw [15] (fun i wr => ∃ k : Nat, k ≤ 8 ∧ i = .int .i64 k ∧ wr.rowIs w.heap.size 86 8 (uF (mixed s T k)) ∧ wr.rowIs (w.heap.size + 1) 86 8 (fun _ => .int .u32 0) ∧ wr.rowIs g 86 8 (uF T) ∧ Below w.heap.size w wr) (fun i _ => 8 - (intOf i).toNat)
    case atStart => exact ⟨0, by omega, rfl, q0, q1, q2, qw⟩
    case round =>
      obtain ⟨k, hk, rfl, r0, r1, r2, rB⟩ := hrel
      clear q0 q1 q2 qw
      by_cases hlt : k < 8
      · have c0 := r0.cell (i := k) (by omega)
        rw [uF_at, show mixed s T k k = s k by simp [mixed]] at c0
        have c2 := r2.cell (i := k) (by omega)
        have f0 := r0.frozen k
        have i8 : (k : Int) < 8 := by omega
        go_wp2
        refine wp_region_still_tail 8 (by kernel_rfl) (by kernel_rfl) ?_
        simp only [List.take_succ_cons, List.take_zero, List.drop_succ_cons, List.drop_zero]
        iterate 8 (refine wpStill_step (fun K hK => ?_); go_simp; (try go_bits); refine hK _ ?_; clear hK K)
        refine wpStill_nil ?_
        go_wp2
        go_roundw
        case rel => exact ⟨k + 1, by omega, by go_num, ((r0.set k _).congr fun i _ => mixed_set s T k i), r1.setOther (by simp) _, r2.setOther (by simp; omega) _, (rB.setCell (p := ⟨w.heap.size, k, none⟩) (by simp) _).drew⟩
        case measure => simp [intOf]; omega
      · obtain rfl : k = 8 := by omega
        have hR := rangeAt_row r0
        go_wp2_with (first
            | (refine wpList_load_mid rfl 86 (.tmp 2) rfl w.heap.size 0 rfl (rowA 8 (uF (mixed s T 8))).toList _ hR Tryd.underlying86 rfl (by rw [rowA_toList]; simpa using info23) ?_)
            | (refine wpList_store_mid rfl 86 (.tmp 4) (.tmp 27) rfl (w.heap.size + 1) 0 (rowA 8 (uF (mixed s T 8))) rfl rfl (by rw [rowA_size]; exact there_row r1) (by rw [rowA_size]; exact info23) (rowA_one _ _ fun _ => rfl) ?_))
        refine bodyPost_ret (results_row rfl _ rfl (rowIs_setAll r1 (uF (mixed s T 8))) Tryd.underlying86 info23) rfl ⟨?_, below_setCells _ (by omega) _ _ _ rB⟩
        rw [HT2.out]
        exact congrArg (fun z => Ending.returned (.agg z)) (rowA_congr fun i hi => by simp [uF, mixed, hi])
end Go.Proofs.YtilmeffmdgcblaaDoor
namespace Go.Proofs.YtilmeffmdgcblaaDoor
open Go.RowKit
set_option maxRecDepth 8000
set_option linter.all false
attribute [local go_sem] u32_add u32_xor u32_and u32_or u32_not signed_u32 wrap_uN uF_at u32_shr u32_u8

def dig (s : Nat → BitVec 32) (n : Nat) : UInt8 := UInt8.ofBitVec ((s (n / 4) >>> (24 - 8 * (n % 4))).setWidth 8)
def digTo (s : Nat → BitVec 32) (m n : Nat) : UInt8 := if n < m then dig s n else 0
theorem digTo_set (s : Nat → BitVec 32) (k j i : Nat) (hj : j < 4) :
    (if i = 4 * k + j then Value.int .u8 (bN (UInt8.ofBitVec ((s k >>> (24 - 8 * j)).setWidth 8))) else bF (digTo s (4 * k + j)) i) = bF (digTo s (4 * k + (j + 1))) i := by
  simp only [bF, digTo]
  by_cases h : i = 4 * k + j
  · subst h
    rw [if_pos rfl, if_pos (by omega), dig, show (4 * k + j) / 4 = k by omega, show (4 * k + j) % 4 = j by omega]
  · by_cases h2 : i < 4 * k + j
    · rw [if_neg h, if_pos h2, if_pos (by omega)]
    · rw [if_neg h, if_neg h2, if_neg (by omega)]
set_option maxHeartbeats 1000000 in
theorem digest_any (s : Nat → BitVec 32) (w : World) :
    Calls Tryd.prog 55 #[.agg (rowA 8 (uF s))] w fun e w' => e = .returned (.agg (rowA 32 (bF (dig s)))) ∧ Below w.heap.size w w' := by
  go_enter Tryd.func55, Tryd.ntmps55
  go_upto_region 2 with fail
  have r0 := ((rowIs_box w 86 8 (uF s)).alloc (.cells (rowA 32 (bF fun _ => 0)) 28)).alloc (.cells (rowA 32 (bF fun _ => 0)) 28)
  have r1 := (rowIs_box (w.alloc (.cells (rowA 8 (uF s)) 86)) 28 32 (bF fun _ => 0)).alloc (.cells (rowA 32 (bF fun _ => 0)) 28)
  have r2 := rowIs_box ((w.alloc (.cells (rowA 8 (uF s)) 86)).alloc (.cells (rowA 32 (bF fun _ => 0)) 28)) 28 32 (bF fun _ => 0)
  have hB : Below w.heap.size w (((w.alloc (.cells (rowA 8 (uF s)) 86)).alloc (.cells (rowA 32 (bF fun _ => 0)) 28)).alloc (.cells (rowA 32 (bF fun _ => 0)) 28)) :=
    (((Below.refl _ w).alloc (Nat.le_refl _) _).alloc (by simp) _).alloc (by simp; omega) _
  rw [World.size_alloc] at r1 r2
  rw [World.size_alloc] at r2
  change Code.wp _ _ _ _ (((w.alloc (.cells (rowA 8 (uF s)) 86)).alloc (.cells (rowA 32 (bF fun _ => 0)) 28)).alloc (.cells (rowA 32 (bF fun _ => 0)) 28))
  generalize (((w.alloc (.cells (rowA 8 (uF s)) 86)).alloc (.cells (rowA 32 (bF fun _ => 0)) 28)).alloc (.cells (rowA 32 (bF fun _ => 0)) 28)) = W0 at r0 r1 r2 hB ⊢
  have hR := rangeAt_row r0
  go_wp2_with (refine wpList_load_mid rfl 86 (.tmp 1) rfl w.heap.size 0 rfl (rowA 8 (uF s)).toList _ hR Tryd.underlying86 rfl (by rw [rowA_toList]; simpa using info23) ?_)
  clear hR r0
  go_loopw [8] (fun i wr => ∃ k : Nat, k ≤ 8 ∧ i = .int .i64 k ∧ wr.rowIs (w.heap.size + 1) 28 32 (bF fun _ => 0) ∧ wr.rowIs (w.heap.size + 1 + 1) 28 32 (bF (digTo s (4 * k))) ∧ Below w.heap.size w wr) (fun i _ => 8 - (intOf i).toNat)
  case atStart => exact ⟨0, by omega, rfl, r1, r2, hB⟩
  case round =>
    obtain ⟨k, hk, rfl, q1, q2, qB⟩ := hrel
    clear r1 r2 hB
    by_cases hlt : k < 8
    · have hix := index_row (P := Tryd.prog) 86 23 _ Tryd.underlying86 Tryd.underlying23 rfl (by kernel_rfl) (uF s) .i64 k hlt
      go_wp2
      clear hix
      go_loopw [12] (fun i wr => ∃ j : Nat, j ≤ 4 ∧ i = .int .i64 j ∧ wr.rowIs (w.heap.size + 1) 28 32 (bF fun _ => 0) ∧ wr.rowIs (w.heap.size + 1 + 1) 28 32 (bF (digTo s (4 * k + j))) ∧ Below w.heap.size w wr) (fun i _ => 4 - (intOf i).toNat)
      case atStart => exact ⟨0, by omega, rfl, q1, q2, qB⟩
      case round =>
        obtain ⟨j, hj, rfl, z1, z2, zB⟩ := hrel
        clear q1 q2 qB
        by_cases hj4 : j < 4
        · have c0 := z2.cell (i := 4 * k + j) (by omega)
          have f0 := z2.frozen (4 * k + j)
          have e24 : ((24 : Int) - 8 * (j : Int)).toNat = 24 - 8 * j := by omega
          go_wp2
          go_roundw
          case rel => exact ⟨j + 1, by omega, by go_num, z1.setOther (by simp) _, (z2.set (4 * k + j) _).congr fun i _ => digTo_set s k j i hj4, (zB.setCell (p := ⟨w.heap.size + 1 + 1, 4 * k + j, none⟩) (by simp; omega) _)⟩
          case measure => simp [intOf]; omega
        · obtain rfl : j = 4 := by omega
          go_wp2
          go_roundw
          case rel => exact ⟨k + 1, by omega, by go_num, z1, z2, zB⟩
          case measure => simp [intOf]; omega
    · obtain rfl : k = 8 := by omega
      have hR := rangeAt_row q2
      go_wp2_with (first
            | (refine wpList_load_mid rfl 28 (.tmp 3) rfl (w.heap.size + 1 + 1) 0 rfl (rowA 32 (bF (digTo s (4 * 8)))).toList _ hR Tryd.underlying28 rfl (by rw [rowA_toList]; simpa using info31) ?_)
            | (refine wpList_store_mid rfl 28 (.tmp 2) (.tmp 28) rfl (w.heap.size + 1) 0 (rowA 32 (bF (digTo s (4 * 8)))) rfl rfl (by rw [rowA_size]; exact there_row q1) (by rw [rowA_size]; exact info31) (rowA_one _ _ fun _ => rfl) ?_))
      refine bodyPost_ret (results_row rfl _ rfl (rowIs_setAll q1 (bF (digTo s (4 * 8)))) Tryd.underlying28 info31) rfl ⟨?_, below_setCells _ (by omega) _ _ _ qB⟩
      exact congrArg (fun z => Ending.returned (.agg z)) (rowA_congr fun i hi => by simp [bF, digTo, hi])
end Go.Proofs.YtilmeffmdgcblaaDoor
namespace Go.Proofs.YtilmeffmdgcblaaDoor
open Go.RowKit
set_option maxRecDepth 8000
set_option linter.all false
attribute [local go_sem] bF_at rowA_at

/-- The bytes that tell the length 8 n, the highest first. -/
def lenByte (n i : Nat) : UInt8 := UInt8.ofNat (n * 8 % 18446744073709551616 / 2 ^ (56 - 8 * i))
def fillHead (i : Nat) : UInt8 := if i = 0 then 128 else 0
def FillPost (n r : Nat) (w : World) (e : Ending) (w' : World) : Prop := ∃ v, e = .returned v ∧ w'.ownsRow w.heap.size 5 1 v (r + 8) ((List.range r).map (bF fillHead) ++ (List.range 8).map (bF (lenByte n))) ∧ Below w.heap.size w w'
theorem make_fill (i0 : TypeInfo) (hi : Tryd.prog.info? 5 = some i0) (hz0 : i0.zero = some (.int .u8 0)) (hz1 : i0.size = 1) (hz2 : i0.bytes = 1) (r : Nat) (hr : r ≤ 64) (W : World) :
    (Instr.makeSlice 30 (.int .i64 (r : Int)) (.int .i64 ((r : Int) + 8))).run Tryd.prog W = .ok (.slice (some ⟨W.heap.size, 0, none⟩) r (r + 8)) (W.alloc (.cells (rowA (r + 8) (bF fun _ => 0)) 5)) := by
  have := run_make (P := Tryd.prog) W 30 5 i0 _ Tryd.underlying30 hi hz0 .i64 .i64 (r : Int) ((r : Int) + 8) (by omega) (by omega) (by rw [hz2]; omega) (by omega)
  rw [this, hz1, show ((r : Int) + 8).toNat = r + 8 by omega, Int.toNat_natCast, Nat.mul_one]
  have e : madeCells (Value.int .u8 0).cells (r + 8) = rowA (r + 8) (bF fun _ => 0) := made_row (r + 8) (.int .u8 0)
  rw [e]
theorem lenByte_eq (n i : Nat) : IntKind.u8.wrap (IntKind.u64.wrap ((n : Int) * 8) / 2 ^ (56 - 8 * i)) = bN (lenByte n i) := by
  have h1 : IntKind.u64.wrap ((n : Int) * 8) = ((n * 8 % 18446744073709551616 : Nat) : Int) := by simp [IntKind.wrap, IntKind.bits, IntKind.signed]
  rw [h1, wrap_u8, lenByte, bN, UInt8.toNat_ofNat']
  have h2 : ((2 : Int) ^ (56 - 8 * i)) = ((2 ^ (56 - 8 * i) : Nat) : Int) := by simp
  rw [h2, ← Int.natCast_ediv]
  omega
set_option maxHeartbeats 1000000 in
theorem Fill_two (n r : Nat) (hn : n ≤ 9223372036854775807) (hr : (56 : Int) - (n : Int) % 64 = r) (hr1 : 1 ≤ r) (hr2 : r ≤ 64) (w : World) :
    Calls Tryd.prog 71 #[.int .i64 n] w (FillPost n r w) := by
  obtain ⟨i0, hi, hz0, hz1, hz2⟩ := info_parts info5
  have hmk : ∀ W : World, (Instr.makeSlice 30 (.int .i64 (r : Int)) (.int .i64 ((r : Int) + 8))).run Tryd.prog W = .ok (.slice (some ⟨W.heap.size, 0, none⟩) r (r + 8)) (W.alloc (.cells (rowA (r + 8) (bF fun _ => 0)) 5)) := make_fill i0 hi hz0 hz1 hz2 r hr2
  have h0 : 0 < r := by omega
  have hd0 : decide (r = 0) = false := by simp; omega
  have hlb := lenByte_eq n
  have HLB := Lib.hid hlb
  clear hlb
  go_enter Tryd.func71, Tryd.ntmps71
  go_wp2
  have r0 : (w.alloc (.cells ((rowA (r + 8) (bF fun _ => 0)).setIfInBounds 0 (.int .u8 128)) 5)).rowIs w.heap.size 5 (r + 8) (bF fillHead) := by
    have := (rowIs_box w 5 (r + 8) (bF fun _ => 0)).set 0 (.int .u8 128)
    rw [World.setCell_alloc_at _ _ _ _ _ rfl] at this
    exact this.congr fun i _ => by by_cases h : i = 0 <;> simp [h, bF, fillHead, bN]
  have hB : Below w.heap.size w (w.alloc (.cells ((rowA (r + 8) (bF fun _ => 0)).setIfInBounds 0 (.int .u8 128)) 5)) := (Below.refl _ w).alloc (Nat.le_refl _) _
  have ho := ownsRow_row r0 w.heap.size r (by omega) (by unfold maxLen; omega) (Nat.le_refl _)
  generalize w.alloc (.cells ((rowA (r + 8) (bF fun _ => 0)).setIfInBounds 0 (.int .u8 128)) 5) = W0 at ho hB ⊢
  clear r0 hmk
  go_loopw [4, 21] (fun v i wr => ∃ k : Nat, k ≤ 8 ∧ i = .int .i64 k ∧ wr.ownsRow w.heap.size 5 1 v (r + k) ((List.range r).map (bF fillHead) ++ (List.range k).map (bF (lenByte n))) ∧ Below w.heap.size w wr) (fun _ i _ => 8 - (intOf i).toNat)
  case atStart => exact ⟨0, by omega, rfl, by simpa using ho, hB⟩
  case round =>
    obtain ⟨k, hk, rfl, hown, qB⟩ := hrel
    clear ho hB
    by_cases hlt : k < 8
    · have e56 : ((56 : Int) - 8 * (k : Int)).toNat = 56 - 8 * k := by omega
      have hb8 := HLB.out k
      go_wp2_with (at_builtin; refine wpList_append_own _ rfl (.tmp 24) (.tmp 33) 30 rfl w.heap.size 5 i0 _ 1 1 Tryd.underlying30 hi hz0 hz1 hz2 rfl (by omega) u4 (r + k) _ rfl (hown.alloc _) ⟨wr.heap.size, 0, none⟩ 1 1 [bF (lenByte n) k] rfl rfl (one_cell _ _ _) (by simp [bF, Value.oneCell']) (by unfold maxLen; omega) (by omega) (by have := qB.size; simp; omega) ?_; intro v' w1 hown' hg1 _)
      go_roundw
      case rel =>
        refine ⟨k + 1, by omega, by go_num, ?_, (qB.alloc qB.size _).grown hg1 (by have := qB.size; simp; omega) (fun g e => (hown.lt g e).1)⟩
        rw [List.range_succ, List.map_append, ← List.append_assoc]
        exact hown'
      case measure => simp [intOf]; omega
    · obtain rfl : k = 8 := by omega
      go_wp2
      go_ret
      exact ⟨u4, rfl, hown, qB⟩
set_option maxHeartbeats 1000000 in
theorem Fill_one (n r : Nat) (hn : n ≤ 9223372036854775807) (hr0 : (56 : Int) - (n : Int) % 64 ≤ 0) (hr : (56 : Int) - (n : Int) % 64 + 64 = r) (hr2 : r ≤ 64) (w : World) :
    Calls Tryd.prog 71 #[.int .i64 n] w (FillPost n r w) := by
  obtain ⟨i0, hi, hz0, hz1, hz2⟩ := info_parts info5
  have hmk : ∀ W : World, (Instr.makeSlice 30 (.int .i64 (r : Int)) (.int .i64 ((r : Int) + 8))).run Tryd.prog W = .ok (.slice (some ⟨W.heap.size, 0, none⟩) r (r + 8)) (W.alloc (.cells (rowA (r + 8) (bF fun _ => 0)) 5)) := make_fill i0 hi hz0 hz1 hz2 r hr2
  have h0 : 0 < r := by omega
  have hlb := lenByte_eq n
  have HLB := Lib.hid hlb
  clear hlb
  go_enter Tryd.func71, Tryd.ntmps71
  go_wp2
  have r0 : (w.alloc (.cells ((rowA (r + 8) (bF fun _ => 0)).setIfInBounds 0 (.int .u8 128)) 5)).rowIs w.heap.size 5 (r + 8) (bF fillHead) := by
    have := (rowIs_box w 5 (r + 8) (bF fun _ => 0)).set 0 (.int .u8 128)
    rw [World.setCell_alloc_at _ _ _ _ _ rfl] at this
    exact this.congr fun i _ => by by_cases h : i = 0 <;> simp [h, bF, fillHead, bN]
  have hB : Below w.heap.size w (w.alloc (.cells ((rowA (r + 8) (bF fun _ => 0)).setIfInBounds 0 (.int .u8 128)) 5)) := (Below.refl _ w).alloc (Nat.le_refl _) _
  have ho := ownsRow_row r0 w.heap.size r (by omega) (by unfold maxLen; omega) (Nat.le_refl _)
  generalize w.alloc (.cells ((rowA (r + 8) (bF fun _ => 0)).setIfInBounds 0 (.int .u8 128)) 5) = W0 at ho hB ⊢
  clear r0 hmk
  go_loopw [4, 21] (fun v i wr => ∃ k : Nat, k ≤ 8 ∧ i = .int .i64 k ∧ wr.ownsRow w.heap.size 5 1 v (r + k) ((List.range r).map (bF fillHead) ++ (List.range k).map (bF (lenByte n))) ∧ Below w.heap.size w wr) (fun _ i _ => 8 - (intOf i).toNat)
  case atStart => exact ⟨0, by omega, rfl, by simpa using ho, hB⟩
  case round =>
    obtain ⟨k, hk, rfl, hown, qB⟩ := hrel
    clear ho hB
    by_cases hlt : k < 8
    · have e56 : ((56 : Int) - 8 * (k : Int)).toNat = 56 - 8 * k := by omega
      have hb8 := HLB.out k
      go_wp2_with (at_builtin; refine wpList_append_own _ rfl (.tmp 24) (.tmp 33) 30 rfl w.heap.size 5 i0 _ 1 1 Tryd.underlying30 hi hz0 hz1 hz2 rfl (by omega) u4 (r + k) _ rfl (hown.alloc _) ⟨wr.heap.size, 0, none⟩ 1 1 [bF (lenByte n) k] rfl rfl (one_cell _ _ _) (by simp [bF, Value.oneCell']) (by unfold maxLen; omega) (by omega) (by have := qB.size; simp; omega) ?_; intro v' w1 hown' hg1 _)
      go_roundw
      case rel =>
        refine ⟨k + 1, by omega, by go_num, ?_, (qB.alloc qB.size _).grown hg1 (by have := qB.size; simp; omega) (fun g e => (hown.lt g e).1)⟩
        rw [List.range_succ, List.map_append, ← List.append_assoc]
        exact hown'
      case measure => simp [intOf]; omega
    · obtain rfl : k = 8 := by omega
      go_wp2
      go_ret
      exact ⟨u4, rfl, hown, qB⟩
theorem Fill_any (n : Nat) (hn : n ≤ 9223372036854775807) (w : World) : Calls Tryd.prog 71 #[.int .i64 n] w (FillPost n (if n % 64 < 56 then 56 - n % 64 else 120 - n % 64) w) := by
  by_cases h : n % 64 < 56
  · rw [if_pos h]; exact Fill_two n _ hn (by omega) (by omega) (by omega) w
  · rw [if_neg h]; exact Fill_one n _ hn (by omega) (by omega) (by omega) w
end Go.Proofs.YtilmeffmdgcblaaDoor
namespace Go.Proofs.YtilmeffmdgcblaaDoor
open Go.RowKit Go.Shelf
set_option maxRecDepth 8000
set_option linter.all false
attribute [local go_sem] Oper.semAt_some

/-- What fills up n bytes. -/
def fillB (n : Nat) : List UInt8 := (List.range (if n % 64 < 56 then 56 - n % 64 else 120 - n % 64)).map fillHead ++ (List.range 8).map (lenByte n)
theorem fillB_length (n : Nat) : (fillB n).length = (if n % 64 < 56 then 56 - n % 64 else 120 - n % 64) + 8 := by simp [fillB]
theorem rdV_fill {w w' : World} {n : Nat} {v : Value} {L : List Nat} (hL : ∀ k ∈ L, k < w.heap.size)
    (h : w'.ownsRow w.heap.size 5 1 v ((if n % 64 < 56 then 56 - n % 64 else 120 - n % 64) + 8) ((List.range (if n % 64 < 56 then 56 - n % 64 else 120 - n % 64)).map (bF fillHead) ++ (List.range 8).map (bF (lenByte n)))) : RdV w' L v (fillB n) := by
  rcases h.2 with ⟨_, h0⟩ | ⟨g, cap, cur, rfl, hb, _, hnc, hcm, _, _⟩
  · omega
  · refine ⟨some ⟨g, 0, none⟩, cap, by rw [fillB_length], by rw [fillB_length]; exact hnc, hcm, fun _ => ⟨g, 0, rfl, fun hm => by have := hL g hm; omega, fun i hi => ?_⟩⟩
    have hc := h.cells (g := g) rfl i (.int .u8 (bN (bAt (fillB n) i)))
    rw [Addr.add_mid] at hc
    apply hc
    have : (List.range (if n % 64 < 56 then 56 - n % 64 else 120 - n % 64)).map (bF fillHead) ++ (List.range 8).map (bF (lenByte n)) = (fillB n).map fun b => .int .u8 (bN b) := by
      rw [fillB, List.map_append, List.map_map, List.map_map]; rfl
    rw [this]
    simp [bAt, hi]

set_option maxHeartbeats 1000000 in
theorem filled1_seq (L : List Nat) (pb : Nat) (hpb : pb ∉ L) (pv : Value) (ps : List (Value × List UInt8)) (w : World) (hL : ∀ k ∈ L, k < w.heap.size) (hbox : w.cell? ⟨pb, 0, none⟩ = some pv) (hps : PartsAt w L pv ps) (ht : total ps ≤ 4611686018427387904) :
    SeqG Tryd.prog 70 #[.pointer (some ⟨pb, 0, none⟩)] (fun x : Value × List UInt8 => #[x.1]) (KeepBut L) (fun _ x W => RdV W L x.1 x.2) (fun xs => xs.map (·.2) = ps.map (·.2) ++ [fillB (total ps)]) (fun _ => True) w := by
  intro l J Jx W hW hJ hJx hY h0
  have hLW : ∀ k ∈ L, k < W.heap.size := fun k hk => Nat.lt_of_lt_of_le (hL k hk) hW.size
  have hbox' := KeepBut.cell (KeepBut.below hW) hpb hbox
  have hps' := hps.keep (KeepBut.below hW)
  obtain ⟨A, cap, rfl, hpc, hpm, hpA, hpR⟩ := hps'
  have HA := Lib.hid hpA
  have HR := Lib.hid hpR
  unfold maxLen at hpm
  clear hpA hpR hps hbox hL
  refine callsIn_of_wp Tryd.func70 rfl trivial ?_ rfl
  simp only [Tryd.ntmps70, List.size_toArray, List.length_cons, List.length_nil, Nat.reduceAdd, Nat.reduceSub, Array.replicate_succ, Array.replicate_zero, List.push_toArray, List.append_toArray, List.nil_append, List.cons_append]
  gi_wp2
  gi_loopw [3, 8] (fun nv i wr => ∃ (k : Nat) (pre : List (Value × List UInt8)), k ≤ ps.length ∧ i = .int .i64 k ∧ nv = .int .i64 (total (ps.take k) : Nat) ∧ Hid (pre = ps.take k) ∧ J pre wr ∧ KeepBut L W wr) (fun _ i _ => ps.length - (intOf i).toNat)
  case atStart => exact ⟨0, [], by omega, rfl, rfl, rfl, h0, KeepBut.refl _ _⟩
  case round =>
    obtain ⟨k, pre, hk, rfl, rfl, Hpre, hJs, hKs⟩ := hrel
    have htk := total_take ps k
    by_cases hlt : k < ps.length
    · obtain ⟨b, o, rfl, hbL, hcells⟩ := HA.out (by omega)
      have hx : ps[k]? = some ps[k] := List.getElem?_eq_getElem hlt
      have hcell := hKs.cell (a := ⟨b, o + k, none⟩) hbL (hcells k _ hx)
      have hrd := (HR.out ps[k] (List.getElem_mem hlt)).keep hKs
      generalize hxx : ps[k] = x at hcell hrd hx
      have Hxx := Lib.hid hxx
      have Hx := Lib.hid hx
      clear hx hxx hcells
      have htk2 : total (ps.take k) + x.2.length ≤ total ps := by
        have e : ps.take (k + 1) = ps.take k ++ [x] := by rw [List.take_add_one, Hx.out]; rfl
        have := total_take ps (k + 1)
        rw [e, total_snoc] at this; exact this
      obtain ⟨A', cap', hv', h1', h2', _⟩ := hrd
      have hrd := (HR.out x (List.mem_of_getElem? Hx.out)).keep hKs
      obtain ⟨fn, tmps, assign, body, hy, hR⟩ := hY pre x wr hJs hrd
      have Hrd := Lib.hid hrd
      clear hrd
      rw [hv'] at hy hcell
      gi_wp2
      refine ⟨rfl, hR.mono ?_⟩
      rintro e W3 (⟨rfl, hJ3, hk3, _⟩ | ⟨rfl, hJx3, _⟩)
      · gi_wp2
        go_roundw
        case rel =>
          have e : ps.take (k + 1) = ps.take k ++ [x] := by rw [List.take_add_one, Hx.out]; rfl
          exact ⟨k + 1, pre ++ [x], by omega, by go_num, by rw [e, total_snoc]; go_num, Lib.hid (by rw [e, Hpre.out]), hJ3, hKs.trans hk3⟩
        case measure => simp [intOf]; omega
      · gi_wp2
        refine bodyPost_ret (results_none rfl _ _ _) rfl ?_
        exact ⟨⟨_, rfl⟩, .inr ⟨pre ++ [x], trivial, hJx3⟩⟩
    · obtain rfl : k = ps.length := by omega
      rw [List.take_length] at *
      gi_wp2_with fail
      refine ⟨trivial, rfl, (callsIn_wide.2 (Fill_any (total ps) (by omega) _)).mono ?_⟩
      rintro e w2 ⟨v, rfl, hown, hB2⟩
      have hrd := rdV_fill (L := L) (fun k hk => Nat.lt_of_lt_of_le (hLW k hk) hKs.1) hown
      have hJ2 := hJ _ _ _ hJs (hB2.mono hKs.1)
      obtain ⟨fn, tmps, assign, body, hy, hR⟩ := hY pre (v, fillB (total ps)) w2 hJ2 hrd
      clear hown
      have Hrd := Lib.hid hrd
      clear hrd
      gi_wp2
      refine ⟨rfl, hR.mono ?_⟩
      rintro e W3 (⟨rfl, hJ3, hk3, _⟩ | ⟨rfl, hJx3, _⟩)
      · gi_wp2
        go_end0
        exact ⟨⟨_, rfl⟩, .inl ⟨_, by rw [Hpre.out]; simp, hJ3⟩⟩
      · gi_wp2
        go_end0
        exact ⟨⟨_, rfl⟩, .inr ⟨_, trivial, hJx3⟩⟩
end Go.Proofs.YtilmeffmdgcblaaDoor
namespace Go.Proofs.YtilmeffmdgcblaaDoor
open Go.RowKit Go.Shelf
set_option maxRecDepth 8000
set_option linter.all false
attribute [local go_sem] Oper.semAt_some

/-- The whole blocks of a text. -/
def cks (c : List UInt8) : List (List UInt8) := (List.range (c.length / 64)).map fun i => (c.drop (64 * i)).take 64
/-- What is left behind them. -/
def rem (c : List UInt8) : List UInt8 := c.drop (64 * (c.length / 64))
theorem rem_length (c : List UInt8) : (rem c).length = c.length % 64 := by simp [rem]; omega
theorem chunk_app (c d : List UInt8) (i : Nat) (h : 64 * i + 64 ≤ c.length) : ((c ++ d).drop (64 * i)).take 64 = (c.drop (64 * i)).take 64 := by
  rw [List.drop_append_of_le_length (by omega), List.take_append_of_le_length (by simp; omega)]
theorem rem_less (c d : List UInt8) (h : c.length % 64 + d.length < 64) : rem (c ++ d) = rem c ++ d ∧ cks (c ++ d) = cks c := by
  have e : (c ++ d).length / 64 = c.length / 64 := by simp; omega
  constructor
  · unfold rem; rw [e, List.drop_append_of_le_length (by omega)]
  · unfold cks; rw [e]; exact List.map_congr_left fun i hi => chunk_app c d i (by simp at hi; omega)
theorem rem_full (c d : List UInt8) (h : c.length % 64 + d.length = 64) : rem (c ++ d) = [] ∧ cks (c ++ d) = cks c ++ [rem c ++ d] := by
  have e : (c ++ d).length / 64 = c.length / 64 + 1 := by simp; omega
  have e2 : (c ++ d).length = 64 * (c.length / 64 + 1) := by simp; omega
  constructor
  · unfold rem; rw [e, ← e2, List.drop_length]
  · unfold cks; rw [e, List.range_succ, List.map_append]
    congr 1
    · exact List.map_congr_left fun i hi => chunk_app c d i (by simp at hi; omega)
    · simp only [List.map_cons, List.map_nil]
      rw [List.drop_append_of_le_length (by omega)]
      rw [List.take_of_length_le (by simp; omega)]
      rfl
theorem filled_any (A : Option Addr) (n c : Nat) (w : World) : Calls Tryd.prog 62 #[.slice A n c] w fun e w' => e = .returned (.func (.func 70) #[] #[.pointer (some ⟨w.heap.size, 0, none⟩)]) ∧ w.alloc (.cells #[.slice A n c] 77) = w' := by
  go_enter Tryd.func62, Tryd.ntmps62
  go_wp2
  go_ret
  exact ⟨rfl, rfl⟩
theorem blocks_any (A : Option Addr) (n c : Nat) (w : World) : Calls Tryd.prog 53 #[.slice A n c] w fun e w' => e = .returned (.func (.func 61) #[] #[.pointer (some ⟨w.heap.size, 0, none⟩)]) ∧ w.alloc (.cells #[.slice A n c] 77) = w' := by
  go_enter Tryd.func53, Tryd.ntmps53
  go_wp2
  go_ret
  exact ⟨rfl, rfl⟩

/-- The iterator's own memory: yield's box, the begun block's box, and its row. -/
def Beg (B l : Nat) (V : World) (r : List UInt8) : Prop :=
  V.rowIs B 96 1 (fun _ => .func (.yield l) #[] #[]) ∧ V.rowIs (B + 1 + 1) 30 1 (fun _ => .slice (some ⟨B + 1, 0, none⟩) r.length 64) ∧
    V.ownsRow (B + 1) 5 1 (.slice (some ⟨B + 1, 0, none⟩) r.length 64) r.length (r.map fun b => .int .u8 (bN b))
theorem Beg.below {B l : Nat} {V V' : World} {r : List UInt8} (h : Beg B l V r) (hb : Below (B + 1 + 1 + 1) V V') : Beg B l V' r :=
  ⟨rowIs_below h.1 hb (by omega), rowIs_below h.2.1 hb (by omega), ownsRow_keep h.2.2 fun _ _ ho => (hb.block _ (by omega)).trans ho⟩
theorem Beg.keep {B l : Nat} {L : List Nat} {V V' : World} {r : List UInt8} (h : Beg B l V r) (hL : ∀ k ∈ L, k < B) (hb : KeepBut L V V') : Beg B l V' r :=
  ⟨hb.row (fun hm => by have := hL _ hm; omega) h.1, hb.row (fun hm => by have := hL _ hm; omega) h.2.1, ownsRow_keep h.2.2 fun _ hc ho => hb.2 _ _ (fun hm => by have := hL _ hm; omega) ho hc⟩
def ShInv (J : List (Value × List UInt8) → World → Prop) (B l : Nat) (pre2 : List (Value × List UInt8)) (V : World) : Prop :=
  ∃ pre : List (Value × List UInt8), pre.map (·.2) = cks (flat pre2) ∧ J pre V ∧ Beg B l V (rem (flat pre2))
def InvX (Jx : List (Value × List UInt8) → World → Prop) (c : Code) (V : World) : Prop := c = .ret ∧ ∃ pre : List (Value × List UInt8), Jx pre V
def lenOf : Value → Nat | .slice _ n _ => n | _ => 0
def Going (J : List (Value × List UInt8) → World → Prop) (B l : Nat) (L : List Nat) (c q : List UInt8) (V : World) (p : Value) (V' : World) : Prop :=
  ∃ (q1 q2 : List UInt8) (pre : List (Value × List UInt8)), q = q1 ++ q2 ∧ RdV V' L p q2 ∧ pre.map (·.2) = cks (c ++ q1) ∧ J pre V' ∧ Beg B l V' (rem (c ++ q1)) ∧ KeepsFrom (B + 1 + 1 + 1 + 1) V V' ∧ KeepBut L V V'

set_option maxHeartbeats 1000000 in
theorem blocks1_seq (L0 : List Nat) (pb : Nat) (hpb : pb ∉ L0) (pv : Value) (ps : List (Value × List UInt8)) (w : World) (hL0 : ∀ k ∈ L0, k < w.heap.size) (hbox : w.cell? ⟨pb, 0, none⟩ = some pv) (hps : PartsAt w L0 pv ps) (ht : total ps ≤ 4611686018427387904) :
    SeqG Tryd.prog 61 #[.pointer (some ⟨pb, 0, none⟩)] (fun x : Value × List UInt8 => #[x.1]) (KeepBut L0) (fun _ x W => RdV W L0 x.1 x.2 ∧ x.2.length = 64) (fun xs => xs.map (·.2) = cks (flat ps ++ fillB (total ps))) (fun _ => True) w := by
  intro l J Jx W hW hJ hJx hY h0
  have hLW : ∀ k ∈ L0, k < W.heap.size := fun k hk => Nat.lt_of_lt_of_le (hL0 k hk) hW.size
  have hbox' := KeepBut.cell (KeepBut.below hW) hpb hbox
  have hps' := hps.keep (KeepBut.below hW)
  obtain ⟨A, cap, rfl, _⟩ := hps'
  have hps' := hps.keep (KeepBut.below hW)
  have Hps := Lib.hid hps'
  have Hbox := Lib.hid hbox'
  obtain ⟨i0, hi, hz0, hz1, hz2⟩ := info_parts info5
  have hmk : ∀ W : World, (Instr.makeSlice 30 (.int .i64 0) (.int .i64 64)).run Tryd.prog W = .ok (.slice (some ⟨W.heap.size, 0, none⟩) 0 64) (W.alloc (.cells (rowA 64 (bF fun _ => 0)) 5)) := make_none i0 hi hz0 hz1 hz2
  have hpbW := World.block_lt_of_cell? _ _ hbox'
  have hpbW : pb < W.heap.size := hpbW
  have hp1 : pb < W.heap.size + 1 := by omega
  have hp2 : pb < W.heap.size + 1 + 1 := by omega
  clear hps' hps hbox hL0
  refine callsIn_of_wp_marks Tryd.func61 rfl trivial ?_ rfl
  simp only [Tryd.ntmps61, List.size_toArray, List.length_cons, List.length_nil, Nat.reduceAdd, Nat.reduceSub, Array.replicate_succ, Array.replicate_zero, List.push_toArray, List.append_toArray, List.nil_append, List.cons_append]
  gi_wp2_with fail
  refine ⟨trivial, rfl, (callsIn_wide.2 (filled_any A ps.length cap _)).mono ?_⟩
  rintro e W4 ⟨rfl, hW4⟩
  clear hmk
  have bA : W4.rowIs W.heap.size 96 1 (fun _ => .func (.yield l) #[] #[]) := by
    rw [← hW4]; exact (((rowIs_box W 96 1 (fun _ => .func (.yield l) #[] #[])).alloc _).alloc _).alloc _
  have bB : W4.rowIs (W.heap.size + 1) 5 64 (bF fun _ => 0) := by
    rw [← hW4]
    have := ((rowIs_box (W.alloc (.cells #[.func (.yield l) #[] #[]] 96)) 5 64 (bF fun _ => 0)).alloc (.cells #[.slice (some ⟨W.heap.size + 1, 0, none⟩) 0 64] 30)).alloc (.cells #[.slice A ps.length cap] 77)
    rwa [World.size_alloc] at this
  have bC : W4.rowIs (W.heap.size + 1 + 1) 30 1 (fun _ => .slice (some ⟨W.heap.size + 1, 0, none⟩) 0 64) := by
    rw [← hW4]
    have := (rowIs_box ((W.alloc (.cells #[.func (.yield l) #[] #[]] 96)).alloc (.cells (rowA 64 (bF fun _ => 0)) 5)) 30 1 (fun _ => .slice (some ⟨W.heap.size + 1, 0, none⟩) 0 64)).alloc (.cells #[.slice A ps.length cap] 77)
    rwa [World.size_alloc, World.size_alloc] at this
  have bD : W4.rowIs (W.heap.size + 1 + 1 + 1) 77 1 (fun _ => .slice A ps.length cap) := by
    rw [← hW4]
    have := rowIs_box (((W.alloc (.cells #[.func (.yield l) #[] #[]] 96)).alloc (.cells (rowA 64 (bF fun _ => 0)) 5)).alloc (.cells #[.slice (some ⟨W.heap.size + 1, 0, none⟩) 0 64] 30)) 77 1 (fun _ => .slice A ps.length cap)
    rwa [World.size_alloc, World.size_alloc, World.size_alloc] at this
  have hB4 : Below W.heap.size W W4 := by
    rw [← hW4]
    exact ((((Below.refl _ W).alloc (Nat.le_refl _) _).alloc (by simp) _).alloc (by simp; omega) _).alloc (by simp; omega) _
  have hs4 : W4.heap.size = W.heap.size + 1 + 1 + 1 + 1 := by rw [← hW4]; simp
  clear hW4
  have hbeg : Beg W.heap.size l W4 [] := ⟨bA, bC, by have := ownsRow_row bB (W.heap.size + 1) 0 (by omega) (by unfold maxLen; omega) (Nat.le_refl _); simpa using this⟩
  have hJ4 := hJ _ _ _ h0 hB4
  obtain ⟨L, hLe⟩ : ∃ L, L = (W.heap.size + 1) :: (W.heap.size + 1 + 1) :: L0 := ⟨_, rfl⟩
  have hLnot : ∀ k, k < W.heap.size → k ∉ L0 → k ∉ L := fun k hk h0 hm => by
    rw [hLe] at hm; simp at hm; rcases hm with h | h | h
    · omega
    · omega
    · exact h0 h
  have hLlt : ∀ k ∈ L, k < W.heap.size + 1 + 1 + 1 := fun k hm => by
    rw [hLe] at hm; simp at hm; rcases hm with h | h | h
    · omega
    · omega
    · have := hLW k h; omega
  have hp4 : PartsAt W4 L (.slice A ps.length cap) ps := (Hps.out.more hLnot).keep (KeepBut.below hB4)
  have seq := filled1_seq L (W.heap.size + 1 + 1 + 1) (fun hm => by have := hLlt _ hm; omega) (.slice A ps.length cap) ps W4 (fun k hk => by have := hLlt k hk; omega) (bD.cell (by omega)) hp4 ht
  clear bA bB bC bD hp4 Hps Hbox hbox' hp1 hp2 hpbW
  gi_wp2_with fail
  refine range_law (n := 0) (gf := 70) (lb := #[.pointer (some ⟨W.heap.size + 1 + 1 + 1, 0, none⟩)]) rfl (enters_of Tryd.func70 (by kernel_rfl) rfl) seq (Below.refl _ _) KeepBut.trans (fun V k o o' _ h hc => KeepBut.putObj h hc)
    (fun _ x V k o o' _ h hc hG => hG.keep (KeepBut.putObj h hc)) (fun _ => rfl)
    (ShInv J W.heap.size l) (fun c _ V => InvX Jx c V)
    (fun pre A B h hb => by obtain ⟨p, h1, h2, h3⟩ := h; exact ⟨p, h1, hJ _ _ _ h2 (hb.mono (by omega)), h3.below (hb.mono (by omega))⟩)
    (fun c pre A B h hb => by obtain ⟨h1, p, h2⟩ := h; exact ⟨h1, p, hJx _ _ _ h2 (hb.mono (by omega))⟩)
    ⟨[], rfl, hJ4, hbeg⟩
    (fun x => { tmps := #[.func (.yield l) #[] #[], .pointer (some ⟨pb, 0, none⟩), .pointer (some ⟨W.heap.size, 0, none⟩), .pointer (some ⟨W.heap.size + 1 + 1, 0, none⟩), x.1, undef, .slice (some ⟨W.heap.size + 1, 0, none⟩) 0 64, .slice A ps.length cap, .func (.func 70) #[] #[.pointer (some ⟨W.heap.size + 1 + 1 + 1, 0, none⟩)], x.1, undef, undef, undef, undef, undef, undef, undef, undef, undef, undef, undef, undef, undef, undef, undef, undef, undef, undef, undef, undef, undef, undef, undef, undef, undef, undef], defers := [] }) ?assign ?body ?done ?stop
  case assign =>
    intro l2 x V K hK
    gi_wp2
    exact hK
  case body =>
    rintro l2 pre2 x V hl2 ⟨pre, hpre, hJp, hBeg⟩ hG
    gi_wp2
    gi_loopw [4] (fun p V' => Going J W.heap.size l L (flat pre2) x.2 V p V') (fun p _ => lenOf p)
    case atStart =>
      refine ⟨[], x.2, pre, rfl, hG, ?_, hJp, ?_, KeepsFrom.refl _ _, KeepBut.refl _ _⟩
      · rw [List.append_nil]; exact hpre
      · rw [List.append_nil]; exact hBeg
    case round =>
      obtain ⟨q1, q2, pre', hq, hrd, hpre', hJp', hBeg', hKF, hKB⟩ := hrel
      clear hG hBeg hJp hpre pre
      have Hq := Lib.hid hq
      have Hpre := Lib.hid hpre'
      clear hq hpre'
      obtain ⟨Ap, capp, rfl, hn1, hn2, hcells⟩ := hrd
      have Hcells := Lib.hid hcells
      clear hcells
      unfold maxLen at hn2
      generalize hc : flat pre2 ++ q1 = c at *
      have Hc := Lib.hid hc
      clear hc
      have hk := rem_length c
      have hk64 : (rem c).length < 64 := by omega
      have Hk := Lib.hid hk
      clear hk
      by_cases hn : 0 < q2.length
      · obtain ⟨pb2, po, rfl, hpbL, hcell⟩ := Hcells.out hn
        have Hcell := Lib.hid hcell
        clear hcell
        have cb := hBeg'.2.1.cell (i := 0) (by omega)
        have fb := hBeg'.2.1.frozen 0
        have cy := hBeg'.1.cell (i := 0) (by omega)
        obtain ⟨k, hkk⟩ : ∃ k, (rem c).length = k := ⟨_, rfl⟩
        rw [hkk] at cb hk64
        have Hkk := Lib.hid hkk
        clear hkk
        obtain ⟨m, hm1, hm2, hm3, hm4, hmin⟩ : ∃ m : Nat, 1 ≤ m ∧ m ≤ q2.length ∧ k + m ≤ 64 ∧ (k + m = 64 ∨ m = q2.length) ∧ (if (64 : Int) - (k : Int) < (q2.length : Int) then (64 : Int) - (k : Int) else (q2.length : Int)) = (m : Int) := by
          by_cases h : (64 : Int) - (k : Int) < (q2.length : Int)
          · exact ⟨64 - k, by omega, by omega, by omega, by omega, by rw [if_pos h]; omega⟩
          · exact ⟨q2.length, by omega, by omega, by omega, .inr rfl, by rw [if_neg h]⟩
        gi_wp2
        clear hmin
        have i1 : (m : Int) ≤ (capp : Int) := by omega
        have i2 : (m : Int) ≤ (q2.length : Int) := by omega
        refine region_round_tail 4 (by kernel_rfl) (by kernel_rfl) (by kernel_rfl) ?_
        simp only [List.take_succ_cons, List.take_zero, List.drop_succ_cons, List.drop_zero]
        iterate 4 (refine wpStill_step (fun K hK => ?_); go_simp; (try go_bits); refine hK _ ?_; clear hK K)
        refine wpStill_nil ?_
        have hpw : pb2 < wr.heap.size := World.block_lt_of_cell? _ _ (Hcell.out 0 hn)
        have hown := hBeg'.2.2
        rw [Hkk.out] at hown
        refine wpListIn_append_fits _ rfl (.tmp 19) (.tmp 22) 30 rfl (W.heap.size + 1) 5 i0 1 Tryd.underlying30 hi hz1 (W.heap.size + 1) k 64 _ rfl hown.drew ⟨pb2, po, none⟩ m capp ((q2.take m).map fun b => .int .u8 (bN b)) rfl (by simp; omega) (cells_take hm2 Hcell.out) (by intro u hu; obtain ⟨b, _, rfl⟩ := List.mem_map.1 hu; rfl) hm3 ?_
        intro w1 hown1 hg1
        have hB1 : Below (W.heap.size) wr w1 := (Below.refl _ wr).drew.grown hg1 (by have := hBeg'.2.1.lt; show _ ≤ wr.heap.size; omega) (fun g e => by injection e with e; omega)
        have hrb : w1.rowIs (W.heap.size + 1 + 1) 30 1 (fun _ => .slice (some ⟨W.heap.size + 1, 0, none⟩) (rem c).length 64) := hBeg'.2.1.of_block (hg1.block _ hBeg'.2.1.lt (fun e => by injection e with e; omega))
        have hra : w1.rowIs W.heap.size 96 1 (fun _ => .func (.yield l) #[] #[]) := hBeg'.1.of_block (hg1.block _ hBeg'.1.lt (fun e => by injection e with e; omega))
        have hkb1 : KeepBut L wr w1 := ⟨hg1.size, fun j o hj ho _ => (hg1.block j (Array.getElem?_eq_some_iff.1 ho).1 (fun e => hj (by cases e; rw [hLe]; simp))).trans ho⟩
        have hkf1 : KeepsOthers wr w1 := ⟨hg1.size, fun j o ho hc => (hg1.block j (Array.getElem?_eq_some_iff.1 ho).1 (fun e => by
          cases e
          obtain ⟨_, hh⟩ := hown
          rcases hh with ⟨h, _⟩ | ⟨g', cap', cur, hv, _, hh, _⟩
          · cases h
          · cases hv; rw [hh] at ho; cases ho; cases hc)).trans ho⟩
        have cb1 := hrb.cell (i := 0) (by omega)
        have fb1 := hrb.frozen 0
        have hsl := slice_from (P := Tryd.prog) 30 5 Tryd.underlying30 (by kernel_rfl) ⟨pb2, po, none⟩ q2.length capp m hm2
        obtain ⟨ad, had⟩ : ∃ ad, (if capp = m then (⟨pb2, po, none⟩ : Addr) else (⟨pb2, po, none⟩ : Addr).add m) = ad := ⟨_, rfl⟩
        rw [had] at hsl
        have Had := Lib.hid had
        clear cb fb cy had
        obtain ⟨V2, hV2⟩ : ∃ V2, w1.setCell ⟨W.heap.size + 1 + 1, 0, none⟩ (.slice (some ⟨W.heap.size + 1, 0, none⟩) (k + m) 64) = V2 := ⟨_, rfl⟩
        have hlen : (rem c ++ q2.take m).length = k + m := by rw [List.length_append, Hkk.out, List.length_take]; omega
        have hbeg2 : Beg W.heap.size l V2 (rem c ++ q2.take m) := by
          rw [← hV2]
          refine ⟨hra.setOther (by simp; omega) _, (hrb.set 0 _).congr fun i hi => ?_, ?_⟩
          · obtain rfl : i = 0 := by omega
            rw [if_pos rfl, hlen]
          · rw [hlen, List.map_append]
            exact ownsRow_keep hown1 fun o _ ho => (Below.heap_setCell w1 _ _ _ (by simp)).trans ho
        have hbj : Below W.heap.size wr V2 := by rw [← hV2]; exact hB1.setCell (by simp; omega) _
        have hkb2 : KeepBut L wr V2 := by rw [← hV2]; exact hkb1.trans (KeepBut.setCell (by rw [hLe]; simp) _)
        have hkf2 : KeepsOthers wr V2 := by rw [← hV2]; exact hkf1.trans (KeepsOthers.setCell _ _ _)
        have hj2 := hJ _ _ _ hJp' hbj
        have hrd2 : RdV V2 L (.slice (some ad) (q2.length - m) (capp - m)) (q2.drop m) := by
          refine ⟨some ad, capp - m, by simp, by simp; omega, by unfold maxLen; omega, fun h0 => ?_⟩
          have hlt : m < q2.length := by simp at h0; omega
          refine ⟨pb2, po + m, by rw [← Had.out, if_neg (by omega), Addr.add_mid], hpbL, fun i hi => ?_⟩
          have hi' : m + i < q2.length := by simp at hi; omega
          have := hkb2.cell (a := ⟨pb2, po + (m + i), none⟩) hpbL (Hcell.out (m + i) hi')
          rw [Nat.add_assoc, this]
          simp [bAt]
        have Hrd2 := Lib.hid hrd2
        clear hrd2 hbj hB1 hkf1 hkb1 hrb hra hown1 hg1
        have cb2 := hbeg2.2.1.cell (i := 0) (by omega)
        have fb2 := hbeg2.2.1.frozen 0
        have cy2 := hbeg2.1.cell (i := 0) (by omega)
        rw [hlen] at cb2
        have Hlen := Lib.hid hlen
        clear hlen
        have hcq : c ++ q2.take m = flat pre2 ++ (q1 ++ q2.take m) := by rw [← Hc.out, List.append_assoc]
        have hxq : x.2 = (q1 ++ q2.take m) ++ q2.drop m := by rw [List.append_assoc, List.take_append_drop]; exact Hq.out
        have hml : (q2.take m).length = m := by rw [List.length_take]; omega
        have hck := Hk.out
        rw [Hkk.out] at hck
        have Hcq := Lib.hid hcq
        have Hxq := Lib.hid hxq
        have Hml := Lib.hid hml
        have Hck := Lib.hid hck
        clear hcq hxq hml hck
        by_cases hfull : k + m < 64
        · have hd : decide ((k : Int) + (m : Int) < 64) = true := by simp; omega
          gi_wp2
          go_roundw
          case rel =>
            obtain ⟨r1, r2⟩ := rem_less c (q2.take m) (by rw [Hml.out, ← Hck.out]; exact hfull)
            exact ⟨q1 ++ q2.take m, q2.drop m, pre', Hxq.out, Hrd2.out, by rw [← Hcq.out, r2]; exact Hpre.out, hj2, by rw [← Hcq.out, r1]; exact hbeg2, hKF.trans (hkf2.from _), hKB.trans hkb2⟩
          case measure => simp [lenOf]; omega
        · have hfull' : k + m = 64 := by omega
          have hd : decide ((k : Int) + (m : Int) < 64) = false := by simp; omega
          have hrdB : RdV V2 L0 (.slice (some ⟨W.heap.size + 1, 0, none⟩) (k + m) 64) (rem c ++ q2.take m) := by
            refine ⟨some ⟨W.heap.size + 1, 0, none⟩, 64, by rw [Hlen.out], by rw [Hlen.out]; omega, by unfold maxLen; omega, fun _ => ⟨W.heap.size + 1, 0, rfl, fun hm => by have := hLW _ hm; omega, fun i hi => ?_⟩⟩
            have hcc := hbeg2.2.2.cells (g := W.heap.size + 1) rfl i (.int .u8 (bN (bAt (rem c ++ q2.take m) i)))
            rw [Addr.add_mid] at hcc
            exact hcc (map_at _ i hi)
          obtain ⟨fn, tmps, assign, body, hy, hR⟩ := hY pre' (.slice (some ⟨W.heap.size + 1, 0, none⟩) (k + m) 64, rem c ++ q2.take m) V2 hj2 ⟨hrdB, by show (rem c ++ q2.take m).length = 64; rw [Hlen.out]; exact hfull'⟩
          clear hrdB
          have Hfull := Lib.hid hfull'
          clear hfull'
          gi_wp2
          refine ⟨rfl, RoundIn.mono (show RoundIn (Fence.wide.inRound l2) 0 _ _ _ _ _ _ _ _ from hR) ?_⟩
          obtain ⟨r1, r2⟩ := rem_full c (q2.take m) (by rw [Hml.out, ← Hck.out]; exact Hfull.out)
          have Hr1 := Lib.hid r1
          have Hr2 := Lib.hid r2
          clear r1 r2
          rintro e W5 (⟨rfl, hJ5, hk5, hf5⟩ | ⟨rfl, hJx5, hf5⟩)
          · have hbeg5 := hbeg2.keep hLW hk5
            have cb5 := hbeg5.2.1.cell (i := 0) (by omega)
            have fb5 := hbeg5.2.1.frozen 0
            rw [Hlen.out] at cb5
            clear cb2 fb2 cy2
            gi_wp2
            go_roundw
            case rel =>
              refine ⟨q1 ++ q2.take m, q2.drop m, _, Hxq.out, ?_, ?_, hJ _ _ _ hJ5 ((Below.refl _ W5).setCell (by simp; omega) _), ?_, ?_, ?_⟩
              · exact (Hrd2.out.keep (hk5.more fun k hk => by rw [hLe]; simp [hk])).keep (KeepBut.setCell (by rw [hLe]; simp) _)
              · rw [List.map_append, ← Hcq.out, Hr2.out, Hpre.out]; rfl
              · rw [← Hcq.out, Hr1.out]
                refine ⟨hbeg5.1.setOther (by simp; omega) _, (hbeg5.2.1.set 0 _).congr fun i hi => ?_, ?_⟩
                · obtain rfl : i = 0 := by omega
                  rw [if_pos rfl]; rfl
                · have := ownsRow_keep (ownsRow_none hbeg5.2.2) fun o _ ho => (Below.heap_setCell W5 ⟨W.heap.size + 1 + 1, 0, none⟩ (.slice (some ⟨W.heap.size + 1, 0, none⟩) 0 64) _ (by simp)).trans ho
                  exact this
              · exact (hKF.trans (hkf2.from _)).trans ((keepsFrom_mono hf5 (by omega)).trans ((KeepsOthers.setCell _ _ _).from _))
              · exact (hKB.trans hkb2).trans ((hk5.more fun k hk => by rw [hLe]; simp [hk]).trans (KeepBut.setCell (by rw [hLe]; simp) _))
            case measure => simp [lenOf]; omega
          · gi_wp2
            exact ⟨by rw [hs4]; exact (hKF.trans (hkf2.from _)).trans (keepsFrom_mono hf5 (by omega)), rfl, _, hJx5⟩
      · have hq0 : q2 = [] := List.eq_nil_of_length_eq_zero (by omega)
        have hd0 : decide (0 < q2.length) = false := by simp; omega
        have Hq0 := Lib.hid hq0
        clear hq0
        gi_wp2
        have hcx : flat (pre2 ++ [x]) = c := by rw [flat_snoc, Hq.out, Hq0.out, List.append_nil]; exact Hc.out
        exact ⟨by rw [hs4]; exact hKF, hKB, pre', by rw [hcx]; exact Hpre.out, hJp', by rw [hcx]; exact hBeg'⟩
  case done =>
    rintro D xs V hD hS ⟨pre, hpre, hJp, hBeg⟩ hK
    gi_wp2
    refine ⟨by simp, .inl ⟨_, _, rfl, run_takeDeferred hK, ?_⟩⟩
    refine ⟨_, results_none rfl _ _ _, ⟨_, rfl⟩, .inl ⟨pre, ?_, hJ _ _ _ hJp (below_putObj (by omega) _)⟩⟩
    have e : flat xs = flat ps ++ fillB (total ps) := by unfold flat; rw [hS]; simp
    rw [hpre, e]
  case stop =>
    rintro D c pre2 V hD _ ⟨rfl, pre, hJp⟩ hK
    gi_wp2
    refine ⟨by simp, .inl ⟨_, _, rfl, run_takeDeferred hK, ?_⟩⟩
    exact ⟨_, results_none rfl _ _ _, ⟨_, rfl⟩, .inr ⟨pre, trivial, hJx _ _ _ hJp (below_putObj (by omega) _)⟩⟩
end Go.Proofs.YtilmeffmdgcblaaDoor
namespace Go.Proofs.YtilmeffmdgcblaaDoor
open Go.RowKit Go.Shelf
set_option maxRecDepth 8000
set_option linter.all false
attribute [local go_sem] Oper.semAt_some uF_at

theorem run_storeU {W : World} {g n : Nat} (h : RowW W g n) (f : Nat → BitVec 32) : (storeCells ⟨g, 0, none⟩ (rowA n (uF f)).toList).run Tryd.prog W = .ok () (W.setCells g 0 (rowA n (uF f)).toList) := by
  obtain ⟨t, z, r⟩ := h
  have := run_storeCells_cells (P := Tryd.prog) g 0 (rowA n (uF f)).toList 0 W (fun j hj => by simpa using (there_row r j (by rw [rowA_toList] at hj; simpa using hj)).1) (fun j hj => by simpa using (there_row r j (by rw [rowA_toList] at hj; simpa using hj)).2)
    (fun v hv => by rw [rowA_toList] at hv; obtain ⟨i, _, rfl⟩ := List.mem_map.1 hv; rfl)
  simpa using this
attribute [local go_sem] run_storeU run_storeB
/-- The state behind a block. -/
def turnF (K s : Nat → BitVec 32) (l : List UInt8) : Nat → BitVec 32 := fun i => s i + (runTo K (wS l 48) (ShSt.of s) 64).get i
/-- The digest of a text, from a first state. -/
def shaL (K F : Nat → BitVec 32) (text : List UInt8) : Nat → UInt8 := dig ((cks (text ++ fillB text.length)).foldl (turnF K) F)
theorem rowIs_putObj {W : World} {b n l : Nat} {t : TypeId} {f : Nat → Value} (h : W.rowIs b t n f) (hne : b ≠ l) (o : Obj) : (W.putObj l o).rowIs b t n f := h.of_block (World.putObj_heap_other hne)

def SumInv (K F : Nat → BitVec 32) (w : World) (pre : List (Value × List UInt8)) (V : World) : Prop :=
  V.rowIs (w.heap.size + 1) 86 8 (uF ((pre.map (·.2)).foldl (turnF K) F)) ∧ V.rowIs w.heap.size 28 32 (bF fun _ => 0) ∧ Below w.heap.size w V
set_option maxHeartbeats 2000000 in
theorem Sum_any (K F : Nat → BitVec 32) (pv : Value) (ps : List (Value × List UInt8)) (w : World) (h1 : 1 < w.heap.size)
    (hK : ∀ i, i < 64 → w.cell? ⟨1, i, none⟩ = some (.int .u32 (uN (K i)))) (hF : ∀ i, i < 8 → w.cell? ⟨0, i, none⟩ = some (.int .u32 (uN (F i))))
    (hps : PartsAt w [] pv ps) (ht : total ps ≤ 4611686018427387904) :
    Calls Tryd.prog 45 #[pv] w fun e w' => e = .returned (.agg (rowA 32 (bF (shaL K F (flat ps))))) ∧ Below w.heap.size w w' := by
  have HK := Lib.hid hK
  have Hps := Lib.hid hps
  obtain ⟨A, cap, rfl, _⟩ := hps
  have f0 := hF 0 (by omega)
  have f1 := hF 1 (by omega)
  have f2 := hF 2 (by omega)
  have f3 := hF 3 (by omega)
  have f4 := hF 4 (by omega)
  have f5 := hF 5 (by omega)
  have f6 := hF 6 (by omega)
  have f7 := hF 7 (by omega)
  have h0 : 0 < w.heap.size := by omega
  have h01 : 0 < w.heap.size + 1 := by omega
  clear hK hF
  refine (callsIn_wide (n := 0)).1 ?_
  refine callsIn_of_wp_marks Tryd.func45 rfl trivial ?_ rfl
  simp only [Tryd.ntmps45, List.size_toArray, List.length_cons, List.length_nil, Nat.reduceAdd, Nat.reduceSub, Array.replicate_succ, Array.replicate_zero, List.push_toArray, List.append_toArray, List.nil_append, List.cons_append]
  gi_wp2_with fail
  refine ⟨trivial, rfl, (callsIn_wide.2 (blocks_any A ps.length cap _)).mono ?_⟩
  rintro e W3 ⟨rfl, hW3⟩
  clear f0 f1 f2 f3 f4 f5 f6 f7
  have hW3' : ((w.alloc (.cells (rowA 32 (bF fun _ => 0)) 28)).alloc (.cells (rowA 8 (uF F)) 86)).alloc (.cells #[.slice A ps.length cap] 77) = W3 := hW3
  clear hW3
  have bA : W3.rowIs w.heap.size 28 32 (bF fun _ => 0) := by
    rw [← hW3']; exact ((rowIs_box w 28 32 (bF fun _ => 0)).alloc _).alloc _
  have bB : W3.rowIs (w.heap.size + 1) 86 8 (uF F) := by
    rw [← hW3']
    have := (rowIs_box (w.alloc (.cells (rowA 32 (bF fun _ => 0)) 28)) 86 8 (uF F)).alloc (.cells #[.slice A ps.length cap] 77)
    rwa [World.size_alloc] at this
  have bC : W3.rowIs (w.heap.size + 1 + 1) 77 1 (fun _ => .slice A ps.length cap) := by
    rw [← hW3']
    have := rowIs_box ((w.alloc (.cells (rowA 32 (bF fun _ => 0)) 28)).alloc (.cells (rowA 8 (uF F)) 86)) 77 1 (fun _ => .slice A ps.length cap)
    rwa [World.size_alloc, World.size_alloc] at this
  have hB3 : Below w.heap.size w W3 := by
    rw [← hW3']; exact (((Below.refl _ w).alloc (Nat.le_refl _) _).alloc (by simp) _).alloc (by simp; omega) _
  have hs3 : W3.heap.size = w.heap.size + 1 + 1 + 1 := by rw [← hW3']; simp
  clear hW3'
  have hp3 : PartsAt W3 [w.heap.size + 1] (.slice A ps.length cap) ps := (Hps.out.more (fun k hk _ => by simp; omega)).keep (KeepBut.below hB3)
  have seq := blocks1_seq [w.heap.size + 1] (w.heap.size + 1 + 1) (by simp) (.slice A ps.length cap) ps W3 (fun k hk => by simp at hk; omega) (bC.cell (by omega)) hp3 ht
  clear bC hp3 Hps
  gi_wp2_with fail
  refine range_law (n := 0) (gf := 61) (lb := #[.pointer (some ⟨w.heap.size + 1 + 1, 0, none⟩)]) rfl (enters_of Tryd.func61 (by kernel_rfl) rfl) seq (Below.refl _ _) KeepBut.trans (fun V k o o' _ h hc => KeepBut.putObj h hc)
    (fun _ x V k o o' _ h hc hG => ⟨hG.1.keep (KeepBut.putObj h hc), hG.2⟩) (fun _ => rfl)
    (SumInv K F w) (fun _ _ _ => False)
    (fun pre A B h hb => ⟨rowIs_below h.1 hb (by omega), rowIs_below h.2.1 hb (by omega), h.2.2.trans (hb.mono (by omega))⟩)
    (fun _ _ _ _ h _ => h)
    ⟨bB, bA, hB3⟩
    (fun x => { tmps := #[.slice A ps.length cap, undef, .pointer (some ⟨w.heap.size, 0, none⟩), .pointer (some ⟨w.heap.size + 1, 0, none⟩), x.1, .agg #[.int .u32 (uN (F 0)), .int .u32 (uN (F 1)), .int .u32 (uN (F 2)), .int .u32 (uN (F 3)), .int .u32 (uN (F 4)), .int .u32 (uN (F 5)), .int .u32 (uN (F 6)), .int .u32 (uN (F 7))], .slice A ps.length cap, .func (.func 61) #[] #[.pointer (some ⟨w.heap.size + 1 + 1, 0, none⟩)], x.1, undef, undef, undef, undef, undef], defers := [] }) ?assign ?body ?done ?stop
  case assign =>
    intro l2 x V K hK
    gi_wp2
    exact hK
  case body =>
    rintro l2 pre x V hl2 ⟨hH, hZ, hBw⟩ ⟨hrd, h64⟩
    obtain ⟨Ax, capx, hx1, hx2, hx3, hx4⟩ := hrd
    rw [h64] at hx1 hx2 hx4
    obtain ⟨b, o, rfl, _, hcell⟩ := hx4 (by omega)
    rw [hx1]
    have hbV : b < V.heap.size := World.block_lt_of_cell? _ _ (hcell 0 (by omega))
    obtain ⟨s, hs⟩ : ∃ s, (pre.map (·.2)).foldl (turnF K) F = s := ⟨_, rfl⟩
    rw [hs] at hH
    have c0 := hH.cell (i := 0) (by omega)
    have c1 := hH.cell (i := 1) (by omega)
    have c2 := hH.cell (i := 2) (by omega)
    have c3 := hH.cell (i := 3) (by omega)
    have c4 := hH.cell (i := 4) (by omega)
    have c5 := hH.cell (i := 5) (by omega)
    have c6 := hH.cell (i := 6) (by omega)
    have c7 := hH.cell (i := 7) (by omega)
    have Hs := Lib.hid hs
    have Hx := Lib.hid hx1
    have Hcell := Lib.hid hcell
    have H64 := Lib.hid h64
    clear hs hx1 hcell h64 hx4
    gi_wp2_with fail
    have hT := CallsIn.inRound (F := Fence.wide) (n := 0) l2 (callsIn_wide.2 (Turn_any K s x.2 b o capx hx2 hx3 V hbV (by have := hBw.size; omega) (fun i hi => (hBw.cell (p := ⟨1, i, none⟩) h1).trans (HK.out i hi)) Hcell.out))
    refine ⟨trivial, rfl, hT.mono ?_⟩
    clear hT
    rintro e w2 ⟨rfl, hB2⟩
    have r2 := rowIs_below hH hB2 hH.lt
    have z2 := rowIs_below hZ hB2 hZ.lt
    have rw2 : RowW w2 (w.heap.size + 1) 8 := ⟨_, _, r2⟩
    clear c0 c1 c2 c3 c4 c5 c6 c7
    gi_wp2
    refine ⟨((keepsOthers_below hB2).trans (keepsOthers_setCells _ _ _ _)).from _, (KeepBut.below hB2).trans (KeepBut.setCells (by simp) _ _ _), ?_, rowIs_setOther z2 (by omega) _ _, ?_⟩
    · rw [List.map_append, List.foldl_append, Hs.out]
      exact rowIs_setAll r2 _
    · exact below_setCells _ (by omega) _ _ _ (hBw.trans (hB2.mono hBw.size))
  case done =>
    rintro D xs V hD hS ⟨hH, hZ, hBw⟩ hK
    obtain ⟨s, hs⟩ : ∃ s, (xs.map (·.2)).foldl (turnF K) F = s := ⟨_, rfl⟩
    rw [hs] at hH
    have c0 := hH.cell (i := 0) (by omega)
    have c1 := hH.cell (i := 1) (by omega)
    have c2 := hH.cell (i := 2) (by omega)
    have c3 := hH.cell (i := 3) (by omega)
    have c4 := hH.cell (i := 4) (by omega)
    have c5 := hH.cell (i := 5) (by omega)
    have c6 := hH.cell (i := 6) (by omega)
    have c7 := hH.cell (i := 7) (by omega)
    have Hs := Lib.hid hs
    have HS := Lib.hid hS
    have HKD := Lib.hid hK
    clear hs hS hK
    gi_wp2_with fail
    refine ⟨trivial, rfl, (callsIn_wide.2 (digest_any s V)).mono ?_⟩
    rintro e w2 ⟨rfl, hB2⟩
    have z2 := rowIs_below hZ hB2 hZ.lt
    have rw2 : RowW w2 w.heap.size 32 := ⟨_, _, z2⟩
    clear c0 c1 c2 c3 c4 c5 c6 c7
    gi_wp2
    have hK2 : (w2.setCells w.heap.size 0 (rowA 32 (bF (dig s))).toList).heap[D]? = some (.deferred (some [])) := (keepsOthers_setCells _ _ _ _).same D _ ((keepsOthers_below hB2).same D _ HKD.out rfl) rfl
    refine ⟨by simp, .inl ⟨_, _, rfl, run_takeDeferred hK2, ?_⟩⟩
    refine ⟨_, results_row rfl _ rfl (rowIs_putObj (rowIs_setAll z2 (bF (dig s))) (by omega) _) Tryd.underlying28 info31, ?_, ?_⟩
    · rw [← Hs.out, HS.out, shaL, flat_length]
    · exact (below_setCells _ (Nat.le_refl _) _ _ _ (hBw.trans (hB2.mono hBw.size))).trans (below_putObj (by omega) _)
  case stop =>
    rintro D c pre2 V hD _ h hK
    exact h.elim
end Go.Proofs.YtilmeffmdgcblaaDoor
namespace Go.Proofs.YtilmeffmdgcblaaDoor
set_option maxRecDepth 8000
set_option linter.all false
def kTab : List Nat := [1116352408, 1899447441, 3049323471, 3921009573, 961987163, 1508970993, 2453635748, 2870763221, 3624381080, 310598401, 607225278, 1426881987, 1925078388, 2162078206, 2614888103, 3248222580, 3835390401, 4022224774, 264347078, 604807628, 770255983, 1249150122, 1555081692, 1996064986, 2554220882, 2821834349, 2952996808, 3210313671, 3336571891, 3584528711, 113926993, 338241895, 666307205, 773529912, 1294757372, 1396182291, 1695183700, 1986661051, 2177026350, 2456956037, 2730485921, 2820302411, 3259730800, 3345764771, 3516065817, 3600352804, 4094571909, 275423344, 430227734, 506948616, 659060556, 883997877, 958139571, 1322822218, 1537002063, 1747873779, 1955562222, 2024104815, 2227730452, 2361852424, 2428436474, 2756734187, 3204031479, 3329325298]
def fTab : List Nat := [1779033703, 3144134277, 1013904242, 2773480762, 1359893119, 2600822924, 528734635, 1541459225]
def Kc (i : Nat) : BitVec 32 := BitVec.ofNat 32 (kTab.getD i 0)
def Fc (i : Nat) : BitVec 32 := BitVec.ofNat 32 (fTab.getD i 0)
open Go.RowKit
/-- The two tables lie as the program's text lays them. -/
structure Tables (w : World) : Prop where
  size : 1 < w.heap.size
  k : ∀ i, i < 64 → w.cell? ⟨1, i, none⟩ = some (.int .u32 (uN (Kc i)))
  f : ∀ i, i < 8 → w.cell? ⟨0, i, none⟩ = some (.int .u32 (uN (Fc i)))
theorem Tables.below {w w' : World} (h : Tables w) (hb : Below w.heap.size w w') : Tables w' :=
  ⟨by have := h.size; have := hb.size; omega, fun i hi => (hb.cell (p := ⟨1, i, none⟩) h.size).trans (h.k i hi), fun i hi => (hb.cell (p := ⟨0, i, none⟩) (by have := h.size; show 0 < _; omega)).trans (h.f i hi)⟩
theorem Sum_c (pv : Value) (ps : List (Value × List UInt8)) (w : World) (hT : Tables w) (hps : PartsAt w [] pv ps) (ht : total ps ≤ 4611686018427387904) :
    Calls Tryd.prog 45 #[pv] w fun e w' => e = .returned (.agg (rowA 32 (bF (shaL Kc Fc (flat ps))))) ∧ Below w.heap.size w w' :=
  Sum_any Kc Fc pv ps w hT.size hT.k hT.f hps ht
end Go.Proofs.YtilmeffmdgcblaaDoor
/- What a region that makes new memory alone leaves of the tables. -/
namespace Go.Proofs.YtilmeffmdgcblaaDoor
open Go Go.RowKit
set_option maxRecDepth 8000
set_option linter.all false
theorem NewT.tables {w w' : World} (h : NewT w w') (hT : Tables w) : Tables w' := hT.below h
end Go.Proofs.YtilmeffmdgcblaaDoor
/- The contract of Sum. -/
namespace Go.Proofs.YtilmeffmdgcblaaDoor
open Go Go.RowKit
set_option maxRecDepth 8000
set_option linter.all false
/-- The digest of parts. -/
theorem Sum_cv (pv : Value) (ls : List (List UInt8)) (D : Nat → UInt8) (w : World) (hT : Tables w) (hp : Parts w pv ls) (ht : ls.flatten.length ≤ 4611686018427387904) (hD : shaL Kc Fc ls.flatten = D) : Cv 45 #[pv] w (.eq (.agg (rowA 32 (bF D)))) := by
  obtain ⟨ps, hp, rfl⟩ := hp
  have e : (ps.map (·.2)).flatten = flat ps := rfl
  rw [e] at ht hD
  rw [← hD]
  exact Cv.of_eq (Sum_c pv ps w hT hp (by rw [← flat_length]; exact ht))
end Go.Proofs.YtilmeffmdgcblaaDoor
/- Numbers of 64 bits that hold numbers of 32, as the reference computes; and the reference's turns and shifts. -/
namespace Go.Proofs.YtilmeffmdgcblaaDoor
open Go.RowKit
set_option maxRecDepth 8000
set_option linter.all false

theorem wrap_u64 (n : Int) : IntKind.u64.wrap n = n % 18446744073709551616 := by simp [IntKind.wrap, IntKind.bits, IntKind.signed]
theorem wrap64_uN (x : BitVec 32) : IntKind.u64.wrap (uN x) = uN x := by rw [wrap_u64]; have := uN_lt x; omega
attribute [local go_sem] u32_shr wrap64_uN
end Go.Proofs.YtilmeffmdgcblaaDoor
/- Package mac's small functions: numbers as bytes, the key's block, its masks: what each call returns, and that it makes new memory alone. -/
namespace Go.Proofs.YtilmeffmdgcblaaDoor
open Go Go.RowKit
set_option maxRecDepth 8000
set_option linter.all false

/-- The lowest s bytes of a number, the highest first. -/
def hiB (n s i : Nat) : UInt8 := UInt8.ofNat (n / 2 ^ (8 * (s - 1 - i)))
def hiL (n s : Nat) : List UInt8 := (List.range s).map (hiB n s)
theorem hiL_length (n s : Nat) : (hiL n s).length = s := by simp [hiL]
theorem hiB_eq (n s i : Nat) : IntKind.u8.wrap ((n : Int) / 2 ^ (8 * (s - 1 - i))) = bN (hiB n s i) := by
  rw [wrap_u8, hiB, bN, UInt8.toNat_ofNat']
  have h2 : ((2 : Int) ^ (8 * (s - 1 - i))) = ((2 ^ (8 * (s - 1 - i)) : Nat) : Int) := by simp
  rw [h2, ← Int.natCast_ediv]
  omega
set_option maxHeartbeats 1000000 in
theorem hiF_any (n s : Nat) (hs : 1 ≤ s) (hs2 : s ≤ 8) (w : World) :
    Cv 56 #[.int .u64 (n : Int), .int .i64 (s : Int)] w (svRdN w (hiL n s)) := by
  unfold Cv
  obtain ⟨i0, hi, hz0, hz1, hz2⟩ := info_parts info5
  have hmk : ∀ W : World, (Instr.makeSlice 30 (.int .i64 (s : Int)) (.int .i64 (s : Int))).run Tryd.prog W = .ok (.slice (some ⟨W.heap.size, 0, none⟩) s s) (W.alloc (.cells (rowA s (bF fun _ => 0)) 5)) := make_bytes i0 hi hz0 hz1 hz2 s (by omega)
  have HB := Lib.hid (hiB_eq n s)
  clear hi hz0 hz1 hz2
  go_enter Tryd.func56, Tryd.ntmps56
  go_wp2
  have r0 := rowIs_box w 5 s (bF fun _ => 0)
  have hB : Below w.heap.size w (w.alloc (.cells (rowA s (bF fun _ => 0)) 5)) := (Below.refl _ w).alloc (Nat.le_refl _) _
  generalize w.alloc (.cells (rowA s (bF fun _ => 0)) 5) = W0 at r0 hB ⊢
  clear hmk
  go_loopw [11] (fun i wr => ∃ k : Nat, k ≤ s ∧ i = .int .i64 k ∧ wr.rowIs w.heap.size 5 s (bF (putTo (hiB n s) k)) ∧ Below w.heap.size w wr) (fun i _ => s - (intOf i).toNat)
  case atStart => exact ⟨0, by omega, rfl, r0.congr fun i _ => by simp [bF, putTo], hB⟩
  case round =>
    obtain ⟨k, hk, rfl, q0, qB⟩ := hrel
    clear r0 hB
    by_cases hlt : k < s
    · have c0 := q0.cell (i := k) hlt
      have f0 := q0.frozen k
      have e8 : ((8 : Int) * ((s : Int) - 1 - (k : Int))).toNat = 8 * (s - 1 - k) := by omega
      have hb8 := HB.out k
      go_wp2
      go_roundw
      case rel => exact ⟨k + 1, by omega, by go_num, (q0.set k _).congr fun i _ => putTo_set _ k i, qB.setCell (by simp) _⟩
      case measure => simp [intOf]; omega
    · obtain rfl : k = s := by omega
      go_wp2
      go_ret
      refine ⟨_, rfl, qB, fun L hL => ?_⟩
      have := rd_row (L := L) q0 (fun hm => by have := hL _ hm; omega) (by omega)
      have e : (List.range k).map (putTo (hiB n k) k) = hiL n k := List.map_congr_left fun i hi => by simp at hi; simp [putTo, hi]
      rw [e] at this
      exact this
theorem hiF_4 (n : Nat) (w : World) : Cv 56 #[.int .u64 (n : Int), .int .i64 4] w (svRdN w (hiL n 4)) := hiF_any n 4 (by omega) (by omega) w
end Go.Proofs.YtilmeffmdgcblaaDoor
/- Package mac: slices of slices that are put together piece by piece: each piece reads as bytes that no append turns. -/
namespace Go.Proofs.YtilmeffmdgcblaaDoor
open Go Go.RowKit
set_option maxRecDepth 8000
set_option linter.all false

/-- Pieces: a row of slices of the call's own (from base on), each of which reads as its bytes outside that row. -/
def Pcs (W : World) (base : Nat) (v : Value) (ls : List (List UInt8)) : Prop :=
  ∃ ps : List (Value × List UInt8), ps.map (·.2) = ls ∧ W.ownsRow base 30 1 v ps.length (ps.map (·.1)) ∧ ∀ x ∈ ps, RdV W v.ownBlock.toList x.1 x.2
theorem Pcs.own_lt {W : World} {base : Nat} {v : Value} {ls : List (List UInt8)} (h : Pcs W base v ls) (k : Nat) (hk : v.ownBlock = some k) : k < W.heap.size ∧ base ≤ k := by
  obtain ⟨ps, _, ho, _⟩ := h
  exact ⟨(ho.lt k hk).2, (ho.lt k hk).1⟩
theorem Pcs.new {W W' : World} {base : Nat} {v : Value} {ls : List (List UInt8)} (h : Pcs W base v ls) (hN : NewT W W') : Pcs W' base v ls := by
  have hlt := h.own_lt
  obtain ⟨ps, h1, h2, h3⟩ := h
  refine ⟨ps, h1, ?_, fun x hx => hN.rd (h3 x hx)⟩
  obtain ⟨a, b⟩ := h2
  refine ⟨a, ?_⟩
  rcases b with b | ⟨g, cap, cur, rfl, hb, hg, r⟩
  · exact .inl b
  · exact .inr ⟨g, cap, cur, rfl, hb, (hN.out.block g (hlt g rfl).1).trans hg, r⟩
theorem Pcs.parts {W : World} {base : Nat} {v : Value} {ls : List (List UInt8)} (h : Pcs W base v ls) : Parts W v ls := by
  obtain ⟨ps, h1, h2, h3⟩ := h
  refine ⟨ps, ?_, h1⟩
  rcases h2.2 with ⟨rfl, h0⟩ | ⟨g, cap, cur, rfl, _, _, hnc, hcm, _, _⟩
  · have : ps = [] := List.eq_nil_of_length_eq_zero h0
    subst this
    exact ⟨none, 0, rfl, Nat.le_refl _, by unfold maxLen; omega, fun h => absurd h (by simp), fun x hx => by simp at hx⟩
  · refine ⟨some ⟨g, 0, none⟩, cap, rfl, hnc, hcm, fun _ => ⟨g, 0, rfl, by simp, fun i x hx => ?_⟩, fun x hx => (h3 x hx).less (by simp)⟩
    have hc := h2.cells (g := g) rfl i x.1 (by rw [List.getElem?_map, hx]; rfl)
    rwa [Addr.add_mid] at hc
theorem info24 : (Tryd.prog.info? 30).map (fun i => (i.zero, i.size, i.bytes)) = some (some (.slice none 0 0), 1, 24) := by kernel_rfl
/-- New pieces are put behind. -/
theorem run_append_pcs {W : World} {base : Nat} {v : Value} {ls : List (List UInt8)} (hp : Pcs W base v ls) (hbase : base ≤ W.heap.size) (us : List (Value × List UInt8)) (hu : ∀ x ∈ us, RdV W v.ownBlock.toList x.1 x.2)
    (s c : Nat) (hs : ∀ j x, us[j]? = some x → W.cell? ⟨s, j, none⟩ = some x.1) (hlen : ls.length + us.length ≤ 1000000) (ty : TypeId) :
    ∃ v' w', (Builtin.append_ #[77, 77] ty #[v, .slice (some ⟨s, 0, none⟩) us.length c]).run Tryd.prog W = .ok v' w' ∧ Pcs w' base v' (ls ++ us.map (·.2)) ∧ W.grownBy w' v.ownBlock := by
  obtain ⟨ps, h1, h2, h3⟩ := hp
  have hpl : ps.length = ls.length := by rw [← h1]; simp
  obtain ⟨i0, hi, hz0, hz1, hz2⟩ := info_parts info24
  obtain ⟨v', w', hrun, hown, hgr, _, hat⟩ := run_append_own_at (P := Tryd.prog) (w := W) base 77 ty 30 i0 _ 1 24 Tryd.underlying77 hi hz0 hz1 hz2 rfl (by omega) v ps.length (ps.map (·.1)) h2
    ⟨s, 0, none⟩ us.length c (us.map (·.1)) (by simp) (fun j u hj => by
      rw [Addr.add_mid, Nat.zero_add]
      rw [List.getElem?_map] at hj
      cases hx : us[j]? with
      | none => rw [hx] at hj; simp at hj
      | some x => rw [hx] at hj; simp at hj; subst hj; exact hs j x hx)
    (fun u hm => by
      obtain ⟨x, hx, rfl⟩ := List.mem_map.1 hm
      obtain ⟨A, cap, hv, _⟩ := hu x hx
      rw [hv]; rfl) (by unfold maxLen; omega) (by omega) hbase
  refine ⟨v', w', hrun, ⟨ps ++ us, by rw [List.map_append, h1], by rw [List.length_append, List.map_append]; exact hown, fun x hx => ?_⟩, hgr⟩
  have hx0 : RdV W v.ownBlock.toList x.1 x.2 := by
    rcases List.mem_append.1 hx with h | h
    · exact h3 x h
    · exact hu x h
  rcases hat with e | e
  · rw [e]; exact hx0.keep (keepBut_grown hgr fun k hk => by simp [hk])
  · rw [e]
    have hx1 : RdV W (W.heap.size :: v.ownBlock.toList) x.1 x.2 := hx0.more fun k hk hn hm => by
      rcases List.mem_cons.1 hm with rfl | h
      · omega
      · exact hn h
    exact (hx1.keep (keepBut_grown hgr fun k hk => by simp [hk])).less (by simp)
theorem Pcs.below {W w' : World} {base : Nat} {v : Value} {ls : List (List UInt8)} (h : Pcs W base v ls) (hg : W.grownBy w' v.ownBlock) (hb : base ≤ W.heap.size) : Below base W w' :=
  (Below.refl base W).grown hg hb (fun k hk => (h.own_lt k hk).2)
end Go.Proofs.YtilmeffmdgcblaaDoor
/- Package mac: parts behind their lengths, words as bytes, and the texts that are put together of them. -/
namespace Go.Proofs.YtilmeffmdgcblaaDoor
open Go Go.RowKit
set_option maxRecDepth 8000
set_option linter.all false

/-- A number of 64 bits, as it lies in memory (two's complement). -/
def wN (n : Int) : Nat := (n % 18446744073709551616).toNat
theorem wN_eq (n : Int) : IntKind.u64.wrap n = (wN n : Int) := by rw [wrap_u64, wN]; omega
theorem wN_nat (n : Nat) (h : n < 18446744073709551616) : wN (n : Int) = n := by unfold wN; omega
set_option maxHeartbeats 1000000 in
theorem countedPart_any (v u : Value) (base : Nat) (ls : List (List UInt8)) (l : List UInt8) (w : World) (hp : Pcs w base v ls) (hb : base ≤ w.heap.size) (hu : RdV w v.ownBlock.toList u l) (hlen : ls.length ≤ 900000) :
    Calls Tryd.prog 47 #[v, u] w fun e w' => ∃ v', e = .returned v' ∧ Pcs w' base v' (ls ++ [hiL l.length 4, l]) ∧ Below base w w' := by
  obtain ⟨A, c, rfl, hlc, hcm, h0⟩ := hu
  have hu : RdV w v.ownBlock.toList (.slice A l.length c) l := ⟨A, c, rfl, hlc, hcm, h0⟩
  have hcm' := hcm
  unfold maxLen at hcm'
  have hw : IntKind.u64.wrap (l.length : Int) = (l.length : Int) := by rw [wN_eq, wN_nat _ (by omega)]
  have Hp := Lib.hid hp
  have Hu := Lib.hid hu
  clear h0 hlc hcm hcm' hp hu
  go_enter Tryd.func47, Tryd.ntmps47
  go_upto_region 1 with fail
  refine wp_region_lit ?_
  iterate 4 (refine wpList_plain rfl (fun K hK => ?_); go_simp; refine hK _ _ ?_; clear hK K)
  refine wpList_plain rfl (fun K hK => ?_)
  refine opr_cv (hiF_4 l.length w) rfl Tryd.func56 (by kernel_rfl) (by kernel_rfl) (by simp only [List.map_toArray, List.map_cons, List.map_nil]; rfl) ?_
  intro hv w1 hN1 hnew
  refine hK _ _ ?_
  clear hK K hw
  have hr9 := hnew v.ownBlock.toList (fun k hk => (Hp.out.own_lt k (by simpa using hk)).1)
  replace Hp := Lib.hid (Hp.out.new hN1)
  replace Hu := Lib.hid (hN1.rd Hu.out)
  obtain ⟨A9, c9, rfl, h9⟩ := hr9
  have hr9 : RdV w1 v.ownBlock.toList (.slice A9 (hiL l.length 4).length c9) (hiL l.length 4) := ⟨A9, c9, rfl, h9⟩
  have Hr9 := Lib.hid hr9
  clear hr9 h9 hnew
  have hb1 : base ≤ w1.heap.size := Nat.le_trans hb hN1.out.size
  have hN := NewT.alloc w1 (.cells #[.slice A9 (hiL l.length 4).length c9, .slice A l.length c] 30)
  have hrun := run_append_pcs (Hp.out.new hN) (Nat.le_trans hb1 hN.out.size) [(.slice A9 (hiL l.length 4).length c9, hiL l.length 4), (.slice A l.length c, l)] (by simp only [List.mem_cons, List.not_mem_nil, or_false]; intro x hx; rcases hx with rfl | rfl; (exact hN.rd Hr9.out); (exact hN.rd Hu.out)) w1.heap.size 2 (fun j x hx => by
    match j, hx with
    | 0, hx => simp at hx; subst hx; rw [cell_new_fr _ _ _ _ _ _ rfl]; rfl
    | 1, hx => simp at hx; subst hx; rw [cell_new_fr _ _ _ _ _ _ rfl]; rfl) (by simp; omega) 77
  obtain ⟨v', w', hr, hp', hgr⟩ := hrun
  have hB : Below base w w' := (hN1.out.mono hb).trans (((Below.refl base w1).alloc hb1 _).trans ((Hp.out.new hN).below hgr (Nat.le_trans hb1 hN.out.size)))
  have Hp' := Lib.hid hp'
  have HB := Lib.hid hB
  clear hp' hB hgr hN Hp Hu Hr9
  simp only [List.length_cons, List.length_nil, Nat.zero_add, Nat.reduceAdd] at hr
  iterate 2 (refine wpList_plain rfl (fun K hK => ?_); go_simp; refine hK _ _ ?_; clear hK K)
  refine wpList_plain rfl (fun K hK => ?_)
  refine opr_append rfl rfl rfl hr (hK _ _ ?_)
  clear hr hK K
  refine wpList_plain rfl (fun K hK => ?_)
  refine opr_move (.inr rfl) (hK _ _ ?_)
  clear hK K
  refine wpList_nil ?_
  go_simp
  go_wp2
  go_ret
  exact ⟨v', rfl, Hp'.out, HB.out⟩
end Go.Proofs.YtilmeffmdgcblaaDoor
/- Package mac: texts put together of counted pieces. -/
namespace Go.Proofs.YtilmeffmdgcblaaDoor
open Go Go.RowKit
set_option maxRecDepth 8000
set_option linter.all false
/-- A part behind its length. -/
def cntP (l : List UInt8) : List (List UInt8) := [hiL l.length 4, l]
theorem cnt_length (ls : List (List UInt8)) : (ls.flatMap cntP).length = 2 * ls.length := by
  induction ls with
  | nil => rfl
  | cons x ls ih => simp [cntP] at ih ⊢; omega
theorem pcs_one {w : World} {A : Option Addr} {n c : Nat} {l : List UInt8} (h : RdV w [] (.slice A n c) l) : Pcs (w.alloc (.cells #[.slice A n c] 30)) w.heap.size (.slice (some ⟨w.heap.size, 0, none⟩) 1 1) [l] := by
  refine ⟨[(.slice A n c, l)], rfl, ⟨rfl, .inr ⟨w.heap.size, 1, #[.slice A n c], rfl, Nat.le_refl _, World.alloc_heap_new _ _, Nat.le_refl _, by unfold maxLen; omega, rfl, rfl⟩⟩, fun x hx => ?_⟩
  simp at hx
  subst hx
  refine (NewT.alloc w _).rd (h.more fun k hk _ hm => ?_)
  simp [Value.ownBlock] at hm
  omega
/-- What lay there reads on beside the call's own row. -/
theorem rd_beside {w wr : World} {v u : Value} {ls : List (List UInt8)} {l : List UInt8} (h : RdV w [] u l) (hp : Pcs wr w.heap.size v ls) (hB : Below w.heap.size w wr) : RdV wr v.ownBlock.toList u l :=
  (h.more fun k hk _ hm => by have := (hp.own_lt k (by simpa using hm)).2; omega).keep (KeepBut.below hB)
set_option maxHeartbeats 1000000 in
theorem text_counted (v0 pv : Value) (l0 : List UInt8) (ls : List (List UInt8)) (w : World) (h0 : RdV w [] v0 l0) (hp : Parts w pv ls) (hlen : ls.length ≤ 100000) :
    Cv 46 #[v0, .func (.func 47) #[] #[], pv] w (svParts (l0 :: (ls).flatMap cntP)) := by
  unfold Cv
  obtain ⟨A0, c0, rfl, h00⟩ := h0
  have H0 : Hid (RdV w [] (.slice A0 l0.length c0) l0) := Lib.hid ⟨A0, c0, rfl, h00⟩
  clear h00
  obtain ⟨ps, hps, rfl⟩ := hp
  obtain ⟨A, cap, rfl, hpc, hpm, hA, hR⟩ := hps
  unfold maxLen at hpm
  obtain ⟨n, hn⟩ : ∃ n, n = ps.length := ⟨_, rfl⟩
  rw [← hn] at hpc
  have Hn : Hid (n = (ps.map (·.2)).length) := Lib.hid (by simpa using hn)
  have hlen' : n ≤ 100000 := by rw [Hn.out]; exact hlen
  have HA := Lib.hid (show 0 < n → ∃ b o, A = some ⟨b, o, none⟩ ∧ ∀ i x, ps[i]? = some x → w.cell? ⟨b, o + i, none⟩ = some x.1 from fun h => by
    obtain ⟨b, o, h1, _, h2⟩ := hA (by omega)
    exact ⟨b, o, h1, h2⟩)
  have HR := Lib.hid hR
  rw [← hn]
  have Hps := Lib.hid hn
  clear hA hR hn hlen
  go_enter Tryd.func46, Tryd.ntmps46
  go_wp2
  have p0 := pcs_one H0.out
  have hB : Below w.heap.size w (w.alloc (.cells #[.slice A0 l0.length c0] 30)) := (Below.refl _ w).alloc (Nat.le_refl _) _
  generalize w.alloc (.cells #[.slice A0 l0.length c0] 30) = W0 at p0 hB ⊢
  go_loopw [7, 14] (fun v i wr => ∃ k : Nat, k ≤ n ∧ i = .int .i64 k ∧ Pcs wr w.heap.size v (l0 :: ((ps.map (·.2)).take k).flatMap cntP) ∧ Below w.heap.size w wr) (fun _ i _ => n - (intOf i).toNat)
  case atStart => exact ⟨0, by omega, rfl, by simpa using p0, hB⟩
  case round =>
    obtain ⟨k, hk, rfl, hp, qB⟩ := hrel
    clear p0 hB
    by_cases hlt : k < n
    · obtain ⟨b, o, rfl, hcells⟩ := HA.out (by omega)
      have hx : ps[k]? = some ps[k] := List.getElem?_eq_getElem (by rw [← Hps.out]; exact hlt)
      generalize hxx : ps[k] = x at hx
      have hcell := (qB.cell (p := ⟨b, o + k, none⟩) (World.block_lt_of_cell? _ _ (hcells k x hx))).trans (hcells k x hx)
      have hrd := rd_beside (HR.out x (List.mem_of_getElem? hx)) hp qB
      have hll : (l0 :: ((ps.map (·.2)).take k).flatMap cntP).length ≤ 900000 := by
        rw [List.length_cons, cnt_length, List.length_take]; omega
      have Hext : Hid (((ps.map (·.2)).take (k + 1)).flatMap cntP = ((ps.map (·.2)).take k).flatMap cntP ++ [hiL x.2.length 4, x.2]) := Lib.hid (by
        rw [List.take_add_one, List.getElem?_map, hx]; simp [cntP])
      obtain ⟨A', c', hv', hr0⟩ := hrd
      have Hrd : Hid (RdV wr (Value.ownBlock u7).toList (.slice A' x.2.length c') x.2) := Lib.hid ⟨A', c', rfl, hr0⟩
      rw [hv'] at hcell
      have Hp := Lib.hid hp
      clear hr0 hv' hx hxx hcells hp
      go_wp2_with (go_at_call 47; refine (countedPart_any _ _ _ _ x.2 _ Hp.out qB.size Hrd.out hll).mono ?_; rintro e w2 ⟨v', rfl, hp2, hB2⟩)
      go_roundw
      case rel =>
        refine ⟨k + 1, by omega, by go_num, ?_, qB.trans hB2⟩
        have e := Hext.out
        rw [e]
        simpa using hp2
      case measure => simp [intOf]; omega
    · obtain rfl : k = n := by omega
      go_wp2
      go_ret
      refine ⟨_, rfl, qB, ?_⟩
      have := hp.parts
      rw [Hn.out, List.take_length] at this
      exact this
end Go.Proofs.YtilmeffmdgcblaaDoor
/- A new slice of one byte. -/
namespace Go.Proofs.YtilmeffmdgcblaaDoor
open Go Go.RowKit
set_option maxRecDepth 8000
set_option linter.all false
theorem run_bsb1 (x : Int) (w : World) : (Instr.buildSlice 30 1 #[(0, .int .u8 x)]).run Tryd.prog w = .ok (.slice (some ⟨w.heap.size, 0, none⟩) 1 1) (w.alloc (.cells #[.int .u8 x] 5)) := by
  simp [go_sem]
theorem rd_one (b : UInt8) (w : World) : RdV (w.alloc (.cells #[.int .u8 (bN b)] 5)) [] (.slice (some ⟨w.heap.size, 0, none⟩) 1 1) [b] :=
  rdV_lit (l := [b]) (by simp) (by decide) fun i hi => by
    obtain rfl : i = 0 := by simpa using hi
    rw [cell_new_fr _ _ _ _ _ _ rfl]; rfl
/-- A new slice of one byte. -/
theorem opr_bsb1 {a : Act} {w : World} {o : Oper} {K : Act → World → Prop} {Q : Exit → Act → World → Prop} {x : Operand} {b : UInt8} (ho : o.op = .buildSlice 30 1 #[(0, x)]) (hx : a.eval x = .int .u8 (bN b)) (h : ∀ v w', NewT w w' → RdV w' [] v [b] → K (a.put o.dst v) w') : o.wp Tryd.prog a w K Q := by
  obtain ⟨dst, op, type, pos, after, guard⟩ := o
  simp only at ho
  subst ho
  exact opr_val (s := Instr.buildSlice 30 1 #[(0, a.eval x)]) (by simp [execOp]) (by rw [hx]; exact run_bsb1 _ w) (h _ _ (NewT.alloc _ _) (rd_one b w))
end Go.Proofs.YtilmeffmdgcblaaDoor
/- Package mac: the digest of a domain: what Of returns. -/
namespace Go.Proofs.YtilmeffmdgcblaaDoor
open Go Go.RowKit
set_option maxRecDepth 8000
set_option linter.all false
/-- The low byte of a number. -/
def dB (n : Int) : UInt8 := UInt8.ofNat (n % 256).toNat
theorem dB_eq (n : Int) : IntKind.u8.wrap n = bN (dB n) := by rw [wrap_u8, dB, bN, UInt8.toNat_ofNat']; omega
/-- The text of a domain and parts. -/
def ofL (n : Int) (ls : List (List UInt8)) : List UInt8 := dB n :: (ls.flatMap cntP).flatten
theorem ofL_length (n : Int) (ls : List (List UInt8)) : (ofL n ls).length = 1 + 4 * ls.length + ls.flatten.length := by
  unfold ofL
  rw [List.length_cons]
  induction ls with
  | nil => rfl
  | cons x ls ih => simp [cntP, hiL_length] at ih ⊢; omega
set_option maxHeartbeats 2000000 in
theorem Of_cv (n : Int) (pv : Value) (ls : List (List UInt8)) (D : Nat → UInt8) (w : World) (hT : Tables w) (hp : Parts w pv ls) (hlen : ls.length ≤ 100000) (htot : ls.flatten.length ≤ 1000000) (hD : shaL Kc Fc (ofL n ls) = D) :
    Cv 32 #[.int .i64 n, pv] w (.eq (.agg (rowA 32 (bF D)))) := by
  unfold Cv
  have HD := Lib.hid hD
  have HT := Lib.hid hT
  have Hp := Lib.hid hp
  have hdb := dB_eq n
  have hol := ofL_length n ls
  have Hol := Lib.hid hol
  clear hT hp hD hol
  go_enter Tryd.func32, Tryd.ntmps32
  go_upto_region 1 with fail
  have r0 := rowIs_box w 28 32 (bF fun _ => 0)
  have hB0 := NewT.alloc w (.cells (rowA 32 (bF fun _ => 0)) 28)
  change Code.wp _ _ _ _ (w.alloc (.cells (rowA 32 (bF fun _ => 0)) 28))
  generalize w.alloc (.cells (rowA 32 (bF fun _ => 0)) 28) = W0 at r0 hB0 ⊢
  replace HT := Lib.hid (hB0.tables HT.out)
  replace Hp := Lib.hid (hB0.partsL Hp.out)
  refine wp_region_seq NewT [SV.eq (.int .i64 n), SV.eq (.int .u8 (bN (dB n))), svRd [dB n], svParts ls, svParts ([dB n] :: ls.flatMap cntP), SV.eq (.agg (rowA 32 (bF D)))] [([(0, none)], none), ([(5, some 0)], none), ([(6, some 1)], none), ([(1, none)], none), ([(7, some 2), (8, some 3)], none), ([(9, some 4)], none)] 11 rfl rfl (by kernel_rfl) rfl NewT.trans (NewT.refl _) (Nat.le_of_ble_eq_true rfl) ⟨?_, ?_, ?_, ?_, ?_, ?_, trivial⟩ ?_
  · -- 0: Op.move t0
    intro a wx hT hF K hK
    obtain ⟨f0, _⟩ := hF
    have f0 : a.tmps.getD 0 undef = .int .i64 n := f0
    refine rely_wp rfl ?_
    exact opr_move (.inl rfl) (hK _ _ (NewT.refl _) f0)
  · -- 1: Op.convert 3 5 t5
    intro a wx hT hF K hK
    obtain ⟨f5, _⟩ := hF
    have f5 : a.tmps.getD 5 undef = .int .i64 n := f5
    refine rely_wp rfl ?_
    simp only [Array.getD_eq_getD_getElem?] at f5
    go_simp
    exact hK _ _ (NewT.refl _) rfl
  · -- 2: Op.buildSlice 30 1 #[(0, t6)]
    intro a wx hT hF K hK
    obtain ⟨f6, _⟩ := hF
    have f6 : a.tmps.getD 6 undef = .int .u8 (bN (dB n)) := f6
    refine rely_wp rfl ?_
    exact opr_bsb1 rfl f6 hK
  · -- 3: Op.move t1
    intro a wx hT hF K hK
    obtain ⟨f1, _⟩ := hF
    have f1 : a.tmps.getD 1 undef = pv := f1
    refine rely_wp rfl ?_
    exact opr_move (.inl rfl) (hK _ _ (NewT.refl _) (by rw [eval_tmp, f1]; exact hT.partsL Hp.out))
  · -- 4: Op.call ( value (Operand.func 46), args := #[t7, Operand.fun
    intro a wx hT hF K hK
    obtain ⟨f7, f8, _⟩ := hF
    replace f7 := show (svRd [dB n]).pred (a.tmps.getD 7 undef) wx from f7
    replace f8 := show (svParts ls).pred (a.tmps.getD 8 undef) wx from f8
    refine rely_wp rfl ?_
    exact opr_cv (text_counted _ _ [dB n] ls wx f7 f8 hlen) rfl Tryd.func46 (by kernel_rfl) (by kernel_rfl) (by simp only [List.map_toArray, List.map_cons, List.map_nil, eval_tmp, eval_func]) hK
  · -- 5: Op.call ( value (Operand.func 45), args := #[t9], argTypes :
    intro a wx hT hF K hK
    obtain ⟨f9, _⟩ := hF
    replace f9 := show (svParts ([dB n] :: ls.flatMap cntP)).pred (a.tmps.getD 9 undef) wx from f9
    refine rely_wp rfl ?_
    exact opr_cv (Sum_cv _ ([dB n] :: ls.flatMap cntP) D wx (hT.tables HT.out) f9 (by show (ofL n ls).length ≤ _; have := Hol.out; omega) (by simpa [ofL] using HD.out)) rfl Tryd.func45 (by kernel_rfl) (by kernel_rfl) (by simp only [List.map_toArray, List.map_cons, List.map_nil, eval_tmp]) hK
  · intro wx hT
    intro u h; obtain rfl := h (by simp); clear h
    intro u h; obtain rfl := h (by simp); clear h
    intro u7 h; have g7 := h (by simp); clear h; replace g7 := show (svRd [dB n]).pred u7 wx from g7
    intro u8 h; have g8 := h (by simp); clear h; replace g8 := show (svParts ls).pred u8 wx from g8
    intro u9 h; have g9 := h (by simp); clear h; replace g9 := show (svParts ([dB n] :: ls.flatMap cntP)).pred u9 wx from g9
    intro u h; obtain rfl := h (by simp); clear h
    refine relyEnd_nil rfl ?_
    simp only [Act.put, List.setIfInBounds_toArray, List.set_cons_zero, List.set_cons_succ]
    refine opr_store_new (B := w.heap.size) (W := w) info31 rfl rfl rfl (hT.row r0) (NewT.trans _ _ _ hB0 hT) (Nat.le_refl _) ?_
    intro w9 hB9 r9
    go_simp
    go_wp2
    exact bodyPost_ret (results_row rfl _ rfl r9 Tryd.underlying28 info31) rfl ⟨_, rfl, hB9, rfl⟩
end Go.Proofs.YtilmeffmdgcblaaDoor
/- Records' commitments, what they are redacted, and their bytes, as package rec's functions answer them. -/
namespace Go.Proofs.YtilmeffmdgcblaaDoor
open Go
set_option maxRecDepth 8000
set_option linter.all false
/-- A payload's commitment. -/
@[irreducible] def cmC (salt : Nat → UInt8) (data : List UInt8) : Nat → UInt8 := shaL Kc Fc (ofL 4 [digL salt, data])
theorem cmC_eq (salt : Nat → UInt8) (data : List UInt8) : shaL Kc Fc (ofL 4 [digL salt, data]) = cmC salt data := by unfold cmC; rfl
def comC (x : Rc) : Nat → UInt8 := comR cmC x
def redactB (x : Rc) : Rc := if (x.kind == 1 && rightB x) = true then { x with gone := true, com := comC x, data := [], salt := fun _ => 0 } else x
end Go.Proofs.YtilmeffmdgcblaaDoor
/- Package rec: Right; commitments. -/
namespace Go.Proofs.YtilmeffmdgcblaaDoor
open Go Go.RowKit
set_option maxRecDepth 8000
set_option linter.all false
set_option maxHeartbeats 1000000 in
theorem Right_cv (v : Value) (x : Rc) (w : World) (h : RecV w v x) : Cv 17 #[v] w (.eq (.bool (rightB x))) := by
  rw [← right_eq]
  obtain ⟨sv, dv, rfl, hs, hd⟩ := h
  unfold Cv
  have HX : Hid (RecV w (.agg (rowA 109 (recF x sv dv))) x) := Lib.hid ⟨sv, dv, rfl, hs, hd⟩
  have HS := Lib.hid hs
  have HD := Lib.hid hd
  clear hs hd
  go_enter Tryd.func17, Tryd.ntmps17
  go_upto_region 1 with fail
  have r1 := rowIs_box w 32 109 (recF x sv dv)
  have hN := NewT.alloc w (.cells (rowA 109 (recF x sv dv)) 32)
  change Code.wp _ _ _ _ (w.alloc (.cells (rowA 109 (recF x sv dv)) 32))
  generalize w.alloc (.cells (rowA 109 (recF x sv dv)) 32) = W0 at r1 hN ⊢
  have R1 := Lib.hid r1
  have HN := Lib.hid hN
  replace HX := Lib.hid (hN.recV HX.out)
  replace HS := Lib.hid (hN.pairs HS.out)
  replace HD := Lib.hid (hN.rd HD.out)
  clear r1 hN
  refine wp_region_rely (NewT) [SV.eq (.agg (rowA 109 (recF x sv dv))), SV.eq (.bool (inRg x)), SV.eq (.bool (inRg x)), svIf (inRg x) (SV.eq (.agg (rowA 109 (recF x sv dv)))), svIf (inRg x) (SV.eq (.agg (rowA 109 (recF x sv dv)))), svIf (inRg x) (svRec (onlyR x)), svIf (inRg x) (SV.eq (.bool (sameB x (onlyR x)))), SV.eq (.bool ((inRg x) && (sameB x (onlyR x))))] [([(1, none)], none), ([(3, some 0)], none), ([(4, some 1)], none), ([(1, none), (5, some 2)], some (5, true)), ([(1, none), (5, some 2)], some (5, true)), ([(7, some 4), (5, some 2)], some (5, true)), ([(6, some 3), (8, some 5), (5, some 2)], some (5, true)), ([(5, some 2), (9, some 6)], none)] 11 rfl (by kernel_rfl) rfl (by kernel_rfl) (by kernel_rfl) rfl NewT.trans (NewT.drew _) (Nat.le_of_ble_eq_true rfl) ⟨?_, ?_, ?_, ?_, ?_, ?_, ?_, ?_, trivial⟩ ?_
  · exact fun a wx hT hF K hK => rely_wp rfl (opr_ldR (hT.row R1.out) rfl hF.1 (hK _ _ (NewT.refl _) rfl))
  · exact fun a wx hT hF K hK => rely_wp rfl (opr_cv (inRange_cv _ x wx (hT.recV HX.out)) rfl Tryd.func29 (by kernel_rfl) (by kernel_rfl) (evs1 hF.1) hK)
  · exact fun a wx hT hF K hK => rely_wp rfl (opr_move (.inl rfl) (hK _ _ (NewT.refl _) hF.1))
  · exact fun a wx hT hF K hK => rely_if (rely_gt hF.2.1) (NewT.refl _) hK fun hE hK => opr_ldR (hT.row R1.out) rfl hF.1 (hK _ _ (NewT.refl _) rfl)
  · exact fun a wx hT hF K hK => rely_if (rely_gt hF.2.1) (NewT.refl _) hK fun hE hK => opr_ldR (hT.row R1.out) rfl hF.1 (hK _ _ (NewT.refl _) rfl)
  · exact fun a wx hT hF K hK => rely_if (rely_gt hF.2.1) (NewT.refl _) hK fun hE hK => opr_cv (only_cv _ x wx (hT.recV HX.out)) rfl Tryd.func31 (by kernel_rfl) (by kernel_rfl) (evs1 (hF.1 hE)) hK
  · exact fun a wx hT hF K hK => rely_if (rely_gt hF.2.2.1) (NewT.refl _) hK fun hE hK => opr_cv (Same_cv _ _ x (onlyR x) wx (hT.recV HX.out) (hF.2.1 hE)) rfl Tryd.func30 (by kernel_rfl) (by kernel_rfl) (evs2 (hF.1 hE) rfl) hK
  · exact fun a wx hT hF K hK => rely_wp rfl (opr_pick_b rfl hF.1 (fun hb => hK _ _ (NewT.refl _) (pk_and1 (hF.2.1 hb) hb)) (fun hb => hK _ _ (NewT.refl _) (pk_and0 hb)))
  · intro wx hT
    iterate 3 (intro u h; obtain rfl := Eq.symm (h (by simp)); clear h)
    iterate 4 (intro _ _)
    intro u h; obtain rfl := Eq.symm (h (by simp)); clear h
    refine relyEnd_nil rfl ?_
    simp only [Act.put, List.setIfInBounds_toArray, List.set_cons_zero, List.set_cons_succ]
    refine opr_move (.inr rfl) ?_
    go_simp
    go_wp2
    go_ret
    exact ⟨_, rfl, NewT.trans _ _ _ HN.out hT, rfl⟩
set_option maxHeartbeats 1000000 in
theorem commitment_cv (v : Value) (x : Rc) (w : World) (h : RecV w v x) (hT : Tables w) (hl : x.data.length ≤ 900000) : Cv 18 #[v] w (.eq (.agg (rowA 32 (bF (comC x))))) := by
  obtain ⟨sv, dv, rfl, hs, hd⟩ := h
  unfold Cv
  have HX : Hid (RecV w (.agg (rowA 109 (recF x sv dv))) x) := Lib.hid ⟨sv, dv, rfl, hs, hd⟩
  have HS := Lib.hid hs
  have HD := Lib.hid hd
  clear hs hd
  have HT := Lib.hid hT
  clear hT
  go_enter Tryd.func18, Tryd.ntmps18
  go_upto_region 1 with fail
  have r1 := (rowIs_box w 32 109 (recF x sv dv)).alloc (.cells (rowA 32 (bF fun _ => 0)) 28)
  have r2 := rowIs_box (w.alloc (.cells (rowA 109 (recF x sv dv)) 32)) 28 32 (bF fun _ => 0)
  have hN : NewT w ((w.alloc (.cells (rowA 109 (recF x sv dv)) 32)).alloc (.cells (rowA 32 (bF fun _ => 0)) 28)) := NewT.trans _ _ _ (NewT.alloc _ _) (NewT.alloc _ _)
  rw [World.size_alloc] at r2
  change Code.wp _ _ _ _ ((w.alloc (.cells (rowA 109 (recF x sv dv)) 32)).alloc (.cells (rowA 32 (bF fun _ => 0)) 28))
  generalize hW0 : (w.alloc (.cells (rowA 109 (recF x sv dv)) 32)).alloc (.cells (rowA 32 (bF fun _ => 0)) 28) = W0 at r1 r2 hN ⊢
  have R1 := Lib.hid r1
  have R2 := Lib.hid r2
  have HN := Lib.hid hN
  have Hsz : Hid (W0.heap.size = w.heap.size + 2) := Lib.hid (by rw [← hW0]; simp)
  replace HX := Lib.hid (hN.recV HX.out)
  replace HS := Lib.hid (hN.pairs HS.out)
  replace HD := Lib.hid (hN.rd HD.out)
  replace HT := Lib.hid (hN.tables HT.out)
  clear r1 r2 hN hW0
  have c14 : W0.cell? ⟨w.heap.size, 76, none⟩ = some (.bool x.gone) := R1.out.cell (i := 76) (by omega)
  cases hg : x.gone
  · rw [hg] at c14
    have HC : Hid (comC x = cmC x.salt x.data) := Lib.hid (by unfold comC comR; rw [hg, if_neg (by simp)])
    go_upto_region 3 with fail
    clear c14
    refine wp_region_rely (NewT) [SV.eq (.pointer (some ⟨w.heap.size, 44, none⟩)), svRd (digL (x.salt)), SV.eq (.pointer (some ⟨w.heap.size, 43, none⟩)), SV.eq (dv), svParts [digL (x.salt), x.data], SV.eq (.agg (rowA 32 (bF (cmC x.salt x.data))))] [([(1, none)], none), ([(7, some 0)], none), ([(1, none)], none), ([(9, some 2)], none), ([(8, some 1), (10, some 3)], none), ([(11, some 4)], none)] 13 rfl (by kernel_rfl) rfl (by kernel_rfl) (by kernel_rfl) rfl NewT.trans (NewT.drew _) (Nat.le_of_ble_eq_true rfl) ⟨?_, ?_, ?_, ?_, ?_, ?_, trivial⟩ ?_
    · exact fun a wx hT hF K hK => rely_wp rfl (opr_fldR (by decide) rfl hF.1 (hK _ _ (NewT.refl _) rfl))
    · exact fun a wx hT hF K hK => rely_wp rfl (opr_sliceH rfl hF.1 (hK _ _ (NewT.refl _) (rd_rowH (hT.row R1.out) (by decide) (recF_salt x _ _))))
    · exact fun a wx hT hF K hK => rely_wp rfl (opr_fldR (by decide) rfl hF.1 (hK _ _ (NewT.refl _) rfl))
    · exact fun a wx hT hF K hK => rely_wp rfl (opr_ldB (hT.row R1.out) (by decide) rfl rfl hF.1 (hK _ _ (NewT.refl _) rfl))
    · intro a wx hT hF K hK
      obtain ⟨f8, f10, _⟩ := hF
      replace f8 := show (svRd (digL (x.salt))).pred (a.tmps.getD 8 undef) wx from f8
      have f10 : a.tmps.getD 10 undef = dv := f10
      refine rely_wp rfl ?_
      exact opr_bs2 rfl f8 (by rw [eval_tmp, f10]; exact (hT.rd HD.out)) hK
    · exact fun a wx hT hF K hK => rely_wp rfl (opr_cv (Of_cv 4 _ [digL x.salt, x.data] (cmC x.salt x.data) wx (hT.tables HT.out) hF.1 (by simp) (by simp [digL_length]; have := hl; omega) (cmC_eq _ _)) rfl Tryd.func32 (by kernel_rfl) (by kernel_rfl) (evs2 rfl rfl) hK)
    · intro wx hT
      intro u h; obtain rfl := Eq.symm (h (by simp)); clear h
      intro _ _
      iterate 2 (intro u h; obtain rfl := Eq.symm (h (by simp)); clear h)
      intro _ _
      intro u h; obtain rfl := Eq.symm (h (by simp)); clear h
      refine relyEnd_nil rfl ?_
      simp only [Act.put, List.setIfInBounds_toArray, List.set_cons_zero, List.set_cons_succ]
      refine opr_store_new (B := w.heap.size) (W := w) info31 rfl rfl rfl (hT.row R2.out) (NewT.trans _ _ _ HN.out hT) (Nat.le_succ _) ?_
      intro w9 hB9 r9
      go_simp
      go_wp2
      exact bodyPost_ret (results_row rfl _ rfl r9 Tryd.underlying28 info31) rfl ⟨_, rfl, hB9, by rw [HC.out]; rfl⟩
  · rw [hg] at c14
    have HC : Hid (comC x = x.com) := Lib.hid (by unfold comC comR; rw [hg, if_pos rfl])
    go_upto_region 2 with fail
    clear c14
    refine wp_region_steps0 NewT [SV.eq (.pointer (some ⟨w.heap.size, 77, none⟩)), SV.eq (.agg (rowA 32 (bF (x.com))))] [([(1, none)], none), ([(5, some 0)], none)] 13 2 rfl rfl (by kernel_rfl) NewT.trans (NewT.refl _) (Nat.le_of_ble_eq_true rfl) ⟨?_, ?_, trivial⟩ ?_
    · exact fun a wx hT hF K hK => rely_wp rfl (opr_fldR (by decide) rfl hF.1 (hK _ _ (NewT.refl _) rfl))
    · exact fun a wx hT hF K hK => rely_wp rfl (opr_ldH (hT.row R1.out) (by decide) (recF_com x _ _) rfl hF.1 (hK _ _ (NewT.refl _) rfl))
    · intro wx hT
      iterate 2 (intro u h; obtain rfl := Eq.symm (h (by simp)); clear h)
      refine relyEnd_nil rfl ?_
      simp only [Act.put, List.setIfInBounds_toArray, List.set_cons_zero, List.set_cons_succ]
      refine wpList_plain rfl (fun K hK => ?_)
      refine opr_store_new (B := w.heap.size) (W := w) info31 rfl rfl rfl (hT.row R2.out) (NewT.trans _ _ _ HN.out hT) (Nat.le_succ _) ?_
      intro w9 hB9 r9
      refine hK _ _ ?_
      refine wpList_end rfl ?_
      go_simp
      go_wp2
      exact bodyPost_ret (results_row rfl _ rfl r9 Tryd.underlying28 info31) rfl ⟨_, rfl, hB9, by rw [HC.out]; rfl⟩
theorem build_hash0 (w : World) : (Instr.build 28 #[]).run Tryd.prog w = .ok (.agg (rowA 32 (bF fun _ => 0))) w := by kernel_rfl
end Go.Proofs.YtilmeffmdgcblaaDoor
