/- Package rec: only. -/
import Derived.Test.YtilmeffmdgcblaaMd
import Derived.Test.YtilmeffmdgcblaaMa
import Derived.Test.YtilmeffmdgcblaaMc
set_option linter.all false
namespace Go.Proofs.Ytilmeffmdgcblaa
open Go Go.RowKit
set_option maxRecDepth 8000
set_option linter.all false
set_option maxHeartbeats 8000000 in
theorem only_cv (v : Value) (x : Rc) (w : World) (h : RecV w v x) : Cv 58 #[v] w (svRec (onlyR x)) := by
  obtain ⟨sv, dv, rfl, hs, hd⟩ := h
  unfold Cv
  have oneS := oneP hs
  have oneD := oneR hd
  go_enter Try.func58, Try.ntmps58
  go_upto_region 1 with fail
  have r1 := (rowIs_box w 46 109 (recF x sv dv)).alloc (.cells (rowA 109 (recF zR (.slice none 0 0) (.slice none 0 0))) 46)
  have r2 := rowIs_box (w.alloc (.cells (rowA 109 (recF x sv dv)) 46)) 46 109 (recF zR (.slice none 0 0) (.slice none 0 0))
  have hN : NewT w ((w.alloc (.cells (rowA 109 (recF x sv dv)) 46)).alloc (.cells (rowA 109 (recF zR (.slice none 0 0) (.slice none 0 0))) 46)) := NewT.trans _ _ _ (NewT.alloc _ _) (NewT.alloc _ _)
  rw [World.size_alloc] at r2
  change Code.wp _ _ _ _ ((w.alloc (.cells (rowA 109 (recF x sv dv)) 46)).alloc (.cells (rowA 109 (recF zR (.slice none 0 0) (.slice none 0 0))) 46))
  generalize hW0 : (w.alloc (.cells (rowA 109 (recF x sv dv)) 46)).alloc (.cells (rowA 109 (recF zR (.slice none 0 0) (.slice none 0 0))) 46) = W0 at r1 r2 hN ⊢
  have R1 := Lib.hid r1
  have hsz : W0.heap.size = w.heap.size + 2 := by rw [← hW0]; simp
  clear hW0
  refine wp_region_steps0 NewT [SV.eq (.pointer (some ⟨w.heap.size, 0, none⟩)), SV.eq (.int .i64 (x.kind)), SV.eq (.agg (rowA 109 (recF ({ zR with kind := x.kind }) (.slice none 0 0) (.slice none 0 0))))] [([(1, none)], none), ([(4, some 0)], none), ([(5, some 1)], none)] 83 3 rfl rfl (by kernel_rfl) NewT.trans (NewT.refl _) (Nat.le_of_ble_eq_true rfl) ⟨?_, ?_, ?_, trivial⟩ ?_
  · exact fun a wx hT hF K hK => rely_wp rfl (opr_fldR (by decide) rfl hF.1 (hK _ _ (NewT.refl _) rfl))
  · exact fun a wx hT hF K hK => rely_wp rfl (opr_ldI (hT.row R1.out) (by decide) rfl rfl hF.1 (hK _ _ (NewT.refl _) rfl))
  · intro a wx hT hF K hK
    obtain ⟨f5, _⟩ := hF
    have f5 : a.tmps.getD 5 undef = .int .i64 (x.kind) := f5
    refine rely_wp rfl ?_
    exact opr_build rfl (by simp only [List.map_toArray, List.map_cons, List.map_nil, eval_tmp, f5]) (build_kind x.kind wx) (hK _ _ (NewT.refl _) rfl)
  · intro wa ha
    iterate 3 (intro u h; obtain rfl := Eq.symm (h (by simp)); clear h)
    refine relyEnd_nil rfl ?_
    simp only [Act.put, List.setIfInBounds_toArray, List.set_cons_zero, List.set_cons_succ]
    refine wpList_new (n := 109) rfl rfl rfl rfl rfl rfl (by simp) run_alloc_rec info_rec (recF_one _ _ _ rfl rfl) rfl ?_
    intro w1 hn1 r3
    refine wpList_end rfl ?_
    simp only [Act.put, List.setIfInBounds_toArray, List.set_cons_zero, List.set_cons_succ]
    go_simp
    have X1 := Lib.hid (hn1.row (ha.row r1))
    have X2 := Lib.hid (hn1.row (ha.row r2))
    have HN := Lib.hid (NewT.trans _ _ _ hN (NewT.trans _ _ _ ha hn1))
    have hR : w.heap.size + 2 ≤ wa.heap.size := by have := ha.out.size; omega
    have hRl : wa.heap.size < w1.heap.size := r3.lt
    have X3 := Lib.hid r3
    clear R1 r1 r2 r3 hN ha hn1 hsz
    generalize wa.heap.size = R at X3 hR hRl ⊢
    have hne1 : w.heap.size ≠ R := by omega
    have hne2 : w.heap.size + 1 ≠ R := by omega
    have c0 : w1.cell? ⟨w.heap.size, 0, none⟩ = some (.int .i64 x.kind) := X1.out.cell (by omega)
    by_cases hk : x.kind = 1
    · rw [hk] at c0
      go_upto_region 9 with fail
      clear c0
      refine wp_region_relyP (RT R) (fun k w => w.rowIs R 46 109 ((fun k => ([recF ({ zR with kind := x.kind }) (.slice none 0 0) (.slice none 0 0), recF ({ zR with kind := x.kind, saga := x.saga }) (.slice none 0 0) (.slice none 0 0)] : List (Nat → Value)).getD k (recF ({ zR with kind := x.kind, saga := x.saga }) (sv) (.slice none 0 0))) k)) [SV.eq (.pointer (some ⟨w.heap.size, 1, none⟩)), SV.eq (.int .i64 (x.saga)), SV.eq (.pointer (some ⟨w.heap.size, 42, none⟩)), SV.eq (sv), SV.eq (.pointer (some ⟨w.heap.size, 76, none⟩)), SV.eq (.bool (x.gone)), SV.eq (.pointer (some ⟨R, 1, none⟩)), SV.any, SV.eq (.pointer (some ⟨R, 42, none⟩)), SV.any, SV.eq (.pointer (some ⟨R, 76, none⟩))] [([(1, none)], none), ([(20, some 0)], none), ([(1, none)], none), ([(22, some 2)], none), ([(1, none)], none), ([(24, some 4)], none), ([(3, none)], none), ([(26, some 6), (21, some 1)], none), ([(3, none)], none), ([(27, some 8), (23, some 3)], none), ([(3, none)], none)] [none, none, none, none, none, none, none, some 0, none, some 1, none] [7, 9] 83 rfl (by kernel_rfl) rfl (by kernel_rfl) (by kernel_rfl) rfl (by kernel_rfl) RT.trans (RT.drew _ _) ((NewT.drew _).row X3.out) (Nat.le_of_ble_eq_true rfl) ⟨?_, ?_, ?_, ?_, ?_, ?_, ?_, ?_, ?_, ?_, ?_, trivial⟩ ?_
      · exact fun a wx hT hF K hK => have hK := fun v w' (hN : NewT wx w') hv => hK v w' (RT.new (Nat.lt_of_lt_of_le hRl hT.size) hN) (fun k h => hN.row h) hv; rely_wp rfl (opr_fldR (by decide) rfl hF.1 (hK _ _ (NewT.refl _) rfl))
      · exact fun a wx hT hF K hK => have hK := fun v w' (hN : NewT wx w') hv => hK v w' (RT.new (Nat.lt_of_lt_of_le hRl hT.size) hN) (fun k h => hN.row h) hv; rely_wp rfl (opr_ldI (hT.row hne1 X1.out) (by decide) rfl rfl hF.1 (hK _ _ (NewT.refl _) rfl))
      · exact fun a wx hT hF K hK => have hK := fun v w' (hN : NewT wx w') hv => hK v w' (RT.new (Nat.lt_of_lt_of_le hRl hT.size) hN) (fun k h => hN.row h) hv; rely_wp rfl (opr_fldR (by decide) rfl hF.1 (hK _ _ (NewT.refl _) rfl))
      · exact fun a wx hT hF K hK => have hK := fun v w' (hN : NewT wx w') hv => hK v w' (RT.new (Nat.lt_of_lt_of_le hRl hT.size) hN) (fun k h => hN.row h) hv; rely_wp rfl (opr_ldS (hT.row hne1 X1.out) (by decide) rfl rfl hF.1 (hK _ _ (NewT.refl _) rfl))
      · exact fun a wx hT hF K hK => have hK := fun v w' (hN : NewT wx w') hv => hK v w' (RT.new (Nat.lt_of_lt_of_le hRl hT.size) hN) (fun k h => hN.row h) hv; rely_wp rfl (opr_fldR (by decide) rfl hF.1 (hK _ _ (NewT.refl _) rfl))
      · exact fun a wx hT hF K hK => have hK := fun v w' (hN : NewT wx w') hv => hK v w' (RT.new (Nat.lt_of_lt_of_le hRl hT.size) hN) (fun k h => hN.row h) hv; rely_wp rfl (opr_ldQ (hT.row hne1 X1.out) (by decide) rfl rfl hF.1 (hK _ _ (NewT.refl _) rfl))
      · exact fun a wx hT hF K hK => have hK := fun v w' (hN : NewT wx w') hv => hK v w' (RT.new (Nat.lt_of_lt_of_le hRl hT.size) hN) (fun k h => hN.row h) hv; rely_wp rfl (opr_fldR (by decide) rfl hF.1 (hK _ _ (NewT.refl _) rfl))
      · intro a wx hT hF hJ K hK
        obtain ⟨f26, f21, _⟩ := hF
        have f26 : a.tmps.getD 26 undef = .pointer (some ⟨R, 1, none⟩) := f26
        have f21 : a.tmps.getD 21 undef = .int .i64 (x.saga) := f21
        refine rely_wp rfl ?_
        refine opr_put1 rfl f26 f21 (show wx.rowIs R 46 109 (recF ({ zR with kind := x.kind }) (.slice none 0 0) (.slice none 0 0)) from hJ) (by decide) info_i1 rfl (fun i _ => rs_saga ({ zR with kind := x.kind }) (.slice none 0 0) (.slice none 0 0) i _) ?_
        intro w' hT' hr'
        exact hK _ _ hT' hr' trivial
      · exact fun a wx hT hF K hK => have hK := fun v w' (hN : NewT wx w') hv => hK v w' (RT.new (Nat.lt_of_lt_of_le hRl hT.size) hN) (fun k h => hN.row h) hv; rely_wp rfl (opr_fldR (by decide) rfl hF.1 (hK _ _ (NewT.refl _) rfl))
      · intro a wx hT hF hJ K hK
        obtain ⟨f27, f23, _⟩ := hF
        have f27 : a.tmps.getD 27 undef = .pointer (some ⟨R, 42, none⟩) := f27
        have f23 : a.tmps.getD 23 undef = sv := f23
        refine rely_wp rfl ?_
        refine opr_put1 rfl f27 f23 (show wx.rowIs R 46 109 (recF ({ zR with kind := x.kind, saga := x.saga }) (.slice none 0 0) (.slice none 0 0)) from hJ) (by decide) info_s1 oneS (fun i _ => rs_steps ({ zR with kind := x.kind, saga := x.saga }) (.slice none 0 0) (.slice none 0 0) i _) ?_
        intro w' hT' hr'
        exact hK _ _ hT' hr' trivial
      · exact fun a wx hT hF K hK => have hK := fun v w' (hN : NewT wx w') hv => hK v w' (RT.new (Nat.lt_of_lt_of_le hRl hT.size) hN) (fun k h => hN.row h) hv; rely_wp rfl (opr_fldR (by decide) rfl hF.1 (hK _ _ (NewT.refl _) rfl))
      · intro e1 h1 hJ
        iterate 7 (intro u h; obtain rfl := Eq.symm (h (by simp)); clear h)
        intro _ _
        intro u h; obtain rfl := Eq.symm (h (by simp)); clear h
        intro _ _
        intro u h; obtain rfl := Eq.symm (h (by simp)); clear h
        refine relyEnd_nil rfl ?_
        simp only [Act.put, List.setIfInBounds_toArray, List.set_cons_zero, List.set_cons_succ]
        refine opr_put1 rfl rfl rfl (show e1.rowIs R 46 109 (recF ({ zR with kind := x.kind, saga := x.saga }) (sv) (.slice none 0 0)) from hJ) (by decide) info_b1 rfl (fun i _ => rs_gone ({ zR with kind := x.kind, saga := x.saga }) (sv) (.slice none 0 0) i _) ?_
        intro e1s hT' hr'
        clear hJ
        go_simp
        have hRT := RT.trans _ _ _ h1 hT'
        have hRl2 : R < e1s.heap.size := hr'.lt
        have c14 : e1s.cell? ⟨w.heap.size, 76, none⟩ = some (.bool x.gone) := (hRT.row hne1 X1.out).cell (i := 76) (by omega)
        cases hg : x.gone
        · have HO : Hid (onlyR x = { zR with kind := x.kind, saga := x.saga, gone := x.gone, salt := x.salt, steps := x.steps, data := x.data }) := Lib.hid (by unfold onlyR; simp only [hk, hg]; simp)
          rw [hg] at c14
          go_upto_region 12 with fail
          clear c14
          refine wp_region_relyP (RT R) (fun k w => w.rowIs R 46 109 ((fun k => ([recF ({ zR with kind := x.kind, saga := x.saga, gone := x.gone }) (sv) (.slice none 0 0)] : List (Nat → Value)).getD k (recF ({ zR with kind := x.kind, saga := x.saga, gone := x.gone }) (sv) (dv))) k)) [SV.eq (.pointer (some ⟨w.heap.size, 43, none⟩)), SV.eq (dv), SV.eq (.pointer (some ⟨w.heap.size, 44, none⟩)), SV.eq (.agg (rowA 32 (bF (x.salt)))), SV.eq (.pointer (some ⟨R, 43, none⟩)), SV.any, SV.eq (.pointer (some ⟨R, 44, none⟩))] [([(1, none)], none), ([(34, some 0)], none), ([(1, none)], none), ([(36, some 2)], none), ([(3, none)], none), ([(38, some 4), (35, some 1)], none), ([(3, none)], none)] [none, none, none, none, none, some 0, none] [5] 83 rfl (by kernel_rfl) rfl (by kernel_rfl) (by kernel_rfl) rfl (by kernel_rfl) RT.trans (RT.drew _ _) ((NewT.drew _).row hr') (Nat.le_of_ble_eq_true rfl) ⟨?_, ?_, ?_, ?_, ?_, ?_, ?_, trivial⟩ ?_
          · exact fun a wx hT hF K hK => have hK := fun v w' (hN : NewT wx w') hv => hK v w' (RT.new (Nat.lt_of_lt_of_le hRl2 hT.size) hN) (fun k h => hN.row h) hv; rely_wp rfl (opr_fldR (by decide) rfl hF.1 (hK _ _ (NewT.refl _) rfl))
          · exact fun a wx hT hF K hK => have hK := fun v w' (hN : NewT wx w') hv => hK v w' (RT.new (Nat.lt_of_lt_of_le hRl2 hT.size) hN) (fun k h => hN.row h) hv; rely_wp rfl (opr_ldB (hT.row hne1 (hRT.row hne1 X1.out)) (by decide) rfl rfl hF.1 (hK _ _ (NewT.refl _) rfl))
          · exact fun a wx hT hF K hK => have hK := fun v w' (hN : NewT wx w') hv => hK v w' (RT.new (Nat.lt_of_lt_of_le hRl2 hT.size) hN) (fun k h => hN.row h) hv; rely_wp rfl (opr_fldR (by decide) rfl hF.1 (hK _ _ (NewT.refl _) rfl))
          · exact fun a wx hT hF K hK => have hK := fun v w' (hN : NewT wx w') hv => hK v w' (RT.new (Nat.lt_of_lt_of_le hRl2 hT.size) hN) (fun k h => hN.row h) hv; rely_wp rfl (opr_ldH (hT.row hne1 (hRT.row hne1 X1.out)) (by decide) (recF_salt x _ _) rfl hF.1 (hK _ _ (NewT.refl _) rfl))
          · exact fun a wx hT hF K hK => have hK := fun v w' (hN : NewT wx w') hv => hK v w' (RT.new (Nat.lt_of_lt_of_le hRl2 hT.size) hN) (fun k h => hN.row h) hv; rely_wp rfl (opr_fldR (by decide) rfl hF.1 (hK _ _ (NewT.refl _) rfl))
          · intro a wx hT hF hJ K hK
            obtain ⟨f38, f35, _⟩ := hF
            have f38 : a.tmps.getD 38 undef = .pointer (some ⟨R, 43, none⟩) := f38
            have f35 : a.tmps.getD 35 undef = dv := f35
            refine rely_wp rfl ?_
            refine opr_put1 rfl f38 f35 (show wx.rowIs R 46 109 (recF ({ zR with kind := x.kind, saga := x.saga, gone := x.gone }) (sv) (.slice none 0 0)) from hJ) (by decide) info_d1 oneD (fun i _ => rs_data ({ zR with kind := x.kind, saga := x.saga, gone := x.gone }) (sv) (.slice none 0 0) i _) ?_
            intro w' hT' hr'
            exact hK _ _ hT' hr' trivial
          · exact fun a wx hT hF K hK => have hK := fun v w' (hN : NewT wx w') hv => hK v w' (RT.new (Nat.lt_of_lt_of_le hRl2 hT.size) hN) (fun k h => hN.row h) hv; rely_wp rfl (opr_fldR (by decide) rfl hF.1 (hK _ _ (NewT.refl _) rfl))
          · intro eb hb hJ
            iterate 5 (intro u h; obtain rfl := Eq.symm (h (by simp)); clear h)
            intro _ _
            intro u h; obtain rfl := Eq.symm (h (by simp)); clear h
            refine relyEnd_nil rfl ?_
            simp only [Act.put, List.setIfInBounds_toArray, List.set_cons_zero, List.set_cons_succ]
            refine opr_putm rfl rfl rfl (show eb.rowIs R 46 109 (recF ({ zR with kind := x.kind, saga := x.saga, gone := x.gone }) (sv) (dv)) from hJ) (by decide) info31 (fun _ => rfl) (fun i hi => rs_salt ({ zR with kind := x.kind, saga := x.saga, gone := x.gone }) (sv) (dv) i _ hi) ?_
            intro ebs hT2 hr2
            clear hJ
            go_simp
            have hRT2 := RT.trans _ _ _ hRT (RT.trans _ _ _ hb hT2)
            go_upto_region 17 with fail
            refine wp_region_steps0 NewT [SV.eq (.agg (rowA 109 (recF ({ zR with kind := x.kind, saga := x.saga, gone := x.gone, salt := x.salt }) (sv) (dv))))] [([(3, none)], none)] 83 1 rfl rfl (by kernel_rfl) NewT.trans (NewT.refl _) (Nat.le_of_ble_eq_true rfl) ⟨?_, trivial⟩ ?_
            · exact fun a wx hT hF K hK => rely_wp rfl (opr_ldR (hT.row hr2) rfl hF.1 (hK _ _ (NewT.refl _) rfl))
            · intro wf hf
              intro u h; obtain rfl := Eq.symm (h (by simp)); clear h
              refine relyEnd_nil rfl ?_
              simp only [Act.put, List.setIfInBounds_toArray, List.set_cons_zero, List.set_cons_succ]
              refine wpList_plain rfl (fun K hK => ?_)
              refine opr_putm rfl rfl rfl (hf.row (hRT2.row hne2 X2.out)) (by decide) info_rec (recF_one _ _ _ oneS oneD) (put_all _ _) ?_
              intro wq hTq rq
              refine hK _ _ ?_
              refine wpList_end rfl ?_
              go_simp
              go_wp2
              have hNq : NewT w wq := (NewT.trans _ _ _ (HN.out.rt hRT2 (by omega)) hf).rt hTq (by omega)
              refine bodyPost_ret (results_agg rfl _ rfl rq Try.underlying46 rfl info_rec) rfl ⟨_, rfl, hNq, ?_⟩
              rw [HO.out]
              exact ⟨sv, dv, rfl, hNq.pairs hs, hNq.rd hd⟩
        · have HO : Hid (onlyR x = { zR with kind := x.kind, saga := x.saga, gone := x.gone, com := x.com, steps := x.steps }) := Lib.hid (by unfold onlyR; simp only [hk, hg]; simp)
          rw [hg] at c14
          go_upto_region 11 with fail
          clear c14
          refine wp_region_steps0 NewT [SV.eq (.pointer (some ⟨w.heap.size, 77, none⟩)), SV.eq (.agg (rowA 32 (bF (x.com)))), SV.eq (.pointer (some ⟨R, 77, none⟩))] [([(1, none)], none), ([(31, some 0)], none), ([(3, none)], none)] 83 3 rfl rfl (by kernel_rfl) NewT.trans (NewT.refl _) (Nat.le_of_ble_eq_true rfl) ⟨?_, ?_, ?_, trivial⟩ ?_
          · exact fun a wx hT hF K hK => rely_wp rfl (opr_fldR (by decide) rfl hF.1 (hK _ _ (NewT.refl _) rfl))
          · exact fun a wx hT hF K hK => rely_wp rfl (opr_ldH (hT.row (hRT.row hne1 X1.out)) (by decide) (recF_com x _ _) rfl hF.1 (hK _ _ (NewT.refl _) rfl))
          · exact fun a wx hT hF K hK => rely_wp rfl (opr_fldR (by decide) rfl hF.1 (hK _ _ (NewT.refl _) rfl))
          · intro eb hb
            iterate 3 (intro u h; obtain rfl := Eq.symm (h (by simp)); clear h)
            refine relyEnd_nil rfl ?_
            simp only [Act.put, List.setIfInBounds_toArray, List.set_cons_zero, List.set_cons_succ]
            refine wpList_plain rfl (fun K hK => ?_)
            refine opr_putm rfl rfl rfl (hb.row hr') (by decide) info31 (fun _ => rfl) (fun i hi => rs_com ({ zR with kind := x.kind, saga := x.saga, gone := x.gone }) (sv) (.slice none 0 0) i _ hi) ?_
            intro ebs hT2 hr2
            refine hK _ _ ?_
            refine wpList_end rfl ?_
            go_simp
            have hRT2 := RT.trans _ _ _ hRT (RT.trans _ _ _ (RT.new hRl2 hb) hT2)
            go_upto_region 17 with fail
            refine wp_region_steps0 NewT [SV.eq (.agg (rowA 109 (recF ({ zR with kind := x.kind, saga := x.saga, gone := x.gone, com := x.com }) (sv) (.slice none 0 0))))] [([(3, none)], none)] 83 1 rfl rfl (by kernel_rfl) NewT.trans (NewT.refl _) (Nat.le_of_ble_eq_true rfl) ⟨?_, trivial⟩ ?_
            · exact fun a wx hT hF K hK => rely_wp rfl (opr_ldR (hT.row hr2) rfl hF.1 (hK _ _ (NewT.refl _) rfl))
            · intro wf hf
              intro u h; obtain rfl := Eq.symm (h (by simp)); clear h
              refine relyEnd_nil rfl ?_
              simp only [Act.put, List.setIfInBounds_toArray, List.set_cons_zero, List.set_cons_succ]
              refine wpList_plain rfl (fun K hK => ?_)
              refine opr_putm rfl rfl rfl (hf.row (hRT2.row hne2 X2.out)) (by decide) info_rec (recF_one _ _ _ oneS rfl) (put_all _ _) ?_
              intro wq hTq rq
              refine hK _ _ ?_
              refine wpList_end rfl ?_
              go_simp
              go_wp2
              have hNq : NewT w wq := (NewT.trans _ _ _ (HN.out.rt hRT2 (by omega)) hf).rt hTq (by omega)
              refine bodyPost_ret (results_agg rfl _ rfl rq Try.underlying46 rfl info_rec) rfl ⟨_, rfl, hNq, ?_⟩
              rw [HO.out]
              exact ⟨sv, .slice none 0 0, rfl, hNq.pairs hs, rdV_nil _ _⟩
    have k1 := hk
    clear hk
    by_cases hk : x.kind = 3
    · have HO : Hid (onlyR x = { zR with kind := x.kind, good := x.good, part := x.part, epoch := x.epoch, tag := x.tag, saga := x.saga, seq := x.seq, step := x.step, tr := x.tr, back := x.back }) := Lib.hid (by unfold onlyR; simp only [hk]; simp)
      rw [hk] at c0
      go_upto_region 13 with fail
      clear c0
      refine wp_region_relyP (RT R) (fun k w => w.rowIs R 46 109 ((fun k => ([recF ({ zR with kind := x.kind }) (.slice none 0 0) (.slice none 0 0), recF ({ zR with kind := x.kind, good := x.good }) (.slice none 0 0) (.slice none 0 0), recF ({ zR with kind := x.kind, good := x.good, part := x.part }) (.slice none 0 0) (.slice none 0 0)] : List (Nat → Value)).getD k (recF ({ zR with kind := x.kind, good := x.good, part := x.part, epoch := x.epoch }) (.slice none 0 0) (.slice none 0 0))) k)) [SV.eq (.pointer (some ⟨w.heap.size, 6, none⟩)), SV.eq (.bool (x.good)), SV.eq (.pointer (some ⟨w.heap.size, 8, none⟩)), SV.eq (.int .i64 (x.part)), SV.eq (.pointer (some ⟨w.heap.size, 9, none⟩)), SV.eq (.int .i64 (x.epoch)), SV.eq (.pointer (some ⟨w.heap.size, 10, none⟩)), SV.eq (.agg (rowA 32 (bF (x.tag)))), SV.eq (.pointer (some ⟨R, 6, none⟩)), SV.any, SV.eq (.pointer (some ⟨R, 8, none⟩)), SV.any, SV.eq (.pointer (some ⟨R, 9, none⟩)), SV.any, SV.eq (.pointer (some ⟨R, 10, none⟩))] [([(1, none)], none), ([(40, some 0)], none), ([(1, none)], none), ([(42, some 2)], none), ([(1, none)], none), ([(44, some 4)], none), ([(1, none)], none), ([(46, some 6)], none), ([(3, none)], none), ([(48, some 8), (41, some 1)], none), ([(3, none)], none), ([(49, some 10), (43, some 3)], none), ([(3, none)], none), ([(50, some 12), (45, some 5)], none), ([(3, none)], none)] [none, none, none, none, none, none, none, none, none, some 0, none, some 1, none, some 2, none] [9, 11, 13] 83 rfl (by kernel_rfl) rfl (by kernel_rfl) (by kernel_rfl) rfl (by kernel_rfl) RT.trans (RT.drew _ _) ((NewT.drew _).row X3.out) (Nat.le_of_ble_eq_true rfl) ⟨?_, ?_, ?_, ?_, ?_, ?_, ?_, ?_, ?_, ?_, ?_, ?_, ?_, ?_, ?_, trivial⟩ ?_
      · exact fun a wx hT hF K hK => have hK := fun v w' (hN : NewT wx w') hv => hK v w' (RT.new (Nat.lt_of_lt_of_le hRl hT.size) hN) (fun k h => hN.row h) hv; rely_wp rfl (opr_fldR (by decide) rfl hF.1 (hK _ _ (NewT.refl _) rfl))
      · exact fun a wx hT hF K hK => have hK := fun v w' (hN : NewT wx w') hv => hK v w' (RT.new (Nat.lt_of_lt_of_le hRl hT.size) hN) (fun k h => hN.row h) hv; rely_wp rfl (opr_ldQ (hT.row hne1 X1.out) (by decide) rfl rfl hF.1 (hK _ _ (NewT.refl _) rfl))
      · exact fun a wx hT hF K hK => have hK := fun v w' (hN : NewT wx w') hv => hK v w' (RT.new (Nat.lt_of_lt_of_le hRl hT.size) hN) (fun k h => hN.row h) hv; rely_wp rfl (opr_fldR (by decide) rfl hF.1 (hK _ _ (NewT.refl _) rfl))
      · exact fun a wx hT hF K hK => have hK := fun v w' (hN : NewT wx w') hv => hK v w' (RT.new (Nat.lt_of_lt_of_le hRl hT.size) hN) (fun k h => hN.row h) hv; rely_wp rfl (opr_ldI (hT.row hne1 X1.out) (by decide) rfl rfl hF.1 (hK _ _ (NewT.refl _) rfl))
      · exact fun a wx hT hF K hK => have hK := fun v w' (hN : NewT wx w') hv => hK v w' (RT.new (Nat.lt_of_lt_of_le hRl hT.size) hN) (fun k h => hN.row h) hv; rely_wp rfl (opr_fldR (by decide) rfl hF.1 (hK _ _ (NewT.refl _) rfl))
      · exact fun a wx hT hF K hK => have hK := fun v w' (hN : NewT wx w') hv => hK v w' (RT.new (Nat.lt_of_lt_of_le hRl hT.size) hN) (fun k h => hN.row h) hv; rely_wp rfl (opr_ldI (hT.row hne1 X1.out) (by decide) rfl rfl hF.1 (hK _ _ (NewT.refl _) rfl))
      · exact fun a wx hT hF K hK => have hK := fun v w' (hN : NewT wx w') hv => hK v w' (RT.new (Nat.lt_of_lt_of_le hRl hT.size) hN) (fun k h => hN.row h) hv; rely_wp rfl (opr_fldR (by decide) rfl hF.1 (hK _ _ (NewT.refl _) rfl))
      · exact fun a wx hT hF K hK => have hK := fun v w' (hN : NewT wx w') hv => hK v w' (RT.new (Nat.lt_of_lt_of_le hRl hT.size) hN) (fun k h => hN.row h) hv; rely_wp rfl (opr_ldH (hT.row hne1 X1.out) (by decide) (recF_tag x _ _) rfl hF.1 (hK _ _ (NewT.refl _) rfl))
      · exact fun a wx hT hF K hK => have hK := fun v w' (hN : NewT wx w') hv => hK v w' (RT.new (Nat.lt_of_lt_of_le hRl hT.size) hN) (fun k h => hN.row h) hv; rely_wp rfl (opr_fldR (by decide) rfl hF.1 (hK _ _ (NewT.refl _) rfl))
      · intro a wx hT hF hJ K hK
        obtain ⟨f48, f41, _⟩ := hF
        have f48 : a.tmps.getD 48 undef = .pointer (some ⟨R, 6, none⟩) := f48
        have f41 : a.tmps.getD 41 undef = .bool (x.good) := f41
        refine rely_wp rfl ?_
        refine opr_put1 rfl f48 f41 (show wx.rowIs R 46 109 (recF ({ zR with kind := x.kind }) (.slice none 0 0) (.slice none 0 0)) from hJ) (by decide) info_b1 rfl (fun i _ => rs_good ({ zR with kind := x.kind }) (.slice none 0 0) (.slice none 0 0) i _) ?_
        intro w' hT' hr'
        exact hK _ _ hT' hr' trivial
      · exact fun a wx hT hF K hK => have hK := fun v w' (hN : NewT wx w') hv => hK v w' (RT.new (Nat.lt_of_lt_of_le hRl hT.size) hN) (fun k h => hN.row h) hv; rely_wp rfl (opr_fldR (by decide) rfl hF.1 (hK _ _ (NewT.refl _) rfl))
      · intro a wx hT hF hJ K hK
        obtain ⟨f49, f43, _⟩ := hF
        have f49 : a.tmps.getD 49 undef = .pointer (some ⟨R, 8, none⟩) := f49
        have f43 : a.tmps.getD 43 undef = .int .i64 (x.part) := f43
        refine rely_wp rfl ?_
        refine opr_put1 rfl f49 f43 (show wx.rowIs R 46 109 (recF ({ zR with kind := x.kind, good := x.good }) (.slice none 0 0) (.slice none 0 0)) from hJ) (by decide) info_i1 rfl (fun i _ => rs_part ({ zR with kind := x.kind, good := x.good }) (.slice none 0 0) (.slice none 0 0) i _) ?_
        intro w' hT' hr'
        exact hK _ _ hT' hr' trivial
      · exact fun a wx hT hF K hK => have hK := fun v w' (hN : NewT wx w') hv => hK v w' (RT.new (Nat.lt_of_lt_of_le hRl hT.size) hN) (fun k h => hN.row h) hv; rely_wp rfl (opr_fldR (by decide) rfl hF.1 (hK _ _ (NewT.refl _) rfl))
      · intro a wx hT hF hJ K hK
        obtain ⟨f50, f45, _⟩ := hF
        have f50 : a.tmps.getD 50 undef = .pointer (some ⟨R, 9, none⟩) := f50
        have f45 : a.tmps.getD 45 undef = .int .i64 (x.epoch) := f45
        refine rely_wp rfl ?_
        refine opr_put1 rfl f50 f45 (show wx.rowIs R 46 109 (recF ({ zR with kind := x.kind, good := x.good, part := x.part }) (.slice none 0 0) (.slice none 0 0)) from hJ) (by decide) info_i1 rfl (fun i _ => rs_epoch ({ zR with kind := x.kind, good := x.good, part := x.part }) (.slice none 0 0) (.slice none 0 0) i _) ?_
        intro w' hT' hr'
        exact hK _ _ hT' hr' trivial
      · exact fun a wx hT hF K hK => have hK := fun v w' (hN : NewT wx w') hv => hK v w' (RT.new (Nat.lt_of_lt_of_le hRl hT.size) hN) (fun k h => hN.row h) hv; rely_wp rfl (opr_fldR (by decide) rfl hF.1 (hK _ _ (NewT.refl _) rfl))
      · intro e3 h3 hJ
        iterate 9 (intro u h; obtain rfl := Eq.symm (h (by simp)); clear h)
        intro _ _
        intro u h; obtain rfl := Eq.symm (h (by simp)); clear h
        intro _ _
        intro u h; obtain rfl := Eq.symm (h (by simp)); clear h
        intro _ _
        intro u h; obtain rfl := Eq.symm (h (by simp)); clear h
        refine relyEnd_nil rfl ?_
        simp only [Act.put, List.setIfInBounds_toArray, List.set_cons_zero, List.set_cons_succ]
        refine opr_putm rfl rfl rfl (show e3.rowIs R 46 109 (recF ({ zR with kind := x.kind, good := x.good, part := x.part, epoch := x.epoch }) (.slice none 0 0) (.slice none 0 0)) from hJ) (by decide) info31 (fun _ => rfl) (fun i hi => rs_tag ({ zR with kind := x.kind, good := x.good, part := x.part, epoch := x.epoch }) (.slice none 0 0) (.slice none 0 0) i _ hi) ?_
        intro e3s hT' hr'
        clear hJ
        go_simp
        have hRT := RT.trans _ _ _ h3 hT'
        have hRl2 : R < e3s.heap.size := hr'.lt
        go_upto_region 14 with fail
        refine wp_region_relyP (RT R) (fun k w => w.rowIs R 46 109 ((fun k => ([recF ({ zR with kind := x.kind, good := x.good, part := x.part, epoch := x.epoch, tag := x.tag }) (.slice none 0 0) (.slice none 0 0), recF ({ zR with kind := x.kind, good := x.good, part := x.part, epoch := x.epoch, tag := x.tag, saga := x.saga }) (.slice none 0 0) (.slice none 0 0), recF ({ zR with kind := x.kind, good := x.good, part := x.part, epoch := x.epoch, tag := x.tag, saga := x.saga, seq := x.seq }) (.slice none 0 0) (.slice none 0 0), recF ({ zR with kind := x.kind, good := x.good, part := x.part, epoch := x.epoch, tag := x.tag, saga := x.saga, seq := x.seq, step := x.step }) (.slice none 0 0) (.slice none 0 0)] : List (Nat → Value)).getD k (recF ({ zR with kind := x.kind, good := x.good, part := x.part, epoch := x.epoch, tag := x.tag, saga := x.saga, seq := x.seq, step := x.step, tr := x.tr }) (.slice none 0 0) (.slice none 0 0))) k)) [SV.eq (.pointer (some ⟨w.heap.size, 1, none⟩)), SV.eq (.int .i64 (x.saga)), SV.eq (.pointer (some ⟨w.heap.size, 2, none⟩)), SV.eq (.int .i64 (x.seq)), SV.eq (.pointer (some ⟨w.heap.size, 3, none⟩)), SV.eq (.int .i64 (x.step)), SV.eq (.pointer (some ⟨w.heap.size, 4, none⟩)), SV.eq (.int .i64 (x.tr)), SV.eq (.pointer (some ⟨w.heap.size, 5, none⟩)), SV.eq (.bool (x.back)), SV.eq (.pointer (some ⟨R, 1, none⟩)), SV.any, SV.eq (.pointer (some ⟨R, 2, none⟩)), SV.any, SV.eq (.pointer (some ⟨R, 3, none⟩)), SV.any, SV.eq (.pointer (some ⟨R, 4, none⟩)), SV.any, SV.eq (.pointer (some ⟨R, 5, none⟩))] [([(1, none)], none), ([(52, some 0)], none), ([(1, none)], none), ([(54, some 2)], none), ([(1, none)], none), ([(56, some 4)], none), ([(1, none)], none), ([(58, some 6)], none), ([(1, none)], none), ([(60, some 8)], none), ([(3, none)], none), ([(62, some 10), (53, some 1)], none), ([(3, none)], none), ([(63, some 12), (55, some 3)], none), ([(3, none)], none), ([(64, some 14), (57, some 5)], none), ([(3, none)], none), ([(65, some 16), (59, some 7)], none), ([(3, none)], none)] [none, none, none, none, none, none, none, none, none, none, none, some 0, none, some 1, none, some 2, none, some 3, none] [11, 13, 15, 17] 83 rfl (by kernel_rfl) rfl (by kernel_rfl) (by kernel_rfl) rfl (by kernel_rfl) RT.trans (RT.drew _ _) ((NewT.drew _).row hr') (Nat.le_of_ble_eq_true rfl) ⟨?_, ?_, ?_, ?_, ?_, ?_, ?_, ?_, ?_, ?_, ?_, ?_, ?_, ?_, ?_, ?_, ?_, ?_, ?_, trivial⟩ ?_
        · exact fun a wx hT hF K hK => have hK := fun v w' (hN : NewT wx w') hv => hK v w' (RT.new (Nat.lt_of_lt_of_le hRl2 hT.size) hN) (fun k h => hN.row h) hv; rely_wp rfl (opr_fldR (by decide) rfl hF.1 (hK _ _ (NewT.refl _) rfl))
        · exact fun a wx hT hF K hK => have hK := fun v w' (hN : NewT wx w') hv => hK v w' (RT.new (Nat.lt_of_lt_of_le hRl2 hT.size) hN) (fun k h => hN.row h) hv; rely_wp rfl (opr_ldI (hT.row hne1 (hRT.row hne1 X1.out)) (by decide) rfl rfl hF.1 (hK _ _ (NewT.refl _) rfl))
        · exact fun a wx hT hF K hK => have hK := fun v w' (hN : NewT wx w') hv => hK v w' (RT.new (Nat.lt_of_lt_of_le hRl2 hT.size) hN) (fun k h => hN.row h) hv; rely_wp rfl (opr_fldR (by decide) rfl hF.1 (hK _ _ (NewT.refl _) rfl))
        · exact fun a wx hT hF K hK => have hK := fun v w' (hN : NewT wx w') hv => hK v w' (RT.new (Nat.lt_of_lt_of_le hRl2 hT.size) hN) (fun k h => hN.row h) hv; rely_wp rfl (opr_ldI (hT.row hne1 (hRT.row hne1 X1.out)) (by decide) rfl rfl hF.1 (hK _ _ (NewT.refl _) rfl))
        · exact fun a wx hT hF K hK => have hK := fun v w' (hN : NewT wx w') hv => hK v w' (RT.new (Nat.lt_of_lt_of_le hRl2 hT.size) hN) (fun k h => hN.row h) hv; rely_wp rfl (opr_fldR (by decide) rfl hF.1 (hK _ _ (NewT.refl _) rfl))
        · exact fun a wx hT hF K hK => have hK := fun v w' (hN : NewT wx w') hv => hK v w' (RT.new (Nat.lt_of_lt_of_le hRl2 hT.size) hN) (fun k h => hN.row h) hv; rely_wp rfl (opr_ldI (hT.row hne1 (hRT.row hne1 X1.out)) (by decide) rfl rfl hF.1 (hK _ _ (NewT.refl _) rfl))
        · exact fun a wx hT hF K hK => have hK := fun v w' (hN : NewT wx w') hv => hK v w' (RT.new (Nat.lt_of_lt_of_le hRl2 hT.size) hN) (fun k h => hN.row h) hv; rely_wp rfl (opr_fldR (by decide) rfl hF.1 (hK _ _ (NewT.refl _) rfl))
        · exact fun a wx hT hF K hK => have hK := fun v w' (hN : NewT wx w') hv => hK v w' (RT.new (Nat.lt_of_lt_of_le hRl2 hT.size) hN) (fun k h => hN.row h) hv; rely_wp rfl (opr_ldI (hT.row hne1 (hRT.row hne1 X1.out)) (by decide) rfl rfl hF.1 (hK _ _ (NewT.refl _) rfl))
        · exact fun a wx hT hF K hK => have hK := fun v w' (hN : NewT wx w') hv => hK v w' (RT.new (Nat.lt_of_lt_of_le hRl2 hT.size) hN) (fun k h => hN.row h) hv; rely_wp rfl (opr_fldR (by decide) rfl hF.1 (hK _ _ (NewT.refl _) rfl))
        · exact fun a wx hT hF K hK => have hK := fun v w' (hN : NewT wx w') hv => hK v w' (RT.new (Nat.lt_of_lt_of_le hRl2 hT.size) hN) (fun k h => hN.row h) hv; rely_wp rfl (opr_ldQ (hT.row hne1 (hRT.row hne1 X1.out)) (by decide) rfl rfl hF.1 (hK _ _ (NewT.refl _) rfl))
        · exact fun a wx hT hF K hK => have hK := fun v w' (hN : NewT wx w') hv => hK v w' (RT.new (Nat.lt_of_lt_of_le hRl2 hT.size) hN) (fun k h => hN.row h) hv; rely_wp rfl (opr_fldR (by decide) rfl hF.1 (hK _ _ (NewT.refl _) rfl))
        · intro a wx hT hF hJ K hK
          obtain ⟨f62, f53, _⟩ := hF
          have f62 : a.tmps.getD 62 undef = .pointer (some ⟨R, 1, none⟩) := f62
          have f53 : a.tmps.getD 53 undef = .int .i64 (x.saga) := f53
          refine rely_wp rfl ?_
          refine opr_put1 rfl f62 f53 (show wx.rowIs R 46 109 (recF ({ zR with kind := x.kind, good := x.good, part := x.part, epoch := x.epoch, tag := x.tag }) (.slice none 0 0) (.slice none 0 0)) from hJ) (by decide) info_i1 rfl (fun i _ => rs_saga ({ zR with kind := x.kind, good := x.good, part := x.part, epoch := x.epoch, tag := x.tag }) (.slice none 0 0) (.slice none 0 0) i _) ?_
          intro w' hT' hr'
          exact hK _ _ hT' hr' trivial
        · exact fun a wx hT hF K hK => have hK := fun v w' (hN : NewT wx w') hv => hK v w' (RT.new (Nat.lt_of_lt_of_le hRl2 hT.size) hN) (fun k h => hN.row h) hv; rely_wp rfl (opr_fldR (by decide) rfl hF.1 (hK _ _ (NewT.refl _) rfl))
        · intro a wx hT hF hJ K hK
          obtain ⟨f63, f55, _⟩ := hF
          have f63 : a.tmps.getD 63 undef = .pointer (some ⟨R, 2, none⟩) := f63
          have f55 : a.tmps.getD 55 undef = .int .i64 (x.seq) := f55
          refine rely_wp rfl ?_
          refine opr_put1 rfl f63 f55 (show wx.rowIs R 46 109 (recF ({ zR with kind := x.kind, good := x.good, part := x.part, epoch := x.epoch, tag := x.tag, saga := x.saga }) (.slice none 0 0) (.slice none 0 0)) from hJ) (by decide) info_i1 rfl (fun i _ => rs_seq ({ zR with kind := x.kind, good := x.good, part := x.part, epoch := x.epoch, tag := x.tag, saga := x.saga }) (.slice none 0 0) (.slice none 0 0) i _) ?_
          intro w' hT' hr'
          exact hK _ _ hT' hr' trivial
        · exact fun a wx hT hF K hK => have hK := fun v w' (hN : NewT wx w') hv => hK v w' (RT.new (Nat.lt_of_lt_of_le hRl2 hT.size) hN) (fun k h => hN.row h) hv; rely_wp rfl (opr_fldR (by decide) rfl hF.1 (hK _ _ (NewT.refl _) rfl))
        · intro a wx hT hF hJ K hK
          obtain ⟨f64, f57, _⟩ := hF
          have f64 : a.tmps.getD 64 undef = .pointer (some ⟨R, 3, none⟩) := f64
          have f57 : a.tmps.getD 57 undef = .int .i64 (x.step) := f57
          refine rely_wp rfl ?_
          refine opr_put1 rfl f64 f57 (show wx.rowIs R 46 109 (recF ({ zR with kind := x.kind, good := x.good, part := x.part, epoch := x.epoch, tag := x.tag, saga := x.saga, seq := x.seq }) (.slice none 0 0) (.slice none 0 0)) from hJ) (by decide) info_i1 rfl (fun i _ => rs_step ({ zR with kind := x.kind, good := x.good, part := x.part, epoch := x.epoch, tag := x.tag, saga := x.saga, seq := x.seq }) (.slice none 0 0) (.slice none 0 0) i _) ?_
          intro w' hT' hr'
          exact hK _ _ hT' hr' trivial
        · exact fun a wx hT hF K hK => have hK := fun v w' (hN : NewT wx w') hv => hK v w' (RT.new (Nat.lt_of_lt_of_le hRl2 hT.size) hN) (fun k h => hN.row h) hv; rely_wp rfl (opr_fldR (by decide) rfl hF.1 (hK _ _ (NewT.refl _) rfl))
        · intro a wx hT hF hJ K hK
          obtain ⟨f65, f59, _⟩ := hF
          have f65 : a.tmps.getD 65 undef = .pointer (some ⟨R, 4, none⟩) := f65
          have f59 : a.tmps.getD 59 undef = .int .i64 (x.tr) := f59
          refine rely_wp rfl ?_
          refine opr_put1 rfl f65 f59 (show wx.rowIs R 46 109 (recF ({ zR with kind := x.kind, good := x.good, part := x.part, epoch := x.epoch, tag := x.tag, saga := x.saga, seq := x.seq, step := x.step }) (.slice none 0 0) (.slice none 0 0)) from hJ) (by decide) info_i1 rfl (fun i _ => rs_tr ({ zR with kind := x.kind, good := x.good, part := x.part, epoch := x.epoch, tag := x.tag, saga := x.saga, seq := x.seq, step := x.step }) (.slice none 0 0) (.slice none 0 0) i _) ?_
          intro w' hT' hr'
          exact hK _ _ hT' hr' trivial
        · exact fun a wx hT hF K hK => have hK := fun v w' (hN : NewT wx w') hv => hK v w' (RT.new (Nat.lt_of_lt_of_le hRl2 hT.size) hN) (fun k h => hN.row h) hv; rely_wp rfl (opr_fldR (by decide) rfl hF.1 (hK _ _ (NewT.refl _) rfl))
        · intro eb hb hJ
          iterate 11 (intro u h; obtain rfl := Eq.symm (h (by simp)); clear h)
          intro _ _
          intro u h; obtain rfl := Eq.symm (h (by simp)); clear h
          intro _ _
          intro u h; obtain rfl := Eq.symm (h (by simp)); clear h
          intro _ _
          intro u h; obtain rfl := Eq.symm (h (by simp)); clear h
          intro _ _
          intro u h; obtain rfl := Eq.symm (h (by simp)); clear h
          refine relyEnd_nil rfl ?_
          simp only [Act.put, List.setIfInBounds_toArray, List.set_cons_zero, List.set_cons_succ]
          refine opr_put1 rfl rfl rfl (show eb.rowIs R 46 109 (recF ({ zR with kind := x.kind, good := x.good, part := x.part, epoch := x.epoch, tag := x.tag, saga := x.saga, seq := x.seq, step := x.step, tr := x.tr }) (.slice none 0 0) (.slice none 0 0)) from hJ) (by decide) info_b1 rfl (fun i _ => rs_back ({ zR with kind := x.kind, good := x.good, part := x.part, epoch := x.epoch, tag := x.tag, saga := x.saga, seq := x.seq, step := x.step, tr := x.tr }) (.slice none 0 0) (.slice none 0 0) i _) ?_
          intro ebs hT2 hr2
          clear hJ
          go_simp
          have hRT2 := RT.trans _ _ _ hRT (RT.trans _ _ _ hb hT2)
          go_upto_region 17 with fail
          refine wp_region_steps0 NewT [SV.eq (.agg (rowA 109 (recF ({ zR with kind := x.kind, good := x.good, part := x.part, epoch := x.epoch, tag := x.tag, saga := x.saga, seq := x.seq, step := x.step, tr := x.tr, back := x.back }) (.slice none 0 0) (.slice none 0 0))))] [([(3, none)], none)] 83 1 rfl rfl (by kernel_rfl) NewT.trans (NewT.refl _) (Nat.le_of_ble_eq_true rfl) ⟨?_, trivial⟩ ?_
          · exact fun a wx hT hF K hK => rely_wp rfl (opr_ldR (hT.row hr2) rfl hF.1 (hK _ _ (NewT.refl _) rfl))
          · intro wf hf
            intro u h; obtain rfl := Eq.symm (h (by simp)); clear h
            refine relyEnd_nil rfl ?_
            simp only [Act.put, List.setIfInBounds_toArray, List.set_cons_zero, List.set_cons_succ]
            refine wpList_plain rfl (fun K hK => ?_)
            refine opr_putm rfl rfl rfl (hf.row (hRT2.row hne2 X2.out)) (by decide) info_rec (recF_one _ _ _ rfl rfl) (put_all _ _) ?_
            intro wq hTq rq
            refine hK _ _ ?_
            refine wpList_end rfl ?_
            go_simp
            go_wp2
            have hNq : NewT w wq := (NewT.trans _ _ _ (HN.out.rt hRT2 (by omega)) hf).rt hTq (by omega)
            refine bodyPost_ret (results_agg rfl _ rfl rq Try.underlying46 rfl info_rec) rfl ⟨_, rfl, hNq, ?_⟩
            rw [HO.out]
            exact ⟨.slice none 0 0, .slice none 0 0, rfl, rdP_nil _, rdV_nil _ _⟩
    have k3 := hk
    clear hk
    by_cases hk : x.kind = 2
    · have HO : Hid (onlyR x = { zR with kind := x.kind, saga := x.saga, seq := x.seq, step := x.step, tr := x.tr, back := x.back }) := Lib.hid (by unfold onlyR; simp only [hk]; simp)
      rw [hk] at c0
      go_upto_region 14 with fail
      clear c0
      refine wp_region_relyP (RT R) (fun k w => w.rowIs R 46 109 ((fun k => ([recF ({ zR with kind := x.kind }) (.slice none 0 0) (.slice none 0 0), recF ({ zR with kind := x.kind, saga := x.saga }) (.slice none 0 0) (.slice none 0 0), recF ({ zR with kind := x.kind, saga := x.saga, seq := x.seq }) (.slice none 0 0) (.slice none 0 0), recF ({ zR with kind := x.kind, saga := x.saga, seq := x.seq, step := x.step }) (.slice none 0 0) (.slice none 0 0)] : List (Nat → Value)).getD k (recF ({ zR with kind := x.kind, saga := x.saga, seq := x.seq, step := x.step, tr := x.tr }) (.slice none 0 0) (.slice none 0 0))) k)) [SV.eq (.pointer (some ⟨w.heap.size, 1, none⟩)), SV.eq (.int .i64 (x.saga)), SV.eq (.pointer (some ⟨w.heap.size, 2, none⟩)), SV.eq (.int .i64 (x.seq)), SV.eq (.pointer (some ⟨w.heap.size, 3, none⟩)), SV.eq (.int .i64 (x.step)), SV.eq (.pointer (some ⟨w.heap.size, 4, none⟩)), SV.eq (.int .i64 (x.tr)), SV.eq (.pointer (some ⟨w.heap.size, 5, none⟩)), SV.eq (.bool (x.back)), SV.eq (.pointer (some ⟨R, 1, none⟩)), SV.any, SV.eq (.pointer (some ⟨R, 2, none⟩)), SV.any, SV.eq (.pointer (some ⟨R, 3, none⟩)), SV.any, SV.eq (.pointer (some ⟨R, 4, none⟩)), SV.any, SV.eq (.pointer (some ⟨R, 5, none⟩))] [([(1, none)], none), ([(52, some 0)], none), ([(1, none)], none), ([(54, some 2)], none), ([(1, none)], none), ([(56, some 4)], none), ([(1, none)], none), ([(58, some 6)], none), ([(1, none)], none), ([(60, some 8)], none), ([(3, none)], none), ([(62, some 10), (53, some 1)], none), ([(3, none)], none), ([(63, some 12), (55, some 3)], none), ([(3, none)], none), ([(64, some 14), (57, some 5)], none), ([(3, none)], none), ([(65, some 16), (59, some 7)], none), ([(3, none)], none)] [none, none, none, none, none, none, none, none, none, none, none, some 0, none, some 1, none, some 2, none, some 3, none] [11, 13, 15, 17] 83 rfl (by kernel_rfl) rfl (by kernel_rfl) (by kernel_rfl) rfl (by kernel_rfl) RT.trans (RT.drew _ _) ((NewT.drew _).row X3.out) (Nat.le_of_ble_eq_true rfl) ⟨?_, ?_, ?_, ?_, ?_, ?_, ?_, ?_, ?_, ?_, ?_, ?_, ?_, ?_, ?_, ?_, ?_, ?_, ?_, trivial⟩ ?_
      · exact fun a wx hT hF K hK => have hK := fun v w' (hN : NewT wx w') hv => hK v w' (RT.new (Nat.lt_of_lt_of_le hRl hT.size) hN) (fun k h => hN.row h) hv; rely_wp rfl (opr_fldR (by decide) rfl hF.1 (hK _ _ (NewT.refl _) rfl))
      · exact fun a wx hT hF K hK => have hK := fun v w' (hN : NewT wx w') hv => hK v w' (RT.new (Nat.lt_of_lt_of_le hRl hT.size) hN) (fun k h => hN.row h) hv; rely_wp rfl (opr_ldI (hT.row hne1 X1.out) (by decide) rfl rfl hF.1 (hK _ _ (NewT.refl _) rfl))
      · exact fun a wx hT hF K hK => have hK := fun v w' (hN : NewT wx w') hv => hK v w' (RT.new (Nat.lt_of_lt_of_le hRl hT.size) hN) (fun k h => hN.row h) hv; rely_wp rfl (opr_fldR (by decide) rfl hF.1 (hK _ _ (NewT.refl _) rfl))
      · exact fun a wx hT hF K hK => have hK := fun v w' (hN : NewT wx w') hv => hK v w' (RT.new (Nat.lt_of_lt_of_le hRl hT.size) hN) (fun k h => hN.row h) hv; rely_wp rfl (opr_ldI (hT.row hne1 X1.out) (by decide) rfl rfl hF.1 (hK _ _ (NewT.refl _) rfl))
      · exact fun a wx hT hF K hK => have hK := fun v w' (hN : NewT wx w') hv => hK v w' (RT.new (Nat.lt_of_lt_of_le hRl hT.size) hN) (fun k h => hN.row h) hv; rely_wp rfl (opr_fldR (by decide) rfl hF.1 (hK _ _ (NewT.refl _) rfl))
      · exact fun a wx hT hF K hK => have hK := fun v w' (hN : NewT wx w') hv => hK v w' (RT.new (Nat.lt_of_lt_of_le hRl hT.size) hN) (fun k h => hN.row h) hv; rely_wp rfl (opr_ldI (hT.row hne1 X1.out) (by decide) rfl rfl hF.1 (hK _ _ (NewT.refl _) rfl))
      · exact fun a wx hT hF K hK => have hK := fun v w' (hN : NewT wx w') hv => hK v w' (RT.new (Nat.lt_of_lt_of_le hRl hT.size) hN) (fun k h => hN.row h) hv; rely_wp rfl (opr_fldR (by decide) rfl hF.1 (hK _ _ (NewT.refl _) rfl))
      · exact fun a wx hT hF K hK => have hK := fun v w' (hN : NewT wx w') hv => hK v w' (RT.new (Nat.lt_of_lt_of_le hRl hT.size) hN) (fun k h => hN.row h) hv; rely_wp rfl (opr_ldI (hT.row hne1 X1.out) (by decide) rfl rfl hF.1 (hK _ _ (NewT.refl _) rfl))
      · exact fun a wx hT hF K hK => have hK := fun v w' (hN : NewT wx w') hv => hK v w' (RT.new (Nat.lt_of_lt_of_le hRl hT.size) hN) (fun k h => hN.row h) hv; rely_wp rfl (opr_fldR (by decide) rfl hF.1 (hK _ _ (NewT.refl _) rfl))
      · exact fun a wx hT hF K hK => have hK := fun v w' (hN : NewT wx w') hv => hK v w' (RT.new (Nat.lt_of_lt_of_le hRl hT.size) hN) (fun k h => hN.row h) hv; rely_wp rfl (opr_ldQ (hT.row hne1 X1.out) (by decide) rfl rfl hF.1 (hK _ _ (NewT.refl _) rfl))
      · exact fun a wx hT hF K hK => have hK := fun v w' (hN : NewT wx w') hv => hK v w' (RT.new (Nat.lt_of_lt_of_le hRl hT.size) hN) (fun k h => hN.row h) hv; rely_wp rfl (opr_fldR (by decide) rfl hF.1 (hK _ _ (NewT.refl _) rfl))
      · intro a wx hT hF hJ K hK
        obtain ⟨f62, f53, _⟩ := hF
        have f62 : a.tmps.getD 62 undef = .pointer (some ⟨R, 1, none⟩) := f62
        have f53 : a.tmps.getD 53 undef = .int .i64 (x.saga) := f53
        refine rely_wp rfl ?_
        refine opr_put1 rfl f62 f53 (show wx.rowIs R 46 109 (recF ({ zR with kind := x.kind }) (.slice none 0 0) (.slice none 0 0)) from hJ) (by decide) info_i1 rfl (fun i _ => rs_saga ({ zR with kind := x.kind }) (.slice none 0 0) (.slice none 0 0) i _) ?_
        intro w' hT' hr'
        exact hK _ _ hT' hr' trivial
      · exact fun a wx hT hF K hK => have hK := fun v w' (hN : NewT wx w') hv => hK v w' (RT.new (Nat.lt_of_lt_of_le hRl hT.size) hN) (fun k h => hN.row h) hv; rely_wp rfl (opr_fldR (by decide) rfl hF.1 (hK _ _ (NewT.refl _) rfl))
      · intro a wx hT hF hJ K hK
        obtain ⟨f63, f55, _⟩ := hF
        have f63 : a.tmps.getD 63 undef = .pointer (some ⟨R, 2, none⟩) := f63
        have f55 : a.tmps.getD 55 undef = .int .i64 (x.seq) := f55
        refine rely_wp rfl ?_
        refine opr_put1 rfl f63 f55 (show wx.rowIs R 46 109 (recF ({ zR with kind := x.kind, saga := x.saga }) (.slice none 0 0) (.slice none 0 0)) from hJ) (by decide) info_i1 rfl (fun i _ => rs_seq ({ zR with kind := x.kind, saga := x.saga }) (.slice none 0 0) (.slice none 0 0) i _) ?_
        intro w' hT' hr'
        exact hK _ _ hT' hr' trivial
      · exact fun a wx hT hF K hK => have hK := fun v w' (hN : NewT wx w') hv => hK v w' (RT.new (Nat.lt_of_lt_of_le hRl hT.size) hN) (fun k h => hN.row h) hv; rely_wp rfl (opr_fldR (by decide) rfl hF.1 (hK _ _ (NewT.refl _) rfl))
      · intro a wx hT hF hJ K hK
        obtain ⟨f64, f57, _⟩ := hF
        have f64 : a.tmps.getD 64 undef = .pointer (some ⟨R, 3, none⟩) := f64
        have f57 : a.tmps.getD 57 undef = .int .i64 (x.step) := f57
        refine rely_wp rfl ?_
        refine opr_put1 rfl f64 f57 (show wx.rowIs R 46 109 (recF ({ zR with kind := x.kind, saga := x.saga, seq := x.seq }) (.slice none 0 0) (.slice none 0 0)) from hJ) (by decide) info_i1 rfl (fun i _ => rs_step ({ zR with kind := x.kind, saga := x.saga, seq := x.seq }) (.slice none 0 0) (.slice none 0 0) i _) ?_
        intro w' hT' hr'
        exact hK _ _ hT' hr' trivial
      · exact fun a wx hT hF K hK => have hK := fun v w' (hN : NewT wx w') hv => hK v w' (RT.new (Nat.lt_of_lt_of_le hRl hT.size) hN) (fun k h => hN.row h) hv; rely_wp rfl (opr_fldR (by decide) rfl hF.1 (hK _ _ (NewT.refl _) rfl))
      · intro a wx hT hF hJ K hK
        obtain ⟨f65, f59, _⟩ := hF
        have f65 : a.tmps.getD 65 undef = .pointer (some ⟨R, 4, none⟩) := f65
        have f59 : a.tmps.getD 59 undef = .int .i64 (x.tr) := f59
        refine rely_wp rfl ?_
        refine opr_put1 rfl f65 f59 (show wx.rowIs R 46 109 (recF ({ zR with kind := x.kind, saga := x.saga, seq := x.seq, step := x.step }) (.slice none 0 0) (.slice none 0 0)) from hJ) (by decide) info_i1 rfl (fun i _ => rs_tr ({ zR with kind := x.kind, saga := x.saga, seq := x.seq, step := x.step }) (.slice none 0 0) (.slice none 0 0) i _) ?_
        intro w' hT' hr'
        exact hK _ _ hT' hr' trivial
      · exact fun a wx hT hF K hK => have hK := fun v w' (hN : NewT wx w') hv => hK v w' (RT.new (Nat.lt_of_lt_of_le hRl hT.size) hN) (fun k h => hN.row h) hv; rely_wp rfl (opr_fldR (by decide) rfl hF.1 (hK _ _ (NewT.refl _) rfl))
      · intro e2 h2 hJ
        iterate 11 (intro u h; obtain rfl := Eq.symm (h (by simp)); clear h)
        intro _ _
        intro u h; obtain rfl := Eq.symm (h (by simp)); clear h
        intro _ _
        intro u h; obtain rfl := Eq.symm (h (by simp)); clear h
        intro _ _
        intro u h; obtain rfl := Eq.symm (h (by simp)); clear h
        intro _ _
        intro u h; obtain rfl := Eq.symm (h (by simp)); clear h
        refine relyEnd_nil rfl ?_
        simp only [Act.put, List.setIfInBounds_toArray, List.set_cons_zero, List.set_cons_succ]
        refine opr_put1 rfl rfl rfl (show e2.rowIs R 46 109 (recF ({ zR with kind := x.kind, saga := x.saga, seq := x.seq, step := x.step, tr := x.tr }) (.slice none 0 0) (.slice none 0 0)) from hJ) (by decide) info_b1 rfl (fun i _ => rs_back ({ zR with kind := x.kind, saga := x.saga, seq := x.seq, step := x.step, tr := x.tr }) (.slice none 0 0) (.slice none 0 0) i _) ?_
        intro e2s hT' hr'
        clear hJ
        go_simp
        have hRT := RT.trans _ _ _ h2 hT'
        go_upto_region 17 with fail
        refine wp_region_steps0 NewT [SV.eq (.agg (rowA 109 (recF ({ zR with kind := x.kind, saga := x.saga, seq := x.seq, step := x.step, tr := x.tr, back := x.back }) (.slice none 0 0) (.slice none 0 0))))] [([(3, none)], none)] 83 1 rfl rfl (by kernel_rfl) NewT.trans (NewT.refl _) (Nat.le_of_ble_eq_true rfl) ⟨?_, trivial⟩ ?_
        · exact fun a wx hT hF K hK => rely_wp rfl (opr_ldR (hT.row hr') rfl hF.1 (hK _ _ (NewT.refl _) rfl))
        · intro wf hf
          intro u h; obtain rfl := Eq.symm (h (by simp)); clear h
          refine relyEnd_nil rfl ?_
          simp only [Act.put, List.setIfInBounds_toArray, List.set_cons_zero, List.set_cons_succ]
          refine wpList_plain rfl (fun K hK => ?_)
          refine opr_putm rfl rfl rfl (hf.row (hRT.row hne2 X2.out)) (by decide) info_rec (recF_one _ _ _ rfl rfl) (put_all _ _) ?_
          intro wq hTq rq
          refine hK _ _ ?_
          refine wpList_end rfl ?_
          go_simp
          go_wp2
          have hNq : NewT w wq := (NewT.trans _ _ _ (HN.out.rt hRT (by omega)) hf).rt hTq (by omega)
          refine bodyPost_ret (results_agg rfl _ rfl rq Try.underlying46 rfl info_rec) rfl ⟨_, rfl, hNq, ?_⟩
          rw [HO.out]
          exact ⟨.slice none 0 0, .slice none 0 0, rfl, rdP_nil _, rdV_nil _ _⟩
    have k2 := hk
    clear hk
    by_cases hk : x.kind = 4
    · have HO : Hid (onlyR x = { zR with kind := x.kind, saga := x.saga, seq := x.seq, step := x.step, tr := x.tr, back := x.back }) := Lib.hid (by unfold onlyR; simp only [hk]; simp)
      rw [hk] at c0
      go_upto_region 14 with fail
      clear c0
      refine wp_region_relyP (RT R) (fun k w => w.rowIs R 46 109 ((fun k => ([recF ({ zR with kind := x.kind }) (.slice none 0 0) (.slice none 0 0), recF ({ zR with kind := x.kind, saga := x.saga }) (.slice none 0 0) (.slice none 0 0), recF ({ zR with kind := x.kind, saga := x.saga, seq := x.seq }) (.slice none 0 0) (.slice none 0 0), recF ({ zR with kind := x.kind, saga := x.saga, seq := x.seq, step := x.step }) (.slice none 0 0) (.slice none 0 0)] : List (Nat → Value)).getD k (recF ({ zR with kind := x.kind, saga := x.saga, seq := x.seq, step := x.step, tr := x.tr }) (.slice none 0 0) (.slice none 0 0))) k)) [SV.eq (.pointer (some ⟨w.heap.size, 1, none⟩)), SV.eq (.int .i64 (x.saga)), SV.eq (.pointer (some ⟨w.heap.size, 2, none⟩)), SV.eq (.int .i64 (x.seq)), SV.eq (.pointer (some ⟨w.heap.size, 3, none⟩)), SV.eq (.int .i64 (x.step)), SV.eq (.pointer (some ⟨w.heap.size, 4, none⟩)), SV.eq (.int .i64 (x.tr)), SV.eq (.pointer (some ⟨w.heap.size, 5, none⟩)), SV.eq (.bool (x.back)), SV.eq (.pointer (some ⟨R, 1, none⟩)), SV.any, SV.eq (.pointer (some ⟨R, 2, none⟩)), SV.any, SV.eq (.pointer (some ⟨R, 3, none⟩)), SV.any, SV.eq (.pointer (some ⟨R, 4, none⟩)), SV.any, SV.eq (.pointer (some ⟨R, 5, none⟩))] [([(1, none)], none), ([(52, some 0)], none), ([(1, none)], none), ([(54, some 2)], none), ([(1, none)], none), ([(56, some 4)], none), ([(1, none)], none), ([(58, some 6)], none), ([(1, none)], none), ([(60, some 8)], none), ([(3, none)], none), ([(62, some 10), (53, some 1)], none), ([(3, none)], none), ([(63, some 12), (55, some 3)], none), ([(3, none)], none), ([(64, some 14), (57, some 5)], none), ([(3, none)], none), ([(65, some 16), (59, some 7)], none), ([(3, none)], none)] [none, none, none, none, none, none, none, none, none, none, none, some 0, none, some 1, none, some 2, none, some 3, none] [11, 13, 15, 17] 83 rfl (by kernel_rfl) rfl (by kernel_rfl) (by kernel_rfl) rfl (by kernel_rfl) RT.trans (RT.drew _ _) ((NewT.drew _).row X3.out) (Nat.le_of_ble_eq_true rfl) ⟨?_, ?_, ?_, ?_, ?_, ?_, ?_, ?_, ?_, ?_, ?_, ?_, ?_, ?_, ?_, ?_, ?_, ?_, ?_, trivial⟩ ?_
      · exact fun a wx hT hF K hK => have hK := fun v w' (hN : NewT wx w') hv => hK v w' (RT.new (Nat.lt_of_lt_of_le hRl hT.size) hN) (fun k h => hN.row h) hv; rely_wp rfl (opr_fldR (by decide) rfl hF.1 (hK _ _ (NewT.refl _) rfl))
      · exact fun a wx hT hF K hK => have hK := fun v w' (hN : NewT wx w') hv => hK v w' (RT.new (Nat.lt_of_lt_of_le hRl hT.size) hN) (fun k h => hN.row h) hv; rely_wp rfl (opr_ldI (hT.row hne1 X1.out) (by decide) rfl rfl hF.1 (hK _ _ (NewT.refl _) rfl))
      · exact fun a wx hT hF K hK => have hK := fun v w' (hN : NewT wx w') hv => hK v w' (RT.new (Nat.lt_of_lt_of_le hRl hT.size) hN) (fun k h => hN.row h) hv; rely_wp rfl (opr_fldR (by decide) rfl hF.1 (hK _ _ (NewT.refl _) rfl))
      · exact fun a wx hT hF K hK => have hK := fun v w' (hN : NewT wx w') hv => hK v w' (RT.new (Nat.lt_of_lt_of_le hRl hT.size) hN) (fun k h => hN.row h) hv; rely_wp rfl (opr_ldI (hT.row hne1 X1.out) (by decide) rfl rfl hF.1 (hK _ _ (NewT.refl _) rfl))
      · exact fun a wx hT hF K hK => have hK := fun v w' (hN : NewT wx w') hv => hK v w' (RT.new (Nat.lt_of_lt_of_le hRl hT.size) hN) (fun k h => hN.row h) hv; rely_wp rfl (opr_fldR (by decide) rfl hF.1 (hK _ _ (NewT.refl _) rfl))
      · exact fun a wx hT hF K hK => have hK := fun v w' (hN : NewT wx w') hv => hK v w' (RT.new (Nat.lt_of_lt_of_le hRl hT.size) hN) (fun k h => hN.row h) hv; rely_wp rfl (opr_ldI (hT.row hne1 X1.out) (by decide) rfl rfl hF.1 (hK _ _ (NewT.refl _) rfl))
      · exact fun a wx hT hF K hK => have hK := fun v w' (hN : NewT wx w') hv => hK v w' (RT.new (Nat.lt_of_lt_of_le hRl hT.size) hN) (fun k h => hN.row h) hv; rely_wp rfl (opr_fldR (by decide) rfl hF.1 (hK _ _ (NewT.refl _) rfl))
      · exact fun a wx hT hF K hK => have hK := fun v w' (hN : NewT wx w') hv => hK v w' (RT.new (Nat.lt_of_lt_of_le hRl hT.size) hN) (fun k h => hN.row h) hv; rely_wp rfl (opr_ldI (hT.row hne1 X1.out) (by decide) rfl rfl hF.1 (hK _ _ (NewT.refl _) rfl))
      · exact fun a wx hT hF K hK => have hK := fun v w' (hN : NewT wx w') hv => hK v w' (RT.new (Nat.lt_of_lt_of_le hRl hT.size) hN) (fun k h => hN.row h) hv; rely_wp rfl (opr_fldR (by decide) rfl hF.1 (hK _ _ (NewT.refl _) rfl))
      · exact fun a wx hT hF K hK => have hK := fun v w' (hN : NewT wx w') hv => hK v w' (RT.new (Nat.lt_of_lt_of_le hRl hT.size) hN) (fun k h => hN.row h) hv; rely_wp rfl (opr_ldQ (hT.row hne1 X1.out) (by decide) rfl rfl hF.1 (hK _ _ (NewT.refl _) rfl))
      · exact fun a wx hT hF K hK => have hK := fun v w' (hN : NewT wx w') hv => hK v w' (RT.new (Nat.lt_of_lt_of_le hRl hT.size) hN) (fun k h => hN.row h) hv; rely_wp rfl (opr_fldR (by decide) rfl hF.1 (hK _ _ (NewT.refl _) rfl))
      · intro a wx hT hF hJ K hK
        obtain ⟨f62, f53, _⟩ := hF
        have f62 : a.tmps.getD 62 undef = .pointer (some ⟨R, 1, none⟩) := f62
        have f53 : a.tmps.getD 53 undef = .int .i64 (x.saga) := f53
        refine rely_wp rfl ?_
        refine opr_put1 rfl f62 f53 (show wx.rowIs R 46 109 (recF ({ zR with kind := x.kind }) (.slice none 0 0) (.slice none 0 0)) from hJ) (by decide) info_i1 rfl (fun i _ => rs_saga ({ zR with kind := x.kind }) (.slice none 0 0) (.slice none 0 0) i _) ?_
        intro w' hT' hr'
        exact hK _ _ hT' hr' trivial
      · exact fun a wx hT hF K hK => have hK := fun v w' (hN : NewT wx w') hv => hK v w' (RT.new (Nat.lt_of_lt_of_le hRl hT.size) hN) (fun k h => hN.row h) hv; rely_wp rfl (opr_fldR (by decide) rfl hF.1 (hK _ _ (NewT.refl _) rfl))
      · intro a wx hT hF hJ K hK
        obtain ⟨f63, f55, _⟩ := hF
        have f63 : a.tmps.getD 63 undef = .pointer (some ⟨R, 2, none⟩) := f63
        have f55 : a.tmps.getD 55 undef = .int .i64 (x.seq) := f55
        refine rely_wp rfl ?_
        refine opr_put1 rfl f63 f55 (show wx.rowIs R 46 109 (recF ({ zR with kind := x.kind, saga := x.saga }) (.slice none 0 0) (.slice none 0 0)) from hJ) (by decide) info_i1 rfl (fun i _ => rs_seq ({ zR with kind := x.kind, saga := x.saga }) (.slice none 0 0) (.slice none 0 0) i _) ?_
        intro w' hT' hr'
        exact hK _ _ hT' hr' trivial
      · exact fun a wx hT hF K hK => have hK := fun v w' (hN : NewT wx w') hv => hK v w' (RT.new (Nat.lt_of_lt_of_le hRl hT.size) hN) (fun k h => hN.row h) hv; rely_wp rfl (opr_fldR (by decide) rfl hF.1 (hK _ _ (NewT.refl _) rfl))
      · intro a wx hT hF hJ K hK
        obtain ⟨f64, f57, _⟩ := hF
        have f64 : a.tmps.getD 64 undef = .pointer (some ⟨R, 3, none⟩) := f64
        have f57 : a.tmps.getD 57 undef = .int .i64 (x.step) := f57
        refine rely_wp rfl ?_
        refine opr_put1 rfl f64 f57 (show wx.rowIs R 46 109 (recF ({ zR with kind := x.kind, saga := x.saga, seq := x.seq }) (.slice none 0 0) (.slice none 0 0)) from hJ) (by decide) info_i1 rfl (fun i _ => rs_step ({ zR with kind := x.kind, saga := x.saga, seq := x.seq }) (.slice none 0 0) (.slice none 0 0) i _) ?_
        intro w' hT' hr'
        exact hK _ _ hT' hr' trivial
      · exact fun a wx hT hF K hK => have hK := fun v w' (hN : NewT wx w') hv => hK v w' (RT.new (Nat.lt_of_lt_of_le hRl hT.size) hN) (fun k h => hN.row h) hv; rely_wp rfl (opr_fldR (by decide) rfl hF.1 (hK _ _ (NewT.refl _) rfl))
      · intro a wx hT hF hJ K hK
        obtain ⟨f65, f59, _⟩ := hF
        have f65 : a.tmps.getD 65 undef = .pointer (some ⟨R, 4, none⟩) := f65
        have f59 : a.tmps.getD 59 undef = .int .i64 (x.tr) := f59
        refine rely_wp rfl ?_
        refine opr_put1 rfl f65 f59 (show wx.rowIs R 46 109 (recF ({ zR with kind := x.kind, saga := x.saga, seq := x.seq, step := x.step }) (.slice none 0 0) (.slice none 0 0)) from hJ) (by decide) info_i1 rfl (fun i _ => rs_tr ({ zR with kind := x.kind, saga := x.saga, seq := x.seq, step := x.step }) (.slice none 0 0) (.slice none 0 0) i _) ?_
        intro w' hT' hr'
        exact hK _ _ hT' hr' trivial
      · exact fun a wx hT hF K hK => have hK := fun v w' (hN : NewT wx w') hv => hK v w' (RT.new (Nat.lt_of_lt_of_le hRl hT.size) hN) (fun k h => hN.row h) hv; rely_wp rfl (opr_fldR (by decide) rfl hF.1 (hK _ _ (NewT.refl _) rfl))
      · intro e4 h4 hJ
        iterate 11 (intro u h; obtain rfl := Eq.symm (h (by simp)); clear h)
        intro _ _
        intro u h; obtain rfl := Eq.symm (h (by simp)); clear h
        intro _ _
        intro u h; obtain rfl := Eq.symm (h (by simp)); clear h
        intro _ _
        intro u h; obtain rfl := Eq.symm (h (by simp)); clear h
        intro _ _
        intro u h; obtain rfl := Eq.symm (h (by simp)); clear h
        refine relyEnd_nil rfl ?_
        simp only [Act.put, List.setIfInBounds_toArray, List.set_cons_zero, List.set_cons_succ]
        refine opr_put1 rfl rfl rfl (show e4.rowIs R 46 109 (recF ({ zR with kind := x.kind, saga := x.saga, seq := x.seq, step := x.step, tr := x.tr }) (.slice none 0 0) (.slice none 0 0)) from hJ) (by decide) info_b1 rfl (fun i _ => rs_back ({ zR with kind := x.kind, saga := x.saga, seq := x.seq, step := x.step, tr := x.tr }) (.slice none 0 0) (.slice none 0 0) i _) ?_
        intro e4s hT' hr'
        clear hJ
        go_simp
        have hRT := RT.trans _ _ _ h4 hT'
        go_upto_region 17 with fail
        refine wp_region_steps0 NewT [SV.eq (.agg (rowA 109 (recF ({ zR with kind := x.kind, saga := x.saga, seq := x.seq, step := x.step, tr := x.tr, back := x.back }) (.slice none 0 0) (.slice none 0 0))))] [([(3, none)], none)] 83 1 rfl rfl (by kernel_rfl) NewT.trans (NewT.refl _) (Nat.le_of_ble_eq_true rfl) ⟨?_, trivial⟩ ?_
        · exact fun a wx hT hF K hK => rely_wp rfl (opr_ldR (hT.row hr') rfl hF.1 (hK _ _ (NewT.refl _) rfl))
        · intro wf hf
          intro u h; obtain rfl := Eq.symm (h (by simp)); clear h
          refine relyEnd_nil rfl ?_
          simp only [Act.put, List.setIfInBounds_toArray, List.set_cons_zero, List.set_cons_succ]
          refine wpList_plain rfl (fun K hK => ?_)
          refine opr_putm rfl rfl rfl (hf.row (hRT.row hne2 X2.out)) (by decide) info_rec (recF_one _ _ _ rfl rfl) (put_all _ _) ?_
          intro wq hTq rq
          refine hK _ _ ?_
          refine wpList_end rfl ?_
          go_simp
          go_wp2
          have hNq : NewT w wq := (NewT.trans _ _ _ (HN.out.rt hRT (by omega)) hf).rt hTq (by omega)
          refine bodyPost_ret (results_agg rfl _ rfl rq Try.underlying46 rfl info_rec) rfl ⟨_, rfl, hNq, ?_⟩
          rw [HO.out]
          exact ⟨.slice none 0 0, .slice none 0 0, rfl, rdP_nil _, rdV_nil _ _⟩
    have k4 := hk
    clear hk
    by_cases hk : x.kind = 5
    · have HO : Hid (onlyR x = { zR with kind := x.kind, saga := x.saga, seq := x.seq, nd := x.nd }) := Lib.hid (by unfold onlyR; simp only [hk]; simp)
      rw [hk] at c0
      go_upto_region 15 with fail
      clear c0
      refine wp_region_relyP (RT R) (fun k w => w.rowIs R 46 109 ((fun k => ([recF ({ zR with kind := x.kind }) (.slice none 0 0) (.slice none 0 0), recF ({ zR with kind := x.kind, saga := x.saga }) (.slice none 0 0) (.slice none 0 0)] : List (Nat → Value)).getD k (recF ({ zR with kind := x.kind, saga := x.saga, seq := x.seq }) (.slice none 0 0) (.slice none 0 0))) k)) [SV.eq (.pointer (some ⟨w.heap.size, 1, none⟩)), SV.eq (.int .i64 (x.saga)), SV.eq (.pointer (some ⟨w.heap.size, 2, none⟩)), SV.eq (.int .i64 (x.seq)), SV.eq (.pointer (some ⟨w.heap.size, 7, none⟩)), SV.eq (.int .i64 (x.nd)), SV.eq (.pointer (some ⟨R, 1, none⟩)), SV.any, SV.eq (.pointer (some ⟨R, 2, none⟩)), SV.any, SV.eq (.pointer (some ⟨R, 7, none⟩))] [([(1, none)], none), ([(67, some 0)], none), ([(1, none)], none), ([(69, some 2)], none), ([(1, none)], none), ([(71, some 4)], none), ([(3, none)], none), ([(73, some 6), (68, some 1)], none), ([(3, none)], none), ([(74, some 8), (70, some 3)], none), ([(3, none)], none)] [none, none, none, none, none, none, none, some 0, none, some 1, none] [7, 9] 83 rfl (by kernel_rfl) rfl (by kernel_rfl) (by kernel_rfl) rfl (by kernel_rfl) RT.trans (RT.drew _ _) ((NewT.drew _).row X3.out) (Nat.le_of_ble_eq_true rfl) ⟨?_, ?_, ?_, ?_, ?_, ?_, ?_, ?_, ?_, ?_, ?_, trivial⟩ ?_
      · exact fun a wx hT hF K hK => have hK := fun v w' (hN : NewT wx w') hv => hK v w' (RT.new (Nat.lt_of_lt_of_le hRl hT.size) hN) (fun k h => hN.row h) hv; rely_wp rfl (opr_fldR (by decide) rfl hF.1 (hK _ _ (NewT.refl _) rfl))
      · exact fun a wx hT hF K hK => have hK := fun v w' (hN : NewT wx w') hv => hK v w' (RT.new (Nat.lt_of_lt_of_le hRl hT.size) hN) (fun k h => hN.row h) hv; rely_wp rfl (opr_ldI (hT.row hne1 X1.out) (by decide) rfl rfl hF.1 (hK _ _ (NewT.refl _) rfl))
      · exact fun a wx hT hF K hK => have hK := fun v w' (hN : NewT wx w') hv => hK v w' (RT.new (Nat.lt_of_lt_of_le hRl hT.size) hN) (fun k h => hN.row h) hv; rely_wp rfl (opr_fldR (by decide) rfl hF.1 (hK _ _ (NewT.refl _) rfl))
      · exact fun a wx hT hF K hK => have hK := fun v w' (hN : NewT wx w') hv => hK v w' (RT.new (Nat.lt_of_lt_of_le hRl hT.size) hN) (fun k h => hN.row h) hv; rely_wp rfl (opr_ldI (hT.row hne1 X1.out) (by decide) rfl rfl hF.1 (hK _ _ (NewT.refl _) rfl))
      · exact fun a wx hT hF K hK => have hK := fun v w' (hN : NewT wx w') hv => hK v w' (RT.new (Nat.lt_of_lt_of_le hRl hT.size) hN) (fun k h => hN.row h) hv; rely_wp rfl (opr_fldR (by decide) rfl hF.1 (hK _ _ (NewT.refl _) rfl))
      · exact fun a wx hT hF K hK => have hK := fun v w' (hN : NewT wx w') hv => hK v w' (RT.new (Nat.lt_of_lt_of_le hRl hT.size) hN) (fun k h => hN.row h) hv; rely_wp rfl (opr_ldI (hT.row hne1 X1.out) (by decide) rfl rfl hF.1 (hK _ _ (NewT.refl _) rfl))
      · exact fun a wx hT hF K hK => have hK := fun v w' (hN : NewT wx w') hv => hK v w' (RT.new (Nat.lt_of_lt_of_le hRl hT.size) hN) (fun k h => hN.row h) hv; rely_wp rfl (opr_fldR (by decide) rfl hF.1 (hK _ _ (NewT.refl _) rfl))
      · intro a wx hT hF hJ K hK
        obtain ⟨f73, f68, _⟩ := hF
        have f73 : a.tmps.getD 73 undef = .pointer (some ⟨R, 1, none⟩) := f73
        have f68 : a.tmps.getD 68 undef = .int .i64 (x.saga) := f68
        refine rely_wp rfl ?_
        refine opr_put1 rfl f73 f68 (show wx.rowIs R 46 109 (recF ({ zR with kind := x.kind }) (.slice none 0 0) (.slice none 0 0)) from hJ) (by decide) info_i1 rfl (fun i _ => rs_saga ({ zR with kind := x.kind }) (.slice none 0 0) (.slice none 0 0) i _) ?_
        intro w' hT' hr'
        exact hK _ _ hT' hr' trivial
      · exact fun a wx hT hF K hK => have hK := fun v w' (hN : NewT wx w') hv => hK v w' (RT.new (Nat.lt_of_lt_of_le hRl hT.size) hN) (fun k h => hN.row h) hv; rely_wp rfl (opr_fldR (by decide) rfl hF.1 (hK _ _ (NewT.refl _) rfl))
      · intro a wx hT hF hJ K hK
        obtain ⟨f74, f70, _⟩ := hF
        have f74 : a.tmps.getD 74 undef = .pointer (some ⟨R, 2, none⟩) := f74
        have f70 : a.tmps.getD 70 undef = .int .i64 (x.seq) := f70
        refine rely_wp rfl ?_
        refine opr_put1 rfl f74 f70 (show wx.rowIs R 46 109 (recF ({ zR with kind := x.kind, saga := x.saga }) (.slice none 0 0) (.slice none 0 0)) from hJ) (by decide) info_i1 rfl (fun i _ => rs_seq ({ zR with kind := x.kind, saga := x.saga }) (.slice none 0 0) (.slice none 0 0) i _) ?_
        intro w' hT' hr'
        exact hK _ _ hT' hr' trivial
      · exact fun a wx hT hF K hK => have hK := fun v w' (hN : NewT wx w') hv => hK v w' (RT.new (Nat.lt_of_lt_of_le hRl hT.size) hN) (fun k h => hN.row h) hv; rely_wp rfl (opr_fldR (by decide) rfl hF.1 (hK _ _ (NewT.refl _) rfl))
      · intro e5 h5 hJ
        iterate 7 (intro u h; obtain rfl := Eq.symm (h (by simp)); clear h)
        intro _ _
        intro u h; obtain rfl := Eq.symm (h (by simp)); clear h
        intro _ _
        intro u h; obtain rfl := Eq.symm (h (by simp)); clear h
        refine relyEnd_nil rfl ?_
        simp only [Act.put, List.setIfInBounds_toArray, List.set_cons_zero, List.set_cons_succ]
        refine opr_put1 rfl rfl rfl (show e5.rowIs R 46 109 (recF ({ zR with kind := x.kind, saga := x.saga, seq := x.seq }) (.slice none 0 0) (.slice none 0 0)) from hJ) (by decide) info_i1 rfl (fun i _ => rs_nd ({ zR with kind := x.kind, saga := x.saga, seq := x.seq }) (.slice none 0 0) (.slice none 0 0) i _) ?_
        intro e5s hT' hr'
        clear hJ
        go_simp
        have hRT := RT.trans _ _ _ h5 hT'
        go_upto_region 17 with fail
        refine wp_region_steps0 NewT [SV.eq (.agg (rowA 109 (recF ({ zR with kind := x.kind, saga := x.saga, seq := x.seq, nd := x.nd }) (.slice none 0 0) (.slice none 0 0))))] [([(3, none)], none)] 83 1 rfl rfl (by kernel_rfl) NewT.trans (NewT.refl _) (Nat.le_of_ble_eq_true rfl) ⟨?_, trivial⟩ ?_
        · exact fun a wx hT hF K hK => rely_wp rfl (opr_ldR (hT.row hr') rfl hF.1 (hK _ _ (NewT.refl _) rfl))
        · intro wf hf
          intro u h; obtain rfl := Eq.symm (h (by simp)); clear h
          refine relyEnd_nil rfl ?_
          simp only [Act.put, List.setIfInBounds_toArray, List.set_cons_zero, List.set_cons_succ]
          refine wpList_plain rfl (fun K hK => ?_)
          refine opr_putm rfl rfl rfl (hf.row (hRT.row hne2 X2.out)) (by decide) info_rec (recF_one _ _ _ rfl rfl) (put_all _ _) ?_
          intro wq hTq rq
          refine hK _ _ ?_
          refine wpList_end rfl ?_
          go_simp
          go_wp2
          have hNq : NewT w wq := (NewT.trans _ _ _ (HN.out.rt hRT (by omega)) hf).rt hTq (by omega)
          refine bodyPost_ret (results_agg rfl _ rfl rq Try.underlying46 rfl info_rec) rfl ⟨_, rfl, hNq, ?_⟩
          rw [HO.out]
          exact ⟨.slice none 0 0, .slice none 0 0, rfl, rdP_nil _, rdV_nil _ _⟩
    have k5 := hk
    clear hk
    by_cases hk : x.kind = 6
    · have HO : Hid (onlyR x = { zR with kind := x.kind, part := x.part, epoch := x.epoch }) := Lib.hid (by unfold onlyR; simp only [hk]; simp)
      rw [hk] at c0
      go_upto_region 16 with fail
      clear c0
      refine wp_region_relyP (RT R) (fun k w => w.rowIs R 46 109 ((fun k => ([recF ({ zR with kind := x.kind }) (.slice none 0 0) (.slice none 0 0)] : List (Nat → Value)).getD k (recF ({ zR with kind := x.kind, part := x.part }) (.slice none 0 0) (.slice none 0 0))) k)) [SV.eq (.pointer (some ⟨w.heap.size, 8, none⟩)), SV.eq (.int .i64 (x.part)), SV.eq (.pointer (some ⟨w.heap.size, 9, none⟩)), SV.eq (.int .i64 (x.epoch)), SV.eq (.pointer (some ⟨R, 8, none⟩)), SV.any, SV.eq (.pointer (some ⟨R, 9, none⟩))] [([(1, none)], none), ([(76, some 0)], none), ([(1, none)], none), ([(78, some 2)], none), ([(3, none)], none), ([(80, some 4), (77, some 1)], none), ([(3, none)], none)] [none, none, none, none, none, some 0, none] [5] 83 rfl (by kernel_rfl) rfl (by kernel_rfl) (by kernel_rfl) rfl (by kernel_rfl) RT.trans (RT.drew _ _) ((NewT.drew _).row X3.out) (Nat.le_of_ble_eq_true rfl) ⟨?_, ?_, ?_, ?_, ?_, ?_, ?_, trivial⟩ ?_
      · exact fun a wx hT hF K hK => have hK := fun v w' (hN : NewT wx w') hv => hK v w' (RT.new (Nat.lt_of_lt_of_le hRl hT.size) hN) (fun k h => hN.row h) hv; rely_wp rfl (opr_fldR (by decide) rfl hF.1 (hK _ _ (NewT.refl _) rfl))
      · exact fun a wx hT hF K hK => have hK := fun v w' (hN : NewT wx w') hv => hK v w' (RT.new (Nat.lt_of_lt_of_le hRl hT.size) hN) (fun k h => hN.row h) hv; rely_wp rfl (opr_ldI (hT.row hne1 X1.out) (by decide) rfl rfl hF.1 (hK _ _ (NewT.refl _) rfl))
      · exact fun a wx hT hF K hK => have hK := fun v w' (hN : NewT wx w') hv => hK v w' (RT.new (Nat.lt_of_lt_of_le hRl hT.size) hN) (fun k h => hN.row h) hv; rely_wp rfl (opr_fldR (by decide) rfl hF.1 (hK _ _ (NewT.refl _) rfl))
      · exact fun a wx hT hF K hK => have hK := fun v w' (hN : NewT wx w') hv => hK v w' (RT.new (Nat.lt_of_lt_of_le hRl hT.size) hN) (fun k h => hN.row h) hv; rely_wp rfl (opr_ldI (hT.row hne1 X1.out) (by decide) rfl rfl hF.1 (hK _ _ (NewT.refl _) rfl))
      · exact fun a wx hT hF K hK => have hK := fun v w' (hN : NewT wx w') hv => hK v w' (RT.new (Nat.lt_of_lt_of_le hRl hT.size) hN) (fun k h => hN.row h) hv; rely_wp rfl (opr_fldR (by decide) rfl hF.1 (hK _ _ (NewT.refl _) rfl))
      · intro a wx hT hF hJ K hK
        obtain ⟨f80, f77, _⟩ := hF
        have f80 : a.tmps.getD 80 undef = .pointer (some ⟨R, 8, none⟩) := f80
        have f77 : a.tmps.getD 77 undef = .int .i64 (x.part) := f77
        refine rely_wp rfl ?_
        refine opr_put1 rfl f80 f77 (show wx.rowIs R 46 109 (recF ({ zR with kind := x.kind }) (.slice none 0 0) (.slice none 0 0)) from hJ) (by decide) info_i1 rfl (fun i _ => rs_part ({ zR with kind := x.kind }) (.slice none 0 0) (.slice none 0 0) i _) ?_
        intro w' hT' hr'
        exact hK _ _ hT' hr' trivial
      · exact fun a wx hT hF K hK => have hK := fun v w' (hN : NewT wx w') hv => hK v w' (RT.new (Nat.lt_of_lt_of_le hRl hT.size) hN) (fun k h => hN.row h) hv; rely_wp rfl (opr_fldR (by decide) rfl hF.1 (hK _ _ (NewT.refl _) rfl))
      · intro e6 h6 hJ
        iterate 5 (intro u h; obtain rfl := Eq.symm (h (by simp)); clear h)
        intro _ _
        intro u h; obtain rfl := Eq.symm (h (by simp)); clear h
        refine relyEnd_nil rfl ?_
        simp only [Act.put, List.setIfInBounds_toArray, List.set_cons_zero, List.set_cons_succ]
        refine opr_put1 rfl rfl rfl (show e6.rowIs R 46 109 (recF ({ zR with kind := x.kind, part := x.part }) (.slice none 0 0) (.slice none 0 0)) from hJ) (by decide) info_i1 rfl (fun i _ => rs_epoch ({ zR with kind := x.kind, part := x.part }) (.slice none 0 0) (.slice none 0 0) i _) ?_
        intro e6s hT' hr'
        clear hJ
        go_simp
        have hRT := RT.trans _ _ _ h6 hT'
        go_upto_region 17 with fail
        refine wp_region_steps0 NewT [SV.eq (.agg (rowA 109 (recF ({ zR with kind := x.kind, part := x.part, epoch := x.epoch }) (.slice none 0 0) (.slice none 0 0))))] [([(3, none)], none)] 83 1 rfl rfl (by kernel_rfl) NewT.trans (NewT.refl _) (Nat.le_of_ble_eq_true rfl) ⟨?_, trivial⟩ ?_
        · exact fun a wx hT hF K hK => rely_wp rfl (opr_ldR (hT.row hr') rfl hF.1 (hK _ _ (NewT.refl _) rfl))
        · intro wf hf
          intro u h; obtain rfl := Eq.symm (h (by simp)); clear h
          refine relyEnd_nil rfl ?_
          simp only [Act.put, List.setIfInBounds_toArray, List.set_cons_zero, List.set_cons_succ]
          refine wpList_plain rfl (fun K hK => ?_)
          refine opr_putm rfl rfl rfl (hf.row (hRT.row hne2 X2.out)) (by decide) info_rec (recF_one _ _ _ rfl rfl) (put_all _ _) ?_
          intro wq hTq rq
          refine hK _ _ ?_
          refine wpList_end rfl ?_
          go_simp
          go_wp2
          have hNq : NewT w wq := (NewT.trans _ _ _ (HN.out.rt hRT (by omega)) hf).rt hTq (by omega)
          refine bodyPost_ret (results_agg rfl _ rfl rq Try.underlying46 rfl info_rec) rfl ⟨_, rfl, hNq, ?_⟩
          rw [HO.out]
          exact ⟨.slice none 0 0, .slice none 0 0, rfl, rdP_nil _, rdV_nil _ _⟩
    have k6 := hk
    clear hk
    have HO : Hid (onlyR x = { zR with kind := x.kind }) := Lib.hid (by unfold onlyR; simp [k1, k2, k3, k4, k5, k6])
    have q1 : (x.kind == 1) = false := by simpa using k1
    have q2 : (x.kind == 2) = false := by simpa using k2
    have q3 : (x.kind == 3) = false := by simpa using k3
    have q4 : (x.kind == 4) = false := by simpa using k4
    have q5 : (x.kind == 5) = false := by simpa using k5
    have q6 : (x.kind == 6) = false := by simpa using k6
    clear k1 k2 k3 k4 k5 k6
    go_upto_region 17 with fail
    refine wp_region_steps0 NewT [SV.eq (.agg (rowA 109 (recF ({ zR with kind := x.kind }) (.slice none 0 0) (.slice none 0 0))))] [([(3, none)], none)] 83 1 rfl rfl (by kernel_rfl) NewT.trans (NewT.refl _) (Nat.le_of_ble_eq_true rfl) ⟨?_, trivial⟩ ?_
    · exact fun a wx hT hF K hK => rely_wp rfl (opr_ldR (hT.row X3.out) rfl hF.1 (hK _ _ (NewT.refl _) rfl))
    · intro wf hf
      intro u h; obtain rfl := Eq.symm (h (by simp)); clear h
      refine relyEnd_nil rfl ?_
      simp only [Act.put, List.setIfInBounds_toArray, List.set_cons_zero, List.set_cons_succ]
      refine wpList_plain rfl (fun K hK => ?_)
      refine opr_putm rfl rfl rfl (hf.row X2.out) (by decide) info_rec (recF_one _ _ _ rfl rfl) (put_all _ _) ?_
      intro wq hTq rq
      refine hK _ _ ?_
      refine wpList_end rfl ?_
      go_simp
      go_wp2
      have hNq : NewT w wq := (NewT.trans _ _ _ (HN.out) hf).rt hTq (by omega)
      refine bodyPost_ret (results_agg rfl _ rfl rq Try.underlying46 rfl info_rec) rfl ⟨_, rfl, hNq, ?_⟩
      rw [HO.out]
      exact ⟨.slice none 0 0, .slice none 0 0, rfl, rdP_nil _, rdV_nil _ _⟩
end Go.Proofs.Ytilmeffmdgcblaa
/- Package rec: Right; commitments. -/
namespace Go.Proofs.Ytilmeffmdgcblaa
open Go Go.RowKit
set_option maxRecDepth 8000
set_option linter.all false
set_option maxHeartbeats 1000000 in
theorem Right_cv (v : Value) (x : Rc) (w : World) (h : RecV w v x) : Cv 43 #[v] w (.eq (.bool (rightB x))) := by
  rw [← right_eq]
  obtain ⟨sv, dv, rfl, hs, hd⟩ := h
  unfold Cv
  have HX : Hid (RecV w (.agg (rowA 109 (recF x sv dv))) x) := Lib.hid ⟨sv, dv, rfl, hs, hd⟩
  have HS := Lib.hid hs
  have HD := Lib.hid hd
  clear hs hd
  go_enter Try.func43, Try.ntmps43
  go_upto_region 1 with fail
  have r1 := rowIs_box w 46 109 (recF x sv dv)
  have hN := NewT.alloc w (.cells (rowA 109 (recF x sv dv)) 46)
  change Code.wp _ _ _ _ (w.alloc (.cells (rowA 109 (recF x sv dv)) 46))
  generalize w.alloc (.cells (rowA 109 (recF x sv dv)) 46) = W0 at r1 hN ⊢
  have R1 := Lib.hid r1
  have HN := Lib.hid hN
  replace HX := Lib.hid (hN.recV HX.out)
  replace HS := Lib.hid (hN.pairs HS.out)
  replace HD := Lib.hid (hN.rd HD.out)
  clear r1 hN
  refine wp_region_rely (NewT) [SV.eq (.agg (rowA 109 (recF x sv dv))), SV.eq (.bool (inRg x)), SV.eq (.bool (inRg x)), svIf (inRg x) (SV.eq (.agg (rowA 109 (recF x sv dv)))), svIf (inRg x) (SV.eq (.agg (rowA 109 (recF x sv dv)))), svIf (inRg x) (svRec (onlyR x)), svIf (inRg x) (SV.eq (.bool (sameB x (onlyR x)))), SV.eq (.bool ((inRg x) && (sameB x (onlyR x))))] [([(1, none)], none), ([(3, some 0)], none), ([(4, some 1)], none), ([(1, none), (5, some 2)], some (5, true)), ([(1, none), (5, some 2)], some (5, true)), ([(7, some 4), (5, some 2)], some (5, true)), ([(6, some 3), (8, some 5), (5, some 2)], some (5, true)), ([(5, some 2), (9, some 6)], none)] 11 rfl (by kernel_rfl) rfl (by kernel_rfl) (by kernel_rfl) rfl NewT.trans (NewT.drew _) (Nat.le_of_ble_eq_true rfl) ⟨?_, ?_, ?_, ?_, ?_, ?_, ?_, ?_, trivial⟩ ?_
  · exact fun a wx hT hF K hK => rely_wp rfl (opr_ldR (hT.row R1.out) rfl hF.1 (hK _ _ (NewT.refl _) rfl))
  · exact fun a wx hT hF K hK => rely_wp rfl (opr_cv (inRange_cv _ x wx (hT.recV HX.out)) rfl Try.func56 (by kernel_rfl) (by kernel_rfl) (evs1 hF.1) hK)
  · exact fun a wx hT hF K hK => rely_wp rfl (opr_move (.inl rfl) (hK _ _ (NewT.refl _) hF.1))
  · exact fun a wx hT hF K hK => rely_if (rely_gt hF.2.1) (NewT.refl _) hK fun hE hK => opr_ldR (hT.row R1.out) rfl hF.1 (hK _ _ (NewT.refl _) rfl)
  · exact fun a wx hT hF K hK => rely_if (rely_gt hF.2.1) (NewT.refl _) hK fun hE hK => opr_ldR (hT.row R1.out) rfl hF.1 (hK _ _ (NewT.refl _) rfl)
  · exact fun a wx hT hF K hK => rely_if (rely_gt hF.2.1) (NewT.refl _) hK fun hE hK => opr_cv (only_cv _ x wx (hT.recV HX.out)) rfl Try.func58 (by kernel_rfl) (by kernel_rfl) (evs1 (hF.1 hE)) hK
  · exact fun a wx hT hF K hK => rely_if (rely_gt hF.2.2.1) (NewT.refl _) hK fun hE hK => opr_cv (Same_cv _ _ x (onlyR x) wx (hT.recV HX.out) (hF.2.1 hE)) rfl Try.func57 (by kernel_rfl) (by kernel_rfl) (evs2 (hF.1 hE) rfl) hK
  · exact fun a wx hT hF K hK => rely_wp rfl (opr_pick_b rfl hF.1 (fun hb => hK _ _ (NewT.refl _) (pk_and1 (hF.2.1 hb) hb)) (fun hb => hK _ _ (NewT.refl _) (pk_and0 hb)))
  · intro wx hT
    iterate 3 (intro u h; obtain rfl := Eq.symm (h (by simp)); clear h)
    iterate 4 (intro _ _)
    intro u h; obtain rfl := Eq.symm (h (by simp)); clear h
    refine relyEnd_nil rfl ?_
    simp only [Act.put, List.setIfInBounds_toArray, List.set_cons_zero, List.set_cons_succ]
    refine opr_move (.inr rfl) ?_
    go_simp
    go_wp2
    go_ret
    exact ⟨_, rfl, NewT.trans _ _ _ HN.out hT, rfl⟩
end Go.Proofs.Ytilmeffmdgcblaa
/- Sagas' contracts over values that are but known to be sagas; small functions of package book. -/
namespace Go.Proofs.Ytilmeffmdgcblaa
open Go Go.RowKit
set_option maxRecDepth 8000
set_option linter.all false
theorem MissU_cv (u : Value) (l : List (Int × Int)) (g : Sg) (w : World) (hu : SgV w u l g) : Cv 26 #[u] w (.eq (.int .i64 (missG g))) := by
  obtain ⟨sv, rfl, hs⟩ := hu
  exact Missing_cv sv g w
theorem SameU_cv (u v : Value) (l m : List (Int × Int)) (g h : Sg) (w : World) (hu : SgV w u l g) (hv : SgV w v m h) : Cv 29 #[u, v] w (.eq (.bool (sameG l m g h))) := by
  obtain ⟨sv, rfl, hs⟩ := hu
  obtain ⟨tv, rfl, ht⟩ := hv
  exact sSame_cv sv tv l m g h w hs ht
theorem gNew_cvB (v : Value) (l : List (Int × Int)) (B : Nat) (w : World) (hB : B ≤ w.heap.size) (h : RdP w v l) : Cv 21 #[v] w (svSgN B (newL l) (newG l)) :=
  (gNew_cv v l w h).mono fun _ _ ⟨v', h1, h2, sv, h3, h4⟩ => ⟨v', h1, h2, sv, h3, h4.mono hB⟩
set_option maxHeartbeats 4000000 in
theorem rSame_cv (sv tv : Value) (l m : List (Int × Int)) (g h : Sg) (w : World) (hs : RdP w sv l) (hm : RdP w tv m) : Cv 23 #[.agg (rowA 10 (sgF sv g)), .agg (rowA 10 (sgF tv h))] w (.eq (.bool (sameG l m g h))) := by
  unfold Cv
  have HS := Lib.hid hs
  have HSM := Lib.hid hm
  clear hs hm
  go_enter Try.func23, Try.ntmps23
  go_upto_region 1 with fail
  have r_g1 := (rowIs_box w 48 10 (sgF sv g)).alloc (.cells (rowA 10 (sgF tv h)) 48)
  have r_g2 := rowIs_box (w.alloc (.cells (rowA 10 (sgF sv g)) 48)) 48 10 (sgF tv h)
  rw [World.size_alloc] at r_g2
  have hN : NewT w ((w.alloc (.cells (rowA 10 (sgF sv g)) 48)).alloc (.cells (rowA 10 (sgF tv h)) 48)) := (NewT.trans _ _ _ (NewT.alloc _ _) (NewT.alloc _ _))
  change Code.wp _ _ _ _ ((w.alloc (.cells (rowA 10 (sgF sv g)) 48)).alloc (.cells (rowA 10 (sgF tv h)) 48))
  generalize ((w.alloc (.cells (rowA 10 (sgF sv g)) 48)).alloc (.cells (rowA 10 (sgF tv h)) 48)) = W0 at r_g1 r_g2 hN ⊢
  obtain ⟨g1, h_g1⟩ : ∃ g_, w.heap.size = g_ := ⟨_, rfl⟩
  obtain ⟨g2, h_g2⟩ : ∃ g_, w.heap.size + 1 = g_ := ⟨_, rfl⟩
  have HG : Hid (w.heap.size ≤ g1 ∧ g1 < g2) := Lib.hid (by omega)
  rw [h_g1] at r_g1
  rw [h_g2] at r_g2
  try rw [h_g2]
  simp only [h_g1]
  have Rg1 := Lib.hid r_g1
  have Rg2 := Lib.hid r_g2
  have HM := Lib.hid hN
  clear r_g1 r_g2 hN h_g1 h_g2
  go_upto_region 1 with fail
  obtain ⟨q1_1, Q1_1⟩ : ∃ bq_, ((decide (l = m)) && (g.ph == h.ph)) = bq_ := ⟨_, rfl⟩
  obtain ⟨q2_1, Q2_1⟩ : ∃ bq_, ((q1_1 && (g.at_ == h.at_)) && (g.tr == h.tr)) = bq_ := ⟨_, rfl⟩
  obtain ⟨q3_1, Q3_1⟩ : ∃ bq_, ((q2_1 && (g.wt == h.wt)) && (g.bk == h.bk)) = bq_ := ⟨_, rfl⟩
  obtain ⟨q4_1, Q4_1⟩ : ∃ bq_, ((q3_1 && (g.dn == h.dn)) && (g.un == h.un)) = bq_ := ⟨_, rfl⟩
  obtain ⟨q5_1, Q5_1⟩ : ∃ bq_, ((q4_1 && (g.so == h.so)) && (g.sq == h.sq)) = bq_ := ⟨_, rfl⟩
  refine wp_region_steps0 NewT [SV.eq (.pointer (some ⟨g1, 0, none⟩)), SV.eq (sv), SV.eq (.pointer (some ⟨g2, 0, none⟩)), SV.eq (tv), SV.eq (.bool (decide (l = m))), SV.eq (.bool (decide (l = m))), svIf (decide (l = m)) (SV.eq (.pointer (some ⟨g1, 1, none⟩))), svIf (decide (l = m)) (SV.eq (.int .i64 (g.ph))), svIf (decide (l = m)) (SV.eq (.pointer (some ⟨g2, 1, none⟩))), svIf (decide (l = m)) (SV.eq (.int .i64 (h.ph))), svIf (decide (l = m)) (SV.eq (.bool (g.ph == h.ph))), SV.eq (.bool (q1_1)), SV.eq (.bool (q1_1)), svIf q1_1 (SV.eq (.pointer (some ⟨g1, 2, none⟩))), svIf q1_1 (SV.eq (.int .i64 (g.at_))), svIf q1_1 (SV.eq (.pointer (some ⟨g2, 2, none⟩))), svIf q1_1 (SV.eq (.int .i64 (h.at_))), svIf q1_1 (SV.eq (.bool (g.at_ == h.at_))), SV.eq (.bool (q1_1 && (g.at_ == h.at_))), SV.eq (.bool (q1_1 && (g.at_ == h.at_))), svIf (q1_1 && (g.at_ == h.at_)) (SV.eq (.pointer (some ⟨g1, 3, none⟩))), svIf (q1_1 && (g.at_ == h.at_)) (SV.eq (.int .i64 (g.tr))), svIf (q1_1 && (g.at_ == h.at_)) (SV.eq (.pointer (some ⟨g2, 3, none⟩))), svIf (q1_1 && (g.at_ == h.at_)) (SV.eq (.int .i64 (h.tr))), svIf (q1_1 && (g.at_ == h.at_)) (SV.eq (.bool (g.tr == h.tr))), SV.eq (.bool (q2_1)), SV.eq (.bool (q2_1)), svIf q2_1 (SV.eq (.pointer (some ⟨g1, 4, none⟩))), svIf q2_1 (SV.eq (.bool (g.wt))), svIf q2_1 (SV.eq (.pointer (some ⟨g2, 4, none⟩))), svIf q2_1 (SV.eq (.bool (h.wt))), svIf q2_1 (SV.eq (.bool (g.wt == h.wt))), SV.eq (.bool (q2_1 && (g.wt == h.wt))), SV.eq (.bool (q2_1 && (g.wt == h.wt))), svIf (q2_1 && (g.wt == h.wt)) (SV.eq (.pointer (some ⟨g1, 5, none⟩))), svIf (q2_1 && (g.wt == h.wt)) (SV.eq (.bool (g.bk))), svIf (q2_1 && (g.wt == h.wt)) (SV.eq (.pointer (some ⟨g2, 5, none⟩))), svIf (q2_1 && (g.wt == h.wt)) (SV.eq (.bool (h.bk))), svIf (q2_1 && (g.wt == h.wt)) (SV.eq (.bool (g.bk == h.bk))), SV.eq (.bool (q3_1)), SV.eq (.bool (q3_1)), svIf q3_1 (SV.eq (.pointer (some ⟨g1, 6, none⟩))), svIf q3_1 (SV.eq (.int .i64 (g.dn))), svIf q3_1 (SV.eq (.pointer (some ⟨g2, 6, none⟩))), svIf q3_1 (SV.eq (.int .i64 (h.dn))), svIf q3_1 (SV.eq (.bool (g.dn == h.dn))), SV.eq (.bool (q3_1 && (g.dn == h.dn))), SV.eq (.bool (q3_1 && (g.dn == h.dn))), svIf (q3_1 && (g.dn == h.dn)) (SV.eq (.pointer (some ⟨g1, 7, none⟩))), svIf (q3_1 && (g.dn == h.dn)) (SV.eq (.int .i64 (g.un))), svIf (q3_1 && (g.dn == h.dn)) (SV.eq (.pointer (some ⟨g2, 7, none⟩))), svIf (q3_1 && (g.dn == h.dn)) (SV.eq (.int .i64 (h.un))), svIf (q3_1 && (g.dn == h.dn)) (SV.eq (.bool (g.un == h.un))), SV.eq (.bool (q4_1)), SV.eq (.bool (q4_1)), svIf q4_1 (SV.eq (.pointer (some ⟨g1, 8, none⟩))), svIf q4_1 (SV.eq (.int .i64 (g.so))), svIf q4_1 (SV.eq (.pointer (some ⟨g2, 8, none⟩))), svIf q4_1 (SV.eq (.int .i64 (h.so))), svIf q4_1 (SV.eq (.bool (g.so == h.so))), SV.eq (.bool (q4_1 && (g.so == h.so))), SV.eq (.bool (q4_1 && (g.so == h.so))), svIf (q4_1 && (g.so == h.so)) (SV.eq (.pointer (some ⟨g1, 9, none⟩))), svIf (q4_1 && (g.so == h.so)) (SV.eq (.int .i64 (g.sq))), svIf (q4_1 && (g.so == h.so)) (SV.eq (.pointer (some ⟨g2, 9, none⟩))), svIf (q4_1 && (g.so == h.so)) (SV.eq (.int .i64 (h.sq))), svIf (q4_1 && (g.so == h.so)) (SV.eq (.bool (g.sq == h.sq))), SV.eq (.bool (q5_1)), SV.eq (.bool (q5_1))] [([(2, none)], none), ([(5, some 0)], none), ([(3, none)], none), ([(7, some 2)], none), ([(6, some 1), (8, some 3)], none), ([(9, some 4)], none), ([(2, none), (10, some 5)], some (10, true)), ([(11, some 6), (10, some 5)], some (10, true)), ([(3, none), (10, some 5)], some (10, true)), ([(13, some 8), (10, some 5)], some (10, true)), ([(12, some 7), (14, some 9), (10, some 5)], some (10, true)), ([(10, some 5), (15, some 10)], none), ([(16, some 11)], none), ([(2, none), (17, some 12)], some (17, true)), ([(18, some 13), (17, some 12)], some (17, true)), ([(3, none), (17, some 12)], some (17, true)), ([(20, some 15), (17, some 12)], some (17, true)), ([(19, some 14), (21, some 16), (17, some 12)], some (17, true)), ([(17, some 12), (22, some 17)], none), ([(23, some 18)], none), ([(2, none), (24, some 19)], some (24, true)), ([(25, some 20), (24, some 19)], some (24, true)), ([(3, none), (24, some 19)], some (24, true)), ([(27, some 22), (24, some 19)], some (24, true)), ([(26, some 21), (28, some 23), (24, some 19)], some (24, true)), ([(24, some 19), (29, some 24)], none), ([(30, some 25)], none), ([(2, none), (31, some 26)], some (31, true)), ([(32, some 27), (31, some 26)], some (31, true)), ([(3, none), (31, some 26)], some (31, true)), ([(34, some 29), (31, some 26)], some (31, true)), ([(33, some 28), (35, some 30), (31, some 26)], some (31, true)), ([(31, some 26), (36, some 31)], none), ([(37, some 32)], none), ([(2, none), (38, some 33)], some (38, true)), ([(39, some 34), (38, some 33)], some (38, true)), ([(3, none), (38, some 33)], some (38, true)), ([(41, some 36), (38, some 33)], some (38, true)), ([(40, some 35), (42, some 37), (38, some 33)], some (38, true)), ([(38, some 33), (43, some 38)], none), ([(44, some 39)], none), ([(2, none), (45, some 40)], some (45, true)), ([(46, some 41), (45, some 40)], some (45, true)), ([(3, none), (45, some 40)], some (45, true)), ([(48, some 43), (45, some 40)], some (45, true)), ([(47, some 42), (49, some 44), (45, some 40)], some (45, true)), ([(45, some 40), (50, some 45)], none), ([(51, some 46)], none), ([(2, none), (52, some 47)], some (52, true)), ([(53, some 48), (52, some 47)], some (52, true)), ([(3, none), (52, some 47)], some (52, true)), ([(55, some 50), (52, some 47)], some (52, true)), ([(54, some 49), (56, some 51), (52, some 47)], some (52, true)), ([(52, some 47), (57, some 52)], none), ([(58, some 53)], none), ([(2, none), (59, some 54)], some (59, true)), ([(60, some 55), (59, some 54)], some (59, true)), ([(3, none), (59, some 54)], some (59, true)), ([(62, some 57), (59, some 54)], some (59, true)), ([(61, some 56), (63, some 58), (59, some 54)], some (59, true)), ([(59, some 54), (64, some 59)], none), ([(65, some 60)], none), ([(2, none), (66, some 61)], some (66, true)), ([(67, some 62), (66, some 61)], some (66, true)), ([(3, none), (66, some 61)], some (66, true)), ([(69, some 64), (66, some 61)], some (66, true)), ([(68, some 63), (70, some 65), (66, some 61)], some (66, true)), ([(66, some 61), (71, some 66)], none), ([(72, some 67)], none)] 73 69 rfl rfl (by kernel_rfl) NewT.trans (NewT.refl _) (Nat.le_of_ble_eq_true rfl) ⟨?_, ?_, ?_, ?_, ?_, ?_, ?_, ?_, ?_, ?_, ?_, ?_, ?_, ?_, ?_, ?_, ?_, ?_, ?_, ?_, ?_, ?_, ?_, ?_, ?_, ?_, ?_, ?_, ?_, ?_, ?_, ?_, ?_, ?_, ?_, ?_, ?_, ?_, ?_, ?_, ?_, ?_, ?_, ?_, ?_, ?_, ?_, ?_, ?_, ?_, ?_, ?_, ?_, ?_, ?_, ?_, ?_, ?_, ?_, ?_, ?_, ?_, ?_, ?_, ?_, ?_, ?_, ?_, ?_, trivial⟩ ?_
  · exact fun a wx hT hF K hK => rely_wp rfl (opr_fldU0 rfl hF.1 (hK _ _ (NewT.refl _) rfl))
  · exact fun a wx hT hF K hK => rely_wp rfl (opr_ldS (hT.row Rg1.out) (by decide) rfl rfl hF.1 (hK _ _ (NewT.refl _) rfl))
  · exact fun a wx hT hF K hK => rely_wp rfl (opr_fldU0 rfl hF.1 (hK _ _ (NewT.refl _) rfl))
  · exact fun a wx hT hF K hK => rely_wp rfl (opr_ldS (hT.row Rg2.out) (by decide) rfl rfl hF.1 (hK _ _ (NewT.refl _) rfl))
  · exact fun a wx hT hF K hK => rely_wp rfl (opr_cv (RSteps_cv _ _ l m wx ((NewT.trans _ _ _ HM.out hT).pairs HS.out) ((NewT.trans _ _ _ HM.out hT).pairs HSM.out)) rfl Try.func40 (by kernel_rfl) (by kernel_rfl) (evs2 hF.1 hF.2.1) hK)
  · exact fun a wx hT hF K hK => rely_wp rfl (opr_move (.inl rfl) (hK _ _ (NewT.refl _) hF.1))
  · exact fun a wx hT hF K hK => rely_if (rely_gt hF.2.1) (NewT.refl _) hK fun hE hK => opr_fldU1 rfl hF.1 (hK _ _ (NewT.refl _) rfl)
  · exact fun a wx hT hF K hK => rely_if (rely_gt hF.2.1) (NewT.refl _) hK fun hE hK => opr_ldI (hT.row Rg1.out) (by decide) rfl rfl (hF.1 hE) (hK _ _ (NewT.refl _) rfl)
  · exact fun a wx hT hF K hK => rely_if (rely_gt hF.2.1) (NewT.refl _) hK fun hE hK => opr_fldU1 rfl hF.1 (hK _ _ (NewT.refl _) rfl)
  · exact fun a wx hT hF K hK => rely_if (rely_gt hF.2.1) (NewT.refl _) hK fun hE hK => opr_ldI (hT.row Rg2.out) (by decide) rfl rfl (hF.1 hE) (hK _ _ (NewT.refl _) rfl)
  · exact fun a wx hT hF K hK => rely_if (rely_gt hF.2.2.1) (NewT.refl _) hK fun hE hK => opr_cmp (b := g.ph == h.ph) (.inl ⟨rfl, rfl⟩) Try.underlying3 rfl (hF.1 hE) (hF.2.1 hE) (hK _ _ (NewT.refl _) rfl)
  · exact fun a wx hT hF K hK => rely_wp rfl (opr_pick_b rfl hF.1 (fun hb => hK _ _ (NewT.refl _) (pn_and1 Q1_1 (hF.2.1 hb) hb)) (fun hb => hK _ _ (NewT.refl _) (pn_and0 Q1_1 hb)))
  · exact fun a wx hT hF K hK => rely_wp rfl (opr_move (.inl rfl) (hK _ _ (NewT.refl _) hF.1))
  · exact fun a wx hT hF K hK => rely_if (rely_gt hF.2.1) (NewT.refl _) hK fun hE hK => opr_fldU2 rfl hF.1 (hK _ _ (NewT.refl _) rfl)
  · exact fun a wx hT hF K hK => rely_if (rely_gt hF.2.1) (NewT.refl _) hK fun hE hK => opr_ldI (hT.row Rg1.out) (by decide) rfl rfl (hF.1 hE) (hK _ _ (NewT.refl _) rfl)
  · exact fun a wx hT hF K hK => rely_if (rely_gt hF.2.1) (NewT.refl _) hK fun hE hK => opr_fldU2 rfl hF.1 (hK _ _ (NewT.refl _) rfl)
  · exact fun a wx hT hF K hK => rely_if (rely_gt hF.2.1) (NewT.refl _) hK fun hE hK => opr_ldI (hT.row Rg2.out) (by decide) rfl rfl (hF.1 hE) (hK _ _ (NewT.refl _) rfl)
  · exact fun a wx hT hF K hK => rely_if (rely_gt hF.2.2.1) (NewT.refl _) hK fun hE hK => opr_cmp (b := g.at_ == h.at_) (.inl ⟨rfl, rfl⟩) Try.underlying3 rfl (hF.1 hE) (hF.2.1 hE) (hK _ _ (NewT.refl _) rfl)
  · exact fun a wx hT hF K hK => rely_wp rfl (opr_pick_b rfl hF.1 (fun hb => hK _ _ (NewT.refl _) (pk_and1 (hF.2.1 hb) hb)) (fun hb => hK _ _ (NewT.refl _) (pk_and0 hb)))
  · exact fun a wx hT hF K hK => rely_wp rfl (opr_move (.inl rfl) (hK _ _ (NewT.refl _) hF.1))
  · exact fun a wx hT hF K hK => rely_if (rely_gt hF.2.1) (NewT.refl _) hK fun hE hK => opr_fldU3 rfl hF.1 (hK _ _ (NewT.refl _) rfl)
  · exact fun a wx hT hF K hK => rely_if (rely_gt hF.2.1) (NewT.refl _) hK fun hE hK => opr_ldI (hT.row Rg1.out) (by decide) rfl rfl (hF.1 hE) (hK _ _ (NewT.refl _) rfl)
  · exact fun a wx hT hF K hK => rely_if (rely_gt hF.2.1) (NewT.refl _) hK fun hE hK => opr_fldU3 rfl hF.1 (hK _ _ (NewT.refl _) rfl)
  · exact fun a wx hT hF K hK => rely_if (rely_gt hF.2.1) (NewT.refl _) hK fun hE hK => opr_ldI (hT.row Rg2.out) (by decide) rfl rfl (hF.1 hE) (hK _ _ (NewT.refl _) rfl)
  · exact fun a wx hT hF K hK => rely_if (rely_gt hF.2.2.1) (NewT.refl _) hK fun hE hK => opr_cmp (b := g.tr == h.tr) (.inl ⟨rfl, rfl⟩) Try.underlying3 rfl (hF.1 hE) (hF.2.1 hE) (hK _ _ (NewT.refl _) rfl)
  · exact fun a wx hT hF K hK => rely_wp rfl (opr_pick_b rfl hF.1 (fun hb => hK _ _ (NewT.refl _) (pn_and1 Q2_1 (hF.2.1 hb) hb)) (fun hb => hK _ _ (NewT.refl _) (pn_and0 Q2_1 hb)))
  · exact fun a wx hT hF K hK => rely_wp rfl (opr_move (.inl rfl) (hK _ _ (NewT.refl _) hF.1))
  · exact fun a wx hT hF K hK => rely_if (rely_gt hF.2.1) (NewT.refl _) hK fun hE hK => opr_fldU4 rfl hF.1 (hK _ _ (NewT.refl _) rfl)
  · exact fun a wx hT hF K hK => rely_if (rely_gt hF.2.1) (NewT.refl _) hK fun hE hK => opr_ldQ (hT.row Rg1.out) (by decide) rfl rfl (hF.1 hE) (hK _ _ (NewT.refl _) rfl)
  · exact fun a wx hT hF K hK => rely_if (rely_gt hF.2.1) (NewT.refl _) hK fun hE hK => opr_fldU4 rfl hF.1 (hK _ _ (NewT.refl _) rfl)
  · exact fun a wx hT hF K hK => rely_if (rely_gt hF.2.1) (NewT.refl _) hK fun hE hK => opr_ldQ (hT.row Rg2.out) (by decide) rfl rfl (hF.1 hE) (hK _ _ (NewT.refl _) rfl)
  · exact fun a wx hT hF K hK => rely_if (rely_gt hF.2.2.1) (NewT.refl _) hK fun hE hK => opr_eqlQ (b := g.wt == h.wt) (rfl) rfl (hF.1 hE) (hF.2.1 hE) (hK _ _ (NewT.refl _) rfl)
  · exact fun a wx hT hF K hK => rely_wp rfl (opr_pick_b rfl hF.1 (fun hb => hK _ _ (NewT.refl _) (pk_and1 (hF.2.1 hb) hb)) (fun hb => hK _ _ (NewT.refl _) (pk_and0 hb)))
  · exact fun a wx hT hF K hK => rely_wp rfl (opr_move (.inl rfl) (hK _ _ (NewT.refl _) hF.1))
  · exact fun a wx hT hF K hK => rely_if (rely_gt hF.2.1) (NewT.refl _) hK fun hE hK => opr_fldU5 rfl hF.1 (hK _ _ (NewT.refl _) rfl)
  · exact fun a wx hT hF K hK => rely_if (rely_gt hF.2.1) (NewT.refl _) hK fun hE hK => opr_ldQ (hT.row Rg1.out) (by decide) rfl rfl (hF.1 hE) (hK _ _ (NewT.refl _) rfl)
  · exact fun a wx hT hF K hK => rely_if (rely_gt hF.2.1) (NewT.refl _) hK fun hE hK => opr_fldU5 rfl hF.1 (hK _ _ (NewT.refl _) rfl)
  · exact fun a wx hT hF K hK => rely_if (rely_gt hF.2.1) (NewT.refl _) hK fun hE hK => opr_ldQ (hT.row Rg2.out) (by decide) rfl rfl (hF.1 hE) (hK _ _ (NewT.refl _) rfl)
  · exact fun a wx hT hF K hK => rely_if (rely_gt hF.2.2.1) (NewT.refl _) hK fun hE hK => opr_eqlQ (b := g.bk == h.bk) (rfl) rfl (hF.1 hE) (hF.2.1 hE) (hK _ _ (NewT.refl _) rfl)
  · exact fun a wx hT hF K hK => rely_wp rfl (opr_pick_b rfl hF.1 (fun hb => hK _ _ (NewT.refl _) (pn_and1 Q3_1 (hF.2.1 hb) hb)) (fun hb => hK _ _ (NewT.refl _) (pn_and0 Q3_1 hb)))
  · exact fun a wx hT hF K hK => rely_wp rfl (opr_move (.inl rfl) (hK _ _ (NewT.refl _) hF.1))
  · exact fun a wx hT hF K hK => rely_if (rely_gt hF.2.1) (NewT.refl _) hK fun hE hK => opr_fldU6 rfl hF.1 (hK _ _ (NewT.refl _) rfl)
  · exact fun a wx hT hF K hK => rely_if (rely_gt hF.2.1) (NewT.refl _) hK fun hE hK => opr_ldI (hT.row Rg1.out) (by decide) rfl rfl (hF.1 hE) (hK _ _ (NewT.refl _) rfl)
  · exact fun a wx hT hF K hK => rely_if (rely_gt hF.2.1) (NewT.refl _) hK fun hE hK => opr_fldU6 rfl hF.1 (hK _ _ (NewT.refl _) rfl)
  · exact fun a wx hT hF K hK => rely_if (rely_gt hF.2.1) (NewT.refl _) hK fun hE hK => opr_ldI (hT.row Rg2.out) (by decide) rfl rfl (hF.1 hE) (hK _ _ (NewT.refl _) rfl)
  · exact fun a wx hT hF K hK => rely_if (rely_gt hF.2.2.1) (NewT.refl _) hK fun hE hK => opr_cmp (b := g.dn == h.dn) (.inl ⟨rfl, rfl⟩) Try.underlying3 rfl (hF.1 hE) (hF.2.1 hE) (hK _ _ (NewT.refl _) rfl)
  · exact fun a wx hT hF K hK => rely_wp rfl (opr_pick_b rfl hF.1 (fun hb => hK _ _ (NewT.refl _) (pk_and1 (hF.2.1 hb) hb)) (fun hb => hK _ _ (NewT.refl _) (pk_and0 hb)))
  · exact fun a wx hT hF K hK => rely_wp rfl (opr_move (.inl rfl) (hK _ _ (NewT.refl _) hF.1))
  · exact fun a wx hT hF K hK => rely_if (rely_gt hF.2.1) (NewT.refl _) hK fun hE hK => opr_fldU7 rfl hF.1 (hK _ _ (NewT.refl _) rfl)
  · exact fun a wx hT hF K hK => rely_if (rely_gt hF.2.1) (NewT.refl _) hK fun hE hK => opr_ldI (hT.row Rg1.out) (by decide) rfl rfl (hF.1 hE) (hK _ _ (NewT.refl _) rfl)
  · exact fun a wx hT hF K hK => rely_if (rely_gt hF.2.1) (NewT.refl _) hK fun hE hK => opr_fldU7 rfl hF.1 (hK _ _ (NewT.refl _) rfl)
  · exact fun a wx hT hF K hK => rely_if (rely_gt hF.2.1) (NewT.refl _) hK fun hE hK => opr_ldI (hT.row Rg2.out) (by decide) rfl rfl (hF.1 hE) (hK _ _ (NewT.refl _) rfl)
  · exact fun a wx hT hF K hK => rely_if (rely_gt hF.2.2.1) (NewT.refl _) hK fun hE hK => opr_cmp (b := g.un == h.un) (.inl ⟨rfl, rfl⟩) Try.underlying3 rfl (hF.1 hE) (hF.2.1 hE) (hK _ _ (NewT.refl _) rfl)
  · exact fun a wx hT hF K hK => rely_wp rfl (opr_pick_b rfl hF.1 (fun hb => hK _ _ (NewT.refl _) (pn_and1 Q4_1 (hF.2.1 hb) hb)) (fun hb => hK _ _ (NewT.refl _) (pn_and0 Q4_1 hb)))
  · exact fun a wx hT hF K hK => rely_wp rfl (opr_move (.inl rfl) (hK _ _ (NewT.refl _) hF.1))
  · exact fun a wx hT hF K hK => rely_if (rely_gt hF.2.1) (NewT.refl _) hK fun hE hK => opr_fldU8 rfl hF.1 (hK _ _ (NewT.refl _) rfl)
  · exact fun a wx hT hF K hK => rely_if (rely_gt hF.2.1) (NewT.refl _) hK fun hE hK => opr_ldI (hT.row Rg1.out) (by decide) rfl rfl (hF.1 hE) (hK _ _ (NewT.refl _) rfl)
  · exact fun a wx hT hF K hK => rely_if (rely_gt hF.2.1) (NewT.refl _) hK fun hE hK => opr_fldU8 rfl hF.1 (hK _ _ (NewT.refl _) rfl)
  · exact fun a wx hT hF K hK => rely_if (rely_gt hF.2.1) (NewT.refl _) hK fun hE hK => opr_ldI (hT.row Rg2.out) (by decide) rfl rfl (hF.1 hE) (hK _ _ (NewT.refl _) rfl)
  · exact fun a wx hT hF K hK => rely_if (rely_gt hF.2.2.1) (NewT.refl _) hK fun hE hK => opr_cmp (b := g.so == h.so) (.inl ⟨rfl, rfl⟩) Try.underlying3 rfl (hF.1 hE) (hF.2.1 hE) (hK _ _ (NewT.refl _) rfl)
  · exact fun a wx hT hF K hK => rely_wp rfl (opr_pick_b rfl hF.1 (fun hb => hK _ _ (NewT.refl _) (pk_and1 (hF.2.1 hb) hb)) (fun hb => hK _ _ (NewT.refl _) (pk_and0 hb)))
  · exact fun a wx hT hF K hK => rely_wp rfl (opr_move (.inl rfl) (hK _ _ (NewT.refl _) hF.1))
  · exact fun a wx hT hF K hK => rely_if (rely_gt hF.2.1) (NewT.refl _) hK fun hE hK => opr_fldU9 rfl hF.1 (hK _ _ (NewT.refl _) rfl)
  · exact fun a wx hT hF K hK => rely_if (rely_gt hF.2.1) (NewT.refl _) hK fun hE hK => opr_ldI (hT.row Rg1.out) (by decide) rfl rfl (hF.1 hE) (hK _ _ (NewT.refl _) rfl)
  · exact fun a wx hT hF K hK => rely_if (rely_gt hF.2.1) (NewT.refl _) hK fun hE hK => opr_fldU9 rfl hF.1 (hK _ _ (NewT.refl _) rfl)
  · exact fun a wx hT hF K hK => rely_if (rely_gt hF.2.1) (NewT.refl _) hK fun hE hK => opr_ldI (hT.row Rg2.out) (by decide) rfl rfl (hF.1 hE) (hK _ _ (NewT.refl _) rfl)
  · exact fun a wx hT hF K hK => rely_if (rely_gt hF.2.2.1) (NewT.refl _) hK fun hE hK => opr_cmp (b := g.sq == h.sq) (.inl ⟨rfl, rfl⟩) Try.underlying3 rfl (hF.1 hE) (hF.2.1 hE) (hK _ _ (NewT.refl _) rfl)
  · exact fun a wx hT hF K hK => rely_wp rfl (opr_pick_b rfl hF.1 (fun hb => hK _ _ (NewT.refl _) (pn_and1 Q5_1 (hF.2.1 hb) hb)) (fun hb => hK _ _ (NewT.refl _) (pn_and0 Q5_1 hb)))
  · exact fun a wx hT hF K hK => rely_wp rfl (opr_move (.inr rfl) (hK _ _ (NewT.refl _) hF.1))
  · intro w1 k1
    iterate 6 (intro u h; obtain rfl := Eq.symm (h (by simp)); clear h)
    iterate 5 (intro _ _)
    iterate 2 (intro u h; obtain rfl := Eq.symm (h (by simp)); clear h)
    iterate 5 (intro _ _)
    iterate 2 (intro u h; obtain rfl := Eq.symm (h (by simp)); clear h)
    iterate 5 (intro _ _)
    iterate 2 (intro u h; obtain rfl := Eq.symm (h (by simp)); clear h)
    iterate 5 (intro _ _)
    iterate 2 (intro u h; obtain rfl := Eq.symm (h (by simp)); clear h)
    iterate 5 (intro _ _)
    iterate 2 (intro u h; obtain rfl := Eq.symm (h (by simp)); clear h)
    iterate 5 (intro _ _)
    iterate 2 (intro u h; obtain rfl := Eq.symm (h (by simp)); clear h)
    iterate 5 (intro _ _)
    iterate 2 (intro u h; obtain rfl := Eq.symm (h (by simp)); clear h)
    iterate 5 (intro _ _)
    iterate 2 (intro u h; obtain rfl := Eq.symm (h (by simp)); clear h)
    iterate 5 (intro _ _)
    iterate 2 (intro u h; obtain rfl := Eq.symm (h (by simp)); clear h)
    subst Q5_1 Q4_1 Q3_1 Q2_1 Q1_1
    refine relyEnd_nil rfl ?_
    refine wpList_end rfl ?_
    simp only [Act.put, List.setIfInBounds_toArray, List.set_cons_zero, List.set_cons_succ]
    go_simp
    replace Rg1 := Lib.hid (k1.row Rg1.out)
    replace Rg2 := Lib.hid (k1.row Rg2.out)
    replace HM := Lib.hid (NewT.trans _ _ _ HM.out k1)
    clear k1
    go_wp2
    go_ret
    exact ⟨_, rfl, HM.out, rfl⟩
theorem rSameU_cv (u v : Value) (l m : List (Int × Int)) (g h : Sg) (w : World) (hu : SgV w u l g) (hv : SgV w v m h) : Cv 23 #[u, v] w (.eq (.bool (sameG l m g h))) := by
  obtain ⟨sv, rfl, hs⟩ := hu
  obtain ⟨tv, rfl, ht⟩ := hv
  exact rSame_cv sv tv l m g h w hs ht
set_option maxHeartbeats 1000000 in
theorem bLimit_cv (n : Int) (w : World) : Cv 42 #[.int .i64 n] w (.eq (.bool (inR n 1 9))) := by
  unfold Cv
  go_enter Try.func42, Try.ntmps42
  go_upto_region 1 with fail
  obtain ⟨q1_1, Q1_1⟩ : ∃ bq_, ((decide (1 ≤ n)) && (decide (n ≤ 9))) = bq_ := ⟨_, rfl⟩
  refine wp_region_steps0 NewT [SV.eq (.int .i64 (n)), SV.eq (.bool (decide (1 ≤ n))), SV.eq (.bool (decide (1 ≤ n))), svIf (decide (1 ≤ n)) (SV.eq (.int .i64 (n))), svIf (decide (1 ≤ n)) (SV.eq (.bool (decide (n ≤ 9)))), SV.eq (.bool (q1_1)), SV.eq (.bool (q1_1))] [([(0, none)], none), ([(3, some 0)], none), ([(4, some 1)], none), ([(0, none), (5, some 2)], some (5, true)), ([(6, some 3), (5, some 2)], some (5, true)), ([(5, some 2), (7, some 4)], none), ([(8, some 5)], none)] 9 7 rfl rfl (by kernel_rfl) NewT.trans (NewT.refl _) (Nat.le_of_ble_eq_true rfl) ⟨?_, ?_, ?_, ?_, ?_, ?_, ?_, trivial⟩ ?_
  · exact fun a wx hT hF K hK => rely_wp rfl (opr_move (.inl rfl) (hK _ _ (NewT.refl _) hF.1))
  · exact fun a wx hT hF K hK => rely_wp rfl (opr_cmp (b := decide (1 ≤ n)) (.inr (.inr (.inl ⟨rfl, rfl⟩))) Try.underlying3 rfl rfl hF.1 (hK _ _ (NewT.refl _) rfl))
  · exact fun a wx hT hF K hK => rely_wp rfl (opr_move (.inl rfl) (hK _ _ (NewT.refl _) hF.1))
  · exact fun a wx hT hF K hK => rely_if (rely_gt hF.2.1) (NewT.refl _) hK fun hE hK => opr_move (.inl rfl) (hK _ _ (NewT.refl _) hF.1)
  · exact fun a wx hT hF K hK => rely_if (rely_gt hF.2.1) (NewT.refl _) hK fun hE hK => opr_cmp (b := decide (n ≤ 9)) (.inr (.inr (.inl ⟨rfl, rfl⟩))) Try.underlying3 rfl (hF.1 hE) rfl (hK _ _ (NewT.refl _) rfl)
  · exact fun a wx hT hF K hK => rely_wp rfl (opr_pick_b rfl hF.1 (fun hb => hK _ _ (NewT.refl _) (pn_and1 Q1_1 (hF.2.1 hb) hb)) (fun hb => hK _ _ (NewT.refl _) (pn_and0 Q1_1 hb)))
  · exact fun a wx hT hF K hK => rely_wp rfl (opr_move (.inr rfl) (hK _ _ (NewT.refl _) hF.1))
  · intro wx hT
    iterate 3 (intro u h; obtain rfl := Eq.symm (h (by simp)); clear h)
    iterate 2 (intro _ _)
    iterate 2 (intro u h; obtain rfl := Eq.symm (h (by simp)); clear h)
    subst Q1_1
    refine relyEnd_nil rfl ?_
    refine wpList_end rfl ?_
    simp only [Act.put, List.setIfInBounds_toArray, List.set_cons_zero, List.set_cons_succ]
    go_simp
    go_wp2
    go_ret
    exact ⟨_, rfl, hT, rfl⟩
set_option maxHeartbeats 400000 in
theorem ofSaga_cv (k : Int) (w : World) : Cv 33 #[.int .i64 k] w (.eq (.bool (ofB k))) := by
  unfold Cv
  by_cases h : 1 ≤ k ∧ k ≤ 5
  · have hb : ofB k = true := (inR_iff _ _ _).2 h
    rw [hb]
    clear hb
    have : k = 1 ∨ k = 2 ∨ k = 3 ∨ k = 4 ∨ k = 5 := by omega
    clear h
    rcases this with rfl | rfl | rfl | rfl | rfl
    all_goals
      go_enter Try.func33, Try.ntmps33
      go_wp2
      go_ret
      exact ⟨_, rfl, NewT.refl _, rfl⟩
  · have hb : ofB k = false := by
      unfold ofB
      cases e : inR k 1 5 with
      | false => rfl
      | true => exact absurd ((inR_iff _ _ _).1 e) h
    rw [hb]
    have h1 : (k == 1) = false := by simpa using (show ¬ k = 1 by omega)
    have h2 : (k == 2) = false := by simpa using (show ¬ k = 2 by omega)
    have h3 : (k == 3) = false := by simpa using (show ¬ k = 3 by omega)
    have h4 : (k == 4) = false := by simpa using (show ¬ k = 4 by omega)
    have h5 : (k == 5) = false := by simpa using (show ¬ k = 5 by omega)
    have n1 : ¬ k = 1 := by omega
    have n2 : ¬ k = 2 := by omega
    have n3 : ¬ k = 3 := by omega
    have n4 : ¬ k = 4 := by omega
    have n5 : ¬ k = 5 := by omega
    clear h hb
    go_enter Try.func33, Try.ntmps33
    go_wp2
    go_ret
    exact ⟨_, rfl, NewT.refl _, rfl⟩
set_option maxHeartbeats 4000000 in
theorem isFrom_cv (bv xv : Value) (bk : Bk) (x : Rc) (w : World) (hb : BkV w bv bk) (hx : RecV w xv x) (hr : rightB x = true) : Cv 73 #[bv, xv] w (.eq (.bool (isFromB bk x))) := by
  unfold Cv
  obtain ⟨sv, rfl, hsv⟩ := hb
  obtain ⟨su, dv, rfl, hsx, hd⟩ := hx
  have HSV := Lib.hid hsv
  have HX : Hid (RecV w (.agg (rowA 109 (recF x su dv))) x) := Lib.hid ⟨su, dv, rfl, hsx, hd⟩
  have HSX := Lib.hid hsx
  have HD := Lib.hid hd
  have Hr := Lib.hid hr
  clear hsv hsx hd hr
  go_enter Try.func73, Try.ntmps73
  go_upto_region 1 with fail
  have r_g1 := (rowIs_box w 28 5 (bkF bk.ep sv)).alloc (.cells (rowA 109 (recF x su dv)) 46)
  have r_g2 := rowIs_box (w.alloc (.cells (rowA 5 (bkF bk.ep sv)) 28)) 46 109 (recF x su dv)
  rw [World.size_alloc] at r_g2
  have hN : NewT w ((w.alloc (.cells (rowA 5 (bkF bk.ep sv)) 28)).alloc (.cells (rowA 109 (recF x su dv)) 46)) := (NewT.trans _ _ _ (NewT.alloc _ _) (NewT.alloc _ _))
  change Code.wp _ _ _ _ ((w.alloc (.cells (rowA 5 (bkF bk.ep sv)) 28)).alloc (.cells (rowA 109 (recF x su dv)) 46))
  generalize ((w.alloc (.cells (rowA 5 (bkF bk.ep sv)) 28)).alloc (.cells (rowA 109 (recF x su dv)) 46)) = W0 at r_g1 r_g2 hN ⊢
  obtain ⟨g1, h_g1⟩ : ∃ g_, w.heap.size = g_ := ⟨_, rfl⟩
  obtain ⟨g2, h_g2⟩ : ∃ g_, w.heap.size + 1 = g_ := ⟨_, rfl⟩
  have HG : Hid (w.heap.size ≤ g1 ∧ g1 < g2) := Lib.hid (by omega)
  rw [h_g1] at r_g1
  rw [h_g2] at r_g2
  try rw [h_g2]
  simp only [h_g1]
  have Rg1 := Lib.hid r_g1
  have Rg2 := Lib.hid r_g2
  have HM := Lib.hid hN
  clear r_g1 r_g2 hN h_g1 h_g2
  by_cases h1 : x.saga < bk.sg.length
  rotate_left
  · have HF : Hid (isFromB bk x = false) := Lib.hid (by unfold isFromB; rw [if_neg h1])
    have t1 : decide ((bk.sg.length : Int) ≤ x.saga) = true := decide_eq_true (by omega)
    clear h1
    refine wp_region_rely (NewT) [SV.eq (.pointer (some ⟨g2, 1, none⟩)), SV.eq (.int .i64 (x.saga)), SV.eq (.pointer (some ⟨g1, 4, none⟩)), SV.eq (sv), SV.eq (.int .i64 ((List.length (bk.sg) : Int))), SV.eq (.bool true), SV.eq (.bool true), SV.eq (undef), SV.eq (undef), SV.eq (undef), SV.eq (undef), SV.eq (undef), SV.eq (undef), SV.eq (undef), SV.eq (undef), SV.eq (undef), SV.eq (undef), SV.eq (undef)] [([(3, none)], none), ([(5, some 0)], none), ([(2, none)], none), ([(7, some 2)], none), ([(8, some 3)], none), ([(6, some 1), (9, some 4)], none), ([(10, some 5)], none), ([(3, none), (11, some 6)], some (11, false)), ([(12, some 7), (11, some 6)], some (11, false)), ([(2, none), (11, some 6)], some (11, false)), ([(14, some 9), (11, some 6)], some (11, false)), ([(3, none), (11, some 6)], some (11, false)), ([(16, some 11), (11, some 6)], some (11, false)), ([(15, some 10), (17, some 12), (11, some 6)], some (11, false)), ([(18, some 13), (11, some 6)], some (11, false)), ([(19, some 14), (11, some 6)], some (11, false)), ([(20, some 15), (11, some 6)], some (11, false)), ([(13, some 8), (21, some 16), (11, some 6)], some (11, false))] 49 rfl (by kernel_rfl) rfl (by kernel_rfl) (by kernel_rfl) rfl NewT.trans (NewT.drew _) (Nat.le_of_ble_eq_true rfl) ⟨?_, ?_, ?_, ?_, ?_, ?_, ?_, ?_, ?_, ?_, ?_, ?_, ?_, ?_, ?_, ?_, ?_, ?_, trivial⟩ ?_
    · exact fun a wx hT hF K hK => rely_wp rfl (opr_fldR (by decide) rfl hF.1 (hK _ _ (NewT.refl _) rfl))
    · exact fun a wx hT hF K hK => rely_wp rfl (opr_ldI (hT.row Rg2.out) (by decide) rfl rfl hF.1 (hK _ _ (NewT.refl _) rfl))
    · exact fun a wx hT hF K hK => rely_wp rfl (opr_fldK1 rfl hF.1 (hK _ _ (NewT.refl _) rfl))
    · exact fun a wx hT hF K hK => rely_wp rfl (opr_ldUs (hT.row Rg1.out) (by decide) rfl rfl hF.1 (hK _ _ (NewT.refl _) rfl))
    · intro a wx hT hF K hK
      obtain ⟨f8, _⟩ := hF
      have f8 : a.tmps.getD 8 undef = sv := f8
      refine rely_wp rfl ?_
      exact opr_lenL rfl sagaEl (by rw [eval_tmp, f8]; exact (HSV.out.new (NewT.trans _ _ _ HM.out hT))) (hK _ _ (NewT.refl _) rfl)
    · exact fun a wx hT hF K hK => rely_wp rfl (opr_cmp (b := true) (.inr (.inr (.inr (.inr (.inr ⟨rfl, t1⟩))))) Try.underlying3 rfl hF.1 hF.2.1 (hK _ _ (NewT.refl _) rfl))
    · exact fun a wx hT hF K hK => rely_wp rfl (opr_move (.inl rfl) (hK _ _ (NewT.refl _) hF.1))
    · exact fun a wx hT hF K hK => rely_skip (rely_guard_no hF.2.1 (by decide)) (hK _ _ (NewT.refl _) rfl)
    · exact fun a wx hT hF K hK => rely_skip (rely_guard_no hF.2.1 (by decide)) (hK _ _ (NewT.refl _) rfl)
    · exact fun a wx hT hF K hK => rely_skip (rely_guard_no hF.2.1 (by decide)) (hK _ _ (NewT.refl _) rfl)
    · exact fun a wx hT hF K hK => rely_skip (rely_guard_no hF.2.1 (by decide)) (hK _ _ (NewT.refl _) rfl)
    · exact fun a wx hT hF K hK => rely_skip (rely_guard_no hF.2.1 (by decide)) (hK _ _ (NewT.refl _) rfl)
    · exact fun a wx hT hF K hK => rely_skip (rely_guard_no hF.2.1 (by decide)) (hK _ _ (NewT.refl _) rfl)
    · exact fun a wx hT hF K hK => rely_skip (rely_guard_no hF.2.2.1 (by decide)) (hK _ _ (NewT.refl _) rfl)
    · exact fun a wx hT hF K hK => rely_skip (rely_guard_no hF.2.1 (by decide)) (hK _ _ (NewT.refl _) rfl)
    · exact fun a wx hT hF K hK => rely_skip (rely_guard_no hF.2.1 (by decide)) (hK _ _ (NewT.refl _) rfl)
    · exact fun a wx hT hF K hK => rely_skip (rely_guard_no hF.2.1 (by decide)) (hK _ _ (NewT.refl _) rfl)
    · exact fun a wx hT hF K hK => rely_skip (rely_guard_no hF.2.2.1 (by decide)) (hK _ _ (NewT.refl _) rfl)
    · intro w1 k1
      iterate 18 (intro u h; obtain rfl := Eq.symm (h (by simp)); clear h)
      refine relyEnd_nil rfl ?_
      simp only [Act.put, List.setIfInBounds_toArray, List.set_cons_zero, List.set_cons_succ]
      refine opr_pick_true rfl rfl ?_
      go_simp
      replace Rg1 := Lib.hid (k1.row Rg1.out)
      replace Rg2 := Lib.hid (k1.row Rg2.out)
      replace HM := Lib.hid (NewT.trans _ _ _ HM.out k1)
      clear k1
      go_wp2
      go_ret
      exact ⟨_, rfl, HM.out, by rw [HF.out]; rfl⟩
  obtain ⟨k, hk⟩ : ∃ k : Nat, x.saga = (k : Int) := ⟨x.saga.toNat, by have := (right_saga Hr.out).1; omega⟩
  obtain ⟨p, hp⟩ : ∃ p, sgAt bk k = p := ⟨_, rfl⟩
  have HP : Hid (bk.sg[k]? = some p) := Lib.hid (by rw [← hp]; exact sgAt_some (by omega))
  have HK := Lib.hid hk
  have HST := Lib.hid (right_step Hr.out)
  have HPT := Lib.hid (right_part Hr.out)
  have t1 : decide ((bk.sg.length : Int) ≤ x.saga) = false := decide_eq_false (by omega)
  have HF : Hid (isFromB bk x = if x.step < p.1.length then x.part == ptL p.1 x.step.toNat && x.epoch == bk.ep x.part.toNat else false) := Lib.hid (by unfold isFromB; rw [if_pos h1, hk, Int.toNat_natCast, hp])
  clear h1 hk hp
  refine wp_region_rely (NewT) [SV.eq (.pointer (some ⟨g2, 1, none⟩)), SV.eq (.int .i64 (x.saga)), SV.eq (.pointer (some ⟨g1, 4, none⟩)), SV.eq (sv), SV.eq (.int .i64 ((List.length (bk.sg) : Int))), SV.eq (.bool false), SV.eq (.bool false), SV.eq (.pointer (some ⟨g2, 3, none⟩)), SV.eq (.int .i64 (x.step)), SV.eq (.pointer (some ⟨g1, 4, none⟩)), SV.eq (sv), SV.eq (.pointer (some ⟨g2, 1, none⟩)), SV.eq (.int .i64 (x.saga)), svEl 10 sgE (p), svStsP (p.1), svPairs (p.1), SV.eq (.int .i64 ((List.length (p.1) : Int))), SV.eq (.bool (decide (((List.length (p.1) : Int)) ≤ x.step)))] [([(3, none)], none), ([(5, some 0)], none), ([(2, none)], none), ([(7, some 2)], none), ([(8, some 3)], none), ([(6, some 1), (9, some 4)], none), ([(10, some 5)], none), ([(3, none), (11, some 6)], some (11, false)), ([(12, some 7), (11, some 6)], some (11, false)), ([(2, none), (11, some 6)], some (11, false)), ([(14, some 9), (11, some 6)], some (11, false)), ([(3, none), (11, some 6)], some (11, false)), ([(16, some 11), (11, some 6)], some (11, false)), ([(15, some 10), (17, some 12), (11, some 6)], some (11, false)), ([(18, some 13), (11, some 6)], some (11, false)), ([(19, some 14), (11, some 6)], some (11, false)), ([(20, some 15), (11, some 6)], some (11, false)), ([(13, some 8), (21, some 16), (11, some 6)], some (11, false))] 49 rfl (by kernel_rfl) rfl (by kernel_rfl) (by kernel_rfl) rfl NewT.trans (NewT.drew _) (Nat.le_of_ble_eq_true rfl) ⟨?_, ?_, ?_, ?_, ?_, ?_, ?_, ?_, ?_, ?_, ?_, ?_, ?_, ?_, ?_, ?_, ?_, ?_, trivial⟩ ?_
  · exact fun a wx hT hF K hK => rely_wp rfl (opr_fldR (by decide) rfl hF.1 (hK _ _ (NewT.refl _) rfl))
  · exact fun a wx hT hF K hK => rely_wp rfl (opr_ldI (hT.row Rg2.out) (by decide) rfl rfl hF.1 (hK _ _ (NewT.refl _) rfl))
  · exact fun a wx hT hF K hK => rely_wp rfl (opr_fldK1 rfl hF.1 (hK _ _ (NewT.refl _) rfl))
  · exact fun a wx hT hF K hK => rely_wp rfl (opr_ldUs (hT.row Rg1.out) (by decide) rfl rfl hF.1 (hK _ _ (NewT.refl _) rfl))
  · intro a wx hT hF K hK
    obtain ⟨f8, _⟩ := hF
    have f8 : a.tmps.getD 8 undef = sv := f8
    refine rely_wp rfl ?_
    exact opr_lenL rfl sagaEl (by rw [eval_tmp, f8]; exact (HSV.out.new (NewT.trans _ _ _ HM.out hT))) (hK _ _ (NewT.refl _) rfl)
  · exact fun a wx hT hF K hK => rely_wp rfl (opr_cmp (b := false) (.inr (.inr (.inr (.inr (.inr ⟨rfl, t1⟩))))) Try.underlying3 rfl hF.1 hF.2.1 (hK _ _ (NewT.refl _) rfl))
  · exact fun a wx hT hF K hK => rely_wp rfl (opr_move (.inl rfl) (hK _ _ (NewT.refl _) hF.1))
  · exact fun a wx hT hF K hK => rely_wp (rely_guard hF.2.1) (opr_fldR (by decide) rfl hF.1 (hK _ _ (NewT.refl _) rfl))
  · exact fun a wx hT hF K hK => rely_wp (rely_guard hF.2.1) (opr_ldI (hT.row Rg2.out) (by decide) rfl rfl hF.1 (hK _ _ (NewT.refl _) rfl))
  · exact fun a wx hT hF K hK => rely_wp (rely_guard hF.2.1) (opr_fldK1 rfl hF.1 (hK _ _ (NewT.refl _) rfl))
  · exact fun a wx hT hF K hK => rely_wp (rely_guard hF.2.1) (opr_ldUs (hT.row Rg1.out) (by decide) rfl rfl hF.1 (hK _ _ (NewT.refl _) rfl))
  · exact fun a wx hT hF K hK => rely_wp (rely_guard hF.2.1) (opr_fldR (by decide) rfl hF.1 (hK _ _ (NewT.refl _) rfl))
  · exact fun a wx hT hF K hK => rely_wp (rely_guard hF.2.1) (opr_ldI (hT.row Rg2.out) (by decide) rfl rfl hF.1 (hK _ _ (NewT.refl _) rfl))
  · intro a wx hT hF K hK
    obtain ⟨f15, f17, f11, _⟩ := hF
    have f15 : a.tmps.getD 15 undef = sv := f15
    have f17 : a.tmps.getD 17 undef = .int .i64 (x.saga) := f17
    have f11 : a.tmps.getD 11 undef = .bool false := f11
    refine rely_wp (rely_guard f11) ?_
    exact opr_idxL (i := k) (p := p) sagaEl (HP.out) (HK.out) rfl (by rw [eval_tmp, f15]; exact (HSV.out.new (NewT.trans _ _ _ HM.out hT))) f17 (fun v hv => hK v _ (NewT.refl _) hv)
  · exact fun a wx hT hF K hK => rely_wp (rely_guard hF.2.1) (opr_fldUe0 rfl hF.1 (fun u hu => hK u _ (NewT.refl _) hu))
  · exact fun a wx hT hF K hK => rely_wp (rely_guard hF.2.1) (opr_ldSts rfl hF.1 (fun u hu => hK u _ (NewT.refl _) hu))
  · exact fun a wx hT hF K hK => rely_wp (rely_guard hF.2.1) (opr_len_pairs rfl hF.1 (hK _ _ (NewT.refl _) rfl))
  · exact fun a wx hT hF K hK => rely_wp (rely_guard hF.2.2.1) (opr_cmp (b := decide (((List.length (p.1) : Int)) ≤ x.step)) (.inr (.inr (.inr (.inr (.inr (⟨rfl, rfl⟩)))))) Try.underlying3 rfl hF.1 hF.2.1 (hK _ _ (NewT.refl _) rfl))
  · intro w2 k2
    iterate 13 (intro u h; obtain rfl := Eq.symm (h (by simp)); clear h)
    iterate 3 (intro _ _)
    iterate 2 (intro u h; obtain rfl := Eq.symm (h (by simp)); clear h)
    refine relyEnd_nil rfl ?_
    simp only [Act.put, List.setIfInBounds_toArray, List.set_cons_zero, List.set_cons_succ]
    refine opr_pick_false rfl rfl ?_
    go_simp
    replace Rg1 := Lib.hid (k2.row Rg1.out)
    replace Rg2 := Lib.hid (k2.row Rg2.out)
    replace HM := Lib.hid (NewT.trans _ _ _ HM.out k2)
    clear k2
    obtain ⟨b2, hb2⟩ : ∃ b, decide ((p.1.length : Int) ≤ x.step) = b := ⟨_, rfl⟩
    rw [hb2]
    cases b2
    · have hlt : x.step < p.1.length := by have := of_decide_eq_false hb2; omega
      obtain ⟨j, hj⟩ : ∃ j : Nat, x.step = (j : Int) := ⟨x.step.toNat, by have := HST.out; omega⟩
      obtain ⟨c, hc⟩ : ∃ c : Nat, x.part = (c : Int) := ⟨x.part.toNat, by have := HPT.out; omega⟩
      obtain ⟨d, hd⟩ : ∃ d, p.1.getD j (0, 0) = d := ⟨_, rfl⟩
      have HD2 : Hid (j < p.1.length ∧ p.1.getD j (0, 0) = d) := Lib.hid ⟨by omega, hd⟩
      have HJ := Lib.hid hj.symm
      have HC := Lib.hid hc
      have HC4 : Hid (c < 4) := Lib.hid (by have := HPT.out; omega)
      have HF2 : Hid (isFromB bk x = (x.part == d.1 && x.epoch == bk.ep c)) := Lib.hid (by rw [HF.out, if_pos hlt, hj, hc, Int.toNat_natCast, Int.toNat_natCast]; unfold ptL; rw [hd])
      clear hb2 hlt hj hc hd HF
      go_upto_region 3 with fail
      obtain ⟨q1_3, Q1_3⟩ : ∃ bq_, ((x.part == ((d).1)) && (x.epoch == (bk.ep c))) = bq_ := ⟨_, rfl⟩
      refine wp_region_rely (NewT) [SV.eq (.pointer (some ⟨g2, 8, none⟩)), SV.eq (.int .i64 (x.part)), SV.eq (.pointer (some ⟨g1, 4, none⟩)), SV.eq (sv), SV.eq (.pointer (some ⟨g2, 1, none⟩)), SV.eq (.int .i64 (x.saga)), svEl 10 sgE (p), svStsP (p.1), svPairs (p.1), SV.eq (.pointer (some ⟨g2, 3, none⟩)), SV.eq (.int .i64 (x.step)), svStp (d), svIp (d).1, SV.eq (.int .i64 ((d).1)), SV.eq (.bool (x.part == ((d).1))), SV.eq (.bool (x.part == ((d).1))), svIf (x.part == ((d).1)) (SV.eq (.pointer (some ⟨g2, 9, none⟩))), svIf (x.part == ((d).1)) (SV.eq (.int .i64 (x.epoch))), svIf (x.part == ((d).1)) (SV.eq (.pointer (some ⟨g2, 8, none⟩))), svIf (x.part == ((d).1)) (SV.eq (.int .i64 (x.part))), svIf (x.part == ((d).1)) (SV.eq (.pointer (some ⟨g1, 0, none⟩))), svIf (x.part == ((d).1)) (SV.eq (.pointer (some ⟨g1, c, none⟩))), svIf (x.part == ((d).1)) (SV.eq (.int .i64 (bk.ep c))), svIf (x.part == ((d).1)) (SV.eq (.bool (x.epoch == (bk.ep c)))), SV.eq (.bool (q1_3))] [([(3, none)], none), ([(24, some 0)], none), ([(2, none)], none), ([(26, some 2)], none), ([(3, none)], none), ([(28, some 4)], none), ([(27, some 3), (29, some 5)], none), ([(30, some 6)], none), ([(31, some 7)], none), ([(3, none)], none), ([(33, some 9)], none), ([(32, some 8), (34, some 10)], none), ([(35, some 11)], none), ([(36, some 12)], none), ([(25, some 1), (37, some 13)], none), ([(38, some 14)], none), ([(3, none), (39, some 15)], some (39, true)), ([(40, some 16), (39, some 15)], some (39, true)), ([(3, none), (39, some 15)], some (39, true)), ([(42, some 18), (39, some 15)], some (39, true)), ([(2, none), (39, some 15)], some (39, true)), ([(44, some 20), (43, some 19), (39, some 15)], some (39, true)), ([(45, some 21), (39, some 15)], some (39, true)), ([(41, some 17), (46, some 22), (39, some 15)], some (39, true)), ([(39, some 15), (47, some 23)], none)] 49 rfl (by kernel_rfl) rfl (by kernel_rfl) (by kernel_rfl) rfl NewT.trans (NewT.drew _) (Nat.le_of_ble_eq_true rfl) ⟨?_, ?_, ?_, ?_, ?_, ?_, ?_, ?_, ?_, ?_, ?_, ?_, ?_, ?_, ?_, ?_, ?_, ?_, ?_, ?_, ?_, ?_, ?_, ?_, ?_, trivial⟩ ?_
      · exact fun a wx hT hF K hK => rely_wp rfl (opr_fldR (by decide) rfl hF.1 (hK _ _ (NewT.refl _) rfl))
      · exact fun a wx hT hF K hK => rely_wp rfl (opr_ldI (hT.row Rg2.out) (by decide) rfl rfl hF.1 (hK _ _ (NewT.refl _) rfl))
      · exact fun a wx hT hF K hK => rely_wp rfl (opr_fldK1 rfl hF.1 (hK _ _ (NewT.refl _) rfl))
      · exact fun a wx hT hF K hK => rely_wp rfl (opr_ldUs (hT.row Rg1.out) (by decide) rfl rfl hF.1 (hK _ _ (NewT.refl _) rfl))
      · exact fun a wx hT hF K hK => rely_wp rfl (opr_fldR (by decide) rfl hF.1 (hK _ _ (NewT.refl _) rfl))
      · exact fun a wx hT hF K hK => rely_wp rfl (opr_ldI (hT.row Rg2.out) (by decide) rfl rfl hF.1 (hK _ _ (NewT.refl _) rfl))
      · intro a wx hT hF K hK
        obtain ⟨f27, f29, _⟩ := hF
        have f27 : a.tmps.getD 27 undef = sv := f27
        have f29 : a.tmps.getD 29 undef = .int .i64 (x.saga) := f29
        refine rely_wp rfl ?_
        exact opr_idxL (i := k) (p := p) sagaEl (HP.out) (HK.out) rfl (by rw [eval_tmp, f27]; exact (HSV.out.new (NewT.trans _ _ _ HM.out hT))) f29 (fun v hv => hK v _ (NewT.refl _) hv)
      · exact fun a wx hT hF K hK => rely_wp rfl (opr_fldUe0 rfl hF.1 (fun u hu => hK u _ (NewT.refl _) hu))
      · exact fun a wx hT hF K hK => rely_wp rfl (opr_ldSts rfl hF.1 (fun u hu => hK u _ (NewT.refl _) hu))
      · exact fun a wx hT hF K hK => rely_wp rfl (opr_fldR (by decide) rfl hF.1 (hK _ _ (NewT.refl _) rfl))
      · exact fun a wx hT hF K hK => rely_wp rfl (opr_ldI (hT.row Rg2.out) (by decide) rfl rfl hF.1 (hK _ _ (NewT.refl _) rfl))
      · exact fun a wx hT hF K hK => rely_wp rfl (opr_idxSt (k := j) (d := d) (HD2.out) (HJ.out) rfl hF.1 hF.2.1 (fun v hv => hK v _ (NewT.refl _) hv))
      · exact fun a wx hT hF K hK => rely_wp rfl (opr_fldSt0 rfl hF.1 (fun u hu => hK u _ (NewT.refl _) hu))
      · exact fun a wx hT hF K hK => rely_wp rfl (opr_ldIp rfl hF.1 (hK _ _ (NewT.refl _) rfl))
      · exact fun a wx hT hF K hK => rely_wp rfl (opr_cmp (b := x.part == ((d).1)) (.inl ⟨rfl, rfl⟩) Try.underlying3 rfl hF.1 hF.2.1 (hK _ _ (NewT.refl _) rfl))
      · exact fun a wx hT hF K hK => rely_wp rfl (opr_move (.inl rfl) (hK _ _ (NewT.refl _) hF.1))
      · exact fun a wx hT hF K hK => rely_if (rely_gt hF.2.1) (NewT.refl _) hK fun hE hK => opr_fldR (by decide) rfl hF.1 (hK _ _ (NewT.refl _) rfl)
      · exact fun a wx hT hF K hK => rely_if (rely_gt hF.2.1) (NewT.refl _) hK fun hE hK => opr_ldI (hT.row Rg2.out) (by decide) rfl rfl (hF.1 hE) (hK _ _ (NewT.refl _) rfl)
      · exact fun a wx hT hF K hK => rely_if (rely_gt hF.2.1) (NewT.refl _) hK fun hE hK => opr_fldR (by decide) rfl hF.1 (hK _ _ (NewT.refl _) rfl)
      · exact fun a wx hT hF K hK => rely_if (rely_gt hF.2.1) (NewT.refl _) hK fun hE hK => opr_ldI (hT.row Rg2.out) (by decide) rfl rfl (hF.1 hE) (hK _ _ (NewT.refl _) rfl)
      · exact fun a wx hT hF K hK => rely_if (rely_gt hF.2.1) (NewT.refl _) hK fun hE hK => opr_fldK0 rfl hF.1 (hK _ _ (NewT.refl _) rfl)
      · exact fun a wx hT hF K hK => rely_if (rely_gt hF.2.2.1) (NewT.refl _) hK fun hE hK => opr_idxEp (k := c) (HC4.out) (HC.out) rfl (hF.1 hE) (hF.2.1 hE) (hK _ _ (NewT.refl _) rfl)
      · exact fun a wx hT hF K hK => rely_if (rely_gt hF.2.1) (NewT.refl _) hK fun hE hK => opr_ldI (hT.row Rg1.out) (Nat.lt_succ_of_lt (HC4.out)) (bkF_ep (HC4.out)) rfl (hF.1 hE) (hK _ _ (NewT.refl _) rfl)
      · exact fun a wx hT hF K hK => rely_if (rely_gt hF.2.2.1) (NewT.refl _) hK fun hE hK => opr_cmp (b := x.epoch == (bk.ep c)) (.inl ⟨rfl, rfl⟩) Try.underlying3 rfl (hF.1 hE) (hF.2.1 hE) (hK _ _ (NewT.refl _) rfl)
      · exact fun a wx hT hF K hK => rely_wp rfl (opr_pick_b rfl hF.1 (fun hb => hK _ _ (NewT.refl _) (pn_and1 Q1_3 (hF.2.1 hb) hb)) (fun hb => hK _ _ (NewT.refl _) (pn_and0 Q1_3 hb)))
      · intro w3 k3
        iterate 6 (intro u h; obtain rfl := Eq.symm (h (by simp)); clear h)
        iterate 3 (intro _ _)
        iterate 2 (intro u h; obtain rfl := Eq.symm (h (by simp)); clear h)
        iterate 2 (intro _ _)
        iterate 3 (intro u h; obtain rfl := Eq.symm (h (by simp)); clear h)
        iterate 8 (intro _ _)
        intro u h; obtain rfl := Eq.symm (h (by simp)); clear h
        subst Q1_3
        refine relyEnd_nil rfl ?_
        simp only [Act.put, List.setIfInBounds_toArray, List.set_cons_zero, List.set_cons_succ]
        refine opr_move (.inr rfl) ?_
        go_simp
        replace Rg1 := Lib.hid (k3.row Rg1.out)
        replace Rg2 := Lib.hid (k3.row Rg2.out)
        replace HM := Lib.hid (NewT.trans _ _ _ HM.out k3)
        clear k3
        go_wp2
        go_ret
        exact ⟨_, rfl, HM.out, by rw [HF2.out]; rfl⟩
    · have HF2 : Hid (isFromB bk x = false) := Lib.hid (by rw [HF.out, if_neg (by have := of_decide_eq_true hb2; omega)])
      clear hb2 HF
      go_wp2
      go_ret
      exact ⟨_, rfl, HM.out, by rw [HF2.out]; rfl⟩
end Go.Proofs.Ytilmeffmdgcblaa
/- Package book: the way of a Begin. -/
namespace Go.Proofs.Ytilmeffmdgcblaa
open Go Go.RowKit
set_option maxRecDepth 8000
set_option linter.all false
/-- A row of sagas' phases: ahead of the appending, and behind it. -/
def BegJ (B c : Nat) (v0 v1 : Value) (fs : List (Nat → Value)) (l : List (Int × Int)) (g : Sg) (k : Nat) (w : World) : Prop := if k = 0 then OwnE 48 10 w B v0 fs else SnV w B c v1 fs l g
theorem begJ_new {B c : Nat} {v0 v1 : Value} {fs : List (Nat → Value)} {l : List (Int × Int)} {g : Sg} {k : Nat} {w w' : World} (h : BegJ B c v0 v1 fs l g k w) (hN : NewT w w') : BegJ B c v0 v1 fs l g k w' := by
  unfold BegJ at h ⊢
  split at h
  · rename_i h0; rw [if_pos h0]; exact h.new hN
  · rename_i h0; rw [if_neg h0]
    obtain ⟨sv, h1, h2⟩ := h
    exact ⟨sv, h1.new hN, h2.new hN⟩
set_option maxHeartbeats 4000000 in
theorem begins_c (D : Nat) (w WE : World) (B gb : Nat) (sv xv : Value) (fs : List (Nat → Value)) (bk : Bk) (x : Rc) (lim : Int) (hp : WayPre D w WE B gb sv fs bk) (hx : RecV WE xv x) (hl : bk.sg.length ≤ 1000) : Calls Try.prog 59 #[.pointer (some ⟨gb, 0, none⟩), xv, .int .i64 lim] w (WayPost D WE B gb w sv (begB bk x) (begN bk x)) := by
  obtain ⟨su, dv, rfl, hsx, hd⟩ := hx
  have HP := Lib.hid hp
  have HSV : Hid (RdU w sv bk.sg) := Lib.hid hp.rd
  have HX : Hid (RecV w (.agg (rowA 109 (recF x su dv))) x) := Lib.hid ⟨su, dv, rfl, hp.elder.pairs hsx, hp.elder.rd hd⟩
  have HSX := Lib.hid (hp.elder.pairs hsx)
  have HD := Lib.hid (hp.elder.rd hd)
  have HSXE := Lib.hid hsx
  have HDE := Lib.hid hd
  clear hsx hd hp
  have Hlen := Lib.hid hl
  clear hl
  go_enter Try.func59, Try.ntmps59
  go_upto_region 1 with fail
  have r_g4 := rowIs_box w 46 109 (recF x su dv)
  have hN : NewT w (w.alloc (.cells (rowA 109 (recF x su dv)) 46)) := NewT.alloc _ _
  change Code.wp _ _ _ _ (w.alloc (.cells (rowA 109 (recF x su dv)) 46))
  generalize (w.alloc (.cells (rowA 109 (recF x su dv)) 46)) = W0 at r_g4 hN ⊢
  obtain ⟨g4, h_g4⟩ : ∃ g_, w.heap.size = g_ := ⟨_, rfl⟩
  have HG : Hid (w.heap.size ≤ g4) := Lib.hid (by omega)
  rw [h_g4] at r_g4
  simp only [h_g4]
  have Rg4 := Lib.hid r_g4
  have HM := Lib.hid hN
  clear r_g4 hN h_g4
  have HGB : Hid (gb < w.heap.size ∧ B ≤ gb) := Lib.hid ⟨HP.out.row.lt, HP.out.at_⟩
  have Rgb : Hid (W0.rowIs gb 28 5 (bkF bk.ep sv)) := Lib.hid (HM.out.row HP.out.row)
  obtain ⟨b1, hb1⟩ : ∃ b, (x.saga != (bk.sg.length : Int)) = b := ⟨_, rfl⟩
  have HB1 := Lib.hid hb1
  clear hb1
  refine wp_region_rely (NewT) [SV.eq (.pointer (some ⟨g4, 1, none⟩)), SV.eq (.int .i64 (x.saga)), SV.eq (.pointer (some ⟨gb, 0, none⟩)), SV.eq (.pointer (some ⟨gb, 0, none⟩)), SV.eq (.pointer (some ⟨gb, 4, none⟩)), SV.eq (sv), SV.eq (.int .i64 ((List.length (bk.sg) : Int))), SV.eq (.bool (x.saga != ((List.length (bk.sg) : Int)))), SV.eq (.bool (x.saga != ((List.length (bk.sg) : Int)))), svIf ((!(x.saga != ((List.length (bk.sg) : Int))))) (SV.eq (.pointer (some ⟨g4, 42, none⟩))), svIf ((!(x.saga != ((List.length (bk.sg) : Int))))) (SV.eq (su)), svIf ((!(x.saga != ((List.length (bk.sg) : Int))))) (SV.eq (.bool (mayL x.steps))), svIf ((!(x.saga != ((List.length (bk.sg) : Int))))) (SV.eq (.bool (!(mayL x.steps))))] [([(4, none)], none), ([(7, some 0)], none), ([(0, none)], none), ([(9, some 2)], none), ([(10, some 3)], none), ([(11, some 4)], none), ([(12, some 5)], none), ([(8, some 1), (13, some 6)], none), ([(14, some 7)], none), ([(4, none), (15, some 8)], some (15, false)), ([(16, some 9), (15, some 8)], some (15, false)), ([(17, some 10), (15, some 8)], some (15, false)), ([(18, some 11), (15, some 8)], some (15, false))] 33 rfl (by kernel_rfl) rfl (by kernel_rfl) (by kernel_rfl) rfl NewT.trans (NewT.drew _) (Nat.le_of_ble_eq_true rfl) ⟨?_, ?_, ?_, ?_, ?_, ?_, ?_, ?_, ?_, ?_, ?_, ?_, ?_, trivial⟩ ?_
  · exact fun a wx hT hF K hK => rely_wp rfl (opr_fldR (by decide) rfl hF.1 (hK _ _ (NewT.refl _) rfl))
  · exact fun a wx hT hF K hK => rely_wp rfl (opr_ldI (hT.row Rg4.out) (by decide) rfl rfl hF.1 (hK _ _ (NewT.refl _) rfl))
  · exact fun a wx hT hF K hK => rely_wp rfl (opr_move (.inl rfl) (hK _ _ (NewT.refl _) hF.1))
  · exact fun a wx hT hF K hK => rely_wp rfl (opr_nilc rfl hF.1 (hK _ _ (NewT.refl _) rfl))
  · exact fun a wx hT hF K hK => rely_wp rfl (opr_fldK1 rfl hF.1 (hK _ _ (NewT.refl _) rfl))
  · exact fun a wx hT hF K hK => rely_wp rfl (opr_ldUs (hT.row Rgb.out) (by decide) rfl rfl hF.1 (hK _ _ (NewT.refl _) rfl))
  · intro a wx hT hF K hK
    obtain ⟨f12, _⟩ := hF
    have f12 : a.tmps.getD 12 undef = sv := f12
    refine rely_wp rfl ?_
    exact opr_lenL rfl sagaEl (by rw [eval_tmp, f12]; exact (HSV.out.new (NewT.trans _ _ _ HM.out hT))) (hK _ _ (NewT.refl _) rfl)
  · exact fun a wx hT hF K hK => rely_wp rfl (opr_cmp (b := x.saga != ((List.length (bk.sg) : Int))) (.inr (.inl ⟨rfl, rfl⟩)) Try.underlying3 rfl hF.1 hF.2.1 (hK _ _ (NewT.refl _) rfl))
  · exact fun a wx hT hF K hK => rely_wp rfl (opr_move (.inl rfl) (hK _ _ (NewT.refl _) hF.1))
  · exact fun a wx hT hF K hK => rely_if (rely_gf hF.2.1) (NewT.refl _) hK fun hE hK => opr_fldR (by decide) rfl hF.1 (hK _ _ (NewT.refl _) rfl)
  · exact fun a wx hT hF K hK => rely_if (rely_gf hF.2.1) (NewT.refl _) hK fun hE hK => opr_ldS (hT.row Rg4.out) (by decide) rfl rfl (hF.1 hE) (hK _ _ (NewT.refl _) rfl)
  · exact fun a wx hT hF K hK => rely_if (rely_gf hF.2.1) (NewT.refl _) hK fun hE hK => opr_cv (gMay_cv _ x.steps wx ((NewT.trans _ _ _ HM.out hT).pairs HSX.out)) rfl Try.func35 (by kernel_rfl) (by kernel_rfl) (evs1 (hF.1 hE)) hK
  · exact fun a wx hT hF K hK => rely_if (rely_gf hF.2.1) (NewT.refl _) hK fun hE hK => opr_not rfl (hF.1 hE) (hK _ _ (NewT.refl _) rfl)
  · intro w1 k1
    iterate 9 (intro u h; obtain rfl := Eq.symm (h (by simp)); clear h)
    iterate 3 (intro _ _)
    intro u19 h; have g19 := h (by simp); clear h; replace g19 := show (svIf ((!(x.saga != ((List.length (bk.sg) : Int))))) (SV.eq (.bool (!(mayL x.steps))))).pred u19 w1 from g19
    refine relyEnd_nil rfl ?_
    simp only [Act.put, List.setIfInBounds_toArray, List.set_cons_zero, List.set_cons_succ]
    refine opr_pick_or (b := x.saga != ((List.length (bk.sg) : Int))) (e := !(mayL x.steps)) rfl rfl (fun hb => g19 (bnot hb)) ?_
    go_simp
    replace Rgb := Lib.hid (k1.row Rgb.out)
    replace Rg4 := Lib.hid (k1.row Rg4.out)
    replace HM := Lib.hid (NewT.trans _ _ _ HM.out k1)
    clear k1
    cases hb : ((x.saga != ((List.length (bk.sg) : Int))) || (!(mayL x.steps)))
    · have hm : mayL x.steps = true ∧ x.saga = (bk.sg.length : Int) := by
        simp only [Bool.or_eq_false_iff, bne_eq_false_iff_eq, Bool.not_eq_false'] at hb
        exact ⟨hb.2, hb.1⟩
      have hF0 : begB bk x = true := by unfold begB; rw [if_pos hm.2]; exact hm.1
      have HF := Lib.hid hF0
      have HN : Hid (begN bk x = begK bk x) := Lib.hid (by unfold begN; rw [if_pos hF0])
      clear hF0
      have HL12 : Hid (fs.length ≤ 1000) := Lib.hid (by have := HP.out.len; have := Hlen.out; omega)
      have HPE : Hid (NewT WE w) := Lib.hid HP.out.elder
      have HSZ : Hid (WE.heap.size ≤ B) := Lib.hid HP.out.size
      have HOW : Hid (OwnE 48 10 w1 B sv fs) := Lib.hid (HP.out.own.new HM.out)
      have HAP := Lib.hid HP.out.apart
      have HOL : Hid (WE.heap.size ≤ w1.heap.size ∧ gb < w1.heap.size ∧ B ≤ w1.heap.size) := Lib.hid (by have h1 := (NewT.trans _ _ _ HPE.out HM.out).out.size; have h2 := Rgb.out.lt; have h3 := HGB.out; omega)
      clear hb hm
      by_cases hroom : ∃ c cap, sv = .slice (some ⟨c, 0, none⟩) fs.length cap ∧ fs.length + 1 ≤ cap
      · obtain ⟨c, cap, hcv, hcap⟩ := hroom
        have hgc : gb < c := HAP.out c (by rw [hcv]; rfl)
        have hBc : B ≤ c := by have := HGB.out; omega
        have hcl : c < w1.heap.size := (HOW.out.lt c (by rw [hcv]; rfl)).2
        have hcD : c < w.heap.size := (HP.out.own.lt c (by rw [hcv]; rfl)).2
        have hgD : gb < w.heap.size := HGB.out.1
        have hg4c : g4 ≠ c := by have h1 := (HP.out.own.lt c (by rw [hcv]; rfl)).2; have h2 := HG.out; omega
        have hgbc : gb ≠ c := by omega
        have HCV := Lib.hid hcv
        have HCAP := Lib.hid hcap
        clear hcv hcap
        obtain ⟨V1, hV1⟩ : ∃ V1, Value.slice (some ⟨c, 0, none⟩) (fs.length + 1) cap = V1 := ⟨_, rfl⟩
        have HV1 := Lib.hid hV1
        clear hV1
        go_upto_region 3 with fail
        have HRT : ∀ wx, RT c w1 wx → RdP wx su x.steps := fun wx hT => (NewT.of ((NewT.trans _ _ _ HPE.out HM.out).out.trans (hT.below.mono (by have := HSZ.out; omega)))).pairs HSXE.out
        refine wp_region_relyP (RT c) (BegJ B w.heap.size sv V1 fs (newL x.steps) (newG x.steps)) [SV.eq (.pointer (some ⟨gb, 0, none⟩)), SV.eq (.pointer (some ⟨gb, 0, none⟩)), SV.eq (.pointer (some ⟨gb, 0, none⟩)), SV.eq (.pointer (some ⟨gb, 4, none⟩)), SV.eq (sv), SV.eq (.pointer (some ⟨g4, 42, none⟩)), SV.eq (su), svSgB c w.heap.size hcD (newL x.steps) (newG x.steps), svUoB c w.heap.size hcD (newL x.steps) (newG x.steps), SV.eq (V1), SV.eq (.pointer (some ⟨gb, 0, none⟩)), SV.eq (.pointer (some ⟨gb, 4, none⟩))] [([(0, none)], none), ([(0, none)], none), ([(22, some 1)], none), ([(23, some 2)], none), ([(24, some 3)], none), ([(4, none)], none), ([(26, some 5)], none), ([(27, some 6)], none), ([(28, some 7)], none), ([(25, some 4), (29, some 8)], none), ([(21, some 0)], none), ([(31, some 10)], none)] [none, none, none, none, none, none, none, none, none, some 0, none, none] [9] 33 rfl (by kernel_rfl) rfl (by kernel_rfl) (by kernel_rfl) rfl (by kernel_rfl) RT.trans (RT.drew _ _) (show OwnE _ _ _ _ _ _ from HOW.out.new (NewT.drew _)) (Nat.le_of_ble_eq_true rfl) ⟨?_, ?_, ?_, ?_, ?_, ?_, ?_, ?_, ?_, ?_, ?_, ?_, trivial⟩ ?_
        · exact fun a wx hT hF K hK => have hK := fun v w' (hN : NewT wx w') hv => hK v w' (RT.new (Nat.lt_of_lt_of_le hcl hT.size) hN) (fun k h => begJ_new h hN) hv; rely_wp rfl (opr_move (.inl rfl) (hK _ _ (NewT.refl _) hF.1))
        · exact fun a wx hT hF K hK => have hK := fun v w' (hN : NewT wx w') hv => hK v w' (RT.new (Nat.lt_of_lt_of_le hcl hT.size) hN) (fun k h => begJ_new h hN) hv; rely_wp rfl (opr_move (.inl rfl) (hK _ _ (NewT.refl _) hF.1))
        · exact fun a wx hT hF K hK => have hK := fun v w' (hN : NewT wx w') hv => hK v w' (RT.new (Nat.lt_of_lt_of_le hcl hT.size) hN) (fun k h => begJ_new h hN) hv; rely_wp rfl (opr_nilc rfl hF.1 (hK _ _ (NewT.refl _) rfl))
        · exact fun a wx hT hF K hK => have hK := fun v w' (hN : NewT wx w') hv => hK v w' (RT.new (Nat.lt_of_lt_of_le hcl hT.size) hN) (fun k h => begJ_new h hN) hv; rely_wp rfl (opr_fldK1 rfl hF.1 (hK _ _ (NewT.refl _) rfl))
        · exact fun a wx hT hF K hK => have hK := fun v w' (hN : NewT wx w') hv => hK v w' (RT.new (Nat.lt_of_lt_of_le hcl hT.size) hN) (fun k h => begJ_new h hN) hv; rely_wp rfl (opr_ldUs (hT.row (by assumption) Rgb.out) (by decide) rfl rfl hF.1 (hK _ _ (NewT.refl _) rfl))
        · exact fun a wx hT hF K hK => have hK := fun v w' (hN : NewT wx w') hv => hK v w' (RT.new (Nat.lt_of_lt_of_le hcl hT.size) hN) (fun k h => begJ_new h hN) hv; rely_wp rfl (opr_fldR (by decide) rfl hF.1 (hK _ _ (NewT.refl _) rfl))
        · exact fun a wx hT hF K hK => have hK := fun v w' (hN : NewT wx w') hv => hK v w' (RT.new (Nat.lt_of_lt_of_le hcl hT.size) hN) (fun k h => begJ_new h hN) hv; rely_wp rfl (opr_ldS (hT.row (by assumption) Rg4.out) (by decide) rfl rfl hF.1 (hK _ _ (NewT.refl _) rfl))
        · intro a wx hT hF K hK
          replace hK := fun v w' (hN : NewT wx w') hv => hK v w' (RT.new (Nat.lt_of_lt_of_le hcl hT.size) hN) (fun k h => begJ_new h hN) hv
          obtain ⟨f27, _⟩ := hF
          have f27 : a.tmps.getD 27 undef = su := f27
          refine rely_wp rfl ?_
          refine opr_cv (gNew_cvB _ x.steps w.heap.size wx (Nat.le_trans HM.out.out.size hT.size) (HRT wx hT)) rfl Try.func21 (by kernel_rfl) (by kernel_rfl) (by simp only [List.map_toArray, List.map_cons, List.map_nil, eval_tmp, f27]) (fun v w' hN hv => hK v w' hN hv)
        · intro a wx hT hF K hK
          replace hK := fun v w' (hN : NewT wx w') hv => hK v w' (RT.new (Nat.lt_of_lt_of_le hcl hT.size) hN) (fun k h => begJ_new h hN) hv
          obtain ⟨f28, _⟩ := hF
          replace f28 := show (svSgB c w.heap.size hcD (newL x.steps) (newG x.steps)).pred (a.tmps.getD 28 undef) wx from f28
          refine rely_wp rfl ?_
          refine opr_bsUo (B := w.heap.size) (l := newL x.steps) (g := newG x.steps) (Nat.le_trans HM.out.out.size hT.size) rfl f28 (fun v w' hN hv => hK v w' hN hv)
        · intro a wx hT hF hJ K hK
          obtain ⟨f25, f29, _⟩ := hF
          have f25 : a.tmps.getD 25 undef = sv := f25
          replace f29 := show (svUoB c w.heap.size hcD (newL x.steps) (newG x.steps)).pred (a.tmps.getD 29 undef) wx from f29
          refine rely_wp rfl ?_
          obtain ⟨b, sv2, hv2, hb2, hr2, hs2⟩ := (show UoV wx w.heap.size (a.tmps.getD 29 undef) (newL x.steps) (newG x.steps) from f29)
          have hJ0 : OwnE 48 10 wx B sv fs := hJ
          rw [HCV.out] at hJ0
          obtain ⟨w', hrun, ho', hRT⟩ := run_appE_near (u := a.tmps.getD 29 undef) sagaEl hJ0 (by rw [hv2]; exact rdE_rowOne hr2) (sgOne hs2.1 _) (by simp) (by have := HL12.out; simp; omega) (by have := hT.size; have := HOL.out; omega) (by simpa using HCAP.out) 26
          refine opr_append rfl (f25.trans HCV.out) rfl hrun ?_
          rw [show Value.slice (some ⟨c, 0, none⟩) (fs.length + [sgF sv2 (newG x.steps)].length) cap = V1 from HV1.out]
          refine hK _ _ hRT ⟨sv2, hs2.rt hRT hcD, ?_⟩ rfl
          rw [← HV1.out]
          exact ho'
        · exact fun a wx hT hF K hK => have hK := fun v w' (hN : NewT wx w') hv => hK v w' (RT.new (Nat.lt_of_lt_of_le hcl hT.size) hN) (fun k h => begJ_new h hN) hv; rely_wp rfl (opr_nilc rfl hF.1 (hK _ _ (NewT.refl _) rfl))
        · exact fun a wx hT hF K hK => have hK := fun v w' (hN : NewT wx w') hv => hK v w' (RT.new (Nat.lt_of_lt_of_le hcl hT.size) hN) (fun k h => begJ_new h hN) hv; rely_wp rfl (opr_fldK1 rfl hF.1 (hK _ _ (NewT.refl _) rfl))
        · intro w2 k2 hJ
          iterate 7 (intro u h; obtain rfl := Eq.symm (h (by simp)); clear h)
          iterate 2 (intro _ _)
          iterate 3 (intro u h; obtain rfl := Eq.symm (h (by simp)); clear h)
          refine relyEnd_nil rfl ?_
          simp only [Act.put, List.setIfInBounds_toArray, List.set_cons_zero, List.set_cons_succ]
          have hJ2 : SnV w2 B w.heap.size V1 fs (newL x.steps) (newG x.steps) := hJ
          obtain ⟨sv2, hs2, ho2⟩ := hJ2
          refine opr_put1 rfl rfl rfl (k2.row hgbc Rgb.out) (by decide) info_us (by rw [← HV1.out]; rfl) (fun i hi => bs_sg bk.ep sv V1 i hi) ?_
          intro W2 hR rr
          go_simp
          have hne : V1.ownBlock ≠ some gb := by rw [← HV1.out]; show some c ≠ some gb; intro e; cases e; omega
          have hEW : NewT WE W2 := NewT.of (((NewT.trans _ _ _ HPE.out HM.out).out.trans (k2.below.mono (by have := HSZ.out; omega))).trans (hR.below.mono (by have := HSZ.out; have := HGB.out; omega)))
          go_wp2
          go_ret
          refine ⟨_, by rw [HF.out]; rfl, ?_, ?_, by rw [HN.out]; exact rr, by rw [HN.out]; exact wayOut_snoc (p := (newL x.steps, newG x.steps)) HP.out (ho2.rt hR hne).rd (RdPB.rt hs2 hR hgD) (fun k hk => .inl (by rw [← HV1.out] at hk; rw [HCV.out]; exact hk))⟩
          · exact (((HM.out.out.mono (by have := HGB.out; omega)).trans (k2.below.mono hBc)).trans (hR.below.mono HGB.out.2))
          · exact ((KeepBut.below HM.out).trans (k2.keep.more (by rw [HCV.out]; simp [Value.ownBlock]))).trans (hR.keep.more (by simp))
      · have HNO : Hid (∀ c cap, sv = .slice (some ⟨c, 0, none⟩) fs.length cap → cap < fs.length + 1) := Lib.hid (fun c cap h => by
          by_cases hc : fs.length + 1 ≤ cap
          · exact absurd ⟨c, cap, h, hc⟩ hroom
          · omega)
        clear hroom
        go_upto_region 3 with fail
        refine wp_region_rely (NewT) [SV.eq (.pointer (some ⟨gb, 0, none⟩)), SV.eq (.pointer (some ⟨gb, 0, none⟩)), SV.eq (.pointer (some ⟨gb, 0, none⟩)), SV.eq (.pointer (some ⟨gb, 4, none⟩)), SV.eq (sv), SV.eq (.pointer (some ⟨g4, 42, none⟩)), SV.eq (su), svSgN (w1.heap.size) (newL x.steps) (newG x.steps), svUo (w1.heap.size) (newL x.steps) (newG x.steps), svSn B (w1.heap.size) fs (newL x.steps) (newG x.steps), SV.eq (.pointer (some ⟨gb, 0, none⟩)), SV.eq (.pointer (some ⟨gb, 4, none⟩))] [([(0, none)], none), ([(0, none)], none), ([(22, some 1)], none), ([(23, some 2)], none), ([(24, some 3)], none), ([(4, none)], none), ([(26, some 5)], none), ([(27, some 6)], none), ([(28, some 7)], none), ([(25, some 4), (29, some 8)], none), ([(21, some 0)], none), ([(31, some 10)], none)] 33 rfl (by kernel_rfl) rfl (by kernel_rfl) (by kernel_rfl) rfl NewT.trans (NewT.drew _) (Nat.le_of_ble_eq_true rfl) ⟨?_, ?_, ?_, ?_, ?_, ?_, ?_, ?_, ?_, ?_, ?_, ?_, trivial⟩ ?_
        · exact fun a wx hT hF K hK => rely_wp rfl (opr_move (.inl rfl) (hK _ _ (NewT.refl _) hF.1))
        · exact fun a wx hT hF K hK => rely_wp rfl (opr_move (.inl rfl) (hK _ _ (NewT.refl _) hF.1))
        · exact fun a wx hT hF K hK => rely_wp rfl (opr_nilc rfl hF.1 (hK _ _ (NewT.refl _) rfl))
        · exact fun a wx hT hF K hK => rely_wp rfl (opr_fldK1 rfl hF.1 (hK _ _ (NewT.refl _) rfl))
        · exact fun a wx hT hF K hK => rely_wp rfl (opr_ldUs (hT.row Rgb.out) (by decide) rfl rfl hF.1 (hK _ _ (NewT.refl _) rfl))
        · exact fun a wx hT hF K hK => rely_wp rfl (opr_fldR (by decide) rfl hF.1 (hK _ _ (NewT.refl _) rfl))
        · exact fun a wx hT hF K hK => rely_wp rfl (opr_ldS (hT.row Rg4.out) (by decide) rfl rfl hF.1 (hK _ _ (NewT.refl _) rfl))
        · exact fun a wx hT hF K hK => rely_wp rfl (opr_cv (gNew_cvB _ x.steps (w1.heap.size) wx hT.out.size ((NewT.trans _ _ _ HM.out hT).pairs HSX.out)) rfl Try.func21 (by kernel_rfl) (by kernel_rfl) (evs1 hF.1) hK)
        · exact fun a wx hT hF K hK => rely_wp rfl (opr_bsUo (B := w1.heap.size) (l := newL x.steps) (g := newG x.steps) hT.out.size rfl hF.1 (fun v w' hN hv => hK v w' hN hv))
        · intro a wx hT hF K hK
          obtain ⟨f25, f29, _⟩ := hF
          have f25 : a.tmps.getD 25 undef = sv := f25
          replace f29 := show (svUo (w1.heap.size) (newL x.steps) (newG x.steps)).pred (a.tmps.getD 29 undef) wx from f29
          refine rely_wp rfl ?_
          exact opr_appUo (fs := fs) (B0 := B) (B := w1.heap.size) (l := newL x.steps) (g := newG x.steps) (by have := hT.out.size; have := HOL.out; omega) hT.out.size (by have := HL12.out; omega) rfl (by rw [eval_tmp, f25]; exact HOW.out.new hT) (fun g c h => HNO.out g c (by rw [← h, eval_tmp, f25])) f29 (fun v w' hN hv => hK v w' hN hv)
        · exact fun a wx hT hF K hK => rely_wp rfl (opr_nilc rfl hF.1 (hK _ _ (NewT.refl _) rfl))
        · exact fun a wx hT hF K hK => rely_wp rfl (opr_fldK1 rfl hF.1 (hK _ _ (NewT.refl _) rfl))
        · intro w2 k2
          iterate 7 (intro u h; obtain rfl := Eq.symm (h (by simp)); clear h)
          iterate 2 (intro _ _)
          intro u30 h; have g30 := h (by simp); clear h; replace g30 := show (svSn B (w1.heap.size) fs (newL x.steps) (newG x.steps)).pred u30 w2 from g30
          iterate 2 (intro u h; obtain rfl := Eq.symm (h (by simp)); clear h)
          refine relyEnd_nil rfl ?_
          simp only [Act.put, List.setIfInBounds_toArray, List.set_cons_zero, List.set_cons_succ]
          have hA := (show SnV w2 B (w1.heap.size) u30 fs (newL x.steps) (newG x.steps) ∧ ∀ k, Value.ownBlock u30 = some k → w1.heap.size ≤ k from g30)
          obtain ⟨⟨sv2, hs2, ho2⟩, hk2⟩ := hA
          refine opr_put1 rfl rfl rfl (k2.row Rgb.out) (by decide) info_us (by obtain ⟨A', c', e, _⟩ := ho2.form; rw [e]; rfl) (fun i hi => bs_sg bk.ep sv u30 i hi) ?_
          intro W2 hR rr
          go_simp
          have hne : Value.ownBlock u30 ≠ some gb := fun e => by have h1 := hk2 gb e; have h2 := HOL.out; omega
          have hEW : NewT WE W2 := NewT.of ((NewT.trans _ _ _ HPE.out (NewT.trans _ _ _ HM.out k2)).out.trans (hR.below.mono (by have := HSZ.out; have := HGB.out; omega)))
          go_wp2
          go_ret
          refine ⟨_, by rw [HF.out]; rfl, ?_, ?_, by rw [HN.out]; exact rr, by rw [HN.out]; exact wayOut_snoc (p := (newL x.steps, newG x.steps)) HP.out (ho2.rt hR hne).rd ((RdPB.rt hs2 hR HOL.out.2.1).mono HM.out.out.size) (fun k hk => .inr (Nat.le_trans HM.out.out.size (hk2 k hk)))⟩
          · exact (((NewT.trans _ _ _ HM.out k2).out.mono (by have := HGB.out; omega)).trans (hR.below.mono HGB.out.2))
          · exact (KeepBut.below (NewT.trans _ _ _ HM.out k2)).trans (hR.keep.more (by simp))
    · have HF : Hid (begB bk x = false) := Lib.hid (by
        unfold begB
        split
        next h => rw [h] at hb; simpa using hb
        next => rfl)
      have HN : Hid (begN bk x = bk) := Lib.hid (by unfold begN; rw [HF.out, if_neg (by simp)])
      clear hb
      go_wp2
      go_ret
      exact ⟨sv, by rw [HF.out]; rfl, HM.out.out.mono (Nat.le_trans HP.out.at_ (Nat.le_of_lt HP.out.row.lt)), KeepBut.below HM.out, by rw [HN.out]; exact Rgb.out, by rw [HN.out]; exact wayOut_own HP.out (HP.out.own.new HM.out).rd⟩
end Go.Proofs.Ytilmeffmdgcblaa
/- A region that draws its order, some of whose operations turn a state one behind the other; the state may speak of the frame's slots (of variables that the region itself makes). No program is named here. -/
namespace Go.Proofs.Ytilmeffmdgcblaa
open Go Go.RowKit
set_option maxRecDepth 8000
set_option linter.all false

/-- One operation: it turns phase k into the next one (some k), or keeps whatever phase there is (none); a phase speaks of the frame too. -/
def relyStepA (P : Program) (Q : Exit → Act → World → Prop) (T : World → World → Prop) (V : List (SV T)) (J : Nat → Act → World → Prop) (a0 : Act) (w0 : World) (o : Oper) (dp : List (Tmp × Option Nat)) (g : Option (Tmp × Bool)) (c : SV T) : Option Nat → Prop
  | none => ∀ (a : Act) (w : World), T w0 w → relyFacts V a0 a w dp → ∀ K : Act → World → Prop, (∀ v w', T w w' → (∀ k, J k a w → J k (a.put o.dst v) w') → c.pred v w' → K (a.put o.dst v) w') →
    if relyGuard g a then o.wp P a w K Q else K (a.put o.dst undef) w
  | some k => ∀ (a : Act) (w : World), T w0 w → relyFacts V a0 a w dp → J k a w → ∀ K : Act → World → Prop, (∀ v w', T w w' → J (k + 1) (a.put o.dst v) w' → c.pred v w' → K (a.put o.dst v) w') →
    if relyGuard g a then o.wp P a w K Q else K (a.put o.dst undef) w
def relyAllA (P : Program) (Q : Exit → Act → World → Prop) (T : World → World → Prop) (V : List (SV T)) (J : Nat → Act → World → Prop) (a0 : Act) (w0 : World) : List Oper → Deps → List (SV T) → List (Option Nat) → Prop
  | [], _, _, _ => True
  | o :: r, (dp, g) :: D, c :: C, s :: S => relyStepA P Q T V J a0 w0 o dp g c s ∧ relyAllA P Q T V J a0 w0 r D C S
  | _, _, _, _ => False
section
variable {P : Program} {ops : Array Oper} {Q : Exit → Act → World → Prop} {T : World → World → Prop} {V : List (SV T)} {J : Nat → Act → World → Prop} {a0 : Act} {w0 : World} {n : Nat} {D : Deps} {S : List (Option Nat)} {path : List Nat} {init : List Oper} {last : Oper}
theorem relyAllA_at : ∀ (l : List Oper) (D : Deps) (C : List (SV T)) (S : List (Option Nat)) (k : Nat) (o : Oper) dp g, relyAllA P Q T V J a0 w0 l D C S → l[k]? = some o → D[k]? = some (dp, g) → relyStepA P Q T V J a0 w0 o dp g (C.getD k SV.any) (S.getD k none)
  | [], _, _, _, _, _, _, _, _, h, _ => by simp at h
  | x :: r, [], _, _, _, _, _, _, h, _, _ => h.elim
  | x :: r, y :: D, [], _, _, _, _, _, h, _, _ => h.elim
  | x :: r, y :: D, c :: C, [], _, _, _, _, h, _, _ => h.elim
  | x :: r, (dp, g) :: D, c :: C, s :: S, 0, o, dp', g', h, ho, hD => by
    simp at ho hD
    obtain ⟨rfl, rfl⟩ := hD
    subst ho
    exact h.1
  | x :: r, (dp, g) :: D, c :: C, s :: S, k + 1, o, dp', g', h, ho, hD => by
    have := relyAllA_at r D C S k o dp' g' h.2 (by simpa using ho) (by simpa using hD)
    simpa using this
/-- So many of the path's operations have come up. -/
structure PhInvA (path : List Nat) (J : Nat → Act → World → Prop) (listed : Array Bool) (a : Act) (w : World) (k : Nat) : Prop where
  le : k ≤ path.length
  done : ∀ j i, j < k → path[j]? = some i → listed.getD i false = true
  left : ∀ j i, k ≤ j → path[j]? = some i → listed.getD i false = false
  now : J k a w
theorem phA_other {listed : Array Bool} {a a' : Act} {w w' : World} {k i : Nat} (h : PhInvA path J listed a w k) (hi : i ∉ path) (hJ : J k a' w') : PhInvA path J (listed.setIfInBounds i true) a' w' k := by
  have hne : ∀ (j x : Nat), path[j]? = some x → i ≠ x := fun j x hx e => hi (e ▸ List.mem_of_getElem? hx)
  exact ⟨h.le, fun j x hj hx => by rw [getD_set_ne false (hne j x hx)]; exact h.done j x hj hx, fun j x hj hx => by rw [getD_set_ne false (hne j x hx)]; exact h.left j x hj hx, hJ⟩
theorem phA_own (hnd : path.Nodup) {listed : Array Bool} {a a' : Act} {w w' : World} {k i : Nat} (hlt : i < listed.size) (h : PhInvA path J listed a w k) (hi : path[k]? = some i) (hJ : J (k + 1) a' w') : PhInvA path J (listed.setIfInBounds i true) a' w' (k + 1) := by
  have hk : k < path.length := (List.getElem?_eq_some_iff.1 hi).1
  have hinj : ∀ (j x : Nat), path[j]? = some x → j ≠ k → i ≠ x := fun j x hx hjk e => by
    subst e
    obtain ⟨h1, h2⟩ := List.getElem?_eq_some_iff.1 hx
    obtain ⟨h3, h4⟩ := List.getElem?_eq_some_iff.1 hi
    exact hjk ((List.getElem_inj hnd).1 (h2.trans h4.symm))
  refine ⟨hk, fun j x hj hx => ?_, fun j x hj hx => ?_, hJ⟩
  · by_cases e : j = k
    · subst e
      rw [hi] at hx
      cases hx
      simp [hlt]
    · rw [getD_set_ne false (hinj j x hx e)]; exact h.done j x (by omega) hx
  · rw [getD_set_ne false (hinj j x hx (by omega))]; exact h.left j x (by omega) hx
theorem wpAny_relyA {Q2 : Exit → Act → World → Prop} (hQ : ∀ (o : Oper) (a : Act) (w : World) (K : Act → World → Prop), a.defers = a0.defers → o.wp P a w K Q2 → o.wp P a w K Q) (hsplit : ops.toList = init ++ [last]) (hn : a0.tmps.size = n) (hB : relyB ops n 0 init D = true) (hlast : lastB ops last init.length = true) (hg : last.guard = none) (ht : ∀ a b c : World, T a b → T b c → T a c)
    (hpath : pathB ops path = true) (hplace : placesB path S = true) (hSl : S.length = init.length) (hpl : ∀ i ∈ path, i < init.length)
    (hl : init.length ≤ V.length) (hA : relyAllA P Q2 T V J a0 w0 init D V S) (hE : ∀ w, T w0 w → relyEnd (fun _ a w => J path.length a w → last.wp P a w (fun a' w' => Q .normal a' w') Q) T init V a0 w) :
    ∀ (fuel : Nat) (listed : Array Bool) (a : Act) (w : World) (k : Nat), (unl ops listed).length = fuel → listed.getD init.length true = false → RelyInv ops T V a0 w0 listed a w → PhInvA path J listed a w k → wpAny P .any ops Q fuel listed a w := by
  obtain ⟨hlo, hsz, hpre⟩ := last_at hsplit
  simp only [lastB, Bool.and_eq_true] at hlast
  simp only [placesB, Bool.and_eq_true, decide_eq_true_eq] at hplace
  obtain ⟨hnd, hpos⟩ := hplace
  have hS : ∀ i, i < init.length → S.getD i none = path.findIdx? (· == i) := fun i hi => by
    have := List.all_eq_true.1 hpos i (List.mem_range.2 (by omega))
    simpa using this
  have hat : ∀ i o, init[i]? = some o → ∃ dp g, relyOne ops n i o dp g = true ∧ relyStepA P Q2 T V J a0 w0 o dp g (V.getD i SV.any) (path.findIdx? (· == i)) := fun i o hi => by
    obtain ⟨dp, g, hD, h1⟩ := relyB_at init D 0 i o hB hi
    rw [Nat.zero_add] at h1
    refine ⟨dp, g, h1, ?_⟩
    rw [← hS i (List.getElem?_eq_some_iff.1 hi).1]
    exact relyAllA_at _ _ _ _ i o dp g hA hi hD
  intro fuel
  induction fuel with
  | zero =>
    intro listed a w k hu hun inv _
    have : init.length ∈ unl ops listed := by
      unfold unl; rw [List.mem_filter]; exact ⟨List.mem_range.2 (by omega), by rw [hun]; rfl⟩
    rw [List.eq_nil_of_length_eq_zero hu] at this
    cases this
  | succ fuel ih =>
    intro listed a w k hu hun inv ph
    refine ⟨fun hr => ?_, fun i hi => ?_⟩
    · exfalso
      have all : ∀ i, i < init.length → listed.getD i false = true := fun i => by
        induction i using Nat.strongRecOn with
        | _ i ih =>
          intro hi
          cases hli : listed.getD i false with
          | true => rfl
          | false =>
            exfalso
            have hmem : i ∈ Region.ready .any ops listed := by
              rw [mem_ready]
              refine ⟨getD_in (by rw [inv.size]; omega) hli, init[i], hpre i _ (List.getElem?_eq_getElem hi), fun e he hb => ?_⟩
              obtain ⟨dp, g, h1, _⟩ := hat i init[i] (List.getElem?_eq_getElem hi)
              simp only [relyOne, Bool.and_eq_true] at h1
              have h2 := (Array.all_eq_true_iff_forall_mem.1 h1.1.1.2) e he
              simp only [hb, Bool.not_true, Bool.false_or, decide_eq_true_eq] at h2
              exact ih e.on h2 (by omega)
            rw [hr] at hmem
            cases hmem
      have hmem : init.length ∈ Region.ready .any ops listed := by
        rw [mem_ready]
        refine ⟨hun, last, hlo, fun e he hb => ?_⟩
        have h2 := (Array.all_eq_true_iff_forall_mem.1 hlast.2) e he
        simp only [hb, Bool.not_true, Bool.false_or, decide_eq_true_eq] at h2
        exact all e.on h2
      rw [hr] at hmem
      cases hmem
    · obtain ⟨h0, o, ho, hall⟩ := mem_ready.1 hi
      have hilt := (Array.getElem?_eq_some_iff.1 ho).1
      by_cases him : i = init.length
      · subst him
        have hol : o = last := Option.some.inj (ho.symm.trans hlo)
        subst hol
        have hdone : ∀ (d j : Nat), init.length - j = d → j < init.length → listed.getD j false = true := fun d => by
          induction d using Nat.strongRecOn with
          | _ d ihd =>
            intro j hd hj
            have h1 := List.all_eq_true.1 hlast.1 j (List.mem_range.2 hj)
            obtain ⟨t, ht1, ht2⟩ := List.any_eq_true.1 h1
            simp only [Bool.and_eq_true, decide_eq_true_eq] at ht2
            obtain ⟨ot, hot, e, he, hb, hon⟩ := Region.waitsFor_spec ht2.2
            have htle : t ≤ init.length := by have := List.mem_range.1 ht1; omega
            rw [← hon]
            by_cases htm : t = init.length
            · subst htm
              have : ot = o := Option.some.inj (hot.symm.trans ho)
              subst this
              exact hall e he hb
            · exact inv.closed t ot hot (ihd (init.length - t) (by omega) t rfl (by omega)) e he hb
        replace hdone : ∀ j, j < init.length → listed.getD j false = true := fun j hj => hdone _ j rfl hj
        have hk : k = path.length := by
          rcases Nat.lt_or_ge k path.length with h | h
          · exfalso
            have h1 := ph.left k path[k] (Nat.le_refl _) (List.getElem?_eq_getElem h)
            rw [hdone _ (hpl _ (List.getElem_mem h))] at h1
            cases h1
          · have := ph.le; omega
        subst hk
        have hJ := ph.now
        have h1 : J path.length a w → o.wp P a w (fun a' w' => Q .normal a' w') Q := rely_all (Q' := fun a w => J path.length a w → o.wp P a w (fun a' w' => Q .normal a' w') Q) inv
          (fun k o hk => ⟨hpre k o hk, hdone k (List.getElem?_eq_some_iff.1 hk).1⟩) (fun j hj => by
            rcases Nat.lt_or_ge j init.length with h | h
            · exact h
            · rcases Nat.eq_or_lt_of_le h with h | h
              · subst h; rw [getD_both hun] at hj; cases hj
              · have : listed.getD j false = false := by simp [Array.getElem?_eq_none (show listed.size ≤ j by rw [inv.size]; omega)]
                rw [this] at hj; cases hj) hl (hE w inv.now)
        have hK : ∀ a' w', Q .normal a' w' → wpAny P .any ops Q fuel (listed.setIfInBounds init.length true) a' w' := fun a' w' h => wpAny_done (ready_none fun j hj => by
          by_cases hj2 : j = init.length
          · subst hj2; simp [show init.length < listed.size by rw [inv.size]; exact hj]
          · exact getD_set_true (hdone j (by omega))) h _
        unfold wpOp
        simp only [hlo, Region.wanted, hg, if_true]
        exact .inl (Oper.wp_mono hK (h1 hJ))
      · have hi' : i < init.length := by omega
        have hio : init[i]? = some o := by
          have := hpre i init[i] (List.getElem?_eq_getElem hi')
          rw [ho] at this
          rw [List.getElem?_eq_getElem hi', Option.some.inj this]
        obtain ⟨dp, g, h1, hstep⟩ := hat i o hio
        obtain ⟨hfacts, hguard, next⟩ := rely_next hn ht ho h1 h0 hall inv
        have i0 : listed.getD i false = false := getD_both h0
        have hs : if relyGuard g a then o.wp P a w (fun a' w' => wpAny P .any ops Q fuel (listed.setIfInBounds i true) a' w') Q2 else wpAny P .any ops Q fuel (listed.setIfInBounds i true) (a.put o.dst undef) w := by
          cases hf : path.findIdx? (· == i) with
          | none =>
            rw [hf] at hstep
            have hni : i ∉ path := fun hm => by
              rw [List.findIdx?_eq_none_iff] at hf
              have := hf i hm
              simp at this
            exact hstep a w inv.now hfacts (fun a' w' => wpAny P .any ops Q fuel (listed.setIfInBounds i true) a' w') (fun v w' hT hJ hv => ih _ _ w' k (by have := unl_set inv.size h0; omega) (by rw [getD_set_ne true him]; exact hun) (next v w' hT hv) (phA_other ph hni (hJ k ph.now)))
          | some j =>
            rw [hf] at hstep
            have hpj : path[j]? = some i := by
              obtain ⟨h1, h2, _⟩ := List.findIdx?_eq_some_iff_getElem.1 hf
              rw [List.getElem?_eq_getElem h1]
              simpa using h2
            have hkj : k = j := by
              rcases Nat.lt_trichotomy j k with h | h | h
              · have := ph.done j i h hpj
                rw [i0] at this; cases this
              · exact h.symm
              · exfalso
                obtain ⟨j', rfl⟩ : ∃ j', j = j' + 1 := ⟨j - 1, by omega⟩
                have hlj : j' < path.length := by have := (List.getElem?_eq_some_iff.1 hpj).1; omega
                have hw := pathB_at path j' path[j'] i hpath (List.getElem?_eq_getElem hlj) hpj
                obtain ⟨oi, hoi, e, he, hb, hon⟩ := Region.waitsFor_spec hw
                have : oi = o := Option.some.inj (hoi.symm.trans ho)
                subst this
                have h2 := hall e he hb
                rw [hon, ph.left j' _ (by omega) (List.getElem?_eq_getElem hlj)] at h2
                cases h2
            subst hkj
            exact hstep a w inv.now hfacts ph.now (fun a' w' => wpAny P .any ops Q fuel (listed.setIfInBounds i true) a' w') (fun v w' hT hJ hv => ih _ _ w' (k + 1) (by have := unl_set inv.size h0; omega) (by rw [getD_set_ne true him]; exact hun) (next v w' hT hv) (phA_own hnd (by rw [inv.size]; exact hilt) ph hpj hJ))
        unfold wpOp
        simp only [ho, hguard]
        split
        · rename_i hw; rw [if_pos hw] at hs; exact .inl (hQ _ _ _ _ inv.defers hs)
        · rename_i hw; rw [if_neg hw] at hs; exact hs
/-- **A region that draws its order and turns a state step by step, of which the frame is part.** -/
theorem wp_region_relyA {id : Nat} {Q2 : Exit → Act → World → Prop} (hQ : ∀ (o : Oper) (a : Act) (w : World) (K : Act → World → Prop), a.defers = a0.defers → o.wp P a w K Q2 → o.wp P a w K Q) (T : World → World → Prop) (J : Nat → Act → World → Prop) (V : List (SV T)) (D : Deps) (S : List (Option Nat)) (path : List Nat) (n : Nat) (hla : ops.toList.getLast? = some last) (hm : P.follows .mixedOrders = true) (hn : a0.tmps.size = n) (hB : relyB ops n 0 ops.toList.dropLast D = true)
    (hlast : lastB ops last ops.toList.dropLast.length = true) (hg : last.guard = none) (hpath : (pathB ops path && placesB path S && decide (S.length = ops.toList.dropLast.length) && path.all fun i => decide (i < ops.toList.dropLast.length)) = true)
    (ht : ∀ a b c : World, T a b → T b c → T a c) (hd : T w0 w0.drew) (hJ : J 0 a0 w0.drew) (hl : ops.toList.dropLast.length ≤ V.length)
    (hA : relyAllA P Q2 T V J a0 w0 ops.toList.dropLast D V S) (hE : ∀ w, T w0 w → relyEnd (fun _ a w => J path.length a w → last.wp P a w (fun a' w' => Q .normal a' w') Q) T ops.toList.dropLast V a0 w) : (Code.region id ops true).wp P Q a0 w0 := by
  have hsplit := split_last hla
  obtain ⟨_, hsz, _⟩ := last_at hsplit
  simp only [Bool.and_eq_true, decide_eq_true_eq] at hpath
  obtain ⟨⟨⟨h1, h2⟩, h3⟩, h4⟩ := hpath
  refine wp_region_any hm ?_
  exact wpAny_relyA hQ hsplit hn hB hlast hg ht h1 h2 h3 (fun i hi => by simpa using List.all_eq_true.1 h4 i hi) hl hA hE ops.size _ a0 w0.drew 0 unl_start (by
    have hlt : ops.toList.dropLast.length < ops.size := by omega
    generalize ops.toList.dropLast.length = m at hlt
    simp [hlt]) (rely_start hd) ⟨Nat.zero_le _, fun j i hj => by omega, fun j i _ _ => getD_replicate_false .., hJ⟩
theorem wp_region_relyA0 {id : Nat} (T : World → World → Prop) (J : Nat → Act → World → Prop) (V : List (SV T)) (D : Deps) (S : List (Option Nat)) (path : List Nat) (n : Nat) (hla : ops.toList.getLast? = some last) (hm : P.follows .mixedOrders = true) (hn : a0.tmps.size = n) (hB : relyB ops n 0 ops.toList.dropLast D = true)
    (hlast : lastB ops last ops.toList.dropLast.length = true) (hg : last.guard = none) (hpath : (pathB ops path && placesB path S && decide (S.length = ops.toList.dropLast.length) && path.all fun i => decide (i < ops.toList.dropLast.length)) = true)
    (ht : ∀ a b c : World, T a b → T b c → T a c) (hd : T w0 w0.drew) (hJ : J 0 a0 w0.drew) (hl : ops.toList.dropLast.length ≤ V.length)
    (hA : relyAllA P Q T V J a0 w0 ops.toList.dropLast D V S) (hE : ∀ w, T w0 w → relyEnd (fun _ a w => J path.length a w → last.wp P a w (fun a' w' => Q .normal a' w') Q) T ops.toList.dropLast V a0 w) : (Code.region id ops true).wp P Q a0 w0 :=
  wp_region_relyA (fun _ _ _ _ _ h => h) T J V D S path n hla hm hn hB hlast hg hpath ht hd hJ hl hA hE
end
end Go.Proofs.Ytilmeffmdgcblaa
/- Drawn regions that make one variable and store into it, in whatever order the rest comes: 'x, y := f(..)'. -/
namespace Go.Proofs.Ytilmeffmdgcblaa
open Go Go.RowKit
set_option maxRecDepth 8000
set_option linter.all false
/-- Memory that was there in W stays. -/
def BelT (W : World) (w w' : World) : Prop := Below W.heap.size w w'
theorem BelT.trans (W : World) (a b c : World) (h : BelT W a b) (k : BelT W b c) : BelT W a c := Below.trans h k
theorem BelT.drew (W w : World) : BelT W w w.drew := (Below.refl _ w).drew
theorem BelT.new {W w w' : World} (hW : NewT W w) (hN : NewT w w') : BelT W w w' := hN.out.mono hW.out.size
theorem BelT.rt {W w w' : World} {g : Nat} (hg : W.heap.size ≤ g) (h : RT g w w') : BelT W w w' := h.below.mono hg
/-- It is a variable's address. -/
def svPtV {T : World → World → Prop} : SV T := ⟨fun v _ => ∃ g, v = .pointer (some ⟨g, 0, none⟩), fun _ _ _ h _ => h⟩
/-- The variable of slot p: not there, zero, stored. -/
def JV (p : Tmp) (W : World) (t n : Nat) (F0 : Nat → Value) (G : World → (Nat → Value) → Prop) (k : Nat) (a : Act) (w : World) : Prop :=
  k = 0 ∨ ∀ g, a.tmps.getD p undef = .pointer (some ⟨g, 0, none⟩) → ∃ F, W.heap.size ≤ g ∧ w.rowIs g t n F ∧ (k = 1 ∧ F = F0 ∨ k ≠ 1 ∧ G w F)
theorem JV.keep {p : Tmp} {W : World} {t n : Nat} {F0 : Nat → Value} {G : World → (Nat → Value) → Prop} {k : Nat} {a : Act} {w w' : World} {d : Option Tmp} {v : Value} (h : JV p W t n F0 G k a w) (hd : d ≠ some p) (hN : NewT w w') (hG : ∀ F, G w F → G w' F) : JV p W t n F0 G k (a.put d v) w' := by
  rcases h with h | h
  · exact .inl h
  · refine .inr fun g hg => ?_
    have hg' : a.tmps.getD p undef = .pointer (some ⟨g, 0, none⟩) := by
      cases d with
      | none => exact hg
      | some q =>
        have hne : q ≠ p := fun e => hd (by rw [e])
        rw [← hg]
        simp [Act.put, Array.getElem?_setIfInBounds_ne hne]
    obtain ⟨F, h1, h2, h3⟩ := h g hg'
    refine ⟨F, h1, hN.row h2, ?_⟩
    rcases h3 with h3 | ⟨h3, h4⟩
    · exact .inl h3
    · exact .inr ⟨h3, hG F h4⟩
theorem JV.make {p : Tmp} {W : World} {t n : Nat} {F0 : Nat → Value} {G : World → (Nat → Value) → Prop} {a : Act} {w : World} (hW : NewT W w) : JV p W t n F0 G 1 (a.put (some p) (.pointer (some ⟨w.heap.size, 0, none⟩))) (w.alloc (.cells (rowA n F0) t)) := by
  refine .inr fun g hg => ?_
  have hs : g = w.heap.size := by
    by_cases hp : p < a.tmps.size
    · simp [Act.put, hp] at hg; exact hg.symm
    · simp [Act.put, hp] at hg; cases hg
  subst hs
  exact ⟨F0, hW.out.size, rowIs_box w t n F0, .inl ⟨rfl, rfl⟩⟩
theorem JV.at1 {p g : Nat} {W : World} {t n : Nat} {F0 : Nat → Value} {G : World → (Nat → Value) → Prop} {a : Act} {w : World} (h : JV p W t n F0 G 1 a w) (hg : a.tmps.getD p undef = .pointer (some ⟨g, 0, none⟩)) : W.heap.size ≤ g ∧ w.rowIs g t n F0 := by
  rcases h with h | h
  · cases h
  · obtain ⟨F, h1, h2, h3⟩ := h g hg
    rcases h3 with ⟨_, rfl⟩ | ⟨h3, _⟩
    · exact ⟨h1, h2⟩
    · exact absurd rfl h3
theorem JV.at2 {p g : Nat} {W : World} {t n : Nat} {F0 : Nat → Value} {G : World → (Nat → Value) → Prop} {a : Act} {w : World} (h : JV p W t n F0 G 2 a w) (hg : a.tmps.getD p undef = .pointer (some ⟨g, 0, none⟩)) : ∃ F, W.heap.size ≤ g ∧ w.rowIs g t n F ∧ G w F := by
  rcases h with h | h
  · cases h
  · obtain ⟨F, h1, h2, h3⟩ := h g hg
    rcases h3 with ⟨h3, _⟩ | ⟨_, h3⟩
    · cases h3
    · exact ⟨F, h1, h2, h3⟩
theorem JV.mk2 {p g : Nat} {W : World} {t n : Nat} {F0 F : Nat → Value} {G : World → (Nat → Value) → Prop} {a : Act} {w : World} {v : Value} (h1 : a.tmps.getD p undef = .pointer (some ⟨g, 0, none⟩)) (h2 : W.heap.size ≤ g) (h3 : w.rowIs g t n F) (h4 : G w F) : JV p W t n F0 G 2 (a.put none v) w := by
  refine .inr fun g' hg' => ?_
  have e : a.tmps.getD p undef = .pointer (some ⟨g', 0, none⟩) := hg'
  rw [h1] at e
  cases e
  exact ⟨F, h2, h3, .inr ⟨by omega, h4⟩⟩
theorem opr_allocV {P : Program} {a : Act} {w : World} {o : Oper} {K : Act → World → Prop} {Q : Exit → Act → World → Prop} {t n : Nat} {F0 : Nat → Value} (ho : o.op = .alloc t) (hal : ∀ w, (Instr.alloc t true (.tuple #[])).run P w = .ok (.pointer (some ⟨w.heap.size, 0, none⟩)) (w.alloc (.cells (rowA n F0) t))) (h : K (a.put o.dst (.pointer (some ⟨w.heap.size, 0, none⟩))) (w.alloc (.cells (rowA n F0) t))) : o.wp P a w K Q := by
  obtain ⟨dst, op, type, pos, after, guard⟩ := o
  simp only at ho
  subst ho
  exact opr_val (s := Instr.alloc t true (.tuple #[])) rfl (hal w) h
/-- A variable is made, another is assigned to, the first is stored into. -/
theorem wpList_newA {P : Program} {ops : Array Oper} {rest : List Oper} {a : Act} {w : World} {Q : Exit → Act → World → Prop} {o1 o2 o3 : Oper} {t : TypeId} {n d0 d1 : Nat} {z y : Operand} {f f0 : Nat → Value} (hg1 : o1.guard = none) (hg2 : o2.guard = none) (hg3 : o3.guard = none) (h1 : o1.op = .alloc t) (hd : o1.dst = some d0) (h2 : o2.op = .assign z) (hd2 : o2.dst = some d1) (h3 : o3.op = .store t (.tmp d0) y) (hne : d1 ≠ d0) (hd3 : o3.dst = none) (hlt : d0 < a.tmps.size)
    (hy : ((a.put (some d0) (.pointer (some ⟨w.heap.size, 0, none⟩))).put (some d1) ((a.put (some d0) (.pointer (some ⟨w.heap.size, 0, none⟩))).eval z)).eval y = .agg (rowA n f))
    (hal : ∀ w : World, (Instr.alloc t true (.tuple #[])).run P w = .ok (.pointer (some ⟨w.heap.size, 0, none⟩)) (w.alloc (.cells (rowA n f0) t))) (hi : (P.info? t).map (·.size) = some n) (hone : ∀ i, (f i).oneCell' = true)
    (h : ∀ w', NewT w w' → w'.rowIs w.heap.size t n f → wpList P ops Q rest ((a.put (some d0) (.pointer (some ⟨w.heap.size, 0, none⟩))).put (some d1) ((a.put (some d0) (.pointer (some ⟨w.heap.size, 0, none⟩))).eval z)) w') : wpList P ops Q (o1 :: o2 :: o3 :: rest) a w := by
  refine wpList_plain hg1 fun K hK => ?_
  obtain ⟨dst, op, type, pos, after, guard⟩ := o1
  simp only at h1 hd
  subst h1 hd
  refine opr_val (s := Instr.alloc t true (.tuple #[])) rfl (hal w) (hK _ _ ?_)
  clear hK K
  refine wpList_plain hg2 fun K hK => ?_
  refine opr_move (.inr h2) (hK _ _ ?_)
  clear hK K
  rw [hd2]
  have hr := rowIs_box w t n f0
  refine wpList_store_mid hg3 t (.tmp d0) y h3 w.heap.size 0 (rowA n f) (by rw [eval_tmp]; simp [Act.put, hlt, Array.getElem_setIfInBounds, hne]) hy (by rw [rowA_size]; exact there_row hr) (by rw [rowA_size]; exact hi) (rowA_one _ _ hone) ?_
  rw [hd3]
  exact h _ (below_setCells _ (Nat.le_refl _) _ _ _ (NewT.alloc _ _).out) (rowIs_setAll hr f)
end Go.Proofs.Ytilmeffmdgcblaa
/- Package book: the ways of a record of a saga that is there, and of a rotation. -/
namespace Go.Proofs.Ytilmeffmdgcblaa
open Go Go.RowKit
set_option maxRecDepth 8000
set_option linter.all false
set_option maxHeartbeats 4000000 in
theorem goesOn_c (D : Nat) (w WE : World) (B gb : Nat) (sv xv : Value) (fs : List (Nat → Value)) (bk : Bk) (x : Rc) (lim : Int) (hp : WayPre D w WE B gb sv fs bk) (hx : RecV WE xv x) (hok : OkK bk) (hr : rightB x = true) : Calls Try.prog 60 #[.pointer (some ⟨gb, 0, none⟩), xv, .int .i64 lim] w (WayPost D WE B gb w sv (onB lim bk x) (onK lim bk x)) := by
  obtain ⟨su, dv, rfl, hsx, hd⟩ := hx
  have HP := Lib.hid hp
  have HSV : Hid (RdU w sv bk.sg) := Lib.hid hp.rd
  have HX : Hid (RecV w (.agg (rowA 109 (recF x su dv))) x) := Lib.hid ⟨su, dv, rfl, hp.elder.pairs hsx, hp.elder.rd hd⟩
  have HSX := Lib.hid (hp.elder.pairs hsx)
  have HD := Lib.hid (hp.elder.rd hd)
  have HSXE := Lib.hid hsx
  have HDE := Lib.hid hd
  clear hsx hd hp
  have Hok := Lib.hid hok
  have Hr := Lib.hid hr
  clear hok hr
  go_enter Try.func60, Try.ntmps60
  go_upto_region 1 with fail
  have r_g4 := rowIs_box w 46 109 (recF x su dv)
  have hN : NewT w (w.alloc (.cells (rowA 109 (recF x su dv)) 46)) := NewT.alloc _ _
  change Code.wp _ _ _ _ (w.alloc (.cells (rowA 109 (recF x su dv)) 46))
  generalize (w.alloc (.cells (rowA 109 (recF x su dv)) 46)) = W0 at r_g4 hN ⊢
  obtain ⟨g4, h_g4⟩ : ∃ g_, w.heap.size = g_ := ⟨_, rfl⟩
  have HG : Hid (w.heap.size ≤ g4) := Lib.hid (by omega)
  rw [h_g4] at r_g4
  simp only [h_g4]
  have Rg4 := Lib.hid r_g4
  have HM := Lib.hid hN
  clear r_g4 hN h_g4
  have HGB : Hid (gb < w.heap.size ∧ B ≤ gb) := Lib.hid ⟨HP.out.row.lt, HP.out.at_⟩
  have Rgb : Hid (W0.rowIs gb 28 5 (bkF bk.ep sv)) := Lib.hid (HM.out.row HP.out.row)
  by_cases h1 : x.saga < bk.sg.length
  rotate_left
  · have HF : Hid (onB lim bk x = false) := Lib.hid (by unfold onB; rw [if_neg h1])
    have HN : Hid (onK lim bk x = bk) := Lib.hid (onK_no HF.out)
    have t1 : decide ((bk.sg.length : Int) ≤ x.saga) = true := decide_eq_true (by omega)
    clear h1
    refine wp_region_rely (NewT) [SV.eq (.pointer (some ⟨g4, 1, none⟩)), SV.eq (.int .i64 (x.saga)), SV.eq (.pointer (some ⟨gb, 0, none⟩)), SV.eq (.pointer (some ⟨gb, 0, none⟩)), SV.eq (.pointer (some ⟨gb, 4, none⟩)), SV.eq (sv), SV.eq (.int .i64 ((List.length (bk.sg) : Int)))] [([(4, none)], none), ([(9, some 0)], none), ([(0, none)], none), ([(11, some 2)], none), ([(12, some 3)], none), ([(13, some 4)], none), ([(14, some 5)], none)] 40 rfl (by kernel_rfl) rfl (by kernel_rfl) (by kernel_rfl) rfl NewT.trans (NewT.drew _) (Nat.le_of_ble_eq_true rfl) ⟨?_, ?_, ?_, ?_, ?_, ?_, ?_, trivial⟩ ?_
    · exact fun a wx hT hF K hK => rely_wp rfl (opr_fldR (by decide) rfl hF.1 (hK _ _ (NewT.refl _) rfl))
    · exact fun a wx hT hF K hK => rely_wp rfl (opr_ldI (hT.row Rg4.out) (by decide) rfl rfl hF.1 (hK _ _ (NewT.refl _) rfl))
    · exact fun a wx hT hF K hK => rely_wp rfl (opr_move (.inl rfl) (hK _ _ (NewT.refl _) hF.1))
    · exact fun a wx hT hF K hK => rely_wp rfl (opr_nilc rfl hF.1 (hK _ _ (NewT.refl _) rfl))
    · exact fun a wx hT hF K hK => rely_wp rfl (opr_fldK1 rfl hF.1 (hK _ _ (NewT.refl _) rfl))
    · exact fun a wx hT hF K hK => rely_wp rfl (opr_ldUs (hT.row Rgb.out) (by decide) rfl rfl hF.1 (hK _ _ (NewT.refl _) rfl))
    · intro a wx hT hF K hK
      obtain ⟨f14, _⟩ := hF
      have f14 : a.tmps.getD 14 undef = sv := f14
      refine rely_wp rfl ?_
      exact opr_lenL rfl sagaEl (by rw [eval_tmp, f14]; exact (HSV.out.new (NewT.trans _ _ _ HM.out hT))) (hK _ _ (NewT.refl _) rfl)
    · intro w1 k1
      iterate 7 (intro u h; obtain rfl := Eq.symm (h (by simp)); clear h)
      refine relyEnd_nil rfl ?_
      simp only [Act.put, List.setIfInBounds_toArray, List.set_cons_zero, List.set_cons_succ]
      refine opr_cmp (b := true) (.inr (.inr (.inr (.inr (.inr (⟨rfl, t1⟩)))))) Try.underlying3 rfl rfl rfl ?_
      go_simp
      replace Rgb := Lib.hid (k1.row Rgb.out)
      replace Rg4 := Lib.hid (k1.row Rg4.out)
      replace HM := Lib.hid (NewT.trans _ _ _ HM.out k1)
      clear k1
      go_wp2
      go_ret
      exact ⟨sv, by rw [HF.out]; rfl, HM.out.out.mono (Nat.le_trans HP.out.at_ (Nat.le_of_lt HP.out.row.lt)), KeepBut.below HM.out, by rw [HN.out]; exact Rgb.out, by rw [HN.out]; exact wayOut_own HP.out (HP.out.own.new HM.out).rd⟩
  obtain ⟨k, hk⟩ : ∃ k : Nat, x.saga = (k : Int) := ⟨x.saga.toNat, by have := (right_saga Hr.out).1; omega⟩
  obtain ⟨p, hpp⟩ : ∃ p, sgAt bk k = p := ⟨_, rfl⟩
  have hkl : k < bk.sg.length := by omega
  have hpk : bk.sg[k]? = some p := by rw [← hpp]; exact sgAt_some hkl
  have HK := Lib.hid hk
  have HOK : Hid (OkG p.1 p.2) := Lib.hid (Hok.out.sg p (List.mem_of_getElem? hpk))
  have HF : Hid (onB lim bk x = goesB p.1 lim p.2 x) := Lib.hid (by unfold onB; rw [if_pos h1, hk, Int.toNat_natCast, hpp])
  have HN : Hid (onK lim bk x = { bk with sg := bk.sg.set k (p.1, wentG p.1 lim p.2 x) }) := Lib.hid (by unfold onK; rw [if_pos h1, hk, Int.toNat_natCast, hpp])
  have hl := HP.out.len
  obtain ⟨f0, hf0, sv0, hfe, hs0⟩ := HP.out.els k p hpk
  subst hfe
  obtain ⟨c, cap, F0, hcv, hBc, hrc, hcl, hcm, hcF⟩ := HP.out.own.rows (by omega)
  have HCF := Lib.hid hcF
  have HCV := Lib.hid hcv
  have HKL : Hid (k < fs.length ∧ fs[k]? = some (sgF sv0 p.2) ∧ fs.length ≤ cap ∧ cap ≤ maxLen) := Lib.hid ⟨by omega, hf0, hcl, hcm⟩
  have HBC : Hid (B ≤ c ∧ gb < c) := Lib.hid ⟨hBc, HP.out.apart c (by rw [hcv]; rfl)⟩
  have HS0 : Hid (RdP w sv0 p.1) := Lib.hid (HP.out.elder.pairs hs0.1)
  have HSE := Lib.hid hs0
  have Rc : Hid (W0.rowIs c 48 (cap * 10) F0) := Lib.hid (HM.out.row hrc)
  have t1 : decide ((bk.sg.length : Int) ≤ x.saga) = false := decide_eq_false (by omega)
  have HCN : Hid (c < w.heap.size) := Lib.hid hrc.lt
  clear h1 hk hpp hkl hpk hl hf0 hcv hBc hrc hcl hcm hs0 hcF
  refine wp_region_rely (NewT) [SV.eq (.pointer (some ⟨g4, 1, none⟩)), SV.eq (.int .i64 (x.saga)), SV.eq (.pointer (some ⟨gb, 0, none⟩)), SV.eq (.pointer (some ⟨gb, 0, none⟩)), SV.eq (.pointer (some ⟨gb, 4, none⟩)), SV.eq (sv), SV.eq (.int .i64 ((List.length (bk.sg) : Int)))] [([(4, none)], none), ([(9, some 0)], none), ([(0, none)], none), ([(11, some 2)], none), ([(12, some 3)], none), ([(13, some 4)], none), ([(14, some 5)], none)] 40 rfl (by kernel_rfl) rfl (by kernel_rfl) (by kernel_rfl) rfl NewT.trans (NewT.drew _) (Nat.le_of_ble_eq_true rfl) ⟨?_, ?_, ?_, ?_, ?_, ?_, ?_, trivial⟩ ?_
  · exact fun a wx hT hF K hK => rely_wp rfl (opr_fldR (by decide) rfl hF.1 (hK _ _ (NewT.refl _) rfl))
  · exact fun a wx hT hF K hK => rely_wp rfl (opr_ldI (hT.row Rg4.out) (by decide) rfl rfl hF.1 (hK _ _ (NewT.refl _) rfl))
  · exact fun a wx hT hF K hK => rely_wp rfl (opr_move (.inl rfl) (hK _ _ (NewT.refl _) hF.1))
  · exact fun a wx hT hF K hK => rely_wp rfl (opr_nilc rfl hF.1 (hK _ _ (NewT.refl _) rfl))
  · exact fun a wx hT hF K hK => rely_wp rfl (opr_fldK1 rfl hF.1 (hK _ _ (NewT.refl _) rfl))
  · exact fun a wx hT hF K hK => rely_wp rfl (opr_ldUs (hT.row Rgb.out) (by decide) rfl rfl hF.1 (hK _ _ (NewT.refl _) rfl))
  · intro a wx hT hF K hK
    obtain ⟨f14, _⟩ := hF
    have f14 : a.tmps.getD 14 undef = sv := f14
    refine rely_wp rfl ?_
    exact opr_lenL rfl sagaEl (by rw [eval_tmp, f14]; exact (HSV.out.new (NewT.trans _ _ _ HM.out hT))) (hK _ _ (NewT.refl _) rfl)
  · intro w2 k2
    iterate 7 (intro u h; obtain rfl := Eq.symm (h (by simp)); clear h)
    refine relyEnd_nil rfl ?_
    simp only [Act.put, List.setIfInBounds_toArray, List.set_cons_zero, List.set_cons_succ]
    refine opr_cmp (b := false) (.inr (.inr (.inr (.inr (.inr (⟨rfl, t1⟩)))))) Try.underlying3 rfl rfl rfl ?_
    go_simp
    replace Rgb := Lib.hid (k2.row Rgb.out)
    replace Rg4 := Lib.hid (k2.row Rg4.out)
    replace Rc := Lib.hid (k2.row Rc.out)
    replace HM := Lib.hid (NewT.trans _ _ _ HM.out k2)
    clear k2
    go_upto_region 3 with fail
    refine wp_region_relyA0 (BelT w2) (JV 7 w2 48 10 (sgF (.slice none 0 0) zG) (fun _ F => F = sgF sv0 ((wentG p.1 lim p.2 x)))) [SV.eq (.pointer (some ⟨gb, 0, none⟩)), SV.eq (.pointer (some ⟨gb, 0, none⟩)), SV.eq (.pointer (some ⟨gb, 4, none⟩)), SV.eq (sv), SV.eq (.pointer (some ⟨g4, 1, none⟩)), SV.eq (.int .i64 (x.saga)), SV.eq (.pointer (some ⟨c, k * 10, none⟩)), SV.eq ((.agg (rowA 10 (sgF sv0 p.2)))), SV.eq (.agg (rowA 109 (recF x su dv))), SV.eq (.int .i64 (lim)), SV.eq ((.tuple #[.agg (rowA 10 (sgF sv0 (wentG p.1 lim p.2 x))), .bool (goesB p.1 lim p.2 x)])), SV.eq ((.tuple #[.agg (rowA 10 (sgF sv0 (wentG p.1 lim p.2 x))), .bool (goesB p.1 lim p.2 x)])), SV.eq ((.agg (rowA 10 (sgF sv0 (wentG p.1 lim p.2 x))))), SV.eq (.bool (goesB p.1 lim p.2 x)), svPtV, SV.any] [([(0, none)], none), ([(18, some 0)], none), ([(19, some 1)], none), ([(20, some 2)], none), ([(4, none)], none), ([(22, some 4)], none), ([(21, some 3), (23, some 5)], none), ([(24, some 6)], none), ([(4, none)], none), ([(2, none)], none), ([(25, some 7), (26, some 8), (27, some 9)], none), ([(28, some 10)], none), ([(17, some 11)], none), ([(17, some 11)], none), ([], none), ([(7, some 14), (29, some 12)], none)] [none, none, none, none, none, none, none, none, none, none, none, none, none, none, some 0, some 1] [14, 15] 40 rfl (by kernel_rfl) rfl (by kernel_rfl) (by kernel_rfl) rfl (by kernel_rfl) (BelT.trans w2) (BelT.drew w2 _) (.inl rfl) (Nat.le_of_ble_eq_true rfl) ⟨?_, ?_, ?_, ?_, ?_, ?_, ?_, ?_, ?_, ?_, ?_, ?_, ?_, ?_, ?_, ?_, trivial⟩ ?_
    · intro a wx hT hF K hK
      replace hT : NewT w2 wx := hT
      replace hK := fun v w' (hN : NewT wx w') hv => hK v w' (BelT.new hT hN) (fun k h => JV.keep h (by simp) hN (fun F h => h)) hv
      obtain ⟨f0, _⟩ := hF
      have f0 : a.tmps.getD 0 undef = .pointer (some ⟨gb, 0, none⟩) := f0
      refine rely_wp rfl ?_
      exact opr_move (.inl rfl) (hK _ _ (NewT.refl _) f0)
    · intro a wx hT hF K hK
      replace hT : NewT w2 wx := hT
      replace hK := fun v w' (hN : NewT wx w') hv => hK v w' (BelT.new hT hN) (fun k h => JV.keep h (by simp) hN (fun F h => h)) hv
      obtain ⟨f18, _⟩ := hF
      have f18 : a.tmps.getD 18 undef = .pointer (some ⟨gb, 0, none⟩) := f18
      refine rely_wp rfl ?_
      exact opr_nilc rfl f18 (hK _ _ (NewT.refl _) rfl)
    · intro a wx hT hF K hK
      replace hT : NewT w2 wx := hT
      replace hK := fun v w' (hN : NewT wx w') hv => hK v w' (BelT.new hT hN) (fun k h => JV.keep h (by simp) hN (fun F h => h)) hv
      obtain ⟨f19, _⟩ := hF
      have f19 : a.tmps.getD 19 undef = .pointer (some ⟨gb, 0, none⟩) := f19
      refine rely_wp rfl ?_
      exact opr_fldK1 rfl f19 (hK _ _ (NewT.refl _) rfl)
    · intro a wx hT hF K hK
      replace hT : NewT w2 wx := hT
      replace hK := fun v w' (hN : NewT wx w') hv => hK v w' (BelT.new hT hN) (fun k h => JV.keep h (by simp) hN (fun F h => h)) hv
      obtain ⟨f20, _⟩ := hF
      have f20 : a.tmps.getD 20 undef = .pointer (some ⟨gb, 4, none⟩) := f20
      refine rely_wp rfl ?_
      exact opr_ldUs (hT.row Rgb.out) (by decide) rfl rfl f20 (hK _ _ (NewT.refl _) rfl)
    · intro a wx hT hF K hK
      replace hT : NewT w2 wx := hT
      replace hK := fun v w' (hN : NewT wx w') hv => hK v w' (BelT.new hT hN) (fun k h => JV.keep h (by simp) hN (fun F h => h)) hv
      obtain ⟨f4, _⟩ := hF
      have f4 : a.tmps.getD 4 undef = .pointer (some ⟨g4, 0, none⟩) := f4
      refine rely_wp rfl ?_
      exact opr_fldR (by decide) rfl f4 (hK _ _ (NewT.refl _) rfl)
    · intro a wx hT hF K hK
      replace hT : NewT w2 wx := hT
      replace hK := fun v w' (hN : NewT wx w') hv => hK v w' (BelT.new hT hN) (fun k h => JV.keep h (by simp) hN (fun F h => h)) hv
      obtain ⟨f22, _⟩ := hF
      have f22 : a.tmps.getD 22 undef = .pointer (some ⟨g4, 1, none⟩) := f22
      refine rely_wp rfl ?_
      exact opr_ldI (hT.row Rg4.out) (by decide) rfl rfl f22 (hK _ _ (NewT.refl _) rfl)
    · intro a wx hT hF K hK
      replace hT : NewT w2 wx := hT
      replace hK := fun v w' (hN : NewT wx w') hv => hK v w' (BelT.new hT hN) (fun k h => JV.keep h (by simp) hN (fun F h => h)) hv
      obtain ⟨f21, f23, _⟩ := hF
      have f21 : a.tmps.getD 21 undef = sv := f21
      have f23 : a.tmps.getD 23 undef = .int .i64 (x.saga) := f23
      refine rely_wp rfl ?_
      exact opr_idxX sagaEl HKL.out.1 HK.out rfl (by rw [eval_tmp, f21]; exact HCV.out) f23 (hK _ _ (NewT.refl _) rfl)
    · intro a wx hT hF K hK
      replace hT : NewT w2 wx := hT
      replace hK := fun v w' (hN : NewT wx w') hv => hK v w' (BelT.new hT hN) (fun k h => JV.keep h (by simp) hN (fun F h => h)) hv
      obtain ⟨f24, _⟩ := hF
      have f24 : a.tmps.getD 24 undef = .pointer (some ⟨c, k * 10, none⟩) := f24
      refine rely_wp rfl ?_
      exact opr_ldX (off := k * 10) sagaEl (fun j hj => by rw [(hT.row Rc.out).cell (mul_row (by have := HKL.out; omega) hj), HCF.out k _ HKL.out.2.1 j hj]) rfl f24 (hK _ _ (NewT.refl _) rfl)
    · intro a wx hT hF K hK
      replace hT : NewT w2 wx := hT
      replace hK := fun v w' (hN : NewT wx w') hv => hK v w' (BelT.new hT hN) (fun k h => JV.keep h (by simp) hN (fun F h => h)) hv
      obtain ⟨f4, _⟩ := hF
      have f4 : a.tmps.getD 4 undef = .pointer (some ⟨g4, 0, none⟩) := f4
      refine rely_wp rfl ?_
      exact opr_ldR (hT.row Rg4.out) rfl f4 (hK _ _ (NewT.refl _) rfl)
    · intro a wx hT hF K hK
      replace hT : NewT w2 wx := hT
      replace hK := fun v w' (hN : NewT wx w') hv => hK v w' (BelT.new hT hN) (fun k h => JV.keep h (by simp) hN (fun F h => h)) hv
      obtain ⟨f2, _⟩ := hF
      have f2 : a.tmps.getD 2 undef = .int .i64 (lim) := f2
      refine rely_wp rfl ?_
      exact opr_move (.inl rfl) (hK _ _ (NewT.refl _) f2)
    · intro a wx hT hF K hK
      replace hT : NewT w2 wx := hT
      replace hK := fun v w' (hN : NewT wx w') hv => hK v w' (BelT.new hT hN) (fun k h => JV.keep h (by simp) hN (fun F h => h)) hv
      obtain ⟨f25, f26, f27, _⟩ := hF
      have f25 : a.tmps.getD 25 undef = (.agg (rowA 10 (sgF sv0 p.2))) := f25
      have f26 : a.tmps.getD 26 undef = .agg (rowA 109 (recF x su dv)) := f26
      have f27 : a.tmps.getD 27 undef = .int .i64 (lim) := f27
      refine rely_wp rfl ?_
      exact opr_cv (Go_cv sv0 p.1 p.2 x _ lim wx (hT.pairs (HM.out.pairs HS0.out)) ((NewT.trans _ _ _ HM.out hT).recV HX.out) HOK.out) rfl Try.func22 (by kernel_rfl) (by kernel_rfl) (by simp only [List.map_toArray, List.map_cons, List.map_nil, eval_tmp, f25, f26, f27]) hK
    · intro a wx hT hF K hK
      replace hT : NewT w2 wx := hT
      replace hK := fun v w' (hN : NewT wx w') hv => hK v w' (BelT.new hT hN) (fun k h => JV.keep h (by simp) hN (fun F h => h)) hv
      obtain ⟨f28, _⟩ := hF
      have f28 : a.tmps.getD 28 undef = (.tuple #[.agg (rowA 10 (sgF sv0 (wentG p.1 lim p.2 x))), .bool (goesB p.1 lim p.2 x)]) := f28
      refine rely_wp rfl ?_
      exact opr_move (.inl rfl) (hK _ _ (NewT.refl _) f28)
    · intro a wx hT hF K hK
      replace hT : NewT w2 wx := hT
      replace hK := fun v w' (hN : NewT wx w') hv => hK v w' (BelT.new hT hN) (fun k h => JV.keep h (by simp) hN (fun F h => h)) hv
      obtain ⟨f17, _⟩ := hF
      have f17 : a.tmps.getD 17 undef = (.tuple #[.agg (rowA 10 (sgF sv0 (wentG p.1 lim p.2 x))), .bool (goesB p.1 lim p.2 x)]) := f17
      refine rely_wp rfl ?_
      exact opr_ext rfl f17 rfl (hK _ _ (NewT.refl _) rfl)
    · intro a wx hT hF K hK
      replace hT : NewT w2 wx := hT
      replace hK := fun v w' (hN : NewT wx w') hv => hK v w' (BelT.new hT hN) (fun k h => JV.keep h (by simp) hN (fun F h => h)) hv
      obtain ⟨f17, _⟩ := hF
      have f17 : a.tmps.getD 17 undef = (.tuple #[.agg (rowA 10 (sgF sv0 (wentG p.1 lim p.2 x))), .bool (goesB p.1 lim p.2 x)]) := f17
      refine rely_wp rfl ?_
      exact opr_ext rfl f17 rfl (hK _ _ (NewT.refl _) rfl)
    · intro a wx hT hF hJ K hK
      replace hT : NewT w2 wx := hT
      refine rely_wp rfl ?_
      refine opr_allocV rfl run_alloc_saga ?_
      exact hK _ _ (BelT.new hT (NewT.alloc _ _)) (JV.make hT) ⟨_, rfl⟩
    · intro a wx hT hF hJ K hK
      replace hT : NewT w2 wx := hT
      obtain ⟨f7, f29, _⟩ := hF
      replace f7 := show (svPtV).pred (a.tmps.getD 7 undef) wx from f7
      have f29 : a.tmps.getD 29 undef = (.agg (rowA 10 (sgF sv0 (wentG p.1 lim p.2 x)))) := f29
      refine rely_wp rfl ?_
      obtain ⟨gv, hgv⟩ := f7
      obtain ⟨hB1, hr1⟩ := JV.at1 hJ hgv
      refine opr_putm (g := gv) (o0 := 0) (m := 10) (f := sgF sv0 ((wentG p.1 lim p.2 x))) (F := sgF sv0 ((wentG p.1 lim p.2 x))) rfl hgv f29 hr1 (by decide) info_saga (sgF_one _ _ (oneP HS0.out)) (put_allN _ _ _) ?_
      intro w' hR hr2
      exact hK _ _ (BelT.rt hB1 hR) (JV.mk2 hgv hB1 hr2 (rfl)) trivial
    · intro w3 k3
      iterate 14 (intro u h; obtain rfl := Eq.symm (h (by simp)); clear h)
      intro u h; obtain ⟨p7, hv⟩ := (h (by simp)); clear h; subst hv
      intro _ _
      refine relyEnd_nil rfl ?_
      intro hJ
      simp only [Act.put, List.setIfInBounds_toArray, List.set_cons_zero, List.set_cons_succ]
      obtain ⟨Fz, hBz, hrz, hGz⟩ := JV.at2 (g := p7) hJ (by kernel_rfl)
      refine opr_move (.inr rfl) ?_
      go_simp
      subst hGz
      replace k3 : NewT w2 w3 := k3
      obtain ⟨g7, h_g7⟩ : ∃ g_, p7 = g_ := ⟨_, rfl⟩
      rw [h_g7] at hrz hBz
      simp only [h_g7]
      have HGg7 : Hid (gb < g7 ∧ g4 < g7 ∧ c < g7 ∧ w.heap.size ≤ g7) := Lib.hid ⟨Nat.lt_of_lt_of_le Rgb.out.lt hBz, Nat.lt_of_lt_of_le Rg4.out.lt hBz, Nat.lt_of_lt_of_le Rc.out.lt hBz, Nat.le_trans HM.out.out.size hBz⟩
      clear h_g7 hBz hJ
      replace Rgb := Lib.hid (k3.row Rgb.out)
      replace Rg4 := Lib.hid (k3.row Rg4.out)
      replace Rc := Lib.hid (k3.row Rc.out)
      replace HM := Lib.hid (NewT.trans _ _ _ HM.out k3)
      clear k3
      have Rg7 := Lib.hid hrz
      clear hrz
      go_upto_region 4 with fail
      refine wp_region_rely (NewT) [SV.eq (.pointer (some ⟨gb, 0, none⟩)), SV.eq (.pointer (some ⟨gb, 0, none⟩)), SV.eq (.pointer (some ⟨gb, 4, none⟩)), SV.eq (sv), SV.eq (.pointer (some ⟨g4, 1, none⟩)), SV.eq (.int .i64 (x.saga)), SV.eq (.agg (rowA 10 (sgF sv0 ((wentG p.1 lim p.2 x))))), SV.eq (.pointer (some ⟨c, k * 10, none⟩))] [([(0, none)], none), ([(31, some 0)], none), ([(32, some 1)], none), ([(33, some 2)], none), ([(4, none)], none), ([(35, some 4)], none), ([(7, none)], none), ([(34, some 3), (36, some 5)], none)] 40 rfl (by kernel_rfl) rfl (by kernel_rfl) (by kernel_rfl) rfl NewT.trans (NewT.drew _) (Nat.le_of_ble_eq_true rfl) ⟨?_, ?_, ?_, ?_, ?_, ?_, ?_, ?_, trivial⟩ ?_
      · exact fun a wx hT hF K hK => rely_wp rfl (opr_move (.inl rfl) (hK _ _ (NewT.refl _) hF.1))
      · exact fun a wx hT hF K hK => rely_wp rfl (opr_nilc rfl hF.1 (hK _ _ (NewT.refl _) rfl))
      · exact fun a wx hT hF K hK => rely_wp rfl (opr_fldK1 rfl hF.1 (hK _ _ (NewT.refl _) rfl))
      · exact fun a wx hT hF K hK => rely_wp rfl (opr_ldUs (hT.row Rgb.out) (by decide) rfl rfl hF.1 (hK _ _ (NewT.refl _) rfl))
      · exact fun a wx hT hF K hK => rely_wp rfl (opr_fldR (by decide) rfl hF.1 (hK _ _ (NewT.refl _) rfl))
      · exact fun a wx hT hF K hK => rely_wp rfl (opr_ldI (hT.row Rg4.out) (by decide) rfl rfl hF.1 (hK _ _ (NewT.refl _) rfl))
      · exact fun a wx hT hF K hK => rely_wp rfl (opr_ldU (hT.row Rg7.out) rfl hF.1 (hK _ _ (NewT.refl _) rfl))
      · intro a wx hT hF K hK
        obtain ⟨f34, f36, _⟩ := hF
        have f34 : a.tmps.getD 34 undef = sv := f34
        have f36 : a.tmps.getD 36 undef = .int .i64 (x.saga) := f36
        refine rely_wp rfl ?_
        exact opr_idxX sagaEl HKL.out.1 HK.out rfl (by rw [eval_tmp, f34]; exact HCV.out) f36 (hK _ _ (NewT.refl _) rfl)
      · intro w4 k4
        iterate 8 (intro u h; obtain rfl := Eq.symm (h (by simp)); clear h)
        refine relyEnd_nil rfl ?_
        simp only [Act.put, List.setIfInBounds_toArray, List.set_cons_zero, List.set_cons_succ]
        refine opr_putm (g := c) (o0 := k * 10) (m := 10) (f := sgF sv0 (wentG p.1 lim p.2 x)) (F := (fun z => if k * 10 ≤ z ∧ z < k * 10 + 10 then sgF sv0 (wentG p.1 lim p.2 x) (z - k * 10) else F0 z)) rfl rfl rfl (k4.row Rc.out) (by have := HKL.out; have : (k + 1) * 10 ≤ cap * 10 := Nat.mul_le_mul_right 10 (by omega); omega) info_saga (sgF_one _ _ (oneP HS0.out)) (fun i _ => rfl) ?_
        intro W4 hR rr
        go_simp
        have hgc : gb ≠ c := by have := HBC.out; omega
        have hNW : NewT w w4 := NewT.trans _ _ _ HM.out k4
        have hEW : NewT WE W4 := NewT.of ((NewT.trans _ _ _ HP.out.elder hNW).out.trans (hR.below.mono (by have := HP.out.size; have := HBC.out; omega)))
        have hrg := hR.row hgc (k4.row Rgb.out)
        have hrd : RdE 10 W4 sv (fs.set k (sgF sv0 (wentG p.1 lim p.2 x))) := by
          have := rdE_rowc (l := fs.set k (sgF sv0 (wentG p.1 lim p.2 x))) rr (by simpa using HKL.out.2.2.1) HKL.out.2.2.2 (set_rows HKL.out.1 HCF.out)
          rw [HCV.out]
          simpa using this
        go_wp2
        go_ret
        refine ⟨sv, by rw [HF.out]; rfl, (hNW.out.mono (by have := HBC.out; have := HCN.out; omega)).trans (hR.below.mono HBC.out.1), (KeepBut.below hNW).trans (hR.keep.more (by rw [HCV.out]; simp [Value.ownBlock])), by rw [HN.out]; exact hrg, by rw [HN.out]; exact wayOut_set (p := (p.1, wentG p.1 lim p.2 x)) HP.out hrd HSE.out⟩
set_option maxHeartbeats 4000000 in
theorem rotates_c (D : Nat) (w WE : World) (B gb : Nat) (sv xv : Value) (fs : List (Nat → Value)) (bk : Bk) (x : Rc) (lim : Int) (hp : WayPre D w WE B gb sv fs bk) (hx : RecV WE xv x) (hok : OkK bk) (hr : rightB x = true) : Calls Try.prog 62 #[.pointer (some ⟨gb, 0, none⟩), xv, .int .i64 lim] w (WayPost D WE B gb w sv (rotB bk x) (rotN bk x)) := by
  obtain ⟨su, dv, rfl, hsx, hd⟩ := hx
  have HP := Lib.hid hp
  have HSV : Hid (RdU w sv bk.sg) := Lib.hid hp.rd
  have HX : Hid (RecV w (.agg (rowA 109 (recF x su dv))) x) := Lib.hid ⟨su, dv, rfl, hp.elder.pairs hsx, hp.elder.rd hd⟩
  have HSX := Lib.hid (hp.elder.pairs hsx)
  have HD := Lib.hid (hp.elder.rd hd)
  have HSXE := Lib.hid hsx
  have HDE := Lib.hid hd
  clear hsx hd hp
  have Hok := Lib.hid hok
  have Hr := Lib.hid hr
  clear hok hr
  go_enter Try.func62, Try.ntmps62
  go_upto_region 1 with fail
  have r_g4 := rowIs_box w 46 109 (recF x su dv)
  have hN : NewT w (w.alloc (.cells (rowA 109 (recF x su dv)) 46)) := NewT.alloc _ _
  change Code.wp _ _ _ _ (w.alloc (.cells (rowA 109 (recF x su dv)) 46))
  generalize (w.alloc (.cells (rowA 109 (recF x su dv)) 46)) = W0 at r_g4 hN ⊢
  obtain ⟨g4, h_g4⟩ : ∃ g_, w.heap.size = g_ := ⟨_, rfl⟩
  have HG : Hid (w.heap.size ≤ g4) := Lib.hid (by omega)
  rw [h_g4] at r_g4
  simp only [h_g4]
  have Rg4 := Lib.hid r_g4
  have HM := Lib.hid hN
  clear r_g4 hN h_g4
  have HGB : Hid (gb < w.heap.size ∧ B ≤ gb) := Lib.hid ⟨HP.out.row.lt, HP.out.at_⟩
  have Rgb : Hid (W0.rowIs gb 28 5 (bkF bk.ep sv)) := Lib.hid (HM.out.row HP.out.row)
  obtain ⟨c, hc⟩ : ∃ c : Nat, x.part = (c : Int) := ⟨x.part.toNat, by have := (right_part Hr.out).1; omega⟩
  have HC := Lib.hid hc
  have HC4 : Hid (c < 4) := Lib.hid (by have := (right_part Hr.out).2; omega)
  have HEP : Hid (0 ≤ bk.ep c ∧ bk.ep c ≤ 1000000) := Lib.hid (Hok.out.ep c)
  have HF : Hid (rotB bk x = (x.epoch == bk.ep c + 1)) := Lib.hid (by unfold rotB; rw [hc, Int.toNat_natCast])
  have HX2 : Hid (rotK bk x = { bk with ep := fun i => if i = c then x.epoch else bk.ep i }) := Lib.hid (by unfold rotK; rw [hc, Int.toNat_natCast])
  clear hc
  refine wp_region_rely (NewT) [SV.eq (.pointer (some ⟨g4, 9, none⟩)), SV.eq (.int .i64 (x.epoch)), SV.eq (.pointer (some ⟨gb, 0, none⟩)), SV.eq (.pointer (some ⟨g4, 8, none⟩)), SV.eq (.int .i64 (x.part)), SV.eq (.pointer (some ⟨gb, 0, none⟩)), SV.eq (.pointer (some ⟨gb, 0, none⟩)), SV.eq (.pointer (some ⟨gb, c, none⟩)), SV.eq (.int .i64 (bk.ep c)), SV.eq (.int .i64 (bk.ep c + 1))] [([(4, none)], none), ([(7, some 0)], none), ([(0, none)], none), ([(4, none)], none), ([(10, some 3)], none), ([(9, some 2)], none), ([(12, some 5)], none), ([(13, some 6), (11, some 4)], none), ([(14, some 7)], none), ([(15, some 8)], none)] 26 rfl (by kernel_rfl) rfl (by kernel_rfl) (by kernel_rfl) rfl NewT.trans (NewT.drew _) (Nat.le_of_ble_eq_true rfl) ⟨?_, ?_, ?_, ?_, ?_, ?_, ?_, ?_, ?_, ?_, trivial⟩ ?_
  · exact fun a wx hT hF K hK => rely_wp rfl (opr_fldR (by decide) rfl hF.1 (hK _ _ (NewT.refl _) rfl))
  · exact fun a wx hT hF K hK => rely_wp rfl (opr_ldI (hT.row Rg4.out) (by decide) rfl rfl hF.1 (hK _ _ (NewT.refl _) rfl))
  · exact fun a wx hT hF K hK => rely_wp rfl (opr_move (.inl rfl) (hK _ _ (NewT.refl _) hF.1))
  · exact fun a wx hT hF K hK => rely_wp rfl (opr_fldR (by decide) rfl hF.1 (hK _ _ (NewT.refl _) rfl))
  · exact fun a wx hT hF K hK => rely_wp rfl (opr_ldI (hT.row Rg4.out) (by decide) rfl rfl hF.1 (hK _ _ (NewT.refl _) rfl))
  · exact fun a wx hT hF K hK => rely_wp rfl (opr_nilc rfl hF.1 (hK _ _ (NewT.refl _) rfl))
  · exact fun a wx hT hF K hK => rely_wp rfl (opr_fldK0 rfl hF.1 (hK _ _ (NewT.refl _) rfl))
  · exact fun a wx hT hF K hK => rely_wp rfl (opr_idxEp (k := c) (HC4.out) (HC.out) rfl hF.1 hF.2.1 (hK _ _ (NewT.refl _) rfl))
  · exact fun a wx hT hF K hK => rely_wp rfl (opr_ldI (hT.row Rgb.out) (Nat.lt_succ_of_lt (HC4.out)) (bkF_ep (HC4.out)) rfl hF.1 (hK _ _ (NewT.refl _) rfl))
  · exact fun a wx hT hF K hK => rely_wp rfl (opr_add (r := bk.ep c + 1) Try.underlying3 (by have := HEP.out; unfold wrap64; omega) rfl hF.1 rfl (hK _ _ (NewT.refl _) rfl))
  · intro w1 k1
    iterate 10 (intro u h; obtain rfl := Eq.symm (h (by simp)); clear h)
    refine relyEnd_nil rfl ?_
    simp only [Act.put, List.setIfInBounds_toArray, List.set_cons_zero, List.set_cons_succ]
    refine opr_cmp (b := x.epoch != (bk.ep c + 1)) (.inr (.inl ⟨rfl, rfl⟩)) Try.underlying3 rfl rfl rfl ?_
    go_simp
    replace Rgb := Lib.hid (k1.row Rgb.out)
    replace Rg4 := Lib.hid (k1.row Rg4.out)
    replace HM := Lib.hid (NewT.trans _ _ _ HM.out k1)
    clear k1
    cases hb : (x.epoch != bk.ep c + 1)
    · have hE : (x.epoch == bk.ep c + 1) = true := by rw [bne_eq_false_iff_eq] at hb; rw [hb]; simp
      have HN : Hid (rotN bk x = { bk with ep := fun i => if i = c then x.epoch else bk.ep i }) := Lib.hid (by unfold rotN; rw [HF.out, hE, if_pos rfl, HX2.out])
      replace HF : Hid (rotB bk x = true) := Lib.hid (HF.out.trans hE)
      clear hb hE
      go_upto_region 3 with fail
      refine wp_region_rely (NewT) [SV.eq (.pointer (some ⟨gb, 0, none⟩)), SV.eq (.pointer (some ⟨g4, 8, none⟩)), SV.eq (.int .i64 (x.part)), SV.eq (.pointer (some ⟨g4, 9, none⟩)), SV.eq (.int .i64 (x.epoch)), SV.eq (.pointer (some ⟨gb, 0, none⟩)), SV.eq (.pointer (some ⟨gb, 0, none⟩)), SV.eq (.pointer (some ⟨gb, c, none⟩))] [([(0, none)], none), ([(4, none)], none), ([(19, some 1)], none), ([(4, none)], none), ([(21, some 3)], none), ([(18, some 0)], none), ([(23, some 5)], none), ([(24, some 6), (20, some 2)], none)] 26 rfl (by kernel_rfl) rfl (by kernel_rfl) (by kernel_rfl) rfl NewT.trans (NewT.drew _) (Nat.le_of_ble_eq_true rfl) ⟨?_, ?_, ?_, ?_, ?_, ?_, ?_, ?_, trivial⟩ ?_
      · exact fun a wx hT hF K hK => rely_wp rfl (opr_move (.inl rfl) (hK _ _ (NewT.refl _) hF.1))
      · exact fun a wx hT hF K hK => rely_wp rfl (opr_fldR (by decide) rfl hF.1 (hK _ _ (NewT.refl _) rfl))
      · exact fun a wx hT hF K hK => rely_wp rfl (opr_ldI (hT.row Rg4.out) (by decide) rfl rfl hF.1 (hK _ _ (NewT.refl _) rfl))
      · exact fun a wx hT hF K hK => rely_wp rfl (opr_fldR (by decide) rfl hF.1 (hK _ _ (NewT.refl _) rfl))
      · exact fun a wx hT hF K hK => rely_wp rfl (opr_ldI (hT.row Rg4.out) (by decide) rfl rfl hF.1 (hK _ _ (NewT.refl _) rfl))
      · exact fun a wx hT hF K hK => rely_wp rfl (opr_nilc rfl hF.1 (hK _ _ (NewT.refl _) rfl))
      · exact fun a wx hT hF K hK => rely_wp rfl (opr_fldK0 rfl hF.1 (hK _ _ (NewT.refl _) rfl))
      · exact fun a wx hT hF K hK => rely_wp rfl (opr_idxEp (k := c) (HC4.out) (HC.out) rfl hF.1 hF.2.1 (hK _ _ (NewT.refl _) rfl))
      · intro w2 k2
        iterate 8 (intro u h; obtain rfl := Eq.symm (h (by simp)); clear h)
        refine relyEnd_nil rfl ?_
        simp only [Act.put, List.setIfInBounds_toArray, List.set_cons_zero, List.set_cons_succ]
        refine opr_put1 (F := bkF (fun j => if j = c then x.epoch else bk.ep j) sv) rfl rfl rfl (k2.row Rgb.out) (by have := HC4.out; omega) info_i1 rfl (fun i hi => bs_ep bk.ep sv c x.epoch HC4.out i hi) ?_
        intro W2 hR rr
        go_simp
        have hNW : NewT w w2 := NewT.trans _ _ _ HM.out k2
        have hEW : NewT WE W2 := NewT.of ((NewT.trans _ _ _ HP.out.elder hNW).out.trans (hR.below.mono (by have := HP.out.size; have := HGB.out; omega)))
        have ho := (HP.out.own.new hNW).rt hR (fun e => by have := HP.out.apart gb e; omega)
        go_wp2
        go_ret
        refine ⟨sv, by rw [HF.out]; rfl, (hNW.out.mono (by have := HGB.out; omega)).trans (hR.below.mono HGB.out.2), (KeepBut.below hNW).trans (hR.keep.more (by simp)), by rw [HN.out]; exact rr, by rw [HN.out]; exact wayOut_own (bk := bk) HP.out ho.rd⟩
    · have hE : (x.epoch == bk.ep c + 1) = false := by simpa [bne] using hb
      have HN : Hid (rotN bk x = bk) := Lib.hid (by unfold rotN; rw [HF.out, hE, if_neg (by simp)])
      replace HF : Hid (rotB bk x = false) := Lib.hid (HF.out.trans hE)
      clear hb hE
      go_wp2
      go_ret
      exact ⟨sv, by rw [HF.out]; rfl, HM.out.out.mono (Nat.le_trans HP.out.at_ (Nat.le_of_lt HP.out.row.lt)), KeepBut.below HM.out, by rw [HN.out]; exact Rgb.out, by rw [HN.out]; exact wayOut_own HP.out (HP.out.own.new HM.out).rd⟩
end Go.Proofs.Ytilmeffmdgcblaa
