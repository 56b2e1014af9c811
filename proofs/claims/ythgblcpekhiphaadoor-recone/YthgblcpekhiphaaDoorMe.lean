/- Package rec: inRange. -/
import Derived.Test.YthgblcpekhiphaaDoorMd
import Derived.Test.YthgblcpekhiphaaDoorMb
import Derived.Test.YthgblcpekhiphaaDoorMa
namespace Go.Proofs.YthgblcpekhiphaaDoor
open Go Go.RowKit
set_option maxRecDepth 8000
set_option maxHeartbeats 2000000 in
theorem inRange_cv (v : Value) (x : Rc) (w : World) (h : RecV w v x) : Cv 28 #[v] w (.eq (.bool (inRg x))) := by
  obtain ⟨sv, dv, rfl, hs, hd⟩ := h
  unfold Cv
  have HX : Hid (RecV w (.agg (rowA 109 (recF x sv dv))) x) := Lib.hid ⟨sv, dv, rfl, hs, hd⟩
  have HS := Lib.hid hs
  have HD := Lib.hid hd
  clear hs hd
  by_cases hk : x.kind = 1
  · have hI : inRg x = ((inR x.saga 0 11 && stepsOk x.steps) && decide ((x.data.length : Int) ≤ 60)) := by unfold inRg; simp only [hk]; simp
    rw [hI]
    clear hI
    go_enter Tryd.func28, Tryd.ntmps28
    go_upto_region 1 with fail
    have r1 := rowIs_box w 27 109 (recF x sv dv)
    have hN := NewT.alloc w (.cells (rowA 109 (recF x sv dv)) 27)
    change Code.wp _ _ _ _ (w.alloc (.cells (rowA 109 (recF x sv dv)) 27))
    generalize w.alloc (.cells (rowA 109 (recF x sv dv)) 27) = W0 at r1 hN ⊢
    have R1 := Lib.hid r1
    have HN := Lib.hid hN
    replace HX := Lib.hid (hN.recV HX.out)
    replace HS := Lib.hid (hN.pairs HS.out)
    replace HD := Lib.hid (hN.rd HD.out)
    clear r1 hN
    have c0 : W0.cell? ⟨w.heap.size, 0, none⟩ = some (.int .i64 x.kind) := R1.out.cell (by omega)
    rw [hk] at c0
    go_upto_region 8 with fail
    clear c0
    refine wp_region_steps (NewT) (fun _ _ => True) [SV.eq (.pointer (some ⟨w.heap.size, 1, none⟩)), SV.eq (.int .i64 (x.saga)), SV.eq (.bool (inR x.saga 0 11)), SV.eq (.bool (inR x.saga 0 11)), svIf (inR x.saga 0 11) (SV.eq (.pointer (some ⟨w.heap.size, 42, none⟩))), svIf (inR x.saga 0 11) (SV.eq (sv)), svIf (inR x.saga 0 11) (SV.eq (.bool (stepsOk x.steps))), SV.eq (.bool ((inR x.saga 0 11) && (stepsOk x.steps))), SV.eq (.bool ((inR x.saga 0 11) && (stepsOk x.steps))), svIf ((inR x.saga 0 11) && (stepsOk x.steps)) (SV.eq (.pointer (some ⟨w.heap.size, 43, none⟩))), svIf ((inR x.saga 0 11) && (stepsOk x.steps)) (SV.eq (dv)), svIf ((inR x.saga 0 11) && (stepsOk x.steps)) (SV.eq (.int .i64 ((List.length (x.data) : Int)))), svIf ((inR x.saga 0 11) && (stepsOk x.steps)) (SV.eq (.bool (decide (((List.length (x.data) : Int)) ≤ 60)))), SV.eq (.bool (((inR x.saga 0 11) && (stepsOk x.steps)) && (decide (((List.length (x.data) : Int)) ≤ 60)))), SV.eq (.bool (((inR x.saga 0 11) && (stepsOk x.steps)) && (decide (((List.length (x.data) : Int)) ≤ 60))))] [([(1, none)], none), ([(16, some 0)], none), ([(17, some 1)], none), ([(18, some 2)], none), ([(1, none), (19, some 3)], some (19, true)), ([(20, some 4), (19, some 3)], some (19, true)), ([(21, some 5), (19, some 3)], some (19, true)), ([(19, some 3), (22, some 6)], none), ([(23, some 7)], none), ([(1, none), (24, some 8)], some (24, true)), ([(25, some 9), (24, some 8)], some (24, true)), ([(26, some 10), (24, some 8)], some (24, true)), ([(27, some 11), (24, some 8)], some (24, true)), ([(24, some 8), (28, some 12)], none), ([(29, some 13)], none)] 79 15 rfl rfl (by kernel_rfl) NewT.trans (NewT.refl _) trivial (Nat.le_of_ble_eq_true rfl) ⟨?_, ?_, ?_, ?_, ?_, ?_, ?_, ?_, ?_, ?_, ?_, ?_, ?_, ?_, ?_, trivial⟩ ?_
    · -- 0: Op.fieldAddr 27 t1 1
      intro a wx hT hF _ K hK
      replace hK := fun v w' (h : NewT wx w') c => hK v w' h trivial c
      obtain ⟨f1, _⟩ := hF
      have f1 : a.tmps.getD 1 undef = .pointer (some ⟨w.heap.size, 0, none⟩) := f1
      refine rely_wp rfl ?_
      exact opr_fldR (by decide) rfl f1 (hK _ _ (NewT.refl _) rfl)
    · -- 1: Op.load 3 t16
      intro a wx hT hF _ K hK
      replace hK := fun v w' (h : NewT wx w') c => hK v w' h trivial c
      obtain ⟨f16, _⟩ := hF
      have f16 : a.tmps.getD 16 undef = .pointer (some ⟨w.heap.size, 1, none⟩) := f16
      refine rely_wp rfl ?_
      exact opr_ldI (hT.row R1.out) (by decide) rfl rfl f16 (hK _ _ (NewT.refl _) rfl)
    · -- 2: Op.call ( value (Operand.func 48), args := #[t17], argTypes := #[3] )
      intro a wx hT hF _ K hK
      replace hK := fun v w' (h : NewT wx w') c => hK v w' h trivial c
      obtain ⟨f17, _⟩ := hF
      have f17 : a.tmps.getD 17 undef = .int .i64 (x.saga) := f17
      refine rely_wp rfl ?_
      exact opr_cv (isSaga_cv x.saga wx) rfl Tryd.func48 (by kernel_rfl) (by kernel_rfl) (by simp only [List.map_toArray, List.map_cons, List.map_nil, eval_tmp, f17]) hK
    · -- 3: Op.move t18
      intro a wx hT hF _ K hK
      replace hK := fun v w' (h : NewT wx w') c => hK v w' h trivial c
      obtain ⟨f18, _⟩ := hF
      have f18 : a.tmps.getD 18 undef = .bool (inR x.saga 0 11) := f18
      refine rely_wp rfl ?_
      exact opr_move (.inl rfl) (hK _ _ (NewT.refl _) f18)
    · -- 4: Op.fieldAddr 27 t1 11
      intro a wx hT hF _ K hK
      replace hK := fun v w' (h : NewT wx w') c => hK v w' h trivial c
      obtain ⟨f1, f19, _⟩ := hF
      have f1 : a.tmps.getD 1 undef = .pointer (some ⟨w.heap.size, 0, none⟩) := f1
      have f19 : a.tmps.getD 19 undef = .bool (inR x.saga 0 11) := f19
      refine rely_on (rely_gt f19) (fun hE => ?_) (fun hE => hK _ _ (NewT.refl _) (svIf_off hE))
      replace hK := fun v w' (h : NewT wx w') (c : (SV.eq (.pointer (some ⟨w.heap.size, 42, none⟩))).pred v w') => hK v w' h (fun _ => c)
      exact opr_fldR (by decide) rfl f1 (hK _ _ (NewT.refl _) rfl)
    · -- 5: Op.load 24 t20
      intro a wx hT hF _ K hK
      replace hK := fun v w' (h : NewT wx w') c => hK v w' h trivial c
      obtain ⟨f20, f19, _⟩ := hF
      have f20 : (inR x.saga 0 11) = true → a.tmps.getD 20 undef = .pointer (some ⟨w.heap.size, 42, none⟩) := f20
      have f19 : a.tmps.getD 19 undef = .bool (inR x.saga 0 11) := f19
      refine rely_on (rely_gt f19) (fun hE => ?_) (fun hE => hK _ _ (NewT.refl _) (svIf_off hE))
      replace hK := fun v w' (h : NewT wx w') (c : (SV.eq (sv)).pred v w') => hK v w' h (fun _ => c)
      exact opr_ldS (hT.row R1.out) (by decide) rfl rfl (f20 hE) (hK _ _ (NewT.refl _) rfl)
    · -- 6: Op.call ( value (Operand.func 49), args := #[t21], argTypes := #[24] )
      intro a wx hT hF _ K hK
      replace hK := fun v w' (h : NewT wx w') c => hK v w' h trivial c
      obtain ⟨f21, f19, _⟩ := hF
      have f21 : (inR x.saga 0 11) = true → a.tmps.getD 21 undef = sv := f21
      have f19 : a.tmps.getD 19 undef = .bool (inR x.saga 0 11) := f19
      refine rely_on (rely_gt f19) (fun hE => ?_) (fun hE => hK _ _ (NewT.refl _) (svIf_off hE))
      replace hK := fun v w' (h : NewT wx w') (c : (SV.eq (.bool (stepsOk x.steps))).pred v w') => hK v w' h (fun _ => c)
      exact opr_cv (areSteps_cv _ x.steps wx (hT.pairs HS.out)) rfl Tryd.func49 (by kernel_rfl) (by kernel_rfl) (by simp only [List.map_toArray, List.map_cons, List.map_nil, eval_tmp, (f21 hE)]) hK
    · -- 7: Op.pick t19 t22 (const (Value.bool false))
      intro a wx hT hF _ K hK
      replace hK := fun v w' (h : NewT wx w') c => hK v w' h trivial c
      obtain ⟨f19, f22, _⟩ := hF
      have f19 : a.tmps.getD 19 undef = .bool (inR x.saga 0 11) := f19
      have f22 : (inR x.saga 0 11) = true → a.tmps.getD 22 undef = .bool (stepsOk x.steps) := f22
      refine rely_wp rfl ?_
      exact opr_pick_b rfl f19 (fun hb => hK _ _ (NewT.refl _) (pk_and1 (f22 hb) hb)) (fun hb => hK _ _ (NewT.refl _) (pk_and0 hb))
    · -- 8: Op.move t23
      intro a wx hT hF _ K hK
      replace hK := fun v w' (h : NewT wx w') c => hK v w' h trivial c
      obtain ⟨f23, _⟩ := hF
      have f23 : a.tmps.getD 23 undef = .bool ((inR x.saga 0 11) && (stepsOk x.steps)) := f23
      refine rely_wp rfl ?_
      exact opr_move (.inl rfl) (hK _ _ (NewT.refl _) f23)
    · -- 9: Op.fieldAddr 27 t1 12
      intro a wx hT hF _ K hK
      replace hK := fun v w' (h : NewT wx w') c => hK v w' h trivial c
      obtain ⟨f1, f24, _⟩ := hF
      have f1 : a.tmps.getD 1 undef = .pointer (some ⟨w.heap.size, 0, none⟩) := f1
      have f24 : a.tmps.getD 24 undef = .bool ((inR x.saga 0 11) && (stepsOk x.steps)) := f24
      refine rely_on (rely_gt f24) (fun hE => ?_) (fun hE => hK _ _ (NewT.refl _) (svIf_off hE))
      replace hK := fun v w' (h : NewT wx w') (c : (SV.eq (.pointer (some ⟨w.heap.size, 43, none⟩))).pred v w') => hK v w' h (fun _ => c)
      exact opr_fldR (by decide) rfl f1 (hK _ _ (NewT.refl _) rfl)
    · -- 10: Op.load 25 t25
      intro a wx hT hF _ K hK
      replace hK := fun v w' (h : NewT wx w') c => hK v w' h trivial c
      obtain ⟨f25, f24, _⟩ := hF
      have f25 : ((inR x.saga 0 11) && (stepsOk x.steps)) = true → a.tmps.getD 25 undef = .pointer (some ⟨w.heap.size, 43, none⟩) := f25
      have f24 : a.tmps.getD 24 undef = .bool ((inR x.saga 0 11) && (stepsOk x.steps)) := f24
      refine rely_on (rely_gt f24) (fun hE => ?_) (fun hE => hK _ _ (NewT.refl _) (svIf_off hE))
      replace hK := fun v w' (h : NewT wx w') (c : (SV.eq (dv)).pred v w') => hK v w' h (fun _ => c)
      exact opr_ldB (hT.row R1.out) (by decide) rfl rfl (f25 hE) (hK _ _ (NewT.refl _) rfl)
    · -- 11: Op.call ( builtin len, args := #[t26], argTypes := #[25] )
      intro a wx hT hF _ K hK
      replace hK := fun v w' (h : NewT wx w') c => hK v w' h trivial c
      obtain ⟨f26, f24, _⟩ := hF
      have f26 : ((inR x.saga 0 11) && (stepsOk x.steps)) = true → a.tmps.getD 26 undef = dv := f26
      have f24 : a.tmps.getD 24 undef = .bool ((inR x.saga 0 11) && (stepsOk x.steps)) := f24
      refine rely_on (rely_gt f24) (fun hE => ?_) (fun hE => hK _ _ (NewT.refl _) (svIf_off hE))
      replace hK := fun v w' (h : NewT wx w') (c : (SV.eq (.int .i64 ((List.length (x.data) : Int)))).pred v w') => hK v w' h (fun _ => c)
      exact opr_len_rd rfl (by rw [eval_tmp, (f26 hE)]; exact (hT.rd HD.out)) (hK _ _ (NewT.refl _) rfl)
    · -- 12: Op.binOp BinOp.leq 3 t27 (const (60:i64)) 3
      intro a wx hT hF _ K hK
      replace hK := fun v w' (h : NewT wx w') c => hK v w' h trivial c
      obtain ⟨f27, f24, _⟩ := hF
      have f27 : ((inR x.saga 0 11) && (stepsOk x.steps)) = true → a.tmps.getD 27 undef = .int .i64 ((List.length (x.data) : Int)) := f27
      have f24 : a.tmps.getD 24 undef = .bool ((inR x.saga 0 11) && (stepsOk x.steps)) := f24
      refine rely_on (rely_gt f24) (fun hE => ?_) (fun hE => hK _ _ (NewT.refl _) (svIf_off hE))
      replace hK := fun v w' (h : NewT wx w') (c : (SV.eq (.bool (decide (((List.length (x.data) : Int)) ≤ 60)))).pred v w') => hK v w' h (fun _ => c)
      exact opr_cmp (b := decide (((List.length (x.data) : Int)) ≤ 60)) (.inr (.inr (.inl ⟨rfl, rfl⟩))) Tryd.underlying3 rfl (f27 hE) rfl (hK _ _ (NewT.refl _) rfl)
    · -- 13: Op.pick t24 t28 (const (Value.bool false))
      intro a wx hT hF _ K hK
      replace hK := fun v w' (h : NewT wx w') c => hK v w' h trivial c
      obtain ⟨f24, f28, _⟩ := hF
      have f24 : a.tmps.getD 24 undef = .bool ((inR x.saga 0 11) && (stepsOk x.steps)) := f24
      have f28 : ((inR x.saga 0 11) && (stepsOk x.steps)) = true → a.tmps.getD 28 undef = .bool (decide (((List.length (x.data) : Int)) ≤ 60)) := f28
      refine rely_wp rfl ?_
      exact opr_pick_b rfl f24 (fun hb => hK _ _ (NewT.refl _) (pk_and1 (f28 hb) hb)) (fun hb => hK _ _ (NewT.refl _) (pk_and0 hb))
    · -- 14: Op.assign t29
      intro a wx hT hF _ K hK
      replace hK := fun v w' (h : NewT wx w') c => hK v w' h trivial c
      obtain ⟨f29, _⟩ := hF
      have f29 : a.tmps.getD 29 undef = .bool (((inR x.saga 0 11) && (stepsOk x.steps)) && (decide (((List.length (x.data) : Int)) ≤ 60))) := f29
      refine rely_wp rfl ?_
      exact opr_move (.inr rfl) (hK _ _ (NewT.refl _) f29)
    · intro wx hT hJ
      clear hJ
      intro u h; obtain rfl := h (by simp); clear h
      intro u h; obtain rfl := h (by simp); clear h
      intro u h; obtain rfl := h (by simp); clear h
      intro u h; obtain rfl := h (by simp); clear h
      intro _ _
      intro _ _
      intro _ _
      intro u h; obtain rfl := h (by simp); clear h
      intro u h; obtain rfl := h (by simp); clear h
      intro _ _
      intro _ _
      intro _ _
      intro _ _
      intro u h; obtain rfl := h (by simp); clear h
      intro u h; obtain rfl := h (by simp); clear h
      refine relyEnd_nil rfl ?_
      refine wpList_end rfl ?_
      simp only [Act.put, List.setIfInBounds_toArray, List.set_cons_zero, List.set_cons_succ]
      go_simp
      go_wp2
      go_ret
      exact ⟨_, rfl, NewT.trans _ _ _ HN.out hT, rfl⟩
  have k1 := hk
  clear hk
  by_cases hk : x.kind = 3
  · have hI : inRg x = ((!((!inR x.part 0 3) || !inR x.epoch 0 400)) && (((inR x.saga 0 11 && inR x.seq 1 400) && inR x.step 0 5) && inR x.tr 1 9)) := by unfold inRg; simp only [hk]; simp
    rw [hI]
    clear hI
    go_enter Tryd.func28, Tryd.ntmps28
    go_upto_region 1 with fail
    have r1 := rowIs_box w 27 109 (recF x sv dv)
    have hN := NewT.alloc w (.cells (rowA 109 (recF x sv dv)) 27)
    change Code.wp _ _ _ _ (w.alloc (.cells (rowA 109 (recF x sv dv)) 27))
    generalize w.alloc (.cells (rowA 109 (recF x sv dv)) 27) = W0 at r1 hN ⊢
    have R1 := Lib.hid r1
    have HN := Lib.hid hN
    replace HX := Lib.hid (hN.recV HX.out)
    replace HS := Lib.hid (hN.pairs HS.out)
    replace HD := Lib.hid (hN.rd HD.out)
    clear r1 hN
    have c0 : W0.cell? ⟨w.heap.size, 0, none⟩ = some (.int .i64 x.kind) := R1.out.cell (by omega)
    rw [hk] at c0
    go_upto_region 9 with fail
    clear c0
    refine wp_region_steps (NewT) (fun _ _ => True) [SV.eq (.pointer (some ⟨w.heap.size, 8, none⟩)), SV.eq (.int .i64 (x.part)), SV.eq (.bool (inR x.part 0 3)), SV.eq (.bool (!(inR x.part 0 3))), SV.eq (.bool (!(inR x.part 0 3))), svIf ((!!(inR x.part 0 3))) (SV.eq (.pointer (some ⟨w.heap.size, 9, none⟩))), svIf ((!!(inR x.part 0 3))) (SV.eq (.int .i64 (x.epoch))), svIf ((!!(inR x.part 0 3))) (SV.eq (.bool (inR x.epoch 0 400))), svIf ((!!(inR x.part 0 3))) (SV.eq (.bool (!(inR x.epoch 0 400)))), SV.eq (.bool ((!(inR x.part 0 3)) || (!(inR x.epoch 0 400))))] [([(1, none)], none), ([(30, some 0)], none), ([(31, some 1)], none), ([(32, some 2)], none), ([(33, some 3)], none), ([(1, none), (34, some 4)], some (34, false)), ([(35, some 5), (34, some 4)], some (34, false)), ([(36, some 6), (34, some 4)], some (34, false)), ([(37, some 7), (34, some 4)], some (34, false)), ([(34, some 4), (38, some 8)], none)] 79 10 rfl rfl (by kernel_rfl) NewT.trans (NewT.refl _) trivial (Nat.le_of_ble_eq_true rfl) ⟨?_, ?_, ?_, ?_, ?_, ?_, ?_, ?_, ?_, ?_, trivial⟩ ?_
    · -- 0: Op.fieldAddr 27 t1 8
      intro a wx hT hF _ K hK
      replace hK := fun v w' (h : NewT wx w') c => hK v w' h trivial c
      obtain ⟨f1, _⟩ := hF
      have f1 : a.tmps.getD 1 undef = .pointer (some ⟨w.heap.size, 0, none⟩) := f1
      refine rely_wp rfl ?_
      exact opr_fldR (by decide) rfl f1 (hK _ _ (NewT.refl _) rfl)
    · -- 1: Op.load 3 t30
      intro a wx hT hF _ K hK
      replace hK := fun v w' (h : NewT wx w') c => hK v w' h trivial c
      obtain ⟨f30, _⟩ := hF
      have f30 : a.tmps.getD 30 undef = .pointer (some ⟨w.heap.size, 8, none⟩) := f30
      refine rely_wp rfl ?_
      exact opr_ldI (hT.row R1.out) (by decide) rfl rfl f30 (hK _ _ (NewT.refl _) rfl)
    · -- 2: Op.call ( value (Operand.func 50), args := #[t31], argTypes := #[3] )
      intro a wx hT hF _ K hK
      replace hK := fun v w' (h : NewT wx w') c => hK v w' h trivial c
      obtain ⟨f31, _⟩ := hF
      have f31 : a.tmps.getD 31 undef = .int .i64 (x.part) := f31
      refine rely_wp rfl ?_
      exact opr_cv (isPart_cv x.part wx) rfl Tryd.func50 (by kernel_rfl) (by kernel_rfl) (by simp only [List.map_toArray, List.map_cons, List.map_nil, eval_tmp, f31]) hK
    · -- 3: Op.unOp UnOp.not 4 t32
      intro a wx hT hF _ K hK
      replace hK := fun v w' (h : NewT wx w') c => hK v w' h trivial c
      obtain ⟨f32, _⟩ := hF
      have f32 : a.tmps.getD 32 undef = .bool (inR x.part 0 3) := f32
      refine rely_wp rfl ?_
      exact opr_not rfl f32 (hK _ _ (NewT.refl _) rfl)
    · -- 4: Op.move t33
      intro a wx hT hF _ K hK
      replace hK := fun v w' (h : NewT wx w') c => hK v w' h trivial c
      obtain ⟨f33, _⟩ := hF
      have f33 : a.tmps.getD 33 undef = .bool (!(inR x.part 0 3)) := f33
      refine rely_wp rfl ?_
      exact opr_move (.inl rfl) (hK _ _ (NewT.refl _) f33)
    · -- 5: Op.fieldAddr 27 t1 9
      intro a wx hT hF _ K hK
      replace hK := fun v w' (h : NewT wx w') c => hK v w' h trivial c
      obtain ⟨f1, f34, _⟩ := hF
      have f1 : a.tmps.getD 1 undef = .pointer (some ⟨w.heap.size, 0, none⟩) := f1
      have f34 : a.tmps.getD 34 undef = .bool (!(inR x.part 0 3)) := f34
      refine rely_on (rely_gf f34) (fun hE => ?_) (fun hE => hK _ _ (NewT.refl _) (svIf_off hE))
      replace hK := fun v w' (h : NewT wx w') (c : (SV.eq (.pointer (some ⟨w.heap.size, 9, none⟩))).pred v w') => hK v w' h (fun _ => c)
      exact opr_fldR (by decide) rfl f1 (hK _ _ (NewT.refl _) rfl)
    · -- 6: Op.load 3 t35
      intro a wx hT hF _ K hK
      replace hK := fun v w' (h : NewT wx w') c => hK v w' h trivial c
      obtain ⟨f35, f34, _⟩ := hF
      have f35 : ((!!(inR x.part 0 3))) = true → a.tmps.getD 35 undef = .pointer (some ⟨w.heap.size, 9, none⟩) := f35
      have f34 : a.tmps.getD 34 undef = .bool (!(inR x.part 0 3)) := f34
      refine rely_on (rely_gf f34) (fun hE => ?_) (fun hE => hK _ _ (NewT.refl _) (svIf_off hE))
      replace hK := fun v w' (h : NewT wx w') (c : (SV.eq (.int .i64 (x.epoch))).pred v w') => hK v w' h (fun _ => c)
      exact opr_ldI (hT.row R1.out) (by decide) rfl rfl (f35 hE) (hK _ _ (NewT.refl _) rfl)
    · -- 7: Op.call ( value (Operand.func 45), args := #[t36, const (0:i64), const
      intro a wx hT hF _ K hK
      replace hK := fun v w' (h : NewT wx w') c => hK v w' h trivial c
      obtain ⟨f36, f34, _⟩ := hF
      have f36 : ((!!(inR x.part 0 3))) = true → a.tmps.getD 36 undef = .int .i64 (x.epoch) := f36
      have f34 : a.tmps.getD 34 undef = .bool (!(inR x.part 0 3)) := f34
      refine rely_on (rely_gf f34) (fun hE => ?_) (fun hE => hK _ _ (NewT.refl _) (svIf_off hE))
      replace hK := fun v w' (h : NewT wx w') (c : (SV.eq (.bool (inR x.epoch 0 400))).pred v w') => hK v w' h (fun _ => c)
      exact opr_cv (within_cv x.epoch 0 400 wx) rfl Tryd.func45 (by kernel_rfl) (by kernel_rfl) (by simp only [List.map_toArray, List.map_cons, List.map_nil, eval_tmp, eval_const, (f36 hE)]) hK
    · -- 8: Op.unOp UnOp.not 4 t37
      intro a wx hT hF _ K hK
      replace hK := fun v w' (h : NewT wx w') c => hK v w' h trivial c
      obtain ⟨f37, f34, _⟩ := hF
      have f37 : ((!!(inR x.part 0 3))) = true → a.tmps.getD 37 undef = .bool (inR x.epoch 0 400) := f37
      have f34 : a.tmps.getD 34 undef = .bool (!(inR x.part 0 3)) := f34
      refine rely_on (rely_gf f34) (fun hE => ?_) (fun hE => hK _ _ (NewT.refl _) (svIf_off hE))
      replace hK := fun v w' (h : NewT wx w') (c : (SV.eq (.bool (!(inR x.epoch 0 400)))).pred v w') => hK v w' h (fun _ => c)
      exact opr_not rfl (f37 hE) (hK _ _ (NewT.refl _) rfl)
    · -- 9: Op.pick t34 (const (Value.bool true)) t38
      intro a wx hT hF _ K hK
      replace hK := fun v w' (h : NewT wx w') c => hK v w' h trivial c
      obtain ⟨f34, f38, _⟩ := hF
      have f34 : a.tmps.getD 34 undef = .bool (!(inR x.part 0 3)) := f34
      have f38 : ((!!(inR x.part 0 3))) = true → a.tmps.getD 38 undef = .bool (!(inR x.epoch 0 400)) := f38
      refine rely_wp rfl ?_
      exact opr_pick_b rfl f34 (fun hb => hK _ _ (NewT.refl _) (pk_or1 hb)) (fun hb => hK _ _ (NewT.refl _) (pk_or0 (f38 (bnot hb)) hb))
    · intro w9 h9 hJ
      clear hJ
      intro u h; obtain rfl := h (by simp); clear h
      intro u h; obtain rfl := h (by simp); clear h
      intro u h; obtain rfl := h (by simp); clear h
      intro u h; obtain rfl := h (by simp); clear h
      intro u h; obtain rfl := h (by simp); clear h
      intro _ _
      intro _ _
      intro _ _
      intro _ _
      intro u h; obtain rfl := h (by simp); clear h
      refine relyEnd_nil rfl ?_
      refine wpList_end rfl ?_
      simp only [Act.put, List.setIfInBounds_toArray, List.set_cons_zero, List.set_cons_succ]
      go_simp
      cases hb : ((!inR x.part 0 3) || !inR x.epoch 0 400)
      · go_upto_region 11 with fail
        refine wp_region_steps (NewT) (fun _ _ => True) [SV.eq (.pointer (some ⟨w.heap.size, 1, none⟩)), SV.eq (.int .i64 (x.saga)), SV.eq (.bool (inR x.saga 0 11)), SV.eq (.bool (inR x.saga 0 11)), svIf (inR x.saga 0 11) (SV.eq (.pointer (some ⟨w.heap.size, 2, none⟩))), svIf (inR x.saga 0 11) (SV.eq (.int .i64 (x.seq))), svIf (inR x.saga 0 11) (SV.eq (.bool (inR x.seq 1 400))), SV.eq (.bool ((inR x.saga 0 11) && (inR x.seq 1 400))), SV.eq (.bool ((inR x.saga 0 11) && (inR x.seq 1 400))), svIf ((inR x.saga 0 11) && (inR x.seq 1 400)) (SV.eq (.pointer (some ⟨w.heap.size, 3, none⟩))), svIf ((inR x.saga 0 11) && (inR x.seq 1 400)) (SV.eq (.int .i64 (x.step))), svIf ((inR x.saga 0 11) && (inR x.seq 1 400)) (SV.eq (.bool (inR x.step 0 5))), SV.eq (.bool (((inR x.saga 0 11) && (inR x.seq 1 400)) && (inR x.step 0 5))), SV.eq (.bool (((inR x.saga 0 11) && (inR x.seq 1 400)) && (inR x.step 0 5))), svIf (((inR x.saga 0 11) && (inR x.seq 1 400)) && (inR x.step 0 5)) (SV.eq (.pointer (some ⟨w.heap.size, 4, none⟩))), svIf (((inR x.saga 0 11) && (inR x.seq 1 400)) && (inR x.step 0 5)) (SV.eq (.int .i64 (x.tr))), svIf (((inR x.saga 0 11) && (inR x.seq 1 400)) && (inR x.step 0 5)) (SV.eq (.bool (inR x.tr 1 9))), SV.eq (.bool ((((inR x.saga 0 11) && (inR x.seq 1 400)) && (inR x.step 0 5)) && (inR x.tr 1 9))), SV.eq (.bool ((((inR x.saga 0 11) && (inR x.seq 1 400)) && (inR x.step 0 5)) && (inR x.tr 1 9)))] [([(1, none)], none), ([(40, some 0)], none), ([(41, some 1)], none), ([(42, some 2)], none), ([(1, none), (43, some 3)], some (43, true)), ([(44, some 4), (43, some 3)], some (43, true)), ([(45, some 5), (43, some 3)], some (43, true)), ([(43, some 3), (46, some 6)], none), ([(47, some 7)], none), ([(1, none), (48, some 8)], some (48, true)), ([(49, some 9), (48, some 8)], some (48, true)), ([(50, some 10), (48, some 8)], some (48, true)), ([(48, some 8), (51, some 11)], none), ([(52, some 12)], none), ([(1, none), (53, some 13)], some (53, true)), ([(54, some 14), (53, some 13)], some (53, true)), ([(55, some 15), (53, some 13)], some (53, true)), ([(53, some 13), (56, some 16)], none), ([(57, some 17)], none)] 79 19 rfl rfl (by kernel_rfl) NewT.trans (NewT.refl _) trivial (Nat.le_of_ble_eq_true rfl) ⟨?_, ?_, ?_, ?_, ?_, ?_, ?_, ?_, ?_, ?_, ?_, ?_, ?_, ?_, ?_, ?_, ?_, ?_, ?_, trivial⟩ ?_
        · -- 0: Op.fieldAddr 27 t1 1
          intro a wx hT hF _ K hK
          replace hK := fun v w' (h : NewT wx w') c => hK v w' h trivial c
          obtain ⟨f1, _⟩ := hF
          have f1 : a.tmps.getD 1 undef = .pointer (some ⟨w.heap.size, 0, none⟩) := f1
          refine rely_wp rfl ?_
          exact opr_fldR (by decide) rfl f1 (hK _ _ (NewT.refl _) rfl)
        · -- 1: Op.load 3 t40
          intro a wx hT hF _ K hK
          replace hK := fun v w' (h : NewT wx w') c => hK v w' h trivial c
          obtain ⟨f40, _⟩ := hF
          have f40 : a.tmps.getD 40 undef = .pointer (some ⟨w.heap.size, 1, none⟩) := f40
          refine rely_wp rfl ?_
          exact opr_ldI (hT.row (NewT.row h9 R1.out)) (by decide) rfl rfl f40 (hK _ _ (NewT.refl _) rfl)
        · -- 2: Op.call ( value (Operand.func 48), args := #[t41], argTypes := #[3] )
          intro a wx hT hF _ K hK
          replace hK := fun v w' (h : NewT wx w') c => hK v w' h trivial c
          obtain ⟨f41, _⟩ := hF
          have f41 : a.tmps.getD 41 undef = .int .i64 (x.saga) := f41
          refine rely_wp rfl ?_
          exact opr_cv (isSaga_cv x.saga wx) rfl Tryd.func48 (by kernel_rfl) (by kernel_rfl) (by simp only [List.map_toArray, List.map_cons, List.map_nil, eval_tmp, f41]) hK
        · -- 3: Op.move t42
          intro a wx hT hF _ K hK
          replace hK := fun v w' (h : NewT wx w') c => hK v w' h trivial c
          obtain ⟨f42, _⟩ := hF
          have f42 : a.tmps.getD 42 undef = .bool (inR x.saga 0 11) := f42
          refine rely_wp rfl ?_
          exact opr_move (.inl rfl) (hK _ _ (NewT.refl _) f42)
        · -- 4: Op.fieldAddr 27 t1 2
          intro a wx hT hF _ K hK
          replace hK := fun v w' (h : NewT wx w') c => hK v w' h trivial c
          obtain ⟨f1, f43, _⟩ := hF
          have f1 : a.tmps.getD 1 undef = .pointer (some ⟨w.heap.size, 0, none⟩) := f1
          have f43 : a.tmps.getD 43 undef = .bool (inR x.saga 0 11) := f43
          refine rely_on (rely_gt f43) (fun hE => ?_) (fun hE => hK _ _ (NewT.refl _) (svIf_off hE))
          replace hK := fun v w' (h : NewT wx w') (c : (SV.eq (.pointer (some ⟨w.heap.size, 2, none⟩))).pred v w') => hK v w' h (fun _ => c)
          exact opr_fldR (by decide) rfl f1 (hK _ _ (NewT.refl _) rfl)
        · -- 5: Op.load 3 t44
          intro a wx hT hF _ K hK
          replace hK := fun v w' (h : NewT wx w') c => hK v w' h trivial c
          obtain ⟨f44, f43, _⟩ := hF
          have f44 : (inR x.saga 0 11) = true → a.tmps.getD 44 undef = .pointer (some ⟨w.heap.size, 2, none⟩) := f44
          have f43 : a.tmps.getD 43 undef = .bool (inR x.saga 0 11) := f43
          refine rely_on (rely_gt f43) (fun hE => ?_) (fun hE => hK _ _ (NewT.refl _) (svIf_off hE))
          replace hK := fun v w' (h : NewT wx w') (c : (SV.eq (.int .i64 (x.seq))).pred v w') => hK v w' h (fun _ => c)
          exact opr_ldI (hT.row (NewT.row h9 R1.out)) (by decide) rfl rfl (f44 hE) (hK _ _ (NewT.refl _) rfl)
        · -- 6: Op.call ( value (Operand.func 51), args := #[t45], argTypes := #[3] )
          intro a wx hT hF _ K hK
          replace hK := fun v w' (h : NewT wx w') c => hK v w' h trivial c
          obtain ⟨f45, f43, _⟩ := hF
          have f45 : (inR x.saga 0 11) = true → a.tmps.getD 45 undef = .int .i64 (x.seq) := f45
          have f43 : a.tmps.getD 43 undef = .bool (inR x.saga 0 11) := f43
          refine rely_on (rely_gt f43) (fun hE => ?_) (fun hE => hK _ _ (NewT.refl _) (svIf_off hE))
          replace hK := fun v w' (h : NewT wx w') (c : (SV.eq (.bool (inR x.seq 1 400))).pred v w') => hK v w' h (fun _ => c)
          exact opr_cv (isSeq_cv x.seq wx) rfl Tryd.func51 (by kernel_rfl) (by kernel_rfl) (by simp only [List.map_toArray, List.map_cons, List.map_nil, eval_tmp, (f45 hE)]) hK
        · -- 7: Op.pick t43 t46 (const (Value.bool false))
          intro a wx hT hF _ K hK
          replace hK := fun v w' (h : NewT wx w') c => hK v w' h trivial c
          obtain ⟨f43, f46, _⟩ := hF
          have f43 : a.tmps.getD 43 undef = .bool (inR x.saga 0 11) := f43
          have f46 : (inR x.saga 0 11) = true → a.tmps.getD 46 undef = .bool (inR x.seq 1 400) := f46
          refine rely_wp rfl ?_
          exact opr_pick_b rfl f43 (fun hb => hK _ _ (NewT.refl _) (pk_and1 (f46 hb) hb)) (fun hb => hK _ _ (NewT.refl _) (pk_and0 hb))
        · -- 8: Op.move t47
          intro a wx hT hF _ K hK
          replace hK := fun v w' (h : NewT wx w') c => hK v w' h trivial c
          obtain ⟨f47, _⟩ := hF
          have f47 : a.tmps.getD 47 undef = .bool ((inR x.saga 0 11) && (inR x.seq 1 400)) := f47
          refine rely_wp rfl ?_
          exact opr_move (.inl rfl) (hK _ _ (NewT.refl _) f47)
        · -- 9: Op.fieldAddr 27 t1 3
          intro a wx hT hF _ K hK
          replace hK := fun v w' (h : NewT wx w') c => hK v w' h trivial c
          obtain ⟨f1, f48, _⟩ := hF
          have f1 : a.tmps.getD 1 undef = .pointer (some ⟨w.heap.size, 0, none⟩) := f1
          have f48 : a.tmps.getD 48 undef = .bool ((inR x.saga 0 11) && (inR x.seq 1 400)) := f48
          refine rely_on (rely_gt f48) (fun hE => ?_) (fun hE => hK _ _ (NewT.refl _) (svIf_off hE))
          replace hK := fun v w' (h : NewT wx w') (c : (SV.eq (.pointer (some ⟨w.heap.size, 3, none⟩))).pred v w') => hK v w' h (fun _ => c)
          exact opr_fldR (by decide) rfl f1 (hK _ _ (NewT.refl _) rfl)
        · -- 10: Op.load 3 t49
          intro a wx hT hF _ K hK
          replace hK := fun v w' (h : NewT wx w') c => hK v w' h trivial c
          obtain ⟨f49, f48, _⟩ := hF
          have f49 : ((inR x.saga 0 11) && (inR x.seq 1 400)) = true → a.tmps.getD 49 undef = .pointer (some ⟨w.heap.size, 3, none⟩) := f49
          have f48 : a.tmps.getD 48 undef = .bool ((inR x.saga 0 11) && (inR x.seq 1 400)) := f48
          refine rely_on (rely_gt f48) (fun hE => ?_) (fun hE => hK _ _ (NewT.refl _) (svIf_off hE))
          replace hK := fun v w' (h : NewT wx w') (c : (SV.eq (.int .i64 (x.step))).pred v w') => hK v w' h (fun _ => c)
          exact opr_ldI (hT.row (NewT.row h9 R1.out)) (by decide) rfl rfl (f49 hE) (hK _ _ (NewT.refl _) rfl)
        · -- 11: Op.call ( value (Operand.func 45), args := #[t50, const (0:i64), const
          intro a wx hT hF _ K hK
          replace hK := fun v w' (h : NewT wx w') c => hK v w' h trivial c
          obtain ⟨f50, f48, _⟩ := hF
          have f50 : ((inR x.saga 0 11) && (inR x.seq 1 400)) = true → a.tmps.getD 50 undef = .int .i64 (x.step) := f50
          have f48 : a.tmps.getD 48 undef = .bool ((inR x.saga 0 11) && (inR x.seq 1 400)) := f48
          refine rely_on (rely_gt f48) (fun hE => ?_) (fun hE => hK _ _ (NewT.refl _) (svIf_off hE))
          replace hK := fun v w' (h : NewT wx w') (c : (SV.eq (.bool (inR x.step 0 5))).pred v w') => hK v w' h (fun _ => c)
          exact opr_cv (within_cv x.step 0 5 wx) rfl Tryd.func45 (by kernel_rfl) (by kernel_rfl) (by simp only [List.map_toArray, List.map_cons, List.map_nil, eval_tmp, eval_const, (f50 hE)]) hK
        · -- 12: Op.pick t48 t51 (const (Value.bool false))
          intro a wx hT hF _ K hK
          replace hK := fun v w' (h : NewT wx w') c => hK v w' h trivial c
          obtain ⟨f48, f51, _⟩ := hF
          have f48 : a.tmps.getD 48 undef = .bool ((inR x.saga 0 11) && (inR x.seq 1 400)) := f48
          have f51 : ((inR x.saga 0 11) && (inR x.seq 1 400)) = true → a.tmps.getD 51 undef = .bool (inR x.step 0 5) := f51
          refine rely_wp rfl ?_
          exact opr_pick_b rfl f48 (fun hb => hK _ _ (NewT.refl _) (pk_and1 (f51 hb) hb)) (fun hb => hK _ _ (NewT.refl _) (pk_and0 hb))
        · -- 13: Op.move t52
          intro a wx hT hF _ K hK
          replace hK := fun v w' (h : NewT wx w') c => hK v w' h trivial c
          obtain ⟨f52, _⟩ := hF
          have f52 : a.tmps.getD 52 undef = .bool (((inR x.saga 0 11) && (inR x.seq 1 400)) && (inR x.step 0 5)) := f52
          refine rely_wp rfl ?_
          exact opr_move (.inl rfl) (hK _ _ (NewT.refl _) f52)
        · -- 14: Op.fieldAddr 27 t1 4
          intro a wx hT hF _ K hK
          replace hK := fun v w' (h : NewT wx w') c => hK v w' h trivial c
          obtain ⟨f1, f53, _⟩ := hF
          have f1 : a.tmps.getD 1 undef = .pointer (some ⟨w.heap.size, 0, none⟩) := f1
          have f53 : a.tmps.getD 53 undef = .bool (((inR x.saga 0 11) && (inR x.seq 1 400)) && (inR x.step 0 5)) := f53
          refine rely_on (rely_gt f53) (fun hE => ?_) (fun hE => hK _ _ (NewT.refl _) (svIf_off hE))
          replace hK := fun v w' (h : NewT wx w') (c : (SV.eq (.pointer (some ⟨w.heap.size, 4, none⟩))).pred v w') => hK v w' h (fun _ => c)
          exact opr_fldR (by decide) rfl f1 (hK _ _ (NewT.refl _) rfl)
        · -- 15: Op.load 3 t54
          intro a wx hT hF _ K hK
          replace hK := fun v w' (h : NewT wx w') c => hK v w' h trivial c
          obtain ⟨f54, f53, _⟩ := hF
          have f54 : (((inR x.saga 0 11) && (inR x.seq 1 400)) && (inR x.step 0 5)) = true → a.tmps.getD 54 undef = .pointer (some ⟨w.heap.size, 4, none⟩) := f54
          have f53 : a.tmps.getD 53 undef = .bool (((inR x.saga 0 11) && (inR x.seq 1 400)) && (inR x.step 0 5)) := f53
          refine rely_on (rely_gt f53) (fun hE => ?_) (fun hE => hK _ _ (NewT.refl _) (svIf_off hE))
          replace hK := fun v w' (h : NewT wx w') (c : (SV.eq (.int .i64 (x.tr))).pred v w') => hK v w' h (fun _ => c)
          exact opr_ldI (hT.row (NewT.row h9 R1.out)) (by decide) rfl rfl (f54 hE) (hK _ _ (NewT.refl _) rfl)
        · -- 16: Op.call ( value (Operand.func 45), args := #[t55, const (1:i64), const
          intro a wx hT hF _ K hK
          replace hK := fun v w' (h : NewT wx w') c => hK v w' h trivial c
          obtain ⟨f55, f53, _⟩ := hF
          have f55 : (((inR x.saga 0 11) && (inR x.seq 1 400)) && (inR x.step 0 5)) = true → a.tmps.getD 55 undef = .int .i64 (x.tr) := f55
          have f53 : a.tmps.getD 53 undef = .bool (((inR x.saga 0 11) && (inR x.seq 1 400)) && (inR x.step 0 5)) := f53
          refine rely_on (rely_gt f53) (fun hE => ?_) (fun hE => hK _ _ (NewT.refl _) (svIf_off hE))
          replace hK := fun v w' (h : NewT wx w') (c : (SV.eq (.bool (inR x.tr 1 9))).pred v w') => hK v w' h (fun _ => c)
          exact opr_cv (within_cv x.tr 1 9 wx) rfl Tryd.func45 (by kernel_rfl) (by kernel_rfl) (by simp only [List.map_toArray, List.map_cons, List.map_nil, eval_tmp, eval_const, (f55 hE)]) hK
        · -- 17: Op.pick t53 t56 (const (Value.bool false))
          intro a wx hT hF _ K hK
          replace hK := fun v w' (h : NewT wx w') c => hK v w' h trivial c
          obtain ⟨f53, f56, _⟩ := hF
          have f53 : a.tmps.getD 53 undef = .bool (((inR x.saga 0 11) && (inR x.seq 1 400)) && (inR x.step 0 5)) := f53
          have f56 : (((inR x.saga 0 11) && (inR x.seq 1 400)) && (inR x.step 0 5)) = true → a.tmps.getD 56 undef = .bool (inR x.tr 1 9) := f56
          refine rely_wp rfl ?_
          exact opr_pick_b rfl f53 (fun hb => hK _ _ (NewT.refl _) (pk_and1 (f56 hb) hb)) (fun hb => hK _ _ (NewT.refl _) (pk_and0 hb))
        · -- 18: Op.assign t57
          intro a wx hT hF _ K hK
          replace hK := fun v w' (h : NewT wx w') c => hK v w' h trivial c
          obtain ⟨f57, _⟩ := hF
          have f57 : a.tmps.getD 57 undef = .bool ((((inR x.saga 0 11) && (inR x.seq 1 400)) && (inR x.step 0 5)) && (inR x.tr 1 9)) := f57
          refine rely_wp rfl ?_
          exact opr_move (.inr rfl) (hK _ _ (NewT.refl _) f57)
        · intro wx hT hJ
          clear hJ
          intro u h; obtain rfl := h (by simp); clear h
          intro u h; obtain rfl := h (by simp); clear h
          intro u h; obtain rfl := h (by simp); clear h
          intro u h; obtain rfl := h (by simp); clear h
          intro _ _
          intro _ _
          intro _ _
          intro u h; obtain rfl := h (by simp); clear h
          intro u h; obtain rfl := h (by simp); clear h
          intro _ _
          intro _ _
          intro _ _
          intro u h; obtain rfl := h (by simp); clear h
          intro u h; obtain rfl := h (by simp); clear h
          intro _ _
          intro _ _
          intro _ _
          intro u h; obtain rfl := h (by simp); clear h
          intro u h; obtain rfl := h (by simp); clear h
          refine relyEnd_nil rfl ?_
          refine wpList_end rfl ?_
          simp only [Act.put, List.setIfInBounds_toArray, List.set_cons_zero, List.set_cons_succ]
          go_simp
          go_wp2
          go_ret
          exact ⟨_, rfl, NewT.trans _ _ _ HN.out (NewT.trans _ _ _ h9 hT), rfl⟩
      · go_wp2
        go_ret
        exact ⟨_, rfl, NewT.trans _ _ _ HN.out h9, rfl⟩
  have k3 := hk
  clear hk
  by_cases hk : x.kind = 2
  · have hI : inRg x = (((inR x.saga 0 11 && inR x.seq 1 400) && inR x.step 0 5) && inR x.tr 1 9) := by unfold inRg; simp only [hk]; simp
    rw [hI]
    clear hI
    go_enter Tryd.func28, Tryd.ntmps28
    go_upto_region 1 with fail
    have r1 := rowIs_box w 27 109 (recF x sv dv)
    have hN := NewT.alloc w (.cells (rowA 109 (recF x sv dv)) 27)
    change Code.wp _ _ _ _ (w.alloc (.cells (rowA 109 (recF x sv dv)) 27))
    generalize w.alloc (.cells (rowA 109 (recF x sv dv)) 27) = W0 at r1 hN ⊢
    have R1 := Lib.hid r1
    have HN := Lib.hid hN
    replace HX := Lib.hid (hN.recV HX.out)
    replace HS := Lib.hid (hN.pairs HS.out)
    replace HD := Lib.hid (hN.rd HD.out)
    clear r1 hN
    have c0 : W0.cell? ⟨w.heap.size, 0, none⟩ = some (.int .i64 x.kind) := R1.out.cell (by omega)
    rw [hk] at c0
    go_upto_region 11 with fail
    clear c0
    refine wp_region_steps (NewT) (fun _ _ => True) [SV.eq (.pointer (some ⟨w.heap.size, 1, none⟩)), SV.eq (.int .i64 (x.saga)), SV.eq (.bool (inR x.saga 0 11)), SV.eq (.bool (inR x.saga 0 11)), svIf (inR x.saga 0 11) (SV.eq (.pointer (some ⟨w.heap.size, 2, none⟩))), svIf (inR x.saga 0 11) (SV.eq (.int .i64 (x.seq))), svIf (inR x.saga 0 11) (SV.eq (.bool (inR x.seq 1 400))), SV.eq (.bool ((inR x.saga 0 11) && (inR x.seq 1 400))), SV.eq (.bool ((inR x.saga 0 11) && (inR x.seq 1 400))), svIf ((inR x.saga 0 11) && (inR x.seq 1 400)) (SV.eq (.pointer (some ⟨w.heap.size, 3, none⟩))), svIf ((inR x.saga 0 11) && (inR x.seq 1 400)) (SV.eq (.int .i64 (x.step))), svIf ((inR x.saga 0 11) && (inR x.seq 1 400)) (SV.eq (.bool (inR x.step 0 5))), SV.eq (.bool (((inR x.saga 0 11) && (inR x.seq 1 400)) && (inR x.step 0 5))), SV.eq (.bool (((inR x.saga 0 11) && (inR x.seq 1 400)) && (inR x.step 0 5))), svIf (((inR x.saga 0 11) && (inR x.seq 1 400)) && (inR x.step 0 5)) (SV.eq (.pointer (some ⟨w.heap.size, 4, none⟩))), svIf (((inR x.saga 0 11) && (inR x.seq 1 400)) && (inR x.step 0 5)) (SV.eq (.int .i64 (x.tr))), svIf (((inR x.saga 0 11) && (inR x.seq 1 400)) && (inR x.step 0 5)) (SV.eq (.bool (inR x.tr 1 9))), SV.eq (.bool ((((inR x.saga 0 11) && (inR x.seq 1 400)) && (inR x.step 0 5)) && (inR x.tr 1 9))), SV.eq (.bool ((((inR x.saga 0 11) && (inR x.seq 1 400)) && (inR x.step 0 5)) && (inR x.tr 1 9)))] [([(1, none)], none), ([(40, some 0)], none), ([(41, some 1)], none), ([(42, some 2)], none), ([(1, none), (43, some 3)], some (43, true)), ([(44, some 4), (43, some 3)], some (43, true)), ([(45, some 5), (43, some 3)], some (43, true)), ([(43, some 3), (46, some 6)], none), ([(47, some 7)], none), ([(1, none), (48, some 8)], some (48, true)), ([(49, some 9), (48, some 8)], some (48, true)), ([(50, some 10), (48, some 8)], some (48, true)), ([(48, some 8), (51, some 11)], none), ([(52, some 12)], none), ([(1, none), (53, some 13)], some (53, true)), ([(54, some 14), (53, some 13)], some (53, true)), ([(55, some 15), (53, some 13)], some (53, true)), ([(53, some 13), (56, some 16)], none), ([(57, some 17)], none)] 79 19 rfl rfl (by kernel_rfl) NewT.trans (NewT.refl _) trivial (Nat.le_of_ble_eq_true rfl) ⟨?_, ?_, ?_, ?_, ?_, ?_, ?_, ?_, ?_, ?_, ?_, ?_, ?_, ?_, ?_, ?_, ?_, ?_, ?_, trivial⟩ ?_
    · -- 0: Op.fieldAddr 27 t1 1
      intro a wx hT hF _ K hK
      replace hK := fun v w' (h : NewT wx w') c => hK v w' h trivial c
      obtain ⟨f1, _⟩ := hF
      have f1 : a.tmps.getD 1 undef = .pointer (some ⟨w.heap.size, 0, none⟩) := f1
      refine rely_wp rfl ?_
      exact opr_fldR (by decide) rfl f1 (hK _ _ (NewT.refl _) rfl)
    · -- 1: Op.load 3 t40
      intro a wx hT hF _ K hK
      replace hK := fun v w' (h : NewT wx w') c => hK v w' h trivial c
      obtain ⟨f40, _⟩ := hF
      have f40 : a.tmps.getD 40 undef = .pointer (some ⟨w.heap.size, 1, none⟩) := f40
      refine rely_wp rfl ?_
      exact opr_ldI (hT.row R1.out) (by decide) rfl rfl f40 (hK _ _ (NewT.refl _) rfl)
    · -- 2: Op.call ( value (Operand.func 48), args := #[t41], argTypes := #[3] )
      intro a wx hT hF _ K hK
      replace hK := fun v w' (h : NewT wx w') c => hK v w' h trivial c
      obtain ⟨f41, _⟩ := hF
      have f41 : a.tmps.getD 41 undef = .int .i64 (x.saga) := f41
      refine rely_wp rfl ?_
      exact opr_cv (isSaga_cv x.saga wx) rfl Tryd.func48 (by kernel_rfl) (by kernel_rfl) (by simp only [List.map_toArray, List.map_cons, List.map_nil, eval_tmp, f41]) hK
    · -- 3: Op.move t42
      intro a wx hT hF _ K hK
      replace hK := fun v w' (h : NewT wx w') c => hK v w' h trivial c
      obtain ⟨f42, _⟩ := hF
      have f42 : a.tmps.getD 42 undef = .bool (inR x.saga 0 11) := f42
      refine rely_wp rfl ?_
      exact opr_move (.inl rfl) (hK _ _ (NewT.refl _) f42)
    · -- 4: Op.fieldAddr 27 t1 2
      intro a wx hT hF _ K hK
      replace hK := fun v w' (h : NewT wx w') c => hK v w' h trivial c
      obtain ⟨f1, f43, _⟩ := hF
      have f1 : a.tmps.getD 1 undef = .pointer (some ⟨w.heap.size, 0, none⟩) := f1
      have f43 : a.tmps.getD 43 undef = .bool (inR x.saga 0 11) := f43
      refine rely_on (rely_gt f43) (fun hE => ?_) (fun hE => hK _ _ (NewT.refl _) (svIf_off hE))
      replace hK := fun v w' (h : NewT wx w') (c : (SV.eq (.pointer (some ⟨w.heap.size, 2, none⟩))).pred v w') => hK v w' h (fun _ => c)
      exact opr_fldR (by decide) rfl f1 (hK _ _ (NewT.refl _) rfl)
    · -- 5: Op.load 3 t44
      intro a wx hT hF _ K hK
      replace hK := fun v w' (h : NewT wx w') c => hK v w' h trivial c
      obtain ⟨f44, f43, _⟩ := hF
      have f44 : (inR x.saga 0 11) = true → a.tmps.getD 44 undef = .pointer (some ⟨w.heap.size, 2, none⟩) := f44
      have f43 : a.tmps.getD 43 undef = .bool (inR x.saga 0 11) := f43
      refine rely_on (rely_gt f43) (fun hE => ?_) (fun hE => hK _ _ (NewT.refl _) (svIf_off hE))
      replace hK := fun v w' (h : NewT wx w') (c : (SV.eq (.int .i64 (x.seq))).pred v w') => hK v w' h (fun _ => c)
      exact opr_ldI (hT.row R1.out) (by decide) rfl rfl (f44 hE) (hK _ _ (NewT.refl _) rfl)
    · -- 6: Op.call ( value (Operand.func 51), args := #[t45], argTypes := #[3] )
      intro a wx hT hF _ K hK
      replace hK := fun v w' (h : NewT wx w') c => hK v w' h trivial c
      obtain ⟨f45, f43, _⟩ := hF
      have f45 : (inR x.saga 0 11) = true → a.tmps.getD 45 undef = .int .i64 (x.seq) := f45
      have f43 : a.tmps.getD 43 undef = .bool (inR x.saga 0 11) := f43
      refine rely_on (rely_gt f43) (fun hE => ?_) (fun hE => hK _ _ (NewT.refl _) (svIf_off hE))
      replace hK := fun v w' (h : NewT wx w') (c : (SV.eq (.bool (inR x.seq 1 400))).pred v w') => hK v w' h (fun _ => c)
      exact opr_cv (isSeq_cv x.seq wx) rfl Tryd.func51 (by kernel_rfl) (by kernel_rfl) (by simp only [List.map_toArray, List.map_cons, List.map_nil, eval_tmp, (f45 hE)]) hK
    · -- 7: Op.pick t43 t46 (const (Value.bool false))
      intro a wx hT hF _ K hK
      replace hK := fun v w' (h : NewT wx w') c => hK v w' h trivial c
      obtain ⟨f43, f46, _⟩ := hF
      have f43 : a.tmps.getD 43 undef = .bool (inR x.saga 0 11) := f43
      have f46 : (inR x.saga 0 11) = true → a.tmps.getD 46 undef = .bool (inR x.seq 1 400) := f46
      refine rely_wp rfl ?_
      exact opr_pick_b rfl f43 (fun hb => hK _ _ (NewT.refl _) (pk_and1 (f46 hb) hb)) (fun hb => hK _ _ (NewT.refl _) (pk_and0 hb))
    · -- 8: Op.move t47
      intro a wx hT hF _ K hK
      replace hK := fun v w' (h : NewT wx w') c => hK v w' h trivial c
      obtain ⟨f47, _⟩ := hF
      have f47 : a.tmps.getD 47 undef = .bool ((inR x.saga 0 11) && (inR x.seq 1 400)) := f47
      refine rely_wp rfl ?_
      exact opr_move (.inl rfl) (hK _ _ (NewT.refl _) f47)
    · -- 9: Op.fieldAddr 27 t1 3
      intro a wx hT hF _ K hK
      replace hK := fun v w' (h : NewT wx w') c => hK v w' h trivial c
      obtain ⟨f1, f48, _⟩ := hF
      have f1 : a.tmps.getD 1 undef = .pointer (some ⟨w.heap.size, 0, none⟩) := f1
      have f48 : a.tmps.getD 48 undef = .bool ((inR x.saga 0 11) && (inR x.seq 1 400)) := f48
      refine rely_on (rely_gt f48) (fun hE => ?_) (fun hE => hK _ _ (NewT.refl _) (svIf_off hE))
      replace hK := fun v w' (h : NewT wx w') (c : (SV.eq (.pointer (some ⟨w.heap.size, 3, none⟩))).pred v w') => hK v w' h (fun _ => c)
      exact opr_fldR (by decide) rfl f1 (hK _ _ (NewT.refl _) rfl)
    · -- 10: Op.load 3 t49
      intro a wx hT hF _ K hK
      replace hK := fun v w' (h : NewT wx w') c => hK v w' h trivial c
      obtain ⟨f49, f48, _⟩ := hF
      have f49 : ((inR x.saga 0 11) && (inR x.seq 1 400)) = true → a.tmps.getD 49 undef = .pointer (some ⟨w.heap.size, 3, none⟩) := f49
      have f48 : a.tmps.getD 48 undef = .bool ((inR x.saga 0 11) && (inR x.seq 1 400)) := f48
      refine rely_on (rely_gt f48) (fun hE => ?_) (fun hE => hK _ _ (NewT.refl _) (svIf_off hE))
      replace hK := fun v w' (h : NewT wx w') (c : (SV.eq (.int .i64 (x.step))).pred v w') => hK v w' h (fun _ => c)
      exact opr_ldI (hT.row R1.out) (by decide) rfl rfl (f49 hE) (hK _ _ (NewT.refl _) rfl)
    · -- 11: Op.call ( value (Operand.func 45), args := #[t50, const (0:i64), const
      intro a wx hT hF _ K hK
      replace hK := fun v w' (h : NewT wx w') c => hK v w' h trivial c
      obtain ⟨f50, f48, _⟩ := hF
      have f50 : ((inR x.saga 0 11) && (inR x.seq 1 400)) = true → a.tmps.getD 50 undef = .int .i64 (x.step) := f50
      have f48 : a.tmps.getD 48 undef = .bool ((inR x.saga 0 11) && (inR x.seq 1 400)) := f48
      refine rely_on (rely_gt f48) (fun hE => ?_) (fun hE => hK _ _ (NewT.refl _) (svIf_off hE))
      replace hK := fun v w' (h : NewT wx w') (c : (SV.eq (.bool (inR x.step 0 5))).pred v w') => hK v w' h (fun _ => c)
      exact opr_cv (within_cv x.step 0 5 wx) rfl Tryd.func45 (by kernel_rfl) (by kernel_rfl) (by simp only [List.map_toArray, List.map_cons, List.map_nil, eval_tmp, eval_const, (f50 hE)]) hK
    · -- 12: Op.pick t48 t51 (const (Value.bool false))
      intro a wx hT hF _ K hK
      replace hK := fun v w' (h : NewT wx w') c => hK v w' h trivial c
      obtain ⟨f48, f51, _⟩ := hF
      have f48 : a.tmps.getD 48 undef = .bool ((inR x.saga 0 11) && (inR x.seq 1 400)) := f48
      have f51 : ((inR x.saga 0 11) && (inR x.seq 1 400)) = true → a.tmps.getD 51 undef = .bool (inR x.step 0 5) := f51
      refine rely_wp rfl ?_
      exact opr_pick_b rfl f48 (fun hb => hK _ _ (NewT.refl _) (pk_and1 (f51 hb) hb)) (fun hb => hK _ _ (NewT.refl _) (pk_and0 hb))
    · -- 13: Op.move t52
      intro a wx hT hF _ K hK
      replace hK := fun v w' (h : NewT wx w') c => hK v w' h trivial c
      obtain ⟨f52, _⟩ := hF
      have f52 : a.tmps.getD 52 undef = .bool (((inR x.saga 0 11) && (inR x.seq 1 400)) && (inR x.step 0 5)) := f52
      refine rely_wp rfl ?_
      exact opr_move (.inl rfl) (hK _ _ (NewT.refl _) f52)
    · -- 14: Op.fieldAddr 27 t1 4
      intro a wx hT hF _ K hK
      replace hK := fun v w' (h : NewT wx w') c => hK v w' h trivial c
      obtain ⟨f1, f53, _⟩ := hF
      have f1 : a.tmps.getD 1 undef = .pointer (some ⟨w.heap.size, 0, none⟩) := f1
      have f53 : a.tmps.getD 53 undef = .bool (((inR x.saga 0 11) && (inR x.seq 1 400)) && (inR x.step 0 5)) := f53
      refine rely_on (rely_gt f53) (fun hE => ?_) (fun hE => hK _ _ (NewT.refl _) (svIf_off hE))
      replace hK := fun v w' (h : NewT wx w') (c : (SV.eq (.pointer (some ⟨w.heap.size, 4, none⟩))).pred v w') => hK v w' h (fun _ => c)
      exact opr_fldR (by decide) rfl f1 (hK _ _ (NewT.refl _) rfl)
    · -- 15: Op.load 3 t54
      intro a wx hT hF _ K hK
      replace hK := fun v w' (h : NewT wx w') c => hK v w' h trivial c
      obtain ⟨f54, f53, _⟩ := hF
      have f54 : (((inR x.saga 0 11) && (inR x.seq 1 400)) && (inR x.step 0 5)) = true → a.tmps.getD 54 undef = .pointer (some ⟨w.heap.size, 4, none⟩) := f54
      have f53 : a.tmps.getD 53 undef = .bool (((inR x.saga 0 11) && (inR x.seq 1 400)) && (inR x.step 0 5)) := f53
      refine rely_on (rely_gt f53) (fun hE => ?_) (fun hE => hK _ _ (NewT.refl _) (svIf_off hE))
      replace hK := fun v w' (h : NewT wx w') (c : (SV.eq (.int .i64 (x.tr))).pred v w') => hK v w' h (fun _ => c)
      exact opr_ldI (hT.row R1.out) (by decide) rfl rfl (f54 hE) (hK _ _ (NewT.refl _) rfl)
    · -- 16: Op.call ( value (Operand.func 45), args := #[t55, const (1:i64), const
      intro a wx hT hF _ K hK
      replace hK := fun v w' (h : NewT wx w') c => hK v w' h trivial c
      obtain ⟨f55, f53, _⟩ := hF
      have f55 : (((inR x.saga 0 11) && (inR x.seq 1 400)) && (inR x.step 0 5)) = true → a.tmps.getD 55 undef = .int .i64 (x.tr) := f55
      have f53 : a.tmps.getD 53 undef = .bool (((inR x.saga 0 11) && (inR x.seq 1 400)) && (inR x.step 0 5)) := f53
      refine rely_on (rely_gt f53) (fun hE => ?_) (fun hE => hK _ _ (NewT.refl _) (svIf_off hE))
      replace hK := fun v w' (h : NewT wx w') (c : (SV.eq (.bool (inR x.tr 1 9))).pred v w') => hK v w' h (fun _ => c)
      exact opr_cv (within_cv x.tr 1 9 wx) rfl Tryd.func45 (by kernel_rfl) (by kernel_rfl) (by simp only [List.map_toArray, List.map_cons, List.map_nil, eval_tmp, eval_const, (f55 hE)]) hK
    · -- 17: Op.pick t53 t56 (const (Value.bool false))
      intro a wx hT hF _ K hK
      replace hK := fun v w' (h : NewT wx w') c => hK v w' h trivial c
      obtain ⟨f53, f56, _⟩ := hF
      have f53 : a.tmps.getD 53 undef = .bool (((inR x.saga 0 11) && (inR x.seq 1 400)) && (inR x.step 0 5)) := f53
      have f56 : (((inR x.saga 0 11) && (inR x.seq 1 400)) && (inR x.step 0 5)) = true → a.tmps.getD 56 undef = .bool (inR x.tr 1 9) := f56
      refine rely_wp rfl ?_
      exact opr_pick_b rfl f53 (fun hb => hK _ _ (NewT.refl _) (pk_and1 (f56 hb) hb)) (fun hb => hK _ _ (NewT.refl _) (pk_and0 hb))
    · -- 18: Op.assign t57
      intro a wx hT hF _ K hK
      replace hK := fun v w' (h : NewT wx w') c => hK v w' h trivial c
      obtain ⟨f57, _⟩ := hF
      have f57 : a.tmps.getD 57 undef = .bool ((((inR x.saga 0 11) && (inR x.seq 1 400)) && (inR x.step 0 5)) && (inR x.tr 1 9)) := f57
      refine rely_wp rfl ?_
      exact opr_move (.inr rfl) (hK _ _ (NewT.refl _) f57)
    · intro wx hT hJ
      clear hJ
      intro u h; obtain rfl := h (by simp); clear h
      intro u h; obtain rfl := h (by simp); clear h
      intro u h; obtain rfl := h (by simp); clear h
      intro u h; obtain rfl := h (by simp); clear h
      intro _ _
      intro _ _
      intro _ _
      intro u h; obtain rfl := h (by simp); clear h
      intro u h; obtain rfl := h (by simp); clear h
      intro _ _
      intro _ _
      intro _ _
      intro u h; obtain rfl := h (by simp); clear h
      intro u h; obtain rfl := h (by simp); clear h
      intro _ _
      intro _ _
      intro _ _
      intro u h; obtain rfl := h (by simp); clear h
      intro u h; obtain rfl := h (by simp); clear h
      refine relyEnd_nil rfl ?_
      refine wpList_end rfl ?_
      simp only [Act.put, List.setIfInBounds_toArray, List.set_cons_zero, List.set_cons_succ]
      go_simp
      go_wp2
      go_ret
      exact ⟨_, rfl, NewT.trans _ _ _ HN.out hT, rfl⟩
  have k2 := hk
  clear hk
  by_cases hk : x.kind = 4
  · have hI : inRg x = (((inR x.saga 0 11 && inR x.seq 1 400) && inR x.step 0 5) && inR x.tr 1 9) := by unfold inRg; simp only [hk]; simp
    rw [hI]
    clear hI
    go_enter Tryd.func28, Tryd.ntmps28
    go_upto_region 1 with fail
    have r1 := rowIs_box w 27 109 (recF x sv dv)
    have hN := NewT.alloc w (.cells (rowA 109 (recF x sv dv)) 27)
    change Code.wp _ _ _ _ (w.alloc (.cells (rowA 109 (recF x sv dv)) 27))
    generalize w.alloc (.cells (rowA 109 (recF x sv dv)) 27) = W0 at r1 hN ⊢
    have R1 := Lib.hid r1
    have HN := Lib.hid hN
    replace HX := Lib.hid (hN.recV HX.out)
    replace HS := Lib.hid (hN.pairs HS.out)
    replace HD := Lib.hid (hN.rd HD.out)
    clear r1 hN
    have c0 : W0.cell? ⟨w.heap.size, 0, none⟩ = some (.int .i64 x.kind) := R1.out.cell (by omega)
    rw [hk] at c0
    go_upto_region 11 with fail
    clear c0
    refine wp_region_steps (NewT) (fun _ _ => True) [SV.eq (.pointer (some ⟨w.heap.size, 1, none⟩)), SV.eq (.int .i64 (x.saga)), SV.eq (.bool (inR x.saga 0 11)), SV.eq (.bool (inR x.saga 0 11)), svIf (inR x.saga 0 11) (SV.eq (.pointer (some ⟨w.heap.size, 2, none⟩))), svIf (inR x.saga 0 11) (SV.eq (.int .i64 (x.seq))), svIf (inR x.saga 0 11) (SV.eq (.bool (inR x.seq 1 400))), SV.eq (.bool ((inR x.saga 0 11) && (inR x.seq 1 400))), SV.eq (.bool ((inR x.saga 0 11) && (inR x.seq 1 400))), svIf ((inR x.saga 0 11) && (inR x.seq 1 400)) (SV.eq (.pointer (some ⟨w.heap.size, 3, none⟩))), svIf ((inR x.saga 0 11) && (inR x.seq 1 400)) (SV.eq (.int .i64 (x.step))), svIf ((inR x.saga 0 11) && (inR x.seq 1 400)) (SV.eq (.bool (inR x.step 0 5))), SV.eq (.bool (((inR x.saga 0 11) && (inR x.seq 1 400)) && (inR x.step 0 5))), SV.eq (.bool (((inR x.saga 0 11) && (inR x.seq 1 400)) && (inR x.step 0 5))), svIf (((inR x.saga 0 11) && (inR x.seq 1 400)) && (inR x.step 0 5)) (SV.eq (.pointer (some ⟨w.heap.size, 4, none⟩))), svIf (((inR x.saga 0 11) && (inR x.seq 1 400)) && (inR x.step 0 5)) (SV.eq (.int .i64 (x.tr))), svIf (((inR x.saga 0 11) && (inR x.seq 1 400)) && (inR x.step 0 5)) (SV.eq (.bool (inR x.tr 1 9))), SV.eq (.bool ((((inR x.saga 0 11) && (inR x.seq 1 400)) && (inR x.step 0 5)) && (inR x.tr 1 9))), SV.eq (.bool ((((inR x.saga 0 11) && (inR x.seq 1 400)) && (inR x.step 0 5)) && (inR x.tr 1 9)))] [([(1, none)], none), ([(40, some 0)], none), ([(41, some 1)], none), ([(42, some 2)], none), ([(1, none), (43, some 3)], some (43, true)), ([(44, some 4), (43, some 3)], some (43, true)), ([(45, some 5), (43, some 3)], some (43, true)), ([(43, some 3), (46, some 6)], none), ([(47, some 7)], none), ([(1, none), (48, some 8)], some (48, true)), ([(49, some 9), (48, some 8)], some (48, true)), ([(50, some 10), (48, some 8)], some (48, true)), ([(48, some 8), (51, some 11)], none), ([(52, some 12)], none), ([(1, none), (53, some 13)], some (53, true)), ([(54, some 14), (53, some 13)], some (53, true)), ([(55, some 15), (53, some 13)], some (53, true)), ([(53, some 13), (56, some 16)], none), ([(57, some 17)], none)] 79 19 rfl rfl (by kernel_rfl) NewT.trans (NewT.refl _) trivial (Nat.le_of_ble_eq_true rfl) ⟨?_, ?_, ?_, ?_, ?_, ?_, ?_, ?_, ?_, ?_, ?_, ?_, ?_, ?_, ?_, ?_, ?_, ?_, ?_, trivial⟩ ?_
    · -- 0: Op.fieldAddr 27 t1 1
      intro a wx hT hF _ K hK
      replace hK := fun v w' (h : NewT wx w') c => hK v w' h trivial c
      obtain ⟨f1, _⟩ := hF
      have f1 : a.tmps.getD 1 undef = .pointer (some ⟨w.heap.size, 0, none⟩) := f1
      refine rely_wp rfl ?_
      exact opr_fldR (by decide) rfl f1 (hK _ _ (NewT.refl _) rfl)
    · -- 1: Op.load 3 t40
      intro a wx hT hF _ K hK
      replace hK := fun v w' (h : NewT wx w') c => hK v w' h trivial c
      obtain ⟨f40, _⟩ := hF
      have f40 : a.tmps.getD 40 undef = .pointer (some ⟨w.heap.size, 1, none⟩) := f40
      refine rely_wp rfl ?_
      exact opr_ldI (hT.row R1.out) (by decide) rfl rfl f40 (hK _ _ (NewT.refl _) rfl)
    · -- 2: Op.call ( value (Operand.func 48), args := #[t41], argTypes := #[3] )
      intro a wx hT hF _ K hK
      replace hK := fun v w' (h : NewT wx w') c => hK v w' h trivial c
      obtain ⟨f41, _⟩ := hF
      have f41 : a.tmps.getD 41 undef = .int .i64 (x.saga) := f41
      refine rely_wp rfl ?_
      exact opr_cv (isSaga_cv x.saga wx) rfl Tryd.func48 (by kernel_rfl) (by kernel_rfl) (by simp only [List.map_toArray, List.map_cons, List.map_nil, eval_tmp, f41]) hK
    · -- 3: Op.move t42
      intro a wx hT hF _ K hK
      replace hK := fun v w' (h : NewT wx w') c => hK v w' h trivial c
      obtain ⟨f42, _⟩ := hF
      have f42 : a.tmps.getD 42 undef = .bool (inR x.saga 0 11) := f42
      refine rely_wp rfl ?_
      exact opr_move (.inl rfl) (hK _ _ (NewT.refl _) f42)
    · -- 4: Op.fieldAddr 27 t1 2
      intro a wx hT hF _ K hK
      replace hK := fun v w' (h : NewT wx w') c => hK v w' h trivial c
      obtain ⟨f1, f43, _⟩ := hF
      have f1 : a.tmps.getD 1 undef = .pointer (some ⟨w.heap.size, 0, none⟩) := f1
      have f43 : a.tmps.getD 43 undef = .bool (inR x.saga 0 11) := f43
      refine rely_on (rely_gt f43) (fun hE => ?_) (fun hE => hK _ _ (NewT.refl _) (svIf_off hE))
      replace hK := fun v w' (h : NewT wx w') (c : (SV.eq (.pointer (some ⟨w.heap.size, 2, none⟩))).pred v w') => hK v w' h (fun _ => c)
      exact opr_fldR (by decide) rfl f1 (hK _ _ (NewT.refl _) rfl)
    · -- 5: Op.load 3 t44
      intro a wx hT hF _ K hK
      replace hK := fun v w' (h : NewT wx w') c => hK v w' h trivial c
      obtain ⟨f44, f43, _⟩ := hF
      have f44 : (inR x.saga 0 11) = true → a.tmps.getD 44 undef = .pointer (some ⟨w.heap.size, 2, none⟩) := f44
      have f43 : a.tmps.getD 43 undef = .bool (inR x.saga 0 11) := f43
      refine rely_on (rely_gt f43) (fun hE => ?_) (fun hE => hK _ _ (NewT.refl _) (svIf_off hE))
      replace hK := fun v w' (h : NewT wx w') (c : (SV.eq (.int .i64 (x.seq))).pred v w') => hK v w' h (fun _ => c)
      exact opr_ldI (hT.row R1.out) (by decide) rfl rfl (f44 hE) (hK _ _ (NewT.refl _) rfl)
    · -- 6: Op.call ( value (Operand.func 51), args := #[t45], argTypes := #[3] )
      intro a wx hT hF _ K hK
      replace hK := fun v w' (h : NewT wx w') c => hK v w' h trivial c
      obtain ⟨f45, f43, _⟩ := hF
      have f45 : (inR x.saga 0 11) = true → a.tmps.getD 45 undef = .int .i64 (x.seq) := f45
      have f43 : a.tmps.getD 43 undef = .bool (inR x.saga 0 11) := f43
      refine rely_on (rely_gt f43) (fun hE => ?_) (fun hE => hK _ _ (NewT.refl _) (svIf_off hE))
      replace hK := fun v w' (h : NewT wx w') (c : (SV.eq (.bool (inR x.seq 1 400))).pred v w') => hK v w' h (fun _ => c)
      exact opr_cv (isSeq_cv x.seq wx) rfl Tryd.func51 (by kernel_rfl) (by kernel_rfl) (by simp only [List.map_toArray, List.map_cons, List.map_nil, eval_tmp, (f45 hE)]) hK
    · -- 7: Op.pick t43 t46 (const (Value.bool false))
      intro a wx hT hF _ K hK
      replace hK := fun v w' (h : NewT wx w') c => hK v w' h trivial c
      obtain ⟨f43, f46, _⟩ := hF
      have f43 : a.tmps.getD 43 undef = .bool (inR x.saga 0 11) := f43
      have f46 : (inR x.saga 0 11) = true → a.tmps.getD 46 undef = .bool (inR x.seq 1 400) := f46
      refine rely_wp rfl ?_
      exact opr_pick_b rfl f43 (fun hb => hK _ _ (NewT.refl _) (pk_and1 (f46 hb) hb)) (fun hb => hK _ _ (NewT.refl _) (pk_and0 hb))
    · -- 8: Op.move t47
      intro a wx hT hF _ K hK
      replace hK := fun v w' (h : NewT wx w') c => hK v w' h trivial c
      obtain ⟨f47, _⟩ := hF
      have f47 : a.tmps.getD 47 undef = .bool ((inR x.saga 0 11) && (inR x.seq 1 400)) := f47
      refine rely_wp rfl ?_
      exact opr_move (.inl rfl) (hK _ _ (NewT.refl _) f47)
    · -- 9: Op.fieldAddr 27 t1 3
      intro a wx hT hF _ K hK
      replace hK := fun v w' (h : NewT wx w') c => hK v w' h trivial c
      obtain ⟨f1, f48, _⟩ := hF
      have f1 : a.tmps.getD 1 undef = .pointer (some ⟨w.heap.size, 0, none⟩) := f1
      have f48 : a.tmps.getD 48 undef = .bool ((inR x.saga 0 11) && (inR x.seq 1 400)) := f48
      refine rely_on (rely_gt f48) (fun hE => ?_) (fun hE => hK _ _ (NewT.refl _) (svIf_off hE))
      replace hK := fun v w' (h : NewT wx w') (c : (SV.eq (.pointer (some ⟨w.heap.size, 3, none⟩))).pred v w') => hK v w' h (fun _ => c)
      exact opr_fldR (by decide) rfl f1 (hK _ _ (NewT.refl _) rfl)
    · -- 10: Op.load 3 t49
      intro a wx hT hF _ K hK
      replace hK := fun v w' (h : NewT wx w') c => hK v w' h trivial c
      obtain ⟨f49, f48, _⟩ := hF
      have f49 : ((inR x.saga 0 11) && (inR x.seq 1 400)) = true → a.tmps.getD 49 undef = .pointer (some ⟨w.heap.size, 3, none⟩) := f49
      have f48 : a.tmps.getD 48 undef = .bool ((inR x.saga 0 11) && (inR x.seq 1 400)) := f48
      refine rely_on (rely_gt f48) (fun hE => ?_) (fun hE => hK _ _ (NewT.refl _) (svIf_off hE))
      replace hK := fun v w' (h : NewT wx w') (c : (SV.eq (.int .i64 (x.step))).pred v w') => hK v w' h (fun _ => c)
      exact opr_ldI (hT.row R1.out) (by decide) rfl rfl (f49 hE) (hK _ _ (NewT.refl _) rfl)
    · -- 11: Op.call ( value (Operand.func 45), args := #[t50, const (0:i64), const
      intro a wx hT hF _ K hK
      replace hK := fun v w' (h : NewT wx w') c => hK v w' h trivial c
      obtain ⟨f50, f48, _⟩ := hF
      have f50 : ((inR x.saga 0 11) && (inR x.seq 1 400)) = true → a.tmps.getD 50 undef = .int .i64 (x.step) := f50
      have f48 : a.tmps.getD 48 undef = .bool ((inR x.saga 0 11) && (inR x.seq 1 400)) := f48
      refine rely_on (rely_gt f48) (fun hE => ?_) (fun hE => hK _ _ (NewT.refl _) (svIf_off hE))
      replace hK := fun v w' (h : NewT wx w') (c : (SV.eq (.bool (inR x.step 0 5))).pred v w') => hK v w' h (fun _ => c)
      exact opr_cv (within_cv x.step 0 5 wx) rfl Tryd.func45 (by kernel_rfl) (by kernel_rfl) (by simp only [List.map_toArray, List.map_cons, List.map_nil, eval_tmp, eval_const, (f50 hE)]) hK
    · -- 12: Op.pick t48 t51 (const (Value.bool false))
      intro a wx hT hF _ K hK
      replace hK := fun v w' (h : NewT wx w') c => hK v w' h trivial c
      obtain ⟨f48, f51, _⟩ := hF
      have f48 : a.tmps.getD 48 undef = .bool ((inR x.saga 0 11) && (inR x.seq 1 400)) := f48
      have f51 : ((inR x.saga 0 11) && (inR x.seq 1 400)) = true → a.tmps.getD 51 undef = .bool (inR x.step 0 5) := f51
      refine rely_wp rfl ?_
      exact opr_pick_b rfl f48 (fun hb => hK _ _ (NewT.refl _) (pk_and1 (f51 hb) hb)) (fun hb => hK _ _ (NewT.refl _) (pk_and0 hb))
    · -- 13: Op.move t52
      intro a wx hT hF _ K hK
      replace hK := fun v w' (h : NewT wx w') c => hK v w' h trivial c
      obtain ⟨f52, _⟩ := hF
      have f52 : a.tmps.getD 52 undef = .bool (((inR x.saga 0 11) && (inR x.seq 1 400)) && (inR x.step 0 5)) := f52
      refine rely_wp rfl ?_
      exact opr_move (.inl rfl) (hK _ _ (NewT.refl _) f52)
    · -- 14: Op.fieldAddr 27 t1 4
      intro a wx hT hF _ K hK
      replace hK := fun v w' (h : NewT wx w') c => hK v w' h trivial c
      obtain ⟨f1, f53, _⟩ := hF
      have f1 : a.tmps.getD 1 undef = .pointer (some ⟨w.heap.size, 0, none⟩) := f1
      have f53 : a.tmps.getD 53 undef = .bool (((inR x.saga 0 11) && (inR x.seq 1 400)) && (inR x.step 0 5)) := f53
      refine rely_on (rely_gt f53) (fun hE => ?_) (fun hE => hK _ _ (NewT.refl _) (svIf_off hE))
      replace hK := fun v w' (h : NewT wx w') (c : (SV.eq (.pointer (some ⟨w.heap.size, 4, none⟩))).pred v w') => hK v w' h (fun _ => c)
      exact opr_fldR (by decide) rfl f1 (hK _ _ (NewT.refl _) rfl)
    · -- 15: Op.load 3 t54
      intro a wx hT hF _ K hK
      replace hK := fun v w' (h : NewT wx w') c => hK v w' h trivial c
      obtain ⟨f54, f53, _⟩ := hF
      have f54 : (((inR x.saga 0 11) && (inR x.seq 1 400)) && (inR x.step 0 5)) = true → a.tmps.getD 54 undef = .pointer (some ⟨w.heap.size, 4, none⟩) := f54
      have f53 : a.tmps.getD 53 undef = .bool (((inR x.saga 0 11) && (inR x.seq 1 400)) && (inR x.step 0 5)) := f53
      refine rely_on (rely_gt f53) (fun hE => ?_) (fun hE => hK _ _ (NewT.refl _) (svIf_off hE))
      replace hK := fun v w' (h : NewT wx w') (c : (SV.eq (.int .i64 (x.tr))).pred v w') => hK v w' h (fun _ => c)
      exact opr_ldI (hT.row R1.out) (by decide) rfl rfl (f54 hE) (hK _ _ (NewT.refl _) rfl)
    · -- 16: Op.call ( value (Operand.func 45), args := #[t55, const (1:i64), const
      intro a wx hT hF _ K hK
      replace hK := fun v w' (h : NewT wx w') c => hK v w' h trivial c
      obtain ⟨f55, f53, _⟩ := hF
      have f55 : (((inR x.saga 0 11) && (inR x.seq 1 400)) && (inR x.step 0 5)) = true → a.tmps.getD 55 undef = .int .i64 (x.tr) := f55
      have f53 : a.tmps.getD 53 undef = .bool (((inR x.saga 0 11) && (inR x.seq 1 400)) && (inR x.step 0 5)) := f53
      refine rely_on (rely_gt f53) (fun hE => ?_) (fun hE => hK _ _ (NewT.refl _) (svIf_off hE))
      replace hK := fun v w' (h : NewT wx w') (c : (SV.eq (.bool (inR x.tr 1 9))).pred v w') => hK v w' h (fun _ => c)
      exact opr_cv (within_cv x.tr 1 9 wx) rfl Tryd.func45 (by kernel_rfl) (by kernel_rfl) (by simp only [List.map_toArray, List.map_cons, List.map_nil, eval_tmp, eval_const, (f55 hE)]) hK
    · -- 17: Op.pick t53 t56 (const (Value.bool false))
      intro a wx hT hF _ K hK
      replace hK := fun v w' (h : NewT wx w') c => hK v w' h trivial c
      obtain ⟨f53, f56, _⟩ := hF
      have f53 : a.tmps.getD 53 undef = .bool (((inR x.saga 0 11) && (inR x.seq 1 400)) && (inR x.step 0 5)) := f53
      have f56 : (((inR x.saga 0 11) && (inR x.seq 1 400)) && (inR x.step 0 5)) = true → a.tmps.getD 56 undef = .bool (inR x.tr 1 9) := f56
      refine rely_wp rfl ?_
      exact opr_pick_b rfl f53 (fun hb => hK _ _ (NewT.refl _) (pk_and1 (f56 hb) hb)) (fun hb => hK _ _ (NewT.refl _) (pk_and0 hb))
    · -- 18: Op.assign t57
      intro a wx hT hF _ K hK
      replace hK := fun v w' (h : NewT wx w') c => hK v w' h trivial c
      obtain ⟨f57, _⟩ := hF
      have f57 : a.tmps.getD 57 undef = .bool ((((inR x.saga 0 11) && (inR x.seq 1 400)) && (inR x.step 0 5)) && (inR x.tr 1 9)) := f57
      refine rely_wp rfl ?_
      exact opr_move (.inr rfl) (hK _ _ (NewT.refl _) f57)
    · intro wx hT hJ
      clear hJ
      intro u h; obtain rfl := h (by simp); clear h
      intro u h; obtain rfl := h (by simp); clear h
      intro u h; obtain rfl := h (by simp); clear h
      intro u h; obtain rfl := h (by simp); clear h
      intro _ _
      intro _ _
      intro _ _
      intro u h; obtain rfl := h (by simp); clear h
      intro u h; obtain rfl := h (by simp); clear h
      intro _ _
      intro _ _
      intro _ _
      intro u h; obtain rfl := h (by simp); clear h
      intro u h; obtain rfl := h (by simp); clear h
      intro _ _
      intro _ _
      intro _ _
      intro u h; obtain rfl := h (by simp); clear h
      intro u h; obtain rfl := h (by simp); clear h
      refine relyEnd_nil rfl ?_
      refine wpList_end rfl ?_
      simp only [Act.put, List.setIfInBounds_toArray, List.set_cons_zero, List.set_cons_succ]
      go_simp
      go_wp2
      go_ret
      exact ⟨_, rfl, NewT.trans _ _ _ HN.out hT, rfl⟩
  have k4 := hk
  clear hk
  by_cases hk : x.kind = 5
  · have hI : inRg x = ((inR x.saga 0 11 && inR x.seq 1 400) && inR x.nd 2 4) := by unfold inRg; simp only [hk]; simp
    rw [hI]
    clear hI
    go_enter Tryd.func28, Tryd.ntmps28
    go_upto_region 1 with fail
    have r1 := rowIs_box w 27 109 (recF x sv dv)
    have hN := NewT.alloc w (.cells (rowA 109 (recF x sv dv)) 27)
    change Code.wp _ _ _ _ (w.alloc (.cells (rowA 109 (recF x sv dv)) 27))
    generalize w.alloc (.cells (rowA 109 (recF x sv dv)) 27) = W0 at r1 hN ⊢
    have R1 := Lib.hid r1
    have HN := Lib.hid hN
    replace HX := Lib.hid (hN.recV HX.out)
    replace HS := Lib.hid (hN.pairs HS.out)
    replace HD := Lib.hid (hN.rd HD.out)
    clear r1 hN
    have c0 : W0.cell? ⟨w.heap.size, 0, none⟩ = some (.int .i64 x.kind) := R1.out.cell (by omega)
    rw [hk] at c0
    go_upto_region 12 with fail
    clear c0
    refine wp_region_steps (NewT) (fun _ _ => True) [SV.eq (.pointer (some ⟨w.heap.size, 1, none⟩)), SV.eq (.int .i64 (x.saga)), SV.eq (.bool (inR x.saga 0 11)), SV.eq (.bool (inR x.saga 0 11)), svIf (inR x.saga 0 11) (SV.eq (.pointer (some ⟨w.heap.size, 2, none⟩))), svIf (inR x.saga 0 11) (SV.eq (.int .i64 (x.seq))), svIf (inR x.saga 0 11) (SV.eq (.bool (inR x.seq 1 400))), SV.eq (.bool ((inR x.saga 0 11) && (inR x.seq 1 400))), SV.eq (.bool ((inR x.saga 0 11) && (inR x.seq 1 400))), svIf ((inR x.saga 0 11) && (inR x.seq 1 400)) (SV.eq (.pointer (some ⟨w.heap.size, 7, none⟩))), svIf ((inR x.saga 0 11) && (inR x.seq 1 400)) (SV.eq (.int .i64 (x.nd))), svIf ((inR x.saga 0 11) && (inR x.seq 1 400)) (SV.eq (.bool (inR x.nd 2 4))), SV.eq (.bool (((inR x.saga 0 11) && (inR x.seq 1 400)) && (inR x.nd 2 4))), SV.eq (.bool (((inR x.saga 0 11) && (inR x.seq 1 400)) && (inR x.nd 2 4)))] [([(1, none)], none), ([(58, some 0)], none), ([(59, some 1)], none), ([(60, some 2)], none), ([(1, none), (61, some 3)], some (61, true)), ([(62, some 4), (61, some 3)], some (61, true)), ([(63, some 5), (61, some 3)], some (61, true)), ([(61, some 3), (64, some 6)], none), ([(65, some 7)], none), ([(1, none), (66, some 8)], some (66, true)), ([(67, some 9), (66, some 8)], some (66, true)), ([(68, some 10), (66, some 8)], some (66, true)), ([(66, some 8), (69, some 11)], none), ([(70, some 12)], none)] 79 14 rfl rfl (by kernel_rfl) NewT.trans (NewT.refl _) trivial (Nat.le_of_ble_eq_true rfl) ⟨?_, ?_, ?_, ?_, ?_, ?_, ?_, ?_, ?_, ?_, ?_, ?_, ?_, ?_, trivial⟩ ?_
    · -- 0: Op.fieldAddr 27 t1 1
      intro a wx hT hF _ K hK
      replace hK := fun v w' (h : NewT wx w') c => hK v w' h trivial c
      obtain ⟨f1, _⟩ := hF
      have f1 : a.tmps.getD 1 undef = .pointer (some ⟨w.heap.size, 0, none⟩) := f1
      refine rely_wp rfl ?_
      exact opr_fldR (by decide) rfl f1 (hK _ _ (NewT.refl _) rfl)
    · -- 1: Op.load 3 t58
      intro a wx hT hF _ K hK
      replace hK := fun v w' (h : NewT wx w') c => hK v w' h trivial c
      obtain ⟨f58, _⟩ := hF
      have f58 : a.tmps.getD 58 undef = .pointer (some ⟨w.heap.size, 1, none⟩) := f58
      refine rely_wp rfl ?_
      exact opr_ldI (hT.row R1.out) (by decide) rfl rfl f58 (hK _ _ (NewT.refl _) rfl)
    · -- 2: Op.call ( value (Operand.func 48), args := #[t59], argTypes := #[3] )
      intro a wx hT hF _ K hK
      replace hK := fun v w' (h : NewT wx w') c => hK v w' h trivial c
      obtain ⟨f59, _⟩ := hF
      have f59 : a.tmps.getD 59 undef = .int .i64 (x.saga) := f59
      refine rely_wp rfl ?_
      exact opr_cv (isSaga_cv x.saga wx) rfl Tryd.func48 (by kernel_rfl) (by kernel_rfl) (by simp only [List.map_toArray, List.map_cons, List.map_nil, eval_tmp, f59]) hK
    · -- 3: Op.move t60
      intro a wx hT hF _ K hK
      replace hK := fun v w' (h : NewT wx w') c => hK v w' h trivial c
      obtain ⟨f60, _⟩ := hF
      have f60 : a.tmps.getD 60 undef = .bool (inR x.saga 0 11) := f60
      refine rely_wp rfl ?_
      exact opr_move (.inl rfl) (hK _ _ (NewT.refl _) f60)
    · -- 4: Op.fieldAddr 27 t1 2
      intro a wx hT hF _ K hK
      replace hK := fun v w' (h : NewT wx w') c => hK v w' h trivial c
      obtain ⟨f1, f61, _⟩ := hF
      have f1 : a.tmps.getD 1 undef = .pointer (some ⟨w.heap.size, 0, none⟩) := f1
      have f61 : a.tmps.getD 61 undef = .bool (inR x.saga 0 11) := f61
      refine rely_on (rely_gt f61) (fun hE => ?_) (fun hE => hK _ _ (NewT.refl _) (svIf_off hE))
      replace hK := fun v w' (h : NewT wx w') (c : (SV.eq (.pointer (some ⟨w.heap.size, 2, none⟩))).pred v w') => hK v w' h (fun _ => c)
      exact opr_fldR (by decide) rfl f1 (hK _ _ (NewT.refl _) rfl)
    · -- 5: Op.load 3 t62
      intro a wx hT hF _ K hK
      replace hK := fun v w' (h : NewT wx w') c => hK v w' h trivial c
      obtain ⟨f62, f61, _⟩ := hF
      have f62 : (inR x.saga 0 11) = true → a.tmps.getD 62 undef = .pointer (some ⟨w.heap.size, 2, none⟩) := f62
      have f61 : a.tmps.getD 61 undef = .bool (inR x.saga 0 11) := f61
      refine rely_on (rely_gt f61) (fun hE => ?_) (fun hE => hK _ _ (NewT.refl _) (svIf_off hE))
      replace hK := fun v w' (h : NewT wx w') (c : (SV.eq (.int .i64 (x.seq))).pred v w') => hK v w' h (fun _ => c)
      exact opr_ldI (hT.row R1.out) (by decide) rfl rfl (f62 hE) (hK _ _ (NewT.refl _) rfl)
    · -- 6: Op.call ( value (Operand.func 51), args := #[t63], argTypes := #[3] )
      intro a wx hT hF _ K hK
      replace hK := fun v w' (h : NewT wx w') c => hK v w' h trivial c
      obtain ⟨f63, f61, _⟩ := hF
      have f63 : (inR x.saga 0 11) = true → a.tmps.getD 63 undef = .int .i64 (x.seq) := f63
      have f61 : a.tmps.getD 61 undef = .bool (inR x.saga 0 11) := f61
      refine rely_on (rely_gt f61) (fun hE => ?_) (fun hE => hK _ _ (NewT.refl _) (svIf_off hE))
      replace hK := fun v w' (h : NewT wx w') (c : (SV.eq (.bool (inR x.seq 1 400))).pred v w') => hK v w' h (fun _ => c)
      exact opr_cv (isSeq_cv x.seq wx) rfl Tryd.func51 (by kernel_rfl) (by kernel_rfl) (by simp only [List.map_toArray, List.map_cons, List.map_nil, eval_tmp, (f63 hE)]) hK
    · -- 7: Op.pick t61 t64 (const (Value.bool false))
      intro a wx hT hF _ K hK
      replace hK := fun v w' (h : NewT wx w') c => hK v w' h trivial c
      obtain ⟨f61, f64, _⟩ := hF
      have f61 : a.tmps.getD 61 undef = .bool (inR x.saga 0 11) := f61
      have f64 : (inR x.saga 0 11) = true → a.tmps.getD 64 undef = .bool (inR x.seq 1 400) := f64
      refine rely_wp rfl ?_
      exact opr_pick_b rfl f61 (fun hb => hK _ _ (NewT.refl _) (pk_and1 (f64 hb) hb)) (fun hb => hK _ _ (NewT.refl _) (pk_and0 hb))
    · -- 8: Op.move t65
      intro a wx hT hF _ K hK
      replace hK := fun v w' (h : NewT wx w') c => hK v w' h trivial c
      obtain ⟨f65, _⟩ := hF
      have f65 : a.tmps.getD 65 undef = .bool ((inR x.saga 0 11) && (inR x.seq 1 400)) := f65
      refine rely_wp rfl ?_
      exact opr_move (.inl rfl) (hK _ _ (NewT.refl _) f65)
    · -- 9: Op.fieldAddr 27 t1 7
      intro a wx hT hF _ K hK
      replace hK := fun v w' (h : NewT wx w') c => hK v w' h trivial c
      obtain ⟨f1, f66, _⟩ := hF
      have f1 : a.tmps.getD 1 undef = .pointer (some ⟨w.heap.size, 0, none⟩) := f1
      have f66 : a.tmps.getD 66 undef = .bool ((inR x.saga 0 11) && (inR x.seq 1 400)) := f66
      refine rely_on (rely_gt f66) (fun hE => ?_) (fun hE => hK _ _ (NewT.refl _) (svIf_off hE))
      replace hK := fun v w' (h : NewT wx w') (c : (SV.eq (.pointer (some ⟨w.heap.size, 7, none⟩))).pred v w') => hK v w' h (fun _ => c)
      exact opr_fldR (by decide) rfl f1 (hK _ _ (NewT.refl _) rfl)
    · -- 10: Op.load 3 t67
      intro a wx hT hF _ K hK
      replace hK := fun v w' (h : NewT wx w') c => hK v w' h trivial c
      obtain ⟨f67, f66, _⟩ := hF
      have f67 : ((inR x.saga 0 11) && (inR x.seq 1 400)) = true → a.tmps.getD 67 undef = .pointer (some ⟨w.heap.size, 7, none⟩) := f67
      have f66 : a.tmps.getD 66 undef = .bool ((inR x.saga 0 11) && (inR x.seq 1 400)) := f66
      refine rely_on (rely_gt f66) (fun hE => ?_) (fun hE => hK _ _ (NewT.refl _) (svIf_off hE))
      replace hK := fun v w' (h : NewT wx w') (c : (SV.eq (.int .i64 (x.nd))).pred v w') => hK v w' h (fun _ => c)
      exact opr_ldI (hT.row R1.out) (by decide) rfl rfl (f67 hE) (hK _ _ (NewT.refl _) rfl)
    · -- 11: Op.call ( value (Operand.func 45), args := #[t68, const (2:i64), const
      intro a wx hT hF _ K hK
      replace hK := fun v w' (h : NewT wx w') c => hK v w' h trivial c
      obtain ⟨f68, f66, _⟩ := hF
      have f68 : ((inR x.saga 0 11) && (inR x.seq 1 400)) = true → a.tmps.getD 68 undef = .int .i64 (x.nd) := f68
      have f66 : a.tmps.getD 66 undef = .bool ((inR x.saga 0 11) && (inR x.seq 1 400)) := f66
      refine rely_on (rely_gt f66) (fun hE => ?_) (fun hE => hK _ _ (NewT.refl _) (svIf_off hE))
      replace hK := fun v w' (h : NewT wx w') (c : (SV.eq (.bool (inR x.nd 2 4))).pred v w') => hK v w' h (fun _ => c)
      exact opr_cv (within_cv x.nd 2 4 wx) rfl Tryd.func45 (by kernel_rfl) (by kernel_rfl) (by simp only [List.map_toArray, List.map_cons, List.map_nil, eval_tmp, eval_const, (f68 hE)]) hK
    · -- 12: Op.pick t66 t69 (const (Value.bool false))
      intro a wx hT hF _ K hK
      replace hK := fun v w' (h : NewT wx w') c => hK v w' h trivial c
      obtain ⟨f66, f69, _⟩ := hF
      have f66 : a.tmps.getD 66 undef = .bool ((inR x.saga 0 11) && (inR x.seq 1 400)) := f66
      have f69 : ((inR x.saga 0 11) && (inR x.seq 1 400)) = true → a.tmps.getD 69 undef = .bool (inR x.nd 2 4) := f69
      refine rely_wp rfl ?_
      exact opr_pick_b rfl f66 (fun hb => hK _ _ (NewT.refl _) (pk_and1 (f69 hb) hb)) (fun hb => hK _ _ (NewT.refl _) (pk_and0 hb))
    · -- 13: Op.assign t70
      intro a wx hT hF _ K hK
      replace hK := fun v w' (h : NewT wx w') c => hK v w' h trivial c
      obtain ⟨f70, _⟩ := hF
      have f70 : a.tmps.getD 70 undef = .bool (((inR x.saga 0 11) && (inR x.seq 1 400)) && (inR x.nd 2 4)) := f70
      refine rely_wp rfl ?_
      exact opr_move (.inr rfl) (hK _ _ (NewT.refl _) f70)
    · intro wx hT hJ
      clear hJ
      intro u h; obtain rfl := h (by simp); clear h
      intro u h; obtain rfl := h (by simp); clear h
      intro u h; obtain rfl := h (by simp); clear h
      intro u h; obtain rfl := h (by simp); clear h
      intro _ _
      intro _ _
      intro _ _
      intro u h; obtain rfl := h (by simp); clear h
      intro u h; obtain rfl := h (by simp); clear h
      intro _ _
      intro _ _
      intro _ _
      intro u h; obtain rfl := h (by simp); clear h
      intro u h; obtain rfl := h (by simp); clear h
      refine relyEnd_nil rfl ?_
      refine wpList_end rfl ?_
      simp only [Act.put, List.setIfInBounds_toArray, List.set_cons_zero, List.set_cons_succ]
      go_simp
      go_wp2
      go_ret
      exact ⟨_, rfl, NewT.trans _ _ _ HN.out hT, rfl⟩
  have k5 := hk
  clear hk
  by_cases hk : x.kind = 6
  · have hI : inRg x = (inR x.part 0 3 && inR x.epoch 1 400) := by unfold inRg; simp only [hk]; simp
    rw [hI]
    clear hI
    go_enter Tryd.func28, Tryd.ntmps28
    go_upto_region 1 with fail
    have r1 := rowIs_box w 27 109 (recF x sv dv)
    have hN := NewT.alloc w (.cells (rowA 109 (recF x sv dv)) 27)
    change Code.wp _ _ _ _ (w.alloc (.cells (rowA 109 (recF x sv dv)) 27))
    generalize w.alloc (.cells (rowA 109 (recF x sv dv)) 27) = W0 at r1 hN ⊢
    have R1 := Lib.hid r1
    have HN := Lib.hid hN
    replace HX := Lib.hid (hN.recV HX.out)
    replace HS := Lib.hid (hN.pairs HS.out)
    replace HD := Lib.hid (hN.rd HD.out)
    clear r1 hN
    have c0 : W0.cell? ⟨w.heap.size, 0, none⟩ = some (.int .i64 x.kind) := R1.out.cell (by omega)
    rw [hk] at c0
    go_upto_region 13 with fail
    clear c0
    refine wp_region_steps (NewT) (fun _ _ => True) [SV.eq (.pointer (some ⟨w.heap.size, 8, none⟩)), SV.eq (.int .i64 (x.part)), SV.eq (.bool (inR x.part 0 3)), SV.eq (.bool (inR x.part 0 3)), svIf (inR x.part 0 3) (SV.eq (.pointer (some ⟨w.heap.size, 9, none⟩))), svIf (inR x.part 0 3) (SV.eq (.int .i64 (x.epoch))), svIf (inR x.part 0 3) (SV.eq (.bool (inR x.epoch 1 400))), SV.eq (.bool ((inR x.part 0 3) && (inR x.epoch 1 400))), SV.eq (.bool ((inR x.part 0 3) && (inR x.epoch 1 400)))] [([(1, none)], none), ([(71, some 0)], none), ([(72, some 1)], none), ([(73, some 2)], none), ([(1, none), (74, some 3)], some (74, true)), ([(75, some 4), (74, some 3)], some (74, true)), ([(76, some 5), (74, some 3)], some (74, true)), ([(74, some 3), (77, some 6)], none), ([(78, some 7)], none)] 79 9 rfl rfl (by kernel_rfl) NewT.trans (NewT.refl _) trivial (Nat.le_of_ble_eq_true rfl) ⟨?_, ?_, ?_, ?_, ?_, ?_, ?_, ?_, ?_, trivial⟩ ?_
    · -- 0: Op.fieldAddr 27 t1 8
      intro a wx hT hF _ K hK
      replace hK := fun v w' (h : NewT wx w') c => hK v w' h trivial c
      obtain ⟨f1, _⟩ := hF
      have f1 : a.tmps.getD 1 undef = .pointer (some ⟨w.heap.size, 0, none⟩) := f1
      refine rely_wp rfl ?_
      exact opr_fldR (by decide) rfl f1 (hK _ _ (NewT.refl _) rfl)
    · -- 1: Op.load 3 t71
      intro a wx hT hF _ K hK
      replace hK := fun v w' (h : NewT wx w') c => hK v w' h trivial c
      obtain ⟨f71, _⟩ := hF
      have f71 : a.tmps.getD 71 undef = .pointer (some ⟨w.heap.size, 8, none⟩) := f71
      refine rely_wp rfl ?_
      exact opr_ldI (hT.row R1.out) (by decide) rfl rfl f71 (hK _ _ (NewT.refl _) rfl)
    · -- 2: Op.call ( value (Operand.func 50), args := #[t72], argTypes := #[3] )
      intro a wx hT hF _ K hK
      replace hK := fun v w' (h : NewT wx w') c => hK v w' h trivial c
      obtain ⟨f72, _⟩ := hF
      have f72 : a.tmps.getD 72 undef = .int .i64 (x.part) := f72
      refine rely_wp rfl ?_
      exact opr_cv (isPart_cv x.part wx) rfl Tryd.func50 (by kernel_rfl) (by kernel_rfl) (by simp only [List.map_toArray, List.map_cons, List.map_nil, eval_tmp, f72]) hK
    · -- 3: Op.move t73
      intro a wx hT hF _ K hK
      replace hK := fun v w' (h : NewT wx w') c => hK v w' h trivial c
      obtain ⟨f73, _⟩ := hF
      have f73 : a.tmps.getD 73 undef = .bool (inR x.part 0 3) := f73
      refine rely_wp rfl ?_
      exact opr_move (.inl rfl) (hK _ _ (NewT.refl _) f73)
    · -- 4: Op.fieldAddr 27 t1 9
      intro a wx hT hF _ K hK
      replace hK := fun v w' (h : NewT wx w') c => hK v w' h trivial c
      obtain ⟨f1, f74, _⟩ := hF
      have f1 : a.tmps.getD 1 undef = .pointer (some ⟨w.heap.size, 0, none⟩) := f1
      have f74 : a.tmps.getD 74 undef = .bool (inR x.part 0 3) := f74
      refine rely_on (rely_gt f74) (fun hE => ?_) (fun hE => hK _ _ (NewT.refl _) (svIf_off hE))
      replace hK := fun v w' (h : NewT wx w') (c : (SV.eq (.pointer (some ⟨w.heap.size, 9, none⟩))).pred v w') => hK v w' h (fun _ => c)
      exact opr_fldR (by decide) rfl f1 (hK _ _ (NewT.refl _) rfl)
    · -- 5: Op.load 3 t75
      intro a wx hT hF _ K hK
      replace hK := fun v w' (h : NewT wx w') c => hK v w' h trivial c
      obtain ⟨f75, f74, _⟩ := hF
      have f75 : (inR x.part 0 3) = true → a.tmps.getD 75 undef = .pointer (some ⟨w.heap.size, 9, none⟩) := f75
      have f74 : a.tmps.getD 74 undef = .bool (inR x.part 0 3) := f74
      refine rely_on (rely_gt f74) (fun hE => ?_) (fun hE => hK _ _ (NewT.refl _) (svIf_off hE))
      replace hK := fun v w' (h : NewT wx w') (c : (SV.eq (.int .i64 (x.epoch))).pred v w') => hK v w' h (fun _ => c)
      exact opr_ldI (hT.row R1.out) (by decide) rfl rfl (f75 hE) (hK _ _ (NewT.refl _) rfl)
    · -- 6: Op.call ( value (Operand.func 45), args := #[t76, const (1:i64), const
      intro a wx hT hF _ K hK
      replace hK := fun v w' (h : NewT wx w') c => hK v w' h trivial c
      obtain ⟨f76, f74, _⟩ := hF
      have f76 : (inR x.part 0 3) = true → a.tmps.getD 76 undef = .int .i64 (x.epoch) := f76
      have f74 : a.tmps.getD 74 undef = .bool (inR x.part 0 3) := f74
      refine rely_on (rely_gt f74) (fun hE => ?_) (fun hE => hK _ _ (NewT.refl _) (svIf_off hE))
      replace hK := fun v w' (h : NewT wx w') (c : (SV.eq (.bool (inR x.epoch 1 400))).pred v w') => hK v w' h (fun _ => c)
      exact opr_cv (within_cv x.epoch 1 400 wx) rfl Tryd.func45 (by kernel_rfl) (by kernel_rfl) (by simp only [List.map_toArray, List.map_cons, List.map_nil, eval_tmp, eval_const, (f76 hE)]) hK
    · -- 7: Op.pick t74 t77 (const (Value.bool false))
      intro a wx hT hF _ K hK
      replace hK := fun v w' (h : NewT wx w') c => hK v w' h trivial c
      obtain ⟨f74, f77, _⟩ := hF
      have f74 : a.tmps.getD 74 undef = .bool (inR x.part 0 3) := f74
      have f77 : (inR x.part 0 3) = true → a.tmps.getD 77 undef = .bool (inR x.epoch 1 400) := f77
      refine rely_wp rfl ?_
      exact opr_pick_b rfl f74 (fun hb => hK _ _ (NewT.refl _) (pk_and1 (f77 hb) hb)) (fun hb => hK _ _ (NewT.refl _) (pk_and0 hb))
    · -- 8: Op.assign t78
      intro a wx hT hF _ K hK
      replace hK := fun v w' (h : NewT wx w') c => hK v w' h trivial c
      obtain ⟨f78, _⟩ := hF
      have f78 : a.tmps.getD 78 undef = .bool ((inR x.part 0 3) && (inR x.epoch 1 400)) := f78
      refine rely_wp rfl ?_
      exact opr_move (.inr rfl) (hK _ _ (NewT.refl _) f78)
    · intro wx hT hJ
      clear hJ
      intro u h; obtain rfl := h (by simp); clear h
      intro u h; obtain rfl := h (by simp); clear h
      intro u h; obtain rfl := h (by simp); clear h
      intro u h; obtain rfl := h (by simp); clear h
      intro _ _
      intro _ _
      intro _ _
      intro u h; obtain rfl := h (by simp); clear h
      intro u h; obtain rfl := h (by simp); clear h
      refine relyEnd_nil rfl ?_
      refine wpList_end rfl ?_
      simp only [Act.put, List.setIfInBounds_toArray, List.set_cons_zero, List.set_cons_succ]
      go_simp
      go_wp2
      go_ret
      exact ⟨_, rfl, NewT.trans _ _ _ HN.out hT, rfl⟩
  have k6 := hk
  clear hk
  have hI : inRg x = false := by unfold inRg; simp [k1, k2, k3, k4, k5, k6]
  rw [hI]
  clear hI
  go_enter Tryd.func28, Tryd.ntmps28
  go_upto_region 1 with fail
  have r1 := rowIs_box w 27 109 (recF x sv dv)
  have hN := NewT.alloc w (.cells (rowA 109 (recF x sv dv)) 27)
  change Code.wp _ _ _ _ (w.alloc (.cells (rowA 109 (recF x sv dv)) 27))
  generalize w.alloc (.cells (rowA 109 (recF x sv dv)) 27) = W0 at r1 hN ⊢
  have R1 := Lib.hid r1
  have HN := Lib.hid hN
  replace HX := Lib.hid (hN.recV HX.out)
  replace HS := Lib.hid (hN.pairs HS.out)
  replace HD := Lib.hid (hN.rd HD.out)
  clear r1 hN
  have c0 : W0.cell? ⟨w.heap.size, 0, none⟩ = some (.int .i64 x.kind) := R1.out.cell (by omega)
  have q1 : (x.kind == 1) = false := by simpa using k1
  have q2 : (x.kind == 2) = false := by simpa using k2
  have q3 : (x.kind == 3) = false := by simpa using k3
  have q4 : (x.kind == 4) = false := by simpa using k4
  have q5 : (x.kind == 5) = false := by simpa using k5
  have q6 : (x.kind == 6) = false := by simpa using k6
  generalize x.kind = kd at c0 q1 q2 q3 q4 q5 q6
  clear k1 k2 k3 k4 k5 k6
  go_wp2
  go_ret
  exact ⟨_, rfl, HN.out, rfl⟩
end Go.Proofs.YthgblcpekhiphaaDoor
/- A region that draws its order and makes two arrays: beside the conditions of single operations a relation on the frame that each step keeps. -/
namespace Go.Proofs.YthgblcpekhiphaaDoor
open Go Go.RowKit
set_option maxRecDepth 8000

def relyStepJ (P : Program) (Q : Exit → Act → World → Prop) (T : World → World → Prop) (V : List (SV T)) (J : Act → World → Prop) (a0 : Act) (w0 : World) (o : Oper) (dp : List (Tmp × Option Nat)) (g : Option (Tmp × Bool)) (c : SV T) : Prop :=
  ∀ (a : Act) (w : World), T w0 w → relyFacts V a0 a w dp → J a w → ∀ K : Act → World → Prop, (∀ v w', T w w' → c.pred v w' → J (a.put o.dst v) w' → K (a.put o.dst v) w') →
    if relyGuard g a then o.wp P a w K Q else K (a.put o.dst undef) w
def relyAllJ (P : Program) (Q : Exit → Act → World → Prop) (T : World → World → Prop) (V : List (SV T)) (J : Act → World → Prop) (a0 : Act) (w0 : World) : List Oper → Deps → List (SV T) → Prop
  | [], _, _ => True
  | o :: r, (dp, g) :: D, c :: C => relyStepJ P Q T V J a0 w0 o dp g c ∧ relyAllJ P Q T V J a0 w0 r D C
  | _, _, _ => False
section
variable {P : Program} {ops : Array Oper} {Q : Exit → Act → World → Prop} {T : World → World → Prop} {V : List (SV T)} {J : Act → World → Prop} {a0 : Act} {w0 : World} {n : Nat} {D : Deps} {init tail : List Oper}
/-- A step that keeps the relation whatever its value is. -/
theorem relyStepJ_of {o : Oper} {dp : List (Tmp × Option Nat)} {g : Option (Tmp × Bool)} {c : SV T} (hj : ∀ a w v w', J a w → T w w' → J (a.put o.dst v) w') (h : relyStep P Q T V a0 w0 o dp g c) : relyStepJ P Q T V J a0 w0 o dp g c :=
  fun a w hT hF hJ K hK => h a w hT hF K fun v w' h1 h2 => hK v w' h1 h2 (hj a w v w' hJ h1)
theorem relyAllJ_at : ∀ (l : List Oper) (D : Deps) (C : List (SV T)) (k : Nat) (o : Oper) dp g, relyAllJ P Q T V J a0 w0 l D C → l[k]? = some o → D[k]? = some (dp, g) → relyStepJ P Q T V J a0 w0 o dp g (C.getD k SV.any)
  | [], _, _, _, _, _, _, _, h, _ => by simp at h
  | x :: r, [], _, _, _, _, _, h, _, _ => h.elim
  | x :: r, y :: D, [], _, _, _, _, h, _, _ => h.elim
  | x :: r, (dp, g) :: D, c :: C, 0, o, dp', g', h, ho, hD => by
    simp at ho hD
    obtain ⟨rfl, rfl⟩ := hD
    subst ho
    exact h.1
  | x :: r, (dp, g) :: D, c :: C, k + 1, o, dp', g', h, ho, hD => by
    have := relyAllJ_at r D C k o dp' g' h.2 (by simpa using ho) (by simpa using hD)
    simpa using this
theorem rely_next (hn : a0.tmps.size = n) (ht : ∀ a b c : World, T a b → T b c → T a c) {i : Nat} {o : Oper} {dp : List (Tmp × Option Nat)} {g : Option (Tmp × Bool)} {listed : Array Bool} {a : Act} {w : World}
    (ho : ops[i]? = some o) (h1 : relyOne ops n i o dp g = true) (h0 : listed.getD i true = false)
    (hall : ∀ e ∈ o.after, Region.binds .any e = true → listed.getD e.on false = true) (inv : RelyInv ops T V a0 w0 listed a w) :
    relyFacts V a0 a w dp ∧ Region.wanted o (yielded ops a.tmps) = relyGuard g a ∧ ∀ v w', T w w' → (V.getD i SV.any).pred v w' → RelyInv ops T V a0 w0 (listed.setIfInBounds i true) (a.put o.dst v) w' := by
  simp only [relyOne, Bool.and_eq_true] at h1
  obtain ⟨⟨⟨hdst, hafter⟩, hdp⟩, hg⟩ := h1
  have waits : ∀ j, Region.waitsFor .any ops i j = true → listed.getD j false = true := fun j hj => by
    obtain ⟨oi, hoi, e, he, hb, hon⟩ := Region.waitsFor_spec hj
    have : oi = o := Option.some.inj (hoi.symm.trans ho)
    subst this
    rw [← hon]
    exact hall e he hb
  have i0 : listed.getD i false = false := getD_both h0
  have hfacts : relyFacts V a0 a w dp := by
      induction dp with
    | nil => trivial
    | cons x r ih2 =>
      simp only [List.all_cons, Bool.and_eq_true] at hdp
      obtain ⟨hx, hr⟩ := hdp
      obtain ⟨d, j⟩ := x
      cases j with
      | some j =>
        simp only [Bool.and_eq_true, beq_iff_eq] at hx
        exact ⟨inv.new j d hx.1 (waits j hx.2), ih2 hr⟩
      | none =>
        refine ⟨inv.old d fun j hj => ?_, ih2 hr⟩
        have hjlt : j < ops.size := by
          unfold relyDst at hj
          cases hoj : ops[j]? with
          | none => simp [hoj] at hj
          | some oj => exact (Array.getElem?_eq_some_iff.1 hoj).1
        have h2 := List.all_eq_true.1 hx j (List.mem_range.2 hjlt)
        simp only [hj, bne_self_eq_false, Bool.false_or, Bool.or_eq_true, decide_eq_true_eq] at h2
        rcases h2 with rfl | h2
        · exact i0
        · cases hlj : listed.getD j false with
          | false => rfl
          | true =>
            obtain ⟨oj, hoj, e, he, hb, hon⟩ := Region.waitsFor_spec h2
            have := inv.closed j oj hoj hlj e he hb
            rw [hon, i0] at this
            cases this
  have hguard : Region.wanted o (yielded ops a.tmps) = relyGuard g a := by
    unfold Region.wanted
    cases hgo : o.guard with
    | none =>
      rw [hgo] at hg
      cases g with
      | none => rfl
      | some x => cases hg
    | some kb =>
      obtain ⟨k, b⟩ := kb
      rw [hgo] at hg
      cases g with
      | none => cases hg
      | some x =>
        obtain ⟨d, b'⟩ := x
        simp only [Bool.and_eq_true, beq_iff_eq, decide_eq_true_eq] at hg
        obtain ⟨⟨⟨rfl, hd⟩, _⟩, hlt⟩ := hg
        have hlt' : d < a.tmps.size := by rw [inv.slots, hn]; exact hlt
        have hd' : (ops[k]?).bind (·.dst) = some d := hd
        simp only [yielded, hd', Option.bind_some, relyGuard, Array.getD_eq_getD_getElem?, Array.getElem?_eq_getElem hlt', Option.getD_some]
        cases a.tmps[d] <;> simp
        all_goals (rename_i x; cases x <;> cases b <;> rfl)
  have next : ∀ v w', T w w' → (V.getD i SV.any).pred v w' → RelyInv ops T V a0 w0 (listed.setIfInBounds i true) (a.put o.dst v) w' := fun v w' hT hv => by
    have hilt : i < listed.size := by rw [inv.size]; exact (Array.getElem?_eq_some_iff.1 ho).1
    refine ⟨by simp [inv.size], fun j oj hj hlj e he hb => ?_, ht _ _ _ inv.now hT, by cases o.dst <;> simp [Act.put, inv.slots], by cases o.dst <;> simp [Act.put, inv.defers], fun j d hj hlj => ?_, fun d hno => ?_⟩
    · by_cases hij : i = j
      · subst hij
        have : oj = o := Option.some.inj (hj.symm.trans ho)
        subst this
        exact getD_set_true (hall e he hb)
      · rw [getD_set_ne false hij] at hlj
        exact getD_set_true (inv.closed j oj hj hlj e he hb)
    · by_cases hij : i = j
      · subst hij
        have hd : o.dst = some d := by simpa [relyDst, ho] using hj
        rw [hd] at hdst
        simp only [Bool.and_eq_true, decide_eq_true_eq] at hdst
        have hlt : d < a.tmps.size := by rw [inv.slots, hn]; exact hdst.1
        rw [hd]
        simpa [Act.put, hlt] using hv
      · rw [getD_set_ne false hij] at hlj
        have h3 := (V.getD j SV.any).stable _ _ _ (inv.new j d hj hlj) hT
        cases hod : o.dst with
        | none => exact h3
        | some d0 =>
          rw [hod] at hdst
          simp only [Bool.and_eq_true, decide_eq_true_eq] at hdst
          have hjlt : j < ops.size := by
            unfold relyDst at hj
            cases hoj : ops[j]? with
            | none => simp [hoj] at hj
            | some oj => exact (Array.getElem?_eq_some_iff.1 hoj).1
          have h4 := List.all_eq_true.1 hdst.2 j (List.mem_range.2 hjlt)
          simp only [Bool.or_eq_true, decide_eq_true_eq, bne_iff_ne, ne_eq] at h4
          have hne : d0 ≠ d := fun e => by
            subst e
            rcases h4 with h4 | h4
            · exact hij h4.symm
            · exact h4 hj
          simpa [Act.put, Array.getElem?_setIfInBounds_ne hne] using h3
    · have hni : o.dst ≠ some d := fun hd => by
        have := hno i (by simp [relyDst, ho, hd])
        simp [hilt] at this
      have hold := inv.old d fun j hj => by
        have hij : i ≠ j := fun e => by subst e; exact hni (by simpa [relyDst, ho] using hj)
        have := hno j hj
        rwa [getD_set_ne false hij] at this
      cases hod : o.dst with
      | none => exact hold
      | some d0 =>
        have hne : d0 ≠ d := fun e => hni (by rw [hod, e])
        simpa [Act.put, Array.getElem?_setIfInBounds_ne hne] using hold
  exact ⟨hfacts, hguard, next⟩
theorem wpAny_relyJ_tail (hsplit : ops.toList = init ++ tail) (hpos : 0 < tail.length) (hn : a0.tmps.size = n) (hB : relyB ops n 0 init D = true) (hsink : Region.sinkB .any ops init.length = true) (htb : tailB ops tail init.length = true) (ht : ∀ a b c : World, T a b → T b c → T a c)
    (hl : init.length ≤ V.length) (hA : relyAllJ P Q T V J a0 w0 init D V) (hE : ∀ w, T w0 w → relyEnd (fun _ a w => J a w → wpList P ops Q tail a w) T init V a0 w) :
    ∀ (fuel : Nat) (listed : Array Bool) (a : Act) (w : World), (unl ops listed).length = fuel → (∀ j, init.length ≤ j → j < ops.size → listed.getD j true = false) → RelyInv ops T V a0 w0 listed a w → J a w → wpAny P .any ops Q fuel listed a w := by
  obtain ⟨hsz, hpre, htl⟩ := split_at hsplit
  have hat : ∀ i o, init[i]? = some o → ∃ dp g, relyOne ops n i o dp g = true ∧ relyStepJ P Q T V J a0 w0 o dp g (V.getD i SV.any) := fun i o hi => by
    obtain ⟨dp, g, hD, h1⟩ := relyB_at init D 0 i o hB hi
    rw [Nat.zero_add] at h1
    exact ⟨dp, g, h1, relyAllJ_at _ _ _ i o dp g hA hi hD⟩
  -- once all of the first ones have come up
  have fin : ∀ (fuel : Nat) (listed : Array Bool) (a : Act) (w : World), (unl ops listed).length = fuel → (∀ j, init.length ≤ j → j < ops.size → listed.getD j true = false) → RelyInv ops T V a0 w0 listed a w → J a w → (∀ j, j < init.length → listed.getD j false = true) → wpAny P .any ops Q fuel listed a w := fun fuel listed a w hu hun inv hJ hdone => by
    have h1 : wpList P ops Q tail a w := rely_all (Q' := fun a w => J a w → wpList P ops Q tail a w) inv
      (fun k o hk => ⟨hpre k o hk, hdone k (List.getElem?_eq_some_iff.1 hk).1⟩) (fun j hj => by
        rcases Nat.lt_or_ge j init.length with h | h
        · exact h
        · rcases Nat.lt_or_ge j ops.size with h' | h'
          · rw [getD_both (hun j h h')] at hj; cases hj
          · have : listed.getD j false = false := by simp [Array.getElem?_eq_none (show listed.size ≤ j by rw [inv.size]; omega)]
            rw [this] at hj; cases hj) hl (hE w inv.now) hJ
    have hf : fuel = tail.length := by
      rw [← hu]
      unfold unl
      have e : (List.range ops.size).filter (fun i => !listed.getD i true) = List.range' init.length tail.length := by
        rw [List.range_eq_range', show ops.size = init.length + tail.length from hsz, ← List.range'_append_1, List.filter_append, List.filter_eq_nil_iff.2, List.filter_eq_self.2]
        · simp
        · intro i hi
          simp only [List.mem_range'_1] at hi
          rw [hun i (by omega) (by omega)]; rfl
        · intro i hi
          simp only [List.mem_range'_1] at hi
          have h2 := hdone i (by omega)
          have h3 : listed.getD i true = true := by
            have hlt : i < listed.size := by rw [inv.size]; omega
            simp [hlt] at h2 ⊢; exact h2
          rw [h3]; simp
      rw [e]; simp
    subst hf
    exact tail_seq hsplit htb tail.length 0 listed a w (by omega) inv.size (by simpa using hdone) (by simpa using hun) (by simpa using h1)
  intro fuel
  induction fuel with
  | zero =>
    intro listed a w hu hun inv hJ
    have : init.length ∈ unl ops listed := by
      unfold unl; rw [List.mem_filter]; exact ⟨List.mem_range.2 (by omega), by rw [hun _ (Nat.le_refl _) (by omega)]; rfl⟩
    rw [List.eq_nil_of_length_eq_zero hu] at this
    cases this
  | succ fuel ih =>
    intro listed a w hu hun inv hJ
    by_cases hdone : ∀ j, j < init.length → listed.getD j false = true
    · exact fin _ listed a w hu hun inv hJ hdone
    · -- none of the last ones may come up yet
      have hlow : ∀ i, i ∈ Region.ready .any ops listed → i < init.length := fun i hi => by
        rcases Nat.lt_or_ge i init.length with h | h
        · exact h
        · exfalso
          obtain ⟨h0, o, ho, hall⟩ := mem_ready.1 hi
          have hilt := (Array.getElem?_eq_some_iff.1 ho).1
          by_cases him : i = init.length
          · subst him
            apply hdone
            have hd : ∀ (d j : Nat), init.length - j = d → j < init.length → listed.getD j false = true := fun d => by
              induction d using Nat.strongRecOn with
              | _ d ihd =>
                intro j hd hj
                have h1 := List.all_eq_true.1 hsink j (List.mem_range.2 hj)
                obtain ⟨t, ht1, ht2⟩ := List.any_eq_true.1 h1
                simp only [Bool.and_eq_true, decide_eq_true_eq] at ht2
                obtain ⟨ot, hot, e, he, hb, hon⟩ := Region.waitsFor_spec ht2.2
                have htle : t ≤ init.length := by have := List.mem_range.1 ht1; omega
                rw [← hon]
                by_cases htm : t = init.length
                · subst htm
                  have : ot = o := Option.some.inj (hot.symm.trans ho)
                  subst this
                  exact hall e he hb
                · exact inv.closed t ot hot (ihd (init.length - t) (by omega) t rfl (by omega)) e he hb
            exact fun j hj => hd _ j rfl hj
          · have h := List.all_eq_true.1 htb (i - init.length) (List.mem_range.2 (by omega))
            simp only [Bool.and_eq_true, Bool.or_eq_true, decide_eq_true_eq] at h
            rw [show init.length + (i - init.length) = i by omega] at h
            rcases h.2 with h | h
            · omega
            · obtain ⟨oi, hoi', e, he, hbe, hon⟩ := Region.waitsFor_spec h
              have : oi = o := Option.some.inj (hoi'.symm.trans ho)
              subst this
              have h1 := hall e he hbe
              rw [hon, getD_both (hun (i - 1) (by omega) (by omega))] at h1
              cases h1
      refine ⟨fun hr => ?_, fun i hi => ?_⟩
      · exfalso
        apply hdone
        intro i
        induction i using Nat.strongRecOn with
        | _ i ih =>
          intro hi
          cases hli : listed.getD i false with
          | true => rfl
          | false =>
            exfalso
            have hmem : i ∈ Region.ready .any ops listed := by
              rw [mem_ready]
              refine ⟨getD_in (by rw [inv.size]; omega) hli, init[i], hpre i _ (List.getElem?_eq_getElem hi), fun e he hb => ?_⟩
              obtain ⟨dp, g, h1, _⟩ := hat i init[i] (List.getElem?_eq_getElem hi)
              simp only [relyOne, Bool.and_eq_true] at h1
              have h2 := (Array.all_eq_true_iff_forall_mem.1 h1.1.1.2) e he
              simp only [hb, Bool.not_true, Bool.false_or, decide_eq_true_eq] at h2
              exact ih e.on h2 (by omega)
            rw [hr] at hmem
            cases hmem
      · have hi' := hlow i hi
        obtain ⟨h0, o, ho, hall⟩ := mem_ready.1 hi
        have hio : init[i]? = some o := by
          have := hpre i init[i] (List.getElem?_eq_getElem hi')
          rw [ho] at this
          rw [List.getElem?_eq_getElem hi', Option.some.inj this]
        obtain ⟨dp, g, h1, hstep⟩ := hat i o hio
        obtain ⟨hfacts, hguard, next⟩ := rely_next hn ht ho h1 h0 hall inv
        have hs := hstep a w inv.now hfacts hJ (fun a' w' => wpAny P .any ops Q fuel (listed.setIfInBounds i true) a' w') (fun v w' hT hv hJ' => ih _ _ w' (by have := unl_set inv.size h0; omega) (fun j hj hj2 => by rw [getD_set_ne true (by omega)]; exact hun j hj hj2) (next v w' hT hv) hJ')
        unfold wpOp
        simp only [ho, hguard]
        split
        · rename_i hw; rw [if_pos hw] at hs; exact .inl hs
        · rename_i hw; rw [if_neg hw] at hs; exact hs
/-- **A region that draws its order, the last operations (from place m on) one behind the other.** -/
theorem wp_region_relyJ_tail {id : Nat} (T : World → World → Prop) (V : List (SV T)) (D : Deps) (n m : Nat) (hm : P.follows .mixedOrders = true) (hn : a0.tmps.size = n) (hlen : (ops.toList.take m).length = m) (hpos : 0 < (ops.toList.drop m).length) (hB : relyB ops n 0 (ops.toList.take m) D = true)
    (hsink : Region.sinkB .any ops m = true) (htb : tailB ops (ops.toList.drop m) m = true) (ht : ∀ a b c : World, T a b → T b c → T a c) (hd : T w0 w0.drew) (hJ0 : J a0 w0.drew) (hl : m ≤ V.length)
    (hA : relyAllJ P Q T V J a0 w0 (ops.toList.take m) D V) (hE : ∀ w, T w0 w → relyEnd (fun _ a w => J a w → wpList P ops Q (ops.toList.drop m) a w) T (ops.toList.take m) V a0 w) : (Code.region id ops true).wp P Q a0 w0 := by
  refine wp_region_any hm ?_
  refine wpAny_relyJ_tail (List.take_append_drop m ops.toList).symm hpos hn hB (by rw [hlen]; exact hsink) (by rw [hlen]; exact htb) ht (by rw [hlen]; exact hl) hA hE ops.size _ a0 w0.drew unl_start (fun j _ hj => by simp [hj]) (rely_start hd) hJ0
end
/-- Two slots hold pointers to different blocks, both there. -/
def TwoPtr (p q : Tmp) (a : Act) (w : World) : Prop :=
  (∀ g, a.tmps.getD p undef = .pointer (some ⟨g, 0, none⟩) → g < w.heap.size) ∧ (∀ g, a.tmps.getD q undef = .pointer (some ⟨g, 0, none⟩) → g < w.heap.size) ∧
    ∀ g g', a.tmps.getD p undef = .pointer (some ⟨g, 0, none⟩) → a.tmps.getD q undef = .pointer (some ⟨g', 0, none⟩) → g ≠ g'
theorem put_other {a : Act} {d : Option Tmp} {p : Tmp} (v : Value) (h : d ≠ some p) : (a.put d v).tmps.getD p undef = a.tmps.getD p undef := by
  cases d with
  | none => rfl
  | some d =>
    have hne : d ≠ p := fun e => h (by rw [e])
    simp [Act.put, Array.getElem?_setIfInBounds_ne hne]
theorem TwoPtr.keep {p q : Tmp} {a : Act} {w w' : World} {d : Option Tmp} {v : Value} (h : TwoPtr p q a w) (hp : d ≠ some p) (hq : d ≠ some q) (hT : NewT w w') : TwoPtr p q (a.put d v) w' := by
  unfold TwoPtr
  rw [put_other v hp, put_other v hq]
  exact ⟨fun g hg => Nat.lt_of_lt_of_le (h.1 g hg) hT.out.size, fun g hg => Nat.lt_of_lt_of_le (h.2.1 g hg) hT.out.size, h.2.2⟩
theorem put_same {a : Act} {p : Tmp} {g g' : Nat} (h : (a.put (some p) (.pointer (some ⟨g, 0, none⟩))).tmps.getD p undef = .pointer (some ⟨g', 0, none⟩)) : g' = g := by
  rcases Nat.lt_or_ge p a.tmps.size with hlt | hge
  · simp [Act.put, hlt] at h; exact h.symm
  · simp [Act.put, undef, Nat.not_lt.2 hge] at h
theorem TwoPtr.first {p q : Tmp} {a : Act} {w : World} {o : Obj} (h : TwoPtr p q a w) (hpq : p ≠ q) : TwoPtr p q (a.put (some p) (.pointer (some ⟨w.heap.size, 0, none⟩))) (w.alloc o) := by
  unfold TwoPtr
  rw [put_other (p := q) (d := some p) _ (by simpa using hpq)]
  refine ⟨fun g hg => by rw [put_same hg]; simp, fun g hg => by have := h.2.1 g hg; simp; omega, fun g g' hg hg' => ?_⟩
  have := h.2.1 g' hg'
  rw [put_same hg]; omega
theorem TwoPtr.second {p q : Tmp} {a : Act} {w : World} {o : Obj} (h : TwoPtr p q a w) (hpq : p ≠ q) : TwoPtr p q (a.put (some q) (.pointer (some ⟨w.heap.size, 0, none⟩))) (w.alloc o) := by
  unfold TwoPtr
  rw [put_other (p := p) (d := some q) _ (by simpa using Ne.symm hpq)]
  refine ⟨fun g hg => by have := h.1 g hg; simp; omega, fun g hg => by rw [put_same hg]; simp, fun g g' hg hg' => ?_⟩
  have := h.1 g hg
  rw [put_same hg']; omega
theorem opr_alloc_at {a : Act} {w : World} {o : Oper} {K : Act → World → Prop} {Q : Exit → Act → World → Prop} (ho : o.op = .alloc 23) (h : K (a.put o.dst (.pointer (some ⟨w.heap.size, 0, none⟩))) (w.alloc (.cells (rowA 32 (bF fun _ => 0)) 23))) : o.wp Tryd.prog a w K Q := by
  obtain ⟨dst, op, type, pos, after, guard⟩ := o
  simp only at ho
  subst ho
  exact opr_val (s := Instr.alloc 23 true (.tuple #[])) rfl (run_alloc_hash w) h
end Go.Proofs.YthgblcpekhiphaaDoor
/- A region that draws its order, some of whose operations turn a state one behind the other (each waits for the one ahead): beside the conditions of single operations a statement on the world for each phase. No program is named here. -/
namespace Go.Proofs.YthgblcpekhiphaaDoor
open Go Go.RowKit
set_option maxRecDepth 8000

/-- One operation: it turns phase k into the next one (some k), or keeps whatever phase there is (none). -/
def relyStepP (P : Program) (Q : Exit → Act → World → Prop) (T : World → World → Prop) (V : List (SV T)) (J : Nat → World → Prop) (a0 : Act) (w0 : World) (o : Oper) (dp : List (Tmp × Option Nat)) (g : Option (Tmp × Bool)) (c : SV T) : Option Nat → Prop
  | none => ∀ (a : Act) (w : World), T w0 w → relyFacts V a0 a w dp → ∀ K : Act → World → Prop, (∀ v w', T w w' → (∀ k, J k w → J k w') → c.pred v w' → K (a.put o.dst v) w') →
    if relyGuard g a then o.wp P a w K Q else K (a.put o.dst undef) w
  | some k => ∀ (a : Act) (w : World), T w0 w → relyFacts V a0 a w dp → J k w → ∀ K : Act → World → Prop, (∀ v w', T w w' → J (k + 1) w' → c.pred v w' → K (a.put o.dst v) w') →
    if relyGuard g a then o.wp P a w K Q else K (a.put o.dst undef) w
def relyAllP (P : Program) (Q : Exit → Act → World → Prop) (T : World → World → Prop) (V : List (SV T)) (J : Nat → World → Prop) (a0 : Act) (w0 : World) : List Oper → Deps → List (SV T) → List (Option Nat) → Prop
  | [], _, _, _ => True
  | o :: r, (dp, g) :: D, c :: C, s :: S => relyStepP P Q T V J a0 w0 o dp g c s ∧ relyAllP P Q T V J a0 w0 r D C S
  | _, _, _, _ => False
/-- Each of the path's operations waits for the one ahead. -/
def pathB (ops : Array Oper) : List Nat → Bool
  | i :: j :: r => Region.waitsFor .any ops j i && pathB ops (j :: r)
  | _ => true
def placesB (path : List Nat) (S : List (Option Nat)) : Bool := decide path.Nodup && (List.range S.length).all fun i => S.getD i none == path.findIdx? (· == i)
section
variable {P : Program} {ops : Array Oper} {Q : Exit → Act → World → Prop} {T : World → World → Prop} {V : List (SV T)} {J : Nat → World → Prop} {a0 : Act} {w0 : World} {n : Nat} {D : Deps} {S : List (Option Nat)} {path : List Nat} {init : List Oper} {last : Oper}
theorem pathB_at : ∀ (path : List Nat) (j i i' : Nat), pathB ops path = true → path[j]? = some i → path[j + 1]? = some i' → Region.waitsFor .any ops i' i = true
  | [], _, _, _, _, h, _ => by simp at h
  | [x], j, _, _, _, _, h => by simp at h
  | x :: y :: r, 0, i, i', h, h1, h2 => by
    simp only [pathB, Bool.and_eq_true] at h
    simp at h1 h2
    subst h1 h2
    exact h.1
  | x :: y :: r, j + 1, i, i', h, h1, h2 => by
    simp only [pathB, Bool.and_eq_true] at h
    exact pathB_at (y :: r) j i i' h.2 (by simpa using h1) (by simpa using h2)
theorem relyAllP_at : ∀ (l : List Oper) (D : Deps) (C : List (SV T)) (S : List (Option Nat)) (k : Nat) (o : Oper) dp g, relyAllP P Q T V J a0 w0 l D C S → l[k]? = some o → D[k]? = some (dp, g) → relyStepP P Q T V J a0 w0 o dp g (C.getD k SV.any) (S.getD k none)
  | [], _, _, _, _, _, _, _, _, h, _ => by simp at h
  | x :: r, [], _, _, _, _, _, _, h, _, _ => h.elim
  | x :: r, y :: D, [], _, _, _, _, _, h, _, _ => h.elim
  | x :: r, y :: D, c :: C, [], _, _, _, _, h, _, _ => h.elim
  | x :: r, (dp, g) :: D, c :: C, s :: S, 0, o, dp', g', h, ho, hD => by
    simp at ho hD
    obtain ⟨rfl, rfl⟩ := hD
    subst ho
    exact h.1
  | x :: r, (dp, g) :: D, c :: C, s :: S, k + 1, o, dp', g', h, ho, hD => by
    have := relyAllP_at r D C S k o dp' g' h.2 (by simpa using ho) (by simpa using hD)
    simpa using this
/-- So many of the path's operations have come up. -/
structure PhInv (path : List Nat) (J : Nat → World → Prop) (listed : Array Bool) (w : World) (k : Nat) : Prop where
  le : k ≤ path.length
  done : ∀ j i, j < k → path[j]? = some i → listed.getD i false = true
  left : ∀ j i, k ≤ j → path[j]? = some i → listed.getD i false = false
  now : J k w
theorem ph_other {listed : Array Bool} {w w' : World} {k i : Nat} (h : PhInv path J listed w k) (hi : i ∉ path) (hJ : J k w') : PhInv path J (listed.setIfInBounds i true) w' k := by
  have hne : ∀ (j x : Nat), path[j]? = some x → i ≠ x := fun j x hx e => hi (e ▸ List.mem_of_getElem? hx)
  exact ⟨h.le, fun j x hj hx => by rw [getD_set_ne false (hne j x hx)]; exact h.done j x hj hx, fun j x hj hx => by rw [getD_set_ne false (hne j x hx)]; exact h.left j x hj hx, hJ⟩
theorem ph_own (hnd : path.Nodup) {listed : Array Bool} {w w' : World} {k i : Nat} (hlt : i < listed.size) (h : PhInv path J listed w k) (hi : path[k]? = some i) (hJ : J (k + 1) w') : PhInv path J (listed.setIfInBounds i true) w' (k + 1) := by
  have hk : k < path.length := (List.getElem?_eq_some_iff.1 hi).1
  have hinj : ∀ (j x : Nat), path[j]? = some x → j ≠ k → i ≠ x := fun j x hx hjk e => by
    subst e
    obtain ⟨h1, h2⟩ := List.getElem?_eq_some_iff.1 hx
    obtain ⟨h3, h4⟩ := List.getElem?_eq_some_iff.1 hi
    exact hjk ((List.getElem_inj hnd).1 (h2.trans h4.symm))
  refine ⟨hk, fun j x hj hx => ?_, fun j x hj hx => ?_, hJ⟩
  · by_cases e : j = k
    · subst e
      rw [hi] at hx
      cases hx
      simp [hlt]
    · rw [getD_set_ne false (hinj j x hx e)]; exact h.done j x (by omega) hx
  · rw [getD_set_ne false (hinj j x hx (by omega))]; exact h.left j x (by omega) hx
theorem wpAny_relyP (hsplit : ops.toList = init ++ [last]) (hn : a0.tmps.size = n) (hB : relyB ops n 0 init D = true) (hlast : lastB ops last init.length = true) (hg : last.guard = none) (ht : ∀ a b c : World, T a b → T b c → T a c)
    (hpath : pathB ops path = true) (hplace : placesB path S = true) (hSl : S.length = init.length) (hpl : ∀ i ∈ path, i < init.length)
    (hl : init.length ≤ V.length) (hA : relyAllP P Q T V J a0 w0 init D V S) (hE : ∀ w, T w0 w → J path.length w → relyEnd (fun _ a w => last.wp P a w (fun a' w' => Q .normal a' w') Q) T init V a0 w) :
    ∀ (fuel : Nat) (listed : Array Bool) (a : Act) (w : World) (k : Nat), (unl ops listed).length = fuel → listed.getD init.length true = false → RelyInv ops T V a0 w0 listed a w → PhInv path J listed w k → wpAny P .any ops Q fuel listed a w := by
  obtain ⟨hlo, hsz, hpre⟩ := last_at hsplit
  simp only [lastB, Bool.and_eq_true] at hlast
  simp only [placesB, Bool.and_eq_true, decide_eq_true_eq] at hplace
  obtain ⟨hnd, hpos⟩ := hplace
  have hS : ∀ i, i < init.length → S.getD i none = path.findIdx? (· == i) := fun i hi => by
    have := List.all_eq_true.1 hpos i (List.mem_range.2 (by omega))
    simpa using this
  have hat : ∀ i o, init[i]? = some o → ∃ dp g, relyOne ops n i o dp g = true ∧ relyStepP P Q T V J a0 w0 o dp g (V.getD i SV.any) (path.findIdx? (· == i)) := fun i o hi => by
    obtain ⟨dp, g, hD, h1⟩ := relyB_at init D 0 i o hB hi
    rw [Nat.zero_add] at h1
    refine ⟨dp, g, h1, ?_⟩
    rw [← hS i (List.getElem?_eq_some_iff.1 hi).1]
    exact relyAllP_at _ _ _ _ i o dp g hA hi hD
  intro fuel
  induction fuel with
  | zero =>
    intro listed a w k hu hun inv _
    have : init.length ∈ unl ops listed := by
      unfold unl; rw [List.mem_filter]; exact ⟨List.mem_range.2 (by omega), by rw [hun]; rfl⟩
    rw [List.eq_nil_of_length_eq_zero hu] at this
    cases this
  | succ fuel ih =>
    intro listed a w k hu hun inv ph
    refine ⟨fun hr => ?_, fun i hi => ?_⟩
    · exfalso
      have all : ∀ i, i < init.length → listed.getD i false = true := fun i => by
        induction i using Nat.strongRecOn with
        | _ i ih =>
          intro hi
          cases hli : listed.getD i false with
          | true => rfl
          | false =>
            exfalso
            have hmem : i ∈ Region.ready .any ops listed := by
              rw [mem_ready]
              refine ⟨getD_in (by rw [inv.size]; omega) hli, init[i], hpre i _ (List.getElem?_eq_getElem hi), fun e he hb => ?_⟩
              obtain ⟨dp, g, h1, _⟩ := hat i init[i] (List.getElem?_eq_getElem hi)
              simp only [relyOne, Bool.and_eq_true] at h1
              have h2 := (Array.all_eq_true_iff_forall_mem.1 h1.1.1.2) e he
              simp only [hb, Bool.not_true, Bool.false_or, decide_eq_true_eq] at h2
              exact ih e.on h2 (by omega)
            rw [hr] at hmem
            cases hmem
      have hmem : init.length ∈ Region.ready .any ops listed := by
        rw [mem_ready]
        refine ⟨hun, last, hlo, fun e he hb => ?_⟩
        have h2 := (Array.all_eq_true_iff_forall_mem.1 hlast.2) e he
        simp only [hb, Bool.not_true, Bool.false_or, decide_eq_true_eq] at h2
        exact all e.on h2
      rw [hr] at hmem
      cases hmem
    · obtain ⟨h0, o, ho, hall⟩ := mem_ready.1 hi
      have hilt := (Array.getElem?_eq_some_iff.1 ho).1
      by_cases him : i = init.length
      · subst him
        have hol : o = last := Option.some.inj (ho.symm.trans hlo)
        subst hol
        have hdone : ∀ (d j : Nat), init.length - j = d → j < init.length → listed.getD j false = true := fun d => by
          induction d using Nat.strongRecOn with
          | _ d ihd =>
            intro j hd hj
            have h1 := List.all_eq_true.1 hlast.1 j (List.mem_range.2 hj)
            obtain ⟨t, ht1, ht2⟩ := List.any_eq_true.1 h1
            simp only [Bool.and_eq_true, decide_eq_true_eq] at ht2
            obtain ⟨ot, hot, e, he, hb, hon⟩ := Region.waitsFor_spec ht2.2
            have htle : t ≤ init.length := by have := List.mem_range.1 ht1; omega
            rw [← hon]
            by_cases htm : t = init.length
            · subst htm
              have : ot = o := Option.some.inj (hot.symm.trans ho)
              subst this
              exact hall e he hb
            · exact inv.closed t ot hot (ihd (init.length - t) (by omega) t rfl (by omega)) e he hb
        replace hdone : ∀ j, j < init.length → listed.getD j false = true := fun j hj => hdone _ j rfl hj
        have hk : k = path.length := by
          rcases Nat.lt_or_ge k path.length with h | h
          · exfalso
            have h1 := ph.left k path[k] (Nat.le_refl _) (List.getElem?_eq_getElem h)
            rw [hdone _ (hpl _ (List.getElem_mem h))] at h1
            cases h1
          · have := ph.le; omega
        subst hk
        have hJ := ph.now
        have h1 : o.wp P a w (fun a' w' => Q .normal a' w') Q := rely_all (Q' := fun a w => o.wp P a w (fun a' w' => Q .normal a' w') Q) inv
          (fun k o hk => ⟨hpre k o hk, hdone k (List.getElem?_eq_some_iff.1 hk).1⟩) (fun j hj => by
            rcases Nat.lt_or_ge j init.length with h | h
            · exact h
            · rcases Nat.eq_or_lt_of_le h with h | h
              · subst h; rw [getD_both hun] at hj; cases hj
              · have : listed.getD j false = false := by simp [Array.getElem?_eq_none (show listed.size ≤ j by rw [inv.size]; omega)]
                rw [this] at hj; cases hj) hl (hE w inv.now hJ)
        have hK : ∀ a' w', Q .normal a' w' → wpAny P .any ops Q fuel (listed.setIfInBounds init.length true) a' w' := fun a' w' h => wpAny_done (ready_none fun j hj => by
          by_cases hj2 : j = init.length
          · subst hj2; simp [show init.length < listed.size by rw [inv.size]; exact hj]
          · exact getD_set_true (hdone j (by omega))) h _
        unfold wpOp
        simp only [hlo, Region.wanted, hg, if_true]
        exact .inl (Oper.wp_mono hK h1)
      · have hi' : i < init.length := by omega
        have hio : init[i]? = some o := by
          have := hpre i init[i] (List.getElem?_eq_getElem hi')
          rw [ho] at this
          rw [List.getElem?_eq_getElem hi', Option.some.inj this]
        obtain ⟨dp, g, h1, hstep⟩ := hat i o hio
        obtain ⟨hfacts, hguard, next⟩ := rely_next hn ht ho h1 h0 hall inv
        have i0 : listed.getD i false = false := getD_both h0
        have hs : if relyGuard g a then o.wp P a w (fun a' w' => wpAny P .any ops Q fuel (listed.setIfInBounds i true) a' w') Q else wpAny P .any ops Q fuel (listed.setIfInBounds i true) (a.put o.dst undef) w := by
          cases hf : path.findIdx? (· == i) with
          | none =>
            rw [hf] at hstep
            have hni : i ∉ path := fun hm => by
              rw [List.findIdx?_eq_none_iff] at hf
              have := hf i hm
              simp at this
            exact hstep a w inv.now hfacts (fun a' w' => wpAny P .any ops Q fuel (listed.setIfInBounds i true) a' w') (fun v w' hT hJ hv => ih _ _ w' k (by have := unl_set inv.size h0; omega) (by rw [getD_set_ne true him]; exact hun) (next v w' hT hv) (ph_other ph hni (hJ k ph.now)))
          | some j =>
            rw [hf] at hstep
            have hpj : path[j]? = some i := by
              obtain ⟨h1, h2, _⟩ := List.findIdx?_eq_some_iff_getElem.1 hf
              rw [List.getElem?_eq_getElem h1]
              simpa using h2
            have hkj : k = j := by
              rcases Nat.lt_trichotomy j k with h | h | h
              · have := ph.done j i h hpj
                rw [i0] at this; cases this
              · exact h.symm
              · exfalso
                obtain ⟨j', rfl⟩ : ∃ j', j = j' + 1 := ⟨j - 1, by omega⟩
                have hlj : j' < path.length := by have := (List.getElem?_eq_some_iff.1 hpj).1; omega
                have hw := pathB_at path j' path[j'] i hpath (List.getElem?_eq_getElem hlj) hpj
                obtain ⟨oi, hoi, e, he, hb, hon⟩ := Region.waitsFor_spec hw
                have : oi = o := Option.some.inj (hoi.symm.trans ho)
                subst this
                have h2 := hall e he hb
                rw [hon, ph.left j' _ (by omega) (List.getElem?_eq_getElem hlj)] at h2
                cases h2
            subst hkj
            exact hstep a w inv.now hfacts ph.now (fun a' w' => wpAny P .any ops Q fuel (listed.setIfInBounds i true) a' w') (fun v w' hT hJ hv => ih _ _ w' (k + 1) (by have := unl_set inv.size h0; omega) (by rw [getD_set_ne true him]; exact hun) (next v w' hT hv) (ph_own hnd (by rw [inv.size]; exact hilt) ph hpj hJ))
        unfold wpOp
        simp only [ho, hguard]
        split
        · rename_i hw; rw [if_pos hw] at hs; exact .inl hs
        · rename_i hw; rw [if_neg hw] at hs; exact hs
/-- **A region that draws its order and turns a state step by step.** -/
theorem wp_region_relyP {id : Nat} (T : World → World → Prop) (J : Nat → World → Prop) (V : List (SV T)) (D : Deps) (S : List (Option Nat)) (path : List Nat) (n : Nat) (hla : ops.toList.getLast? = some last) (hm : P.follows .mixedOrders = true) (hn : a0.tmps.size = n) (hB : relyB ops n 0 ops.toList.dropLast D = true)
    (hlast : lastB ops last ops.toList.dropLast.length = true) (hg : last.guard = none) (hpath : (pathB ops path && placesB path S && decide (S.length = ops.toList.dropLast.length) && path.all fun i => decide (i < ops.toList.dropLast.length)) = true)
    (ht : ∀ a b c : World, T a b → T b c → T a c) (hd : T w0 w0.drew) (hJ : J 0 w0.drew) (hl : ops.toList.dropLast.length ≤ V.length)
    (hA : relyAllP P Q T V J a0 w0 ops.toList.dropLast D V S) (hE : ∀ w, T w0 w → J path.length w → relyEnd (fun _ a w => last.wp P a w (fun a' w' => Q .normal a' w') Q) T ops.toList.dropLast V a0 w) : (Code.region id ops true).wp P Q a0 w0 := by
  have hsplit := split_last hla
  obtain ⟨_, hsz, _⟩ := last_at hsplit
  simp only [Bool.and_eq_true, decide_eq_true_eq] at hpath
  obtain ⟨⟨⟨h1, h2⟩, h3⟩, h4⟩ := hpath
  refine wp_region_any hm ?_
  exact wpAny_relyP hsplit hn hB hlast hg ht h1 h2 h3 (fun i hi => by simpa using List.all_eq_true.1 h4 i hi) hl hA hE ops.size _ a0 w0.drew 0 unl_start (by
    have hlt : ops.toList.dropLast.length < ops.size := by omega
    generalize ops.toList.dropLast.length = m at hlt
    simp [hlt]) (rely_start hd) ⟨Nat.zero_le _, fun j i hj => by omega, fun j i _ _ => getD_replicate_false .., hJ⟩
end
end Go.Proofs.YthgblcpekhiphaaDoor
