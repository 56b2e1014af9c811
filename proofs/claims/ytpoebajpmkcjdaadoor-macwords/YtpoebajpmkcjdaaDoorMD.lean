/- The law MacWords, walked: a tag of words is that of their bytes, eight each, the highest first, and that of no words that of nothing. -/
import Derived.Test.YtpoebajpmkcjdaaDoorMA
import Derived.Test.YtpoebajpmkcjdaaDoorMN
import Derived.Test.YtpoebajpmkcjdaaDoorRelyJ
namespace Go.Proofs.YtpoebajpmkcjdaaDoor
open Go Go.RowKit
theorem run_bsi2 (x y : Int) (w : World) : (Instr.buildSlice 47 2 #[(0, .int .i64 x), (1, .int .i64 y)]).run Tryd.prog w = .ok (.slice (some ⟨w.heap.size, 0, none⟩) 2 2) (w.alloc (.cells #[.int .i64 x, .int .i64 y] 3)) := by
  simp [go_sem]
theorem rdI_two (x y : Int) (w : World) : RdI (w.alloc (.cells #[.int .i64 x, .int .i64 y] 3)) (.slice (some ⟨w.heap.size, 0, none⟩) 2 2) [x, y] :=
  ⟨some ⟨w.heap.size, 0, none⟩, 2, rfl, by simp, by unfold maxLen; omega, fun _ => ⟨w.heap.size, 0, rfl, fun i hi => by
    have : i = 0 ∨ i = 1 := by simp at hi; omega
    rw [cell_new_fr _ _ _ _ _ _ rfl]
    rcases this with rfl | rfl <;> rfl⟩⟩
theorem opr_bsi2 {a : Act} {w : World} {o : Oper} {K : Act → World → Prop} {Q : Exit → Act → World → Prop} {x y : Operand} {b c : Int} (ho : o.op = .buildSlice 47 2 #[(0, x), (1, y)]) (hx : a.eval x = .int .i64 b) (hy : a.eval y = .int .i64 c) (h : ∀ v w', NewT w w' → RdI w' v [b, c] → K (a.put o.dst v) w') : o.wp Tryd.prog a w K Q := by
  obtain ⟨dst, op, type, pos, after, guard⟩ := o
  simp only at ho
  subst ho
  exact opr_val (s := Instr.buildSlice 47 2 #[(0, a.eval x), (1, a.eval y)]) (by simp [execOp]) (by rw [hx, hy]; exact run_bsi2 _ _ w) (h _ _ (NewT.alloc _ _) (rdI_two b c w))
theorem rdI_nil (w : World) : RdI w (.slice none 0 0) [] := ⟨none, 0, rfl, Nat.le_refl _, by unfold maxLen; omega, fun h => absurd h (by simp)⟩
theorem parts_nil (w : World) : Parts w (.slice none 0 0) [] := ⟨[], ⟨none, 0, rfl, Nat.le_refl _, by unfold maxLen; omega, fun h => absurd h (by simp), fun x hx => by simp at hx⟩, rfl⟩
set_option maxHeartbeats 2000000 in
theorem MacWords_walk (d : Nat → UInt8) (n1 n2 : Int) (w : World) (hT : Tables w) :
    Calls Tryd.prog 13 #[.agg (rowA 32 (bF d)), .int .i64 n1, .int .i64 n2] w fun e w' => e = .returned (.bool true) ∧ Below w.heap.size w w' := by
  have HT := Lib.hid hT
  clear hT
  obtain ⟨E1, HE1⟩ := hid_ex (tagL (digL d) (wordsL [n1, n2]))
  obtain ⟨E2, HE2⟩ := hid_ex (tagL (digL d) (wordsL [n1]))
  obtain ⟨E3, HE3⟩ := hid_ex (tagL (digL d) (wordsL []))
  go_enter Tryd.func13, Tryd.ntmps13
  go_upto_region 1 with fail
  have rk := rowIs_box w 31 32 (bF d)
  have hB := NewT.alloc w (.cells (rowA 32 (bF d)) 31)
  change Code.wp _ _ _ _ (w.alloc (.cells (rowA 32 (bF d)) 31))
  generalize (w.alloc (.cells (rowA 32 (bF d)) 31)) = W0 at rk hB ⊢
  go_wp2_with fail
  refine (alive2_any W0 (hB.tables HT.out)).mono ?_
  rintro e w1 ⟨rfl, hB1⟩
  replace hB1 := NewT.of hB1
  replace rk := hB1.row rk
  replace hB := NewT.trans _ _ _ hB hB1
  replace HT := Lib.hid (hB.tables HT.out)
  clear hB1
  go_upto_region 3 with fail
  refine wp_region_relyJ_tail (J := TwoPtr 7 8) NewT [SV.eq (.agg (rowA 32 (bF d))), SV.eq (.int .i64 n1), SV.eq (.int .i64 n2), svInts [n1, n2], SV.eq (.agg (rowA 32 (bF E1))), SV.eq (.agg (rowA 32 (bF d))), SV.eq (.int .i64 n1), svInts [n1], SV.eq (.agg (rowA 32 (bF E2))), svNew w1 31 32, svNew w1 31 32] [([(3, none)], none), ([(1, none)], none), ([(2, none)], none), ([(12, some 1), (13, some 2)], none), ([(11, some 0), (14, some 3)], none), ([(3, none)], none), ([(1, none)], none), ([(17, some 6)], none), ([(16, some 5), (18, some 7)], none), ([], none), ([], none)] 45 11 (by kernel_rfl) rfl rfl (Nat.zero_lt_succ _) (by kernel_rfl) (by kernel_rfl) (by kernel_rfl) NewT.trans (NewT.drew _) ⟨fun g h => (by cases h), fun g h => (by cases h), fun g g2 h => (by cases h)⟩ (Nat.le_of_ble_eq_true rfl) ⟨?_, ?_, ?_, ?_, ?_, ?_, ?_, ?_, ?_, ?_, ?_, trivial⟩ ?_
  · -- 0: Op.load 31 t3
    refine relyStepJ_of (fun a w v w' h hT => h.keep (by simp) (by simp) hT) ?_
    intro a wx hT hF K hK
    obtain ⟨f3, _⟩ := hF
    have f3 : a.tmps.getD 3 undef = .pointer (some ⟨w.heap.size, 0, none⟩) := f3
    refine rely_wp rfl ?_
    exact opr_load_hash rfl f3 (hT.row rk) (hK _ _ (NewT.refl _) rfl)
  · -- 1: Op.move t1
    refine relyStepJ_of (fun a w v w' h hT => h.keep (by simp) (by simp) hT) ?_
    intro a wx hT hF K hK
    obtain ⟨f1, _⟩ := hF
    have f1 : a.tmps.getD 1 undef = .int .i64 n1 := f1
    refine rely_wp rfl ?_
    exact opr_move (.inl rfl) (hK _ _ (NewT.refl _) f1)
  · -- 2: Op.move t2
    refine relyStepJ_of (fun a w v w' h hT => h.keep (by simp) (by simp) hT) ?_
    intro a wx hT hF K hK
    obtain ⟨f2, _⟩ := hF
    have f2 : a.tmps.getD 2 undef = .int .i64 n2 := f2
    refine rely_wp rfl ?_
    exact opr_move (.inl rfl) (hK _ _ (NewT.refl _) f2)
  · -- 3: Op.buildSlice 47 2 #[(0, t12), (1, t13)]
    refine relyStepJ_of (fun a w v w' h hT => h.keep (by simp) (by simp) hT) ?_
    intro a wx hT hF K hK
    obtain ⟨f12, f13, _⟩ := hF
    have f12 : a.tmps.getD 12 undef = .int .i64 n1 := f12
    have f13 : a.tmps.getD 13 undef = .int .i64 n2 := f13
    refine rely_wp rfl ?_
    exact opr_bsi2 rfl f12 f13 hK
  · -- 4: Op.call ( value (Operand.func 32), args := #[t11, t14], argT
    refine relyStepJ_of (fun a w v w' h hT => h.keep (by simp) (by simp) hT) ?_
    intro a wx hT hF K hK
    obtain ⟨f11, f14, _⟩ := hF
    have f11 : a.tmps.getD 11 undef = .agg (rowA 32 (bF d)) := f11
    replace f14 := show (svInts [n1, n2]).pred (a.tmps.getD 14 undef) wx from f14
    refine rely_wp rfl ?_
    exact opr_cv (Key_cv d _ [n1, n2] E1 wx (hT.tables HT.out) f14 (by simp) HE1.out) rfl Tryd.func32 (by kernel_rfl) (by kernel_rfl) (by simp only [List.map_toArray, List.map_cons, List.map_nil, eval_tmp, f11]) hK
  · -- 5: Op.load 31 t3
    refine relyStepJ_of (fun a w v w' h hT => h.keep (by simp) (by simp) hT) ?_
    intro a wx hT hF K hK
    obtain ⟨f3, _⟩ := hF
    have f3 : a.tmps.getD 3 undef = .pointer (some ⟨w.heap.size, 0, none⟩) := f3
    refine rely_wp rfl ?_
    exact opr_load_hash rfl f3 (hT.row rk) (hK _ _ (NewT.refl _) rfl)
  · -- 6: Op.move t1
    refine relyStepJ_of (fun a w v w' h hT => h.keep (by simp) (by simp) hT) ?_
    intro a wx hT hF K hK
    obtain ⟨f1, _⟩ := hF
    have f1 : a.tmps.getD 1 undef = .int .i64 n1 := f1
    refine rely_wp rfl ?_
    exact opr_move (.inl rfl) (hK _ _ (NewT.refl _) f1)
  · -- 7: Op.buildSlice 47 1 #[(0, t17)]
    refine relyStepJ_of (fun a w v w' h hT => h.keep (by simp) (by simp) hT) ?_
    intro a wx hT hF K hK
    obtain ⟨f17, _⟩ := hF
    have f17 : a.tmps.getD 17 undef = .int .i64 n1 := f17
    refine rely_wp rfl ?_
    exact opr_bsi1 rfl f17 hK
  · -- 8: Op.call ( value (Operand.func 32), args := #[t16, t18], argT
    refine relyStepJ_of (fun a w v w' h hT => h.keep (by simp) (by simp) hT) ?_
    intro a wx hT hF K hK
    obtain ⟨f16, f18, _⟩ := hF
    have f16 : a.tmps.getD 16 undef = .agg (rowA 32 (bF d)) := f16
    replace f18 := show (svInts [n1]).pred (a.tmps.getD 18 undef) wx from f18
    refine rely_wp rfl ?_
    exact opr_cv (Key_cv d _ [n1] E2 wx (hT.tables HT.out) f18 (by simp) HE2.out) rfl Tryd.func32 (by kernel_rfl) (by kernel_rfl) (by simp only [List.map_toArray, List.map_cons, List.map_nil, eval_tmp, f16]) hK
  · -- 9: Op.alloc 31
    intro a wx hT hF hJ K hK
    refine rely_wp rfl ?_
    refine opr_alloc_at rfl ?_
    exact hK _ _ (NewT.alloc _ _) ⟨wx.heap.size, rfl, hT.out.size, rowIs_box wx _ 32 _⟩ (hJ.first (by decide))
  · -- 10: Op.alloc 31
    intro a wx hT hF hJ K hK
    refine rely_wp rfl ?_
    refine opr_alloc_at rfl ?_
    exact hK _ _ (NewT.alloc _ _) ⟨wx.heap.size, rfl, hT.out.size, rowIs_box wx _ 32 _⟩ (hJ.second (by decide))
  · intro wx hT
    intro u h; obtain rfl := h (by simp); clear h
    intro u h; obtain rfl := h (by simp); clear h
    intro u h; obtain rfl := h (by simp); clear h
    intro u14 h; have g14 := h (by simp); clear h; replace g14 := show (svInts [n1, n2]).pred u14 wx from g14
    intro u h; obtain rfl := h (by simp); clear h
    intro u h; obtain rfl := h (by simp); clear h
    intro u h; obtain rfl := h (by simp); clear h
    intro u18 h; have g18 := h (by simp); clear h; replace g18 := show (svInts [n1]).pred u18 wx from g18
    intro u h; obtain rfl := h (by simp); clear h
    intro u7 h; obtain ⟨p7, hv, hp7, rr7⟩ := svNew_out (h (by simp)); clear h; subst hv
    intro u8 h; obtain ⟨p8, hv, hp8, rr8⟩ := svNew_out (h (by simp)); clear h; subst hv
    refine relyEnd_nil rfl ?_
    intro hJ
    have hne := hJ.2.2 p7 p8 (by kernel_rfl) (by kernel_rfl)
    clear hJ
    simp only [Act.put, List.setIfInBounds_toArray, List.set_cons_zero, List.set_cons_succ]
    refine wpList_plain rfl (fun K hK => ?_)
    refine wp_store_mid 31 (.tmp 7) (.tmp 15) rfl p7 0 (rowA 32 (bF E1)) rfl rfl (by rw [rowA_size]; exact there_row rr7) (by rw [rowA_size]; exact info31) (rowA_one _ _ fun _ => rfl) (hK _ _ ?_)
    clear hK K
    have q7 := rowIs_setAll rr7 (bF E1)
    have q8 := rowIs_setOther rr8 (Ne.symm hne) (rowA 32 (bF E1)).toList 0
    have hB7 := below_setCells p7 hp7 (rowA 32 (bF E1)).toList 0 _ hT.out
    generalize wx.setCells p7 0 (rowA 32 (bF E1)).toList = wy at q7 q8 hB7 ⊢
    refine wpList_plain rfl (fun K hK => ?_)
    refine wp_store_mid 31 (.tmp 8) (.tmp 19) rfl p8 0 (rowA 32 (bF E2)) rfl rfl (by rw [rowA_size]; exact there_row q8) (by rw [rowA_size]; exact info31) (rowA_one _ _ fun _ => rfl) (hK _ _ ?_)
    clear hK K
    have s8 := rowIs_setAll q8 (bF E2)
    have s7 := rowIs_setOther q7 hne (rowA 32 (bF E2)).toList 0
    have hB8 := below_setCells p8 hp8 (rowA 32 (bF E2)).toList 0 _ hB7
    generalize wy.setCells p8 0 (rowA 32 (bF E2)).toList = wz at s7 s8 hB8 ⊢
    replace hB8 := NewT.of hB8
    replace rk := hB8.row rk
    replace HT := Lib.hid (hB8.tables HT.out)
    replace hB := NewT.trans _ _ _ hB hB8
    clear q7 q8 hB7 hB8 rr7 rr8 hT g14 g18 hp7 hp8 hne
    refine wpList_nil ?_
    go_simp
    go_upto_region 4 with fail
    refine wp_region_rely NewT [SV.eq (.agg (rowA 32 (bF E1))), svRd (digL d), SV.eq (.int .i64 n1), svRd (hiL (wN n1) 8), SV.eq (.int .i64 n2), svRd (hiL (wN n2) 8), svParts [(hiL (wN n1) 8), (hiL (wN n2) 8)], SV.eq (.agg (rowA 32 (bF E1))), SV.eq (.bool true), SV.eq (.bool true), SV.eq (.agg (rowA 32 (bF E2))), svRd (digL d), SV.eq (.int .i64 n1), svRd (hiL (wN n1) 8), svParts [(hiL (wN n1) 8)], SV.eq (.agg (rowA 32 (bF E2))), SV.eq (.bool true), SV.eq (.bool true), SV.eq (.bool true), SV.eq (.agg (rowA 32 (bF d))), SV.eq (.agg (rowA 32 (bF E3))), svRd (digL d), SV.eq (.agg (rowA 32 (bF E3))), SV.eq (.bool true), SV.eq (.bool true)] [([(7, none)], none), ([(3, none)], none), ([(1, none)], none), ([(22, some 2)], none), ([(2, none)], none), ([(24, some 4)], none), ([(23, some 3), (25, some 5)], none), ([(21, some 1), (26, some 6)], none), ([(20, some 0), (27, some 7)], none), ([(28, some 8)], none), ([(8, none), (29, some 9)], some (29, true)), ([(3, none), (29, some 9)], some (29, true)), ([(1, none), (29, some 9)], some (29, true)), ([(32, some 12), (29, some 9)], some (29, true)), ([(33, some 13), (29, some 9)], some (29, true)), ([(31, some 11), (34, some 14), (29, some 9)], some (29, true)), ([(30, some 10), (35, some 15), (29, some 9)], some (29, true)), ([(29, some 9), (36, some 16)], none), ([(37, some 17)], none), ([(3, none), (38, some 18)], some (38, true)), ([(39, some 19), (38, some 18)], some (38, true)), ([(3, none), (38, some 18)], some (38, true)), ([(41, some 21), (38, some 18)], some (38, true)), ([(40, some 20), (42, some 22), (38, some 18)], some (38, true)), ([(38, some 18), (43, some 23)], none)] 45 rfl (by kernel_rfl) rfl (by kernel_rfl) (by kernel_rfl) rfl NewT.trans (NewT.drew _) (Nat.le_of_ble_eq_true rfl) ⟨?_, ?_, ?_, ?_, ?_, ?_, ?_, ?_, ?_, ?_, ?_, ?_, ?_, ?_, ?_, ?_, ?_, ?_, ?_, ?_, ?_, ?_, ?_, ?_, ?_, trivial⟩ ?_
    · -- 0: Op.load 31 t7
      intro a wx hT hF K hK
      obtain ⟨f7, _⟩ := hF
      have f7 : a.tmps.getD 7 undef = .pointer (some ⟨p7, 0, none⟩) := f7
      refine rely_wp rfl ?_
      exact opr_load_hash rfl f7 (hT.row s7) (hK _ _ (NewT.refl _) rfl)
    · -- 1: Op.slice 31 t3 none none none
      intro a wx hT hF K hK
      obtain ⟨f3, _⟩ := hF
      have f3 : a.tmps.getD 3 undef = .pointer (some ⟨w.heap.size, 0, none⟩) := f3
      refine rely_wp rfl ?_
      exact opr_slice_hash rfl f3 (hK _ _ (NewT.refl _) (rd_row (hT.row rk) (by simp) (by omega)))
    · -- 2: Op.move t1
      intro a wx hT hF K hK
      obtain ⟨f1, _⟩ := hF
      have f1 : a.tmps.getD 1 undef = .int .i64 n1 := f1
      refine rely_wp rfl ?_
      exact opr_move (.inl rfl) (hK _ _ (NewT.refl _) f1)
    · -- 3: Op.call ( value (Operand.func 35), args := #[t22, const (8:i
      intro a wx hT hF K hK
      obtain ⟨f22, _⟩ := hF
      have f22 : a.tmps.getD 22 undef = .int .i64 n1 := f22
      refine rely_wp rfl ?_
      exact opr_cv (RNumber_8s n1 wx) rfl Tryd.func35 (by kernel_rfl) (by kernel_rfl) (by simp only [List.map_toArray, List.map_cons, List.map_nil, eval_tmp, eval_const, f22]) hK
    · -- 4: Op.move t2
      intro a wx hT hF K hK
      obtain ⟨f2, _⟩ := hF
      have f2 : a.tmps.getD 2 undef = .int .i64 n2 := f2
      refine rely_wp rfl ?_
      exact opr_move (.inl rfl) (hK _ _ (NewT.refl _) f2)
    · -- 5: Op.call ( value (Operand.func 35), args := #[t24, const (8:i
      intro a wx hT hF K hK
      obtain ⟨f24, _⟩ := hF
      have f24 : a.tmps.getD 24 undef = .int .i64 n2 := f24
      refine rely_wp rfl ?_
      exact opr_cv (RNumber_8s n2 wx) rfl Tryd.func35 (by kernel_rfl) (by kernel_rfl) (by simp only [List.map_toArray, List.map_cons, List.map_nil, eval_tmp, eval_const, f24]) hK
    · -- 6: Op.buildSlice 41 2 #[(0, t23), (1, t25)]
      intro a wx hT hF K hK
      obtain ⟨f23, f25, _⟩ := hF
      replace f23 := show (svRd (hiL (wN n1) 8)).pred (a.tmps.getD 23 undef) wx from f23
      replace f25 := show (svRd (hiL (wN n2) 8)).pred (a.tmps.getD 25 undef) wx from f25
      refine rely_wp rfl ?_
      exact opr_bs2 rfl f23 f25 hK
    · -- 7: Op.call ( value (Operand.func 27), args := #[t21, t26], argT
      intro a wx hT hF K hK
      obtain ⟨f21, f26, _⟩ := hF
      replace f21 := show (svRd (digL d)).pred (a.tmps.getD 21 undef) wx from f21
      replace f26 := show (svParts [(hiL (wN n1) 8), (hiL (wN n2) 8)]).pred (a.tmps.getD 26 undef) wx from f26
      refine rely_wp rfl ?_
      exact opr_cv (Tag_cv _ _ (digL d) [hiL (wN n1) 8, hiL (wN n2) 8] E1 wx (hT.tables HT.out) f21 (by rw [digL_length]; omega) f26 (by simp) (by simp [hiL_length]) (by simpa [wordsL] using HE1.out)) rfl Tryd.func27 (by kernel_rfl) (by kernel_rfl) (by simp only [List.map_toArray, List.map_cons, List.map_nil, eval_tmp]) hK
    · -- 8: Op.binOp BinOp.eql 31 t20 t27 31
      intro a wx hT hF K hK
      obtain ⟨f20, f27, _⟩ := hF
      have f20 : a.tmps.getD 20 undef = .agg (rowA 32 (bF E1)) := f20
      have f27 : a.tmps.getD 27 undef = .agg (rowA 32 (bF E1)) := f27
      refine rely_wp rfl ?_
      exact opr_eql_hash rfl f20 f27 (eqH_same E1) (hK _ _ (NewT.refl _) rfl)
    · -- 9: Op.move t28
      intro a wx hT hF K hK
      obtain ⟨f28, _⟩ := hF
      have f28 : a.tmps.getD 28 undef = .bool true := f28
      refine rely_wp rfl ?_
      exact opr_move (.inl rfl) (hK _ _ (NewT.refl _) f28)
    · -- 10: Op.load 31 t8
      intro a wx hT hF K hK
      obtain ⟨f8, f29, _⟩ := hF
      have f8 : a.tmps.getD 8 undef = .pointer (some ⟨p8, 0, none⟩) := f8
      have f29 : a.tmps.getD 29 undef = .bool true := f29
      refine rely_wp (rely_guard f29) ?_
      exact opr_load_hash rfl f8 (hT.row s8) (hK _ _ (NewT.refl _) rfl)
    · -- 11: Op.slice 31 t3 none none none
      intro a wx hT hF K hK
      obtain ⟨f3, f29, _⟩ := hF
      have f3 : a.tmps.getD 3 undef = .pointer (some ⟨w.heap.size, 0, none⟩) := f3
      have f29 : a.tmps.getD 29 undef = .bool true := f29
      refine rely_wp (rely_guard f29) ?_
      exact opr_slice_hash rfl f3 (hK _ _ (NewT.refl _) (rd_row (hT.row rk) (by simp) (by omega)))
    · -- 12: Op.move t1
      intro a wx hT hF K hK
      obtain ⟨f1, f29, _⟩ := hF
      have f1 : a.tmps.getD 1 undef = .int .i64 n1 := f1
      have f29 : a.tmps.getD 29 undef = .bool true := f29
      refine rely_wp (rely_guard f29) ?_
      exact opr_move (.inl rfl) (hK _ _ (NewT.refl _) f1)
    · -- 13: Op.call ( value (Operand.func 35), args := #[t32, const (8:i
      intro a wx hT hF K hK
      obtain ⟨f32, f29, _⟩ := hF
      have f32 : a.tmps.getD 32 undef = .int .i64 n1 := f32
      have f29 : a.tmps.getD 29 undef = .bool true := f29
      refine rely_wp (rely_guard f29) ?_
      exact opr_cv (RNumber_8s n1 wx) rfl Tryd.func35 (by kernel_rfl) (by kernel_rfl) (by simp only [List.map_toArray, List.map_cons, List.map_nil, eval_tmp, eval_const, f32]) hK
    · -- 14: Op.buildSlice 41 1 #[(0, t33)]
      intro a wx hT hF K hK
      obtain ⟨f33, f29, _⟩ := hF
      replace f33 := show (svRd (hiL (wN n1) 8)).pred (a.tmps.getD 33 undef) wx from f33
      have f29 : a.tmps.getD 29 undef = .bool true := f29
      refine rely_wp (rely_guard f29) ?_
      exact opr_bs1 rfl f33 hK
    · -- 15: Op.call ( value (Operand.func 27), args := #[t31, t34], argT
      intro a wx hT hF K hK
      obtain ⟨f31, f34, f29, _⟩ := hF
      replace f31 := show (svRd (digL d)).pred (a.tmps.getD 31 undef) wx from f31
      replace f34 := show (svParts [(hiL (wN n1) 8)]).pred (a.tmps.getD 34 undef) wx from f34
      have f29 : a.tmps.getD 29 undef = .bool true := f29
      refine rely_wp (rely_guard f29) ?_
      exact opr_cv (Tag_cv _ _ (digL d) [hiL (wN n1) 8] E2 wx (hT.tables HT.out) f31 (by rw [digL_length]; omega) f34 (by simp) (by simp [hiL_length]) (by simpa [wordsL] using HE2.out)) rfl Tryd.func27 (by kernel_rfl) (by kernel_rfl) (by simp only [List.map_toArray, List.map_cons, List.map_nil, eval_tmp]) hK
    · -- 16: Op.binOp BinOp.eql 31 t30 t35 31
      intro a wx hT hF K hK
      obtain ⟨f30, f35, f29, _⟩ := hF
      have f30 : a.tmps.getD 30 undef = .agg (rowA 32 (bF E2)) := f30
      have f35 : a.tmps.getD 35 undef = .agg (rowA 32 (bF E2)) := f35
      have f29 : a.tmps.getD 29 undef = .bool true := f29
      refine rely_wp (rely_guard f29) ?_
      exact opr_eql_hash rfl f30 f35 (eqH_same E2) (hK _ _ (NewT.refl _) rfl)
    · -- 17: Op.pick t29 t36 (const (Value.bool false))
      intro a wx hT hF K hK
      obtain ⟨f29, f36, _⟩ := hF
      have f29 : a.tmps.getD 29 undef = .bool true := f29
      have f36 : a.tmps.getD 36 undef = .bool true := f36
      refine rely_wp rfl ?_
      exact opr_pick_true rfl f29 (hK _ _ (NewT.refl _) f36)
    · -- 18: Op.move t37
      intro a wx hT hF K hK
      obtain ⟨f37, _⟩ := hF
      have f37 : a.tmps.getD 37 undef = .bool true := f37
      refine rely_wp rfl ?_
      exact opr_move (.inl rfl) (hK _ _ (NewT.refl _) f37)
    · -- 19: Op.load 31 t3
      intro a wx hT hF K hK
      obtain ⟨f3, f38, _⟩ := hF
      have f3 : a.tmps.getD 3 undef = .pointer (some ⟨w.heap.size, 0, none⟩) := f3
      have f38 : a.tmps.getD 38 undef = .bool true := f38
      refine rely_wp (rely_guard f38) ?_
      exact opr_load_hash rfl f3 (hT.row rk) (hK _ _ (NewT.refl _) rfl)
    · -- 20: Op.call ( value (Operand.func 32), args := #[t39, const (Val
      intro a wx hT hF K hK
      obtain ⟨f39, f38, _⟩ := hF
      have f39 : a.tmps.getD 39 undef = .agg (rowA 32 (bF d)) := f39
      have f38 : a.tmps.getD 38 undef = .bool true := f38
      refine rely_wp (rely_guard f38) ?_
      exact opr_cv (Key_cv d _ [] E3 wx (hT.tables HT.out) (rdI_nil _) (by decide) HE3.out) rfl Tryd.func32 (by kernel_rfl) (by kernel_rfl) (by simp only [List.map_toArray, List.map_cons, List.map_nil, eval_tmp, eval_const, f39]) hK
    · -- 21: Op.slice 31 t3 none none none
      intro a wx hT hF K hK
      obtain ⟨f3, f38, _⟩ := hF
      have f3 : a.tmps.getD 3 undef = .pointer (some ⟨w.heap.size, 0, none⟩) := f3
      have f38 : a.tmps.getD 38 undef = .bool true := f38
      refine rely_wp (rely_guard f38) ?_
      exact opr_slice_hash rfl f3 (hK _ _ (NewT.refl _) (rd_row (hT.row rk) (by simp) (by omega)))
    · -- 22: Op.call ( value (Operand.func 27), args := #[t41, const (Val
      intro a wx hT hF K hK
      obtain ⟨f41, f38, _⟩ := hF
      replace f41 := show (svRd (digL d)).pred (a.tmps.getD 41 undef) wx from f41
      have f38 : a.tmps.getD 38 undef = .bool true := f38
      refine rely_wp (rely_guard f38) ?_
      exact opr_cv (Tag_cv _ _ (digL d) [] E3 wx (hT.tables HT.out) f41 (by rw [digL_length]; omega) (parts_nil _) (by simp) (by simp) (by simpa [wordsL] using HE3.out)) rfl Tryd.func27 (by kernel_rfl) (by kernel_rfl) (by simp only [List.map_toArray, List.map_cons, List.map_nil, eval_tmp, eval_const]) hK
    · -- 23: Op.binOp BinOp.eql 31 t40 t42 31
      intro a wx hT hF K hK
      obtain ⟨f40, f42, f38, _⟩ := hF
      have f40 : a.tmps.getD 40 undef = .agg (rowA 32 (bF E3)) := f40
      have f42 : a.tmps.getD 42 undef = .agg (rowA 32 (bF E3)) := f42
      have f38 : a.tmps.getD 38 undef = .bool true := f38
      refine rely_wp (rely_guard f38) ?_
      exact opr_eql_hash rfl f40 f42 (eqH_same E3) (hK _ _ (NewT.refl _) rfl)
    · -- 24: Op.pick t38 t43 (const (Value.bool false))
      intro a wx hT hF K hK
      obtain ⟨f38, f43, _⟩ := hF
      have f38 : a.tmps.getD 38 undef = .bool true := f38
      have f43 : a.tmps.getD 43 undef = .bool true := f43
      refine rely_wp rfl ?_
      exact opr_pick_true rfl f38 (hK _ _ (NewT.refl _) f43)
    · intro wx hT
      intro u h; obtain rfl := h (by simp); clear h
      intro u21 h; have g21 := h (by simp); clear h; replace g21 := show (svRd (digL d)).pred u21 wx from g21
      intro u h; obtain rfl := h (by simp); clear h
      intro u23 h; have g23 := h (by simp); clear h; replace g23 := show (svRd (hiL (wN n1) 8)).pred u23 wx from g23
      intro u h; obtain rfl := h (by simp); clear h
      intro u25 h; have g25 := h (by simp); clear h; replace g25 := show (svRd (hiL (wN n2) 8)).pred u25 wx from g25
      intro u26 h; have g26 := h (by simp); clear h; replace g26 := show (svParts [(hiL (wN n1) 8), (hiL (wN n2) 8)]).pred u26 wx from g26
      intro u h; obtain rfl := h (by simp); clear h
      intro u h; obtain rfl := h (by simp); clear h
      intro u h; obtain rfl := h (by simp); clear h
      intro u h; obtain rfl := h (by simp); clear h
      intro u31 h; have g31 := h (by simp); clear h; replace g31 := show (svRd (digL d)).pred u31 wx from g31
      intro u h; obtain rfl := h (by simp); clear h
      intro u33 h; have g33 := h (by simp); clear h; replace g33 := show (svRd (hiL (wN n1) 8)).pred u33 wx from g33
      intro u34 h; have g34 := h (by simp); clear h; replace g34 := show (svParts [(hiL (wN n1) 8)]).pred u34 wx from g34
      intro u h; obtain rfl := h (by simp); clear h
      intro u h; obtain rfl := h (by simp); clear h
      intro u h; obtain rfl := h (by simp); clear h
      intro u h; obtain rfl := h (by simp); clear h
      intro u h; obtain rfl := h (by simp); clear h
      intro u h; obtain rfl := h (by simp); clear h
      intro u41 h; have g41 := h (by simp); clear h; replace g41 := show (svRd (digL d)).pred u41 wx from g41
      intro u h; obtain rfl := h (by simp); clear h
      intro u h; obtain rfl := h (by simp); clear h
      intro u h; obtain rfl := h (by simp); clear h
      refine relyEnd_nil rfl ?_
      simp only [Act.put, List.setIfInBounds_toArray, List.set_cons_zero, List.set_cons_succ]
      refine opr_move (.inr rfl) ?_
      go_simp
      go_wp2
      go_ret
      exact ⟨rfl, (NewT.trans _ _ _ hB hT).out⟩
end Go.Proofs.YtpoebajpmkcjdaaDoor
