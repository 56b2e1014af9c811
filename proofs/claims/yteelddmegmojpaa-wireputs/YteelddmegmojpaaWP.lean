/- WirePuts, walked: the bytes of every number, flag, bytes and hash are the document's. -/
import Derived.Test.YteelddmegmojpaaWR
namespace Go.Proofs.Yteelddmegmojpaa
open Go Go.RowKit

set_option maxRecDepth 20000 in
set_option maxHeartbeats 4000000 in
theorem WirePuts_in (n : Int) (q : Bool) (A : Option Addr) (m cap : Nat) (lb : List UInt8) (d : Nat → UInt8) (w : World) (hb : RdV w [] (.slice A m cap) lb) (hm : lb.length = m) (hs : m ≤ 500) : Calls Try.prog 3 #[.int .i64 n, .bool q, .slice A m cap, .agg (rowA 32 (bF d))] w fun e w' => e = .returned (.bool true) ∧ Below w.heap.size w w' := by
  obtain ⟨y0, e0⟩ : ∃ y0, numI n = y0 := ⟨_, rfl⟩
  have hy0 : y0.length ≤ 1000000 := by rw [← e0]; have := numI_length n; omega
  obtain ⟨y1, e1⟩ : ∃ y1 : List UInt8, [cond q 1 0] = y1 := ⟨_, rfl⟩
  have hy1 : y1.length ≤ 1000000 := by rw [← e1]; simp
  obtain ⟨y2, e2⟩ : ∃ y2, numL lb.length ++ lb = y2 := ⟨_, rfl⟩
  have hy2 : y2.length ≤ 1000000 := by rw [← e2]; simp; have := numL_length lb.length; have := sz_le lb.length; omega
  have E0 := Lib.hid e0
  have E1 := Lib.hid e1
  have E2 := Lib.hid e2
  have Hb := Lib.hid hb
  have Hm := Lib.hid hm
  clear e0 e1 e2 hb hm
  have r7 := rowIs_box w 24 32 (bF d)
  have hN0 : NewT w (w.alloc (.cells (rowA 32 (bF d)) 24)) := NewT.alloc _ _
  cases q with
  | false =>
    have E9 : Hid (y1 = [0]) := Lib.hid (by rw [← E1.out]; rfl)
    go_enter Try.func3, Try.ntmps3
    go_wp2_with (go_at_call 9; refine (alive3_any _).mono ?_; rintro _ w1 ⟨rfl, hB1⟩; have r71 := NewT.row hB1 r7; have hN1 := NewT.trans _ _ _ hN0 hB1)
    have hN2 : NewT w1 (w1.alloc (.cells #[.int .u8 0] 5)) := NewT.alloc _ _
    have F9 : Hid (RdV (w1.alloc (.cells #[.int .u8 0] 5)) [] (.slice (some ⟨w1.heap.size, 0, none⟩) 1 1) y1) := Lib.hid (by
      rw [E9.out]
      exact rd_row (L := []) (f := fun _ => 0) (rowIs_box w1 5 1 (bF fun _ => 0)) (by simp) (by omega))
    have hNx : NewT w (w1.alloc (.cells #[.int .u8 0] 5)) := NewT.trans _ _ _ hN1 hN2
    have rr7 := NewT.row hN2 r71
    have Rb := Lib.hid (NewT.rd hNx Hb.out)
    change Code.wp _ _ _ _ (w1.alloc (.cells #[.int .u8 0] 5))
    generalize w1.alloc (.cells #[.int .u8 0] 5) = W5 at hNx rr7 Rb F9 ⊢
    clear hN2 r71 r7 hN0 hN1 Hb
    refine wp_region_rely NewT [SV.eq (.int .i64 n), svRd y0, SV.eq (.int .i64 n), svRd y0, SV.eq (.bool true), SV.eq (.bool true), SV.eq (.bool false), svRd y1, svRd y1, SV.eq (.bool true), SV.eq (.bool true), SV.eq (.bool true), svRd lb, svRd y2, svRd lb, svRd y2, SV.eq (.bool true), SV.eq (.bool true), SV.eq (.bool true), SV.eq (.agg (rowA 32 (bF d))), svRd (digL d), svRd (digL d), SV.eq (.bool true), SV.eq (.bool true)] [([(0, none)], none), ([(19, some 0)], none), ([(0, none)], none), ([(21, some 2)], none), ([(20, some 1), (22, some 3)], none), ([(23, some 4)], none), ([(1, none), (24, some 5)], some (24, true)), ([(25, some 6), (24, some 5)], some (24, true)), ([(9, none), (24, some 5)], some (24, true)), ([(26, some 7), (27, some 8), (24, some 5)], some (24, true)), ([(24, some 5), (28, some 9)], none), ([(29, some 10)], none), ([(2, none), (30, some 11)], some (30, true)), ([(31, some 12), (30, some 11)], some (30, true)), ([(2, none), (30, some 11)], some (30, true)), ([(33, some 14), (30, some 11)], some (30, true)), ([(32, some 13), (34, some 15), (30, some 11)], some (30, true)), ([(30, some 11), (35, some 16)], none), ([(36, some 17)], none), ([(7, none), (37, some 18)], some (37, true)), ([(38, some 19), (37, some 18)], some (37, true)), ([(7, none), (37, some 18)], some (37, true)), ([(39, some 20), (40, some 21), (37, some 18)], some (37, true)), ([(37, some 18), (41, some 22)], none)] 43 rfl (by kernel_rfl) rfl (by kernel_rfl) (by kernel_rfl) rfl NewT.trans (NewT.drew _) (Nat.le_of_ble_eq_true rfl) ⟨?_, ?_, ?_, ?_, ?_, ?_, ?_, ?_, ?_, ?_, ?_, ?_, ?_, ?_, ?_, ?_, ?_, ?_, ?_, ?_, ?_, ?_, ?_, ?_, trivial⟩ ?_
    · -- 0: Op.move t0
      intro a wx hT hF K hK
      obtain ⟨f0, _⟩ := hF
      have f0 : a.tmps.getD 0 undef = .int .i64 n := f0
      refine rely_wp rfl ?_
      exact opr_move (.inl rfl) (hK _ _ (NewT.refl _) f0)
    · -- 1: Op.call ( value (Operand.func 11), args := #[t19], argTypes 
      intro a wx hT hF K hK
      obtain ⟨f19, _⟩ := hF
      have f19 : a.tmps.getD 19 undef = .int .i64 n := f19
      refine rely_wp rfl ?_
      exact opr_cv (Num_rd _ y0 wx E0.out) rfl Try.func11 (by kernel_rfl) (by kernel_rfl) (by simp only [List.map_toArray, List.map_cons, List.map_nil, eval_tmp, f19]) hK
    · -- 2: Op.move t0
      intro a wx hT hF K hK
      obtain ⟨f0, _⟩ := hF
      have f0 : a.tmps.getD 0 undef = .int .i64 n := f0
      refine rely_wp rfl ?_
      exact opr_move (.inl rfl) (hK _ _ (NewT.refl _) f0)
    · -- 3: Op.call ( value (Operand.func 12), args := #[t21], argTypes 
      intro a wx hT hF K hK
      obtain ⟨f21, _⟩ := hF
      have f21 : a.tmps.getD 21 undef = .int .i64 n := f21
      refine rely_wp rfl ?_
      exact opr_cv (RefNum_rd _ y0 wx E0.out) rfl Try.func12 (by kernel_rfl) (by kernel_rfl) (by simp only [List.map_toArray, List.map_cons, List.map_nil, eval_tmp, f21]) hK
    · -- 4: Op.call ( value (Operand.func 10), args := #[t20, t22], argT
      intro a wx hT hF K hK
      obtain ⟨f20, f22, _⟩ := hF
      replace f20 := show (svRd y0).pred (a.tmps.getD 20 undef) wx from f20
      replace f22 := show (svRd y0).pred (a.tmps.getD 22 undef) wx from f22
      refine rely_wp rfl ?_
      exact opr_cv (Bytes_true _ _ y0 wx f20 f22 hy0) rfl Try.func10 (by kernel_rfl) (by kernel_rfl) (by simp only [List.map_toArray, List.map_cons, List.map_nil, eval_tmp]) hK
    · -- 5: Op.move t23
      intro a wx hT hF K hK
      obtain ⟨f23, _⟩ := hF
      have f23 : a.tmps.getD 23 undef = .bool true := f23
      refine rely_wp rfl ?_
      exact opr_move (.inl rfl) (hK _ _ (NewT.refl _) f23)
    · -- 6: Op.move t1
      intro a wx hT hF K hK
      obtain ⟨f1, f24, _⟩ := hF
      have f1 : a.tmps.getD 1 undef = .bool false := f1
      have f24 : a.tmps.getD 24 undef = .bool true := f24
      refine rely_wp (rely_guard f24) ?_
      exact opr_move (.inl rfl) (hK _ _ (NewT.refl _) f1)
    · -- 7: Op.call ( value (Operand.func 13), args := #[t25], argTypes 
      intro a wx hT hF K hK
      obtain ⟨f25, f24, _⟩ := hF
      have f25 : a.tmps.getD 25 undef = .bool false := f25
      have f24 : a.tmps.getD 24 undef = .bool true := f24
      refine rely_wp (rely_guard f24) ?_
      exact opr_cv (Flag_rd false y1 wx E9.out.symm) rfl Try.func13 (by kernel_rfl) (by kernel_rfl) (by simp only [List.map_toArray, List.map_cons, List.map_nil, eval_tmp, f25]) hK
    · -- 8: Op.move t9
      intro a wx hT hF K hK
      obtain ⟨f9, f24, _⟩ := hF
      have f9 : a.tmps.getD 9 undef = .slice (some ⟨w1.heap.size, 0, none⟩) 1 1 := f9
      have f24 : a.tmps.getD 24 undef = .bool true := f24
      refine rely_wp (rely_guard f24) ?_
      exact opr_move (.inl rfl) (hK _ _ (NewT.refl _) (by rw [eval_tmp, f9]; exact hT.rd F9.out))
    · -- 9: Op.call ( value (Operand.func 10), args := #[t26, t27], argT
      intro a wx hT hF K hK
      obtain ⟨f26, f27, f24, _⟩ := hF
      replace f26 := show (svRd y1).pred (a.tmps.getD 26 undef) wx from f26
      replace f27 := show (svRd y1).pred (a.tmps.getD 27 undef) wx from f27
      have f24 : a.tmps.getD 24 undef = .bool true := f24
      refine rely_wp (rely_guard f24) ?_
      exact opr_cv (Bytes_true _ _ y1 wx f26 f27 hy1) rfl Try.func10 (by kernel_rfl) (by kernel_rfl) (by simp only [List.map_toArray, List.map_cons, List.map_nil, eval_tmp]) hK
    · -- 10: Op.pick t24 t28 (const (Value.bool false))
      intro a wx hT hF K hK
      obtain ⟨f24, f28, _⟩ := hF
      have f24 : a.tmps.getD 24 undef = .bool true := f24
      have f28 : a.tmps.getD 28 undef = .bool true := f28
      refine rely_wp rfl ?_
      exact opr_pick_true rfl f24 (hK _ _ (NewT.refl _) f28)
    · -- 11: Op.move t29
      intro a wx hT hF K hK
      obtain ⟨f29, _⟩ := hF
      have f29 : a.tmps.getD 29 undef = .bool true := f29
      refine rely_wp rfl ?_
      exact opr_move (.inl rfl) (hK _ _ (NewT.refl _) f29)
    · -- 12: Op.move t2
      intro a wx hT hF K hK
      obtain ⟨f2, f30, _⟩ := hF
      have f2 : a.tmps.getD 2 undef = .slice A m cap := f2
      have f30 : a.tmps.getD 30 undef = .bool true := f30
      refine rely_wp (rely_guard f30) ?_
      exact opr_move (.inl rfl) (hK _ _ (NewT.refl _) (by rw [eval_tmp, f2]; exact hT.rd Rb.out))
    · -- 13: Op.call ( value (Operand.func 14), args := #[t31], argTypes 
      intro a wx hT hF K hK
      obtain ⟨f31, f30, _⟩ := hF
      replace f31 := show (svRd lb).pred (a.tmps.getD 31 undef) wx from f31
      have f30 : a.tmps.getD 30 undef = .bool true := f30
      refine rely_wp (rely_guard f30) ?_
      exact opr_cv (WBytes_rd _ lb y2 wx f31 (by have := Hm.out; omega) E2.out) rfl Try.func14 (by kernel_rfl) (by kernel_rfl) (by simp only [List.map_toArray, List.map_cons, List.map_nil, eval_tmp]) hK
    · -- 14: Op.move t2
      intro a wx hT hF K hK
      obtain ⟨f2, f30, _⟩ := hF
      have f2 : a.tmps.getD 2 undef = .slice A m cap := f2
      have f30 : a.tmps.getD 30 undef = .bool true := f30
      refine rely_wp (rely_guard f30) ?_
      exact opr_move (.inl rfl) (hK _ _ (NewT.refl _) (by rw [eval_tmp, f2]; exact hT.rd Rb.out))
    · -- 15: Op.call ( value (Operand.func 15), args := #[t33], argTypes 
      intro a wx hT hF K hK
      obtain ⟨f33, f30, _⟩ := hF
      replace f33 := show (svRd lb).pred (a.tmps.getD 33 undef) wx from f33
      have f30 : a.tmps.getD 30 undef = .bool true := f30
      refine rely_wp (rely_guard f30) ?_
      exact opr_cv (RefBytes_cv _ lb y2 wx f33 (by have := Hm.out; omega) E2.out) rfl Try.func15 (by kernel_rfl) (by kernel_rfl) (by simp only [List.map_toArray, List.map_cons, List.map_nil, eval_tmp]) hK
    · -- 16: Op.call ( value (Operand.func 10), args := #[t32, t34], argT
      intro a wx hT hF K hK
      obtain ⟨f32, f34, f30, _⟩ := hF
      replace f32 := show (svRd y2).pred (a.tmps.getD 32 undef) wx from f32
      replace f34 := show (svRd y2).pred (a.tmps.getD 34 undef) wx from f34
      have f30 : a.tmps.getD 30 undef = .bool true := f30
      refine rely_wp (rely_guard f30) ?_
      exact opr_cv (Bytes_true _ _ y2 wx f32 f34 hy2) rfl Try.func10 (by kernel_rfl) (by kernel_rfl) (by simp only [List.map_toArray, List.map_cons, List.map_nil, eval_tmp]) hK
    · -- 17: Op.pick t30 t35 (const (Value.bool false))
      intro a wx hT hF K hK
      obtain ⟨f30, f35, _⟩ := hF
      have f30 : a.tmps.getD 30 undef = .bool true := f30
      have f35 : a.tmps.getD 35 undef = .bool true := f35
      refine rely_wp rfl ?_
      exact opr_pick_true rfl f30 (hK _ _ (NewT.refl _) f35)
    · -- 18: Op.move t36
      intro a wx hT hF K hK
      obtain ⟨f36, _⟩ := hF
      have f36 : a.tmps.getD 36 undef = .bool true := f36
      refine rely_wp rfl ?_
      exact opr_move (.inl rfl) (hK _ _ (NewT.refl _) f36)
    · -- 19: Op.load 24 t7
      intro a wx hT hF K hK
      obtain ⟨f7, f37, _⟩ := hF
      have f7 : a.tmps.getD 7 undef = .pointer (some ⟨w.heap.size, 0, none⟩) := f7
      have f37 : a.tmps.getD 37 undef = .bool true := f37
      refine rely_wp (rely_guard f37) ?_
      exact opr_load_hash rfl f7 (hT.row rr7) (hK _ _ (NewT.refl _) rfl)
    · -- 20: Op.call ( value (Operand.func 16), args := #[t38], argTypes 
      intro a wx hT hF K hK
      obtain ⟨f38, f37, _⟩ := hF
      have f38 : a.tmps.getD 38 undef = .agg (rowA 32 (bF d)) := f38
      have f37 : a.tmps.getD 37 undef = .bool true := f37
      refine rely_wp (rely_guard f37) ?_
      exact opr_cv (WHash_rd d wx) rfl Try.func16 (by kernel_rfl) (by kernel_rfl) (by simp only [List.map_toArray, List.map_cons, List.map_nil, eval_tmp, f38]) hK
    · -- 21: Op.slice 24 t7 none none none
      intro a wx hT hF K hK
      obtain ⟨f7, f37, _⟩ := hF
      have f7 : a.tmps.getD 7 undef = .pointer (some ⟨w.heap.size, 0, none⟩) := f7
      have f37 : a.tmps.getD 37 undef = .bool true := f37
      refine rely_wp (rely_guard f37) ?_
      exact opr_slice_hash rfl f7 (hK _ _ (NewT.refl _) (rd_row (hT.row rr7) (by simp) (by omega)))
    · -- 22: Op.call ( value (Operand.func 10), args := #[t39, t40], argT
      intro a wx hT hF K hK
      obtain ⟨f39, f40, f37, _⟩ := hF
      replace f39 := show (svRd (digL d)).pred (a.tmps.getD 39 undef) wx from f39
      replace f40 := show (svRd (digL d)).pred (a.tmps.getD 40 undef) wx from f40
      have f37 : a.tmps.getD 37 undef = .bool true := f37
      refine rely_wp (rely_guard f37) ?_
      exact opr_cv (Bytes_true _ _ (digL d) wx f39 f40 (by rw [digL_length]; omega)) rfl Try.func10 (by kernel_rfl) (by kernel_rfl) (by simp only [List.map_toArray, List.map_cons, List.map_nil, eval_tmp]) hK
    · -- 23: Op.pick t37 t41 (const (Value.bool false))
      intro a wx hT hF K hK
      obtain ⟨f37, f41, _⟩ := hF
      have f37 : a.tmps.getD 37 undef = .bool true := f37
      have f41 : a.tmps.getD 41 undef = .bool true := f41
      refine rely_wp rfl ?_
      exact opr_pick_true rfl f37 (hK _ _ (NewT.refl _) f41)
    · intro wx hT
      intro u h; obtain rfl := h (by simp); clear h
      intro u20 h; have g20 := h (by simp); clear h; replace g20 := show (svRd y0).pred u20 wx from g20
      intro u h; obtain rfl := h (by simp); clear h
      intro u22 h; have g22 := h (by simp); clear h; replace g22 := show (svRd y0).pred u22 wx from g22
      intro u h; obtain rfl := h (by simp); clear h
      intro u h; obtain rfl := h (by simp); clear h
      intro u h; obtain rfl := h (by simp); clear h
      intro u26 h; have g26 := h (by simp); clear h; replace g26 := show (svRd y1).pred u26 wx from g26
      intro u27 h; have g27 := h (by simp); clear h; replace g27 := show (svRd y1).pred u27 wx from g27
      intro u h; obtain rfl := h (by simp); clear h
      intro u h; obtain rfl := h (by simp); clear h
      intro u h; obtain rfl := h (by simp); clear h
      intro u31 h; have g31 := h (by simp); clear h; replace g31 := show (svRd lb).pred u31 wx from g31
      intro u32 h; have g32 := h (by simp); clear h; replace g32 := show (svRd y2).pred u32 wx from g32
      intro u33 h; have g33 := h (by simp); clear h; replace g33 := show (svRd lb).pred u33 wx from g33
      intro u34 h; have g34 := h (by simp); clear h; replace g34 := show (svRd y2).pred u34 wx from g34
      intro u h; obtain rfl := h (by simp); clear h
      intro u h; obtain rfl := h (by simp); clear h
      intro u h; obtain rfl := h (by simp); clear h
      intro u h; obtain rfl := h (by simp); clear h
      intro u39 h; have g39 := h (by simp); clear h; replace g39 := show (svRd (digL d)).pred u39 wx from g39
      intro u40 h; have g40 := h (by simp); clear h; replace g40 := show (svRd (digL d)).pred u40 wx from g40
      intro u h; obtain rfl := h (by simp); clear h
      intro u h; obtain rfl := h (by simp); clear h
      refine relyEnd_nil rfl ?_
      simp only [Act.put, List.setIfInBounds_toArray, List.set_cons_zero, List.set_cons_succ]
      refine opr_move (.inr rfl) ?_
      go_simp
      go_wp2
      go_ret
      exact ⟨rfl, (NewT.trans _ _ _ hNx hT).out⟩
  | true =>
    have E9 : Hid (y1 = [1]) := Lib.hid (by rw [← E1.out]; rfl)
    go_enter Try.func3, Try.ntmps3
    go_wp2_with (go_at_call 9; refine (alive3_any _).mono ?_; rintro _ w1 ⟨rfl, hB1⟩; have r71 := NewT.row hB1 r7; have hN1 := NewT.trans _ _ _ hN0 hB1)
    have hN2 : NewT w1 (w1.alloc (.cells #[.int .u8 1] 5)) := NewT.alloc _ _
    have F9 : Hid (RdV (w1.alloc (.cells #[.int .u8 1] 5)) [] (.slice (some ⟨w1.heap.size, 0, none⟩) 1 1) y1) := Lib.hid (by
      rw [E9.out]
      exact rd_row (L := []) (f := fun _ => 1) (rowIs_box w1 5 1 (bF fun _ => 1)) (by simp) (by omega))
    have hNx : NewT w (w1.alloc (.cells #[.int .u8 1] 5)) := NewT.trans _ _ _ hN1 hN2
    have rr7 := NewT.row hN2 r71
    have Rb := Lib.hid (NewT.rd hNx Hb.out)
    change Code.wp _ _ _ _ (w1.alloc (.cells #[.int .u8 1] 5))
    generalize w1.alloc (.cells #[.int .u8 1] 5) = W5 at hNx rr7 Rb F9 ⊢
    clear hN2 r71 r7 hN0 hN1 Hb
    refine wp_region_rely NewT [SV.eq (.int .i64 n), svRd y0, SV.eq (.int .i64 n), svRd y0, SV.eq (.bool true), SV.eq (.bool true), SV.eq (.bool true), svRd y1, svRd y1, SV.eq (.bool true), SV.eq (.bool true), SV.eq (.bool true), svRd lb, svRd y2, svRd lb, svRd y2, SV.eq (.bool true), SV.eq (.bool true), SV.eq (.bool true), SV.eq (.agg (rowA 32 (bF d))), svRd (digL d), svRd (digL d), SV.eq (.bool true), SV.eq (.bool true)] [([(0, none)], none), ([(19, some 0)], none), ([(0, none)], none), ([(21, some 2)], none), ([(20, some 1), (22, some 3)], none), ([(23, some 4)], none), ([(1, none), (24, some 5)], some (24, true)), ([(25, some 6), (24, some 5)], some (24, true)), ([(9, none), (24, some 5)], some (24, true)), ([(26, some 7), (27, some 8), (24, some 5)], some (24, true)), ([(24, some 5), (28, some 9)], none), ([(29, some 10)], none), ([(2, none), (30, some 11)], some (30, true)), ([(31, some 12), (30, some 11)], some (30, true)), ([(2, none), (30, some 11)], some (30, true)), ([(33, some 14), (30, some 11)], some (30, true)), ([(32, some 13), (34, some 15), (30, some 11)], some (30, true)), ([(30, some 11), (35, some 16)], none), ([(36, some 17)], none), ([(7, none), (37, some 18)], some (37, true)), ([(38, some 19), (37, some 18)], some (37, true)), ([(7, none), (37, some 18)], some (37, true)), ([(39, some 20), (40, some 21), (37, some 18)], some (37, true)), ([(37, some 18), (41, some 22)], none)] 43 rfl (by kernel_rfl) rfl (by kernel_rfl) (by kernel_rfl) rfl NewT.trans (NewT.drew _) (Nat.le_of_ble_eq_true rfl) ⟨?_, ?_, ?_, ?_, ?_, ?_, ?_, ?_, ?_, ?_, ?_, ?_, ?_, ?_, ?_, ?_, ?_, ?_, ?_, ?_, ?_, ?_, ?_, ?_, trivial⟩ ?_
    · -- 0: Op.move t0
      intro a wx hT hF K hK
      obtain ⟨f0, _⟩ := hF
      have f0 : a.tmps.getD 0 undef = .int .i64 n := f0
      refine rely_wp rfl ?_
      exact opr_move (.inl rfl) (hK _ _ (NewT.refl _) f0)
    · -- 1: Op.call ( value (Operand.func 11), args := #[t19], argTypes 
      intro a wx hT hF K hK
      obtain ⟨f19, _⟩ := hF
      have f19 : a.tmps.getD 19 undef = .int .i64 n := f19
      refine rely_wp rfl ?_
      exact opr_cv (Num_rd _ y0 wx E0.out) rfl Try.func11 (by kernel_rfl) (by kernel_rfl) (by simp only [List.map_toArray, List.map_cons, List.map_nil, eval_tmp, f19]) hK
    · -- 2: Op.move t0
      intro a wx hT hF K hK
      obtain ⟨f0, _⟩ := hF
      have f0 : a.tmps.getD 0 undef = .int .i64 n := f0
      refine rely_wp rfl ?_
      exact opr_move (.inl rfl) (hK _ _ (NewT.refl _) f0)
    · -- 3: Op.call ( value (Operand.func 12), args := #[t21], argTypes 
      intro a wx hT hF K hK
      obtain ⟨f21, _⟩ := hF
      have f21 : a.tmps.getD 21 undef = .int .i64 n := f21
      refine rely_wp rfl ?_
      exact opr_cv (RefNum_rd _ y0 wx E0.out) rfl Try.func12 (by kernel_rfl) (by kernel_rfl) (by simp only [List.map_toArray, List.map_cons, List.map_nil, eval_tmp, f21]) hK
    · -- 4: Op.call ( value (Operand.func 10), args := #[t20, t22], argT
      intro a wx hT hF K hK
      obtain ⟨f20, f22, _⟩ := hF
      replace f20 := show (svRd y0).pred (a.tmps.getD 20 undef) wx from f20
      replace f22 := show (svRd y0).pred (a.tmps.getD 22 undef) wx from f22
      refine rely_wp rfl ?_
      exact opr_cv (Bytes_true _ _ y0 wx f20 f22 hy0) rfl Try.func10 (by kernel_rfl) (by kernel_rfl) (by simp only [List.map_toArray, List.map_cons, List.map_nil, eval_tmp]) hK
    · -- 5: Op.move t23
      intro a wx hT hF K hK
      obtain ⟨f23, _⟩ := hF
      have f23 : a.tmps.getD 23 undef = .bool true := f23
      refine rely_wp rfl ?_
      exact opr_move (.inl rfl) (hK _ _ (NewT.refl _) f23)
    · -- 6: Op.move t1
      intro a wx hT hF K hK
      obtain ⟨f1, f24, _⟩ := hF
      have f1 : a.tmps.getD 1 undef = .bool true := f1
      have f24 : a.tmps.getD 24 undef = .bool true := f24
      refine rely_wp (rely_guard f24) ?_
      exact opr_move (.inl rfl) (hK _ _ (NewT.refl _) f1)
    · -- 7: Op.call ( value (Operand.func 13), args := #[t25], argTypes 
      intro a wx hT hF K hK
      obtain ⟨f25, f24, _⟩ := hF
      have f25 : a.tmps.getD 25 undef = .bool true := f25
      have f24 : a.tmps.getD 24 undef = .bool true := f24
      refine rely_wp (rely_guard f24) ?_
      exact opr_cv (Flag_rd true y1 wx E9.out.symm) rfl Try.func13 (by kernel_rfl) (by kernel_rfl) (by simp only [List.map_toArray, List.map_cons, List.map_nil, eval_tmp, f25]) hK
    · -- 8: Op.move t9
      intro a wx hT hF K hK
      obtain ⟨f9, f24, _⟩ := hF
      have f9 : a.tmps.getD 9 undef = .slice (some ⟨w1.heap.size, 0, none⟩) 1 1 := f9
      have f24 : a.tmps.getD 24 undef = .bool true := f24
      refine rely_wp (rely_guard f24) ?_
      exact opr_move (.inl rfl) (hK _ _ (NewT.refl _) (by rw [eval_tmp, f9]; exact hT.rd F9.out))
    · -- 9: Op.call ( value (Operand.func 10), args := #[t26, t27], argT
      intro a wx hT hF K hK
      obtain ⟨f26, f27, f24, _⟩ := hF
      replace f26 := show (svRd y1).pred (a.tmps.getD 26 undef) wx from f26
      replace f27 := show (svRd y1).pred (a.tmps.getD 27 undef) wx from f27
      have f24 : a.tmps.getD 24 undef = .bool true := f24
      refine rely_wp (rely_guard f24) ?_
      exact opr_cv (Bytes_true _ _ y1 wx f26 f27 hy1) rfl Try.func10 (by kernel_rfl) (by kernel_rfl) (by simp only [List.map_toArray, List.map_cons, List.map_nil, eval_tmp]) hK
    · -- 10: Op.pick t24 t28 (const (Value.bool false))
      intro a wx hT hF K hK
      obtain ⟨f24, f28, _⟩ := hF
      have f24 : a.tmps.getD 24 undef = .bool true := f24
      have f28 : a.tmps.getD 28 undef = .bool true := f28
      refine rely_wp rfl ?_
      exact opr_pick_true rfl f24 (hK _ _ (NewT.refl _) f28)
    · -- 11: Op.move t29
      intro a wx hT hF K hK
      obtain ⟨f29, _⟩ := hF
      have f29 : a.tmps.getD 29 undef = .bool true := f29
      refine rely_wp rfl ?_
      exact opr_move (.inl rfl) (hK _ _ (NewT.refl _) f29)
    · -- 12: Op.move t2
      intro a wx hT hF K hK
      obtain ⟨f2, f30, _⟩ := hF
      have f2 : a.tmps.getD 2 undef = .slice A m cap := f2
      have f30 : a.tmps.getD 30 undef = .bool true := f30
      refine rely_wp (rely_guard f30) ?_
      exact opr_move (.inl rfl) (hK _ _ (NewT.refl _) (by rw [eval_tmp, f2]; exact hT.rd Rb.out))
    · -- 13: Op.call ( value (Operand.func 14), args := #[t31], argTypes 
      intro a wx hT hF K hK
      obtain ⟨f31, f30, _⟩ := hF
      replace f31 := show (svRd lb).pred (a.tmps.getD 31 undef) wx from f31
      have f30 : a.tmps.getD 30 undef = .bool true := f30
      refine rely_wp (rely_guard f30) ?_
      exact opr_cv (WBytes_rd _ lb y2 wx f31 (by have := Hm.out; omega) E2.out) rfl Try.func14 (by kernel_rfl) (by kernel_rfl) (by simp only [List.map_toArray, List.map_cons, List.map_nil, eval_tmp]) hK
    · -- 14: Op.move t2
      intro a wx hT hF K hK
      obtain ⟨f2, f30, _⟩ := hF
      have f2 : a.tmps.getD 2 undef = .slice A m cap := f2
      have f30 : a.tmps.getD 30 undef = .bool true := f30
      refine rely_wp (rely_guard f30) ?_
      exact opr_move (.inl rfl) (hK _ _ (NewT.refl _) (by rw [eval_tmp, f2]; exact hT.rd Rb.out))
    · -- 15: Op.call ( value (Operand.func 15), args := #[t33], argTypes 
      intro a wx hT hF K hK
      obtain ⟨f33, f30, _⟩ := hF
      replace f33 := show (svRd lb).pred (a.tmps.getD 33 undef) wx from f33
      have f30 : a.tmps.getD 30 undef = .bool true := f30
      refine rely_wp (rely_guard f30) ?_
      exact opr_cv (RefBytes_cv _ lb y2 wx f33 (by have := Hm.out; omega) E2.out) rfl Try.func15 (by kernel_rfl) (by kernel_rfl) (by simp only [List.map_toArray, List.map_cons, List.map_nil, eval_tmp]) hK
    · -- 16: Op.call ( value (Operand.func 10), args := #[t32, t34], argT
      intro a wx hT hF K hK
      obtain ⟨f32, f34, f30, _⟩ := hF
      replace f32 := show (svRd y2).pred (a.tmps.getD 32 undef) wx from f32
      replace f34 := show (svRd y2).pred (a.tmps.getD 34 undef) wx from f34
      have f30 : a.tmps.getD 30 undef = .bool true := f30
      refine rely_wp (rely_guard f30) ?_
      exact opr_cv (Bytes_true _ _ y2 wx f32 f34 hy2) rfl Try.func10 (by kernel_rfl) (by kernel_rfl) (by simp only [List.map_toArray, List.map_cons, List.map_nil, eval_tmp]) hK
    · -- 17: Op.pick t30 t35 (const (Value.bool false))
      intro a wx hT hF K hK
      obtain ⟨f30, f35, _⟩ := hF
      have f30 : a.tmps.getD 30 undef = .bool true := f30
      have f35 : a.tmps.getD 35 undef = .bool true := f35
      refine rely_wp rfl ?_
      exact opr_pick_true rfl f30 (hK _ _ (NewT.refl _) f35)
    · -- 18: Op.move t36
      intro a wx hT hF K hK
      obtain ⟨f36, _⟩ := hF
      have f36 : a.tmps.getD 36 undef = .bool true := f36
      refine rely_wp rfl ?_
      exact opr_move (.inl rfl) (hK _ _ (NewT.refl _) f36)
    · -- 19: Op.load 24 t7
      intro a wx hT hF K hK
      obtain ⟨f7, f37, _⟩ := hF
      have f7 : a.tmps.getD 7 undef = .pointer (some ⟨w.heap.size, 0, none⟩) := f7
      have f37 : a.tmps.getD 37 undef = .bool true := f37
      refine rely_wp (rely_guard f37) ?_
      exact opr_load_hash rfl f7 (hT.row rr7) (hK _ _ (NewT.refl _) rfl)
    · -- 20: Op.call ( value (Operand.func 16), args := #[t38], argTypes 
      intro a wx hT hF K hK
      obtain ⟨f38, f37, _⟩ := hF
      have f38 : a.tmps.getD 38 undef = .agg (rowA 32 (bF d)) := f38
      have f37 : a.tmps.getD 37 undef = .bool true := f37
      refine rely_wp (rely_guard f37) ?_
      exact opr_cv (WHash_rd d wx) rfl Try.func16 (by kernel_rfl) (by kernel_rfl) (by simp only [List.map_toArray, List.map_cons, List.map_nil, eval_tmp, f38]) hK
    · -- 21: Op.slice 24 t7 none none none
      intro a wx hT hF K hK
      obtain ⟨f7, f37, _⟩ := hF
      have f7 : a.tmps.getD 7 undef = .pointer (some ⟨w.heap.size, 0, none⟩) := f7
      have f37 : a.tmps.getD 37 undef = .bool true := f37
      refine rely_wp (rely_guard f37) ?_
      exact opr_slice_hash rfl f7 (hK _ _ (NewT.refl _) (rd_row (hT.row rr7) (by simp) (by omega)))
    · -- 22: Op.call ( value (Operand.func 10), args := #[t39, t40], argT
      intro a wx hT hF K hK
      obtain ⟨f39, f40, f37, _⟩ := hF
      replace f39 := show (svRd (digL d)).pred (a.tmps.getD 39 undef) wx from f39
      replace f40 := show (svRd (digL d)).pred (a.tmps.getD 40 undef) wx from f40
      have f37 : a.tmps.getD 37 undef = .bool true := f37
      refine rely_wp (rely_guard f37) ?_
      exact opr_cv (Bytes_true _ _ (digL d) wx f39 f40 (by rw [digL_length]; omega)) rfl Try.func10 (by kernel_rfl) (by kernel_rfl) (by simp only [List.map_toArray, List.map_cons, List.map_nil, eval_tmp]) hK
    · -- 23: Op.pick t37 t41 (const (Value.bool false))
      intro a wx hT hF K hK
      obtain ⟨f37, f41, _⟩ := hF
      have f37 : a.tmps.getD 37 undef = .bool true := f37
      have f41 : a.tmps.getD 41 undef = .bool true := f41
      refine rely_wp rfl ?_
      exact opr_pick_true rfl f37 (hK _ _ (NewT.refl _) f41)
    · intro wx hT
      intro u h; obtain rfl := h (by simp); clear h
      intro u20 h; have g20 := h (by simp); clear h; replace g20 := show (svRd y0).pred u20 wx from g20
      intro u h; obtain rfl := h (by simp); clear h
      intro u22 h; have g22 := h (by simp); clear h; replace g22 := show (svRd y0).pred u22 wx from g22
      intro u h; obtain rfl := h (by simp); clear h
      intro u h; obtain rfl := h (by simp); clear h
      intro u h; obtain rfl := h (by simp); clear h
      intro u26 h; have g26 := h (by simp); clear h; replace g26 := show (svRd y1).pred u26 wx from g26
      intro u27 h; have g27 := h (by simp); clear h; replace g27 := show (svRd y1).pred u27 wx from g27
      intro u h; obtain rfl := h (by simp); clear h
      intro u h; obtain rfl := h (by simp); clear h
      intro u h; obtain rfl := h (by simp); clear h
      intro u31 h; have g31 := h (by simp); clear h; replace g31 := show (svRd lb).pred u31 wx from g31
      intro u32 h; have g32 := h (by simp); clear h; replace g32 := show (svRd y2).pred u32 wx from g32
      intro u33 h; have g33 := h (by simp); clear h; replace g33 := show (svRd lb).pred u33 wx from g33
      intro u34 h; have g34 := h (by simp); clear h; replace g34 := show (svRd y2).pred u34 wx from g34
      intro u h; obtain rfl := h (by simp); clear h
      intro u h; obtain rfl := h (by simp); clear h
      intro u h; obtain rfl := h (by simp); clear h
      intro u h; obtain rfl := h (by simp); clear h
      intro u39 h; have g39 := h (by simp); clear h; replace g39 := show (svRd (digL d)).pred u39 wx from g39
      intro u40 h; have g40 := h (by simp); clear h; replace g40 := show (svRd (digL d)).pred u40 wx from g40
      intro u h; obtain rfl := h (by simp); clear h
      intro u h; obtain rfl := h (by simp); clear h
      refine relyEnd_nil rfl ?_
      simp only [Act.put, List.setIfInBounds_toArray, List.set_cons_zero, List.set_cons_succ]
      refine opr_move (.inr rfl) ?_
      go_simp
      go_wp2
      go_ret
      exact ⟨rfl, (NewT.trans _ _ _ hNx hT).out⟩
set_option maxHeartbeats 1000000 in
theorem WirePuts_walk (n : Int) (q : Bool) (vb : Value) (lb : List UInt8) (d : Nat → UInt8) (w : World) (hb : RdV w [] vb lb) : Calls Try.prog 3 #[.int .i64 n, .bool q, vb, .agg (rowA 32 (bF d))] w fun e w' => e = .returned (.bool true) ∧ Below w.heap.size w w' := by
  have hb0 := hb
  obtain ⟨A, cap, rfl, h1, h2, _⟩ := hb0
  unfold maxLen at h2
  by_cases hl : 500 < lb.length
  · clear hb
    have hN0 : NewT w (w.alloc (.cells (rowA 32 (bF d)) 24)) := NewT.alloc _ _
    go_enter Try.func3, Try.ntmps3
    go_wp2_with (go_at_call 9; refine (alive3_any _).mono ?_; rintro _ w1 ⟨rfl, hB1⟩)
    go_ret
    exact ⟨rfl, (NewT.trans _ _ _ hN0 hB1).out⟩
  · exact WirePuts_in n q A lb.length cap lb d w hb rfl (by omega)
end Go.Proofs.Yteelddmegmojpaa
