import Derived.Test.YtpoebajpmkcjdaaDoorJ1
import Derived.Test.YtpoebajpmkcjdaaDoorOpr
namespace Go.Proofs.YtpoebajpmkcjdaaDoor
open Go Go.RowKit
theorem RSum_cv (v : Value) (l : List UInt8) (D : Nat → UInt8) (w : World) (hT : Tables w) (hr : RdV w [] v l) (hl : l.length ≤ 1000) (hD : shaL Kc Fc l = D) : Cv 22 #[v] w (.eq (.agg (rowA 32 (bF D)))) := by
  rw [← hD]; exact Cv.of_eq (RSum_any v l w hT hr hl)
theorem RHex_cv (d : Nat → UInt8) (S : ByteArray) (w : World) (hS : (⟨(hexL d 32).toArray⟩ : ByteArray) = S) : Cv 24 #[.agg (rowA 32 (bF d))] w (.eq (.string S)) := by
  rw [← hS]; exact Cv.of_eq (RHex_any d w)
set_option maxHeartbeats 2000000 in
theorem ShaSums_few (A : Option Addr) (nb cap : Nat) (l : List UInt8) (d : Nat → UInt8) (w : World) (hT : Tables w) (hr : RdV w [] (.slice A nb cap) l) (hnb : nb ≤ 1000) : Calls Tryd.prog 4 #[.slice A nb cap, .agg (rowA 32 (bF d))] w fun e w' => e = .returned (.bool true) ∧ Below w.heap.size w w' := by
  have HT := Lib.hid hT
  clear hT
  obtain ⟨D, HD⟩ : ∃ D, Hid (shaL Kc Fc l = D) := ⟨_, Lib.hid rfl⟩
  obtain ⟨S, HS⟩ : ∃ S : ByteArray, Hid (⟨(hexL d 32).toArray⟩ = S) := ⟨_, Lib.hid rfl⟩
  go_enter Tryd.func4, Tryd.ntmps4
  go_wp2_with fail
  have r0 := rowIs_box w 31 32 (bF d)
  have hB : Below w.heap.size w (w.alloc (.cells (rowA 32 (bF d)) 31)) := (Below.refl _ w).alloc (Nat.le_refl _) _
  refine (alive_any _ (HT.out.below hB)).mono ?_
  rintro e w1 ⟨rfl, hB1⟩
  replace r0 := rowIs_below r0 hB1 r0.lt
  replace hB := hB.trans (hB1.mono hB.size)
  have hl : l.length = nb := by obtain ⟨_, _, hv, _⟩ := hr; cases hv; rfl
  replace hr := Lib.hid (hr.keep (KeepBut.below hB))
  have T1 := Lib.hid (HT.out.below hB)
  clear hB1
  subst hl
  have hd : decide ((1000 : Int) < (l.length : Int)) = false := by simp; omega
  go_wp2_with fail
  refine wp_region_rely NewT [svRd l, SV.eq (.int .i64 (List.length l : Int)), SV.eq (.bool false), SV.eq (.bool false), svRd l, svParts [l], SV.eq (.agg (rowA 32 (bF D))), svRd l, SV.eq (.agg (rowA 32 (bF D))), SV.eq (.bool true), SV.eq (.bool true), SV.eq (.agg (rowA 32 (bF d))), SV.eq (.string S), SV.eq (.agg (rowA 32 (bF d))), SV.eq (.string S), SV.eq (.bool true), SV.eq (.bool true), SV.eq (.bool true), SV.eq (.bool true)] [([(0, none)], none), ([(7, some 0)], none), ([(8, some 1)], none), ([(9, some 2)], none), ([(0, none), (10, some 3)], some (10, false)), ([(11, some 4), (10, some 3)], some (10, false)), ([(12, some 5), (10, some 3)], some (10, false)), ([(0, none), (10, some 3)], some (10, false)), ([(14, some 7), (10, some 3)], some (10, false)), ([(13, some 6), (15, some 8), (10, some 3)], some (10, false)), ([(16, some 9), (10, some 3)], some (10, false)), ([(3, none), (17, some 10)], some (17, true)), ([(18, some 11), (17, some 10)], some (17, true)), ([(3, none), (17, some 10)], some (17, true)), ([(20, some 13), (17, some 10)], some (17, true)), ([(19, some 12), (21, some 14), (17, some 10)], some (17, true)), ([(17, some 10), (22, some 15), (10, some 3)], some (10, false)), ([(10, some 3), (23, some 16)], none), ([(24, some 17)], none)] 25 (by kernel_rfl) rfl (by kernel_rfl) NewT.trans (NewT.drew _) (Nat.le_of_ble_eq_true rfl) ⟨?_, ?_, ?_, ?_, ?_, ?_, ?_, ?_, ?_, ?_, ?_, ?_, ?_, ?_, ?_, ?_, ?_, ?_, ?_, trivial⟩ ?_
  · -- 0: Op.move t0
    intro a wx hT hF K hK
    obtain ⟨f0, _⟩ := hF
    have f0 : a.tmps.getD 0 undef = .slice A l.length cap := f0
    refine rely_wp rfl ?_
    exact opr_move (.inl rfl) (hK _ _ (NewT.refl _) (by rw [eval_tmp, f0]; exact hT.rd hr.out))
  · -- 1: Op.call ( builtin len, args := #[t7], argTypes := #[24] )
    intro a wx hT hF K hK
    obtain ⟨f7, _⟩ := hF
    replace f7 := show (svRd l).pred (a.tmps.getD 7 undef) wx from f7
    refine rely_wp rfl ?_
    exact opr_len_rd rfl f7 (hK _ _ (NewT.refl _) rfl)
  · -- 2: Op.binOp BinOp.gtr 3 t8 (const (1000:i64)) 3
    intro a wx hT hF K hK
    obtain ⟨f8, _⟩ := hF
    have f8 : a.tmps.getD 8 undef = .int .i64 (List.length l : Int) := f8
    refine rely_wp rfl ?_
    simp only [Array.getD_eq_getD_getElem?] at f8
    go_simp
    exact hK _ _ (NewT.refl _) rfl
  · -- 3: Op.move t9
    intro a wx hT hF K hK
    obtain ⟨f9, _⟩ := hF
    have f9 : a.tmps.getD 9 undef = .bool false := f9
    refine rely_wp rfl ?_
    exact opr_move (.inl rfl) (hK _ _ (NewT.refl _) f9)
  · -- 4: Op.move t0
    intro a wx hT hF K hK
    obtain ⟨f0, f10, _⟩ := hF
    have f0 : a.tmps.getD 0 undef = .slice A l.length cap := f0
    have f10 : a.tmps.getD 10 undef = .bool false := f10
    refine rely_wp (rely_guard f10) ?_
    exact opr_move (.inl rfl) (hK _ _ (NewT.refl _) (by rw [eval_tmp, f0]; exact hT.rd hr.out))
  · -- 5: Op.buildSlice 41 1 #[(0, t11)]
    intro a wx hT hF K hK
    obtain ⟨f11, f10, _⟩ := hF
    replace f11 := show (svRd l).pred (a.tmps.getD 11 undef) wx from f11
    have f10 : a.tmps.getD 10 undef = .bool false := f10
    refine rely_wp (rely_guard f10) ?_
    exact opr_bs1 rfl f11 hK
  · -- 6: Op.call ( value (Operand.func 21), args := #[t12], argTypes 
    intro a wx hT hF K hK
    obtain ⟨f12, f10, _⟩ := hF
    replace f12 := show (svParts [l]).pred (a.tmps.getD 12 undef) wx from f12
    have f10 : a.tmps.getD 10 undef = .bool false := f10
    refine rely_wp (rely_guard f10) ?_
    exact opr_cv (Sum_cv _ [l] D wx (hT.tables T1.out) f12 (by simp; omega) (by simp; exact HD.out)) rfl Tryd.func21 (by kernel_rfl) (by kernel_rfl) (by simp only [List.map_toArray, List.map_cons, List.map_nil, eval_tmp]) hK
  · -- 7: Op.move t0
    intro a wx hT hF K hK
    obtain ⟨f0, f10, _⟩ := hF
    have f0 : a.tmps.getD 0 undef = .slice A l.length cap := f0
    have f10 : a.tmps.getD 10 undef = .bool false := f10
    refine rely_wp (rely_guard f10) ?_
    exact opr_move (.inl rfl) (hK _ _ (NewT.refl _) (by rw [eval_tmp, f0]; exact hT.rd hr.out))
  · -- 8: Op.call ( value (Operand.func 22), args := #[t14], argTypes 
    intro a wx hT hF K hK
    obtain ⟨f14, f10, _⟩ := hF
    replace f14 := show (svRd l).pred (a.tmps.getD 14 undef) wx from f14
    have f10 : a.tmps.getD 10 undef = .bool false := f10
    refine rely_wp (rely_guard f10) ?_
    exact opr_cv (RSum_cv _ l D wx (hT.tables T1.out) f14 (by omega) HD.out) rfl Tryd.func22 (by kernel_rfl) (by kernel_rfl) (by simp only [List.map_toArray, List.map_cons, List.map_nil, eval_tmp]) hK
  · -- 9: Op.binOp BinOp.eql 31 t13 t15 31
    intro a wx hT hF K hK
    obtain ⟨f13, f15, f10, _⟩ := hF
    have f13 : a.tmps.getD 13 undef = .agg (rowA 32 (bF D)) := f13
    have f15 : a.tmps.getD 15 undef = .agg (rowA 32 (bF D)) := f15
    have f10 : a.tmps.getD 10 undef = .bool false := f10
    refine rely_wp (rely_guard f10) ?_
    exact opr_eql_hash rfl f13 f15 (eqH_same D) (hK _ _ (NewT.refl _) rfl)
  · -- 10: Op.move t16
    intro a wx hT hF K hK
    obtain ⟨f16, f10, _⟩ := hF
    have f16 : a.tmps.getD 16 undef = .bool true := f16
    have f10 : a.tmps.getD 10 undef = .bool false := f10
    refine rely_wp (rely_guard f10) ?_
    exact opr_move (.inl rfl) (hK _ _ (NewT.refl _) f16)
  · -- 11: Op.load 31 t3
    intro a wx hT hF K hK
    obtain ⟨f3, f17, _⟩ := hF
    have f3 : a.tmps.getD 3 undef = .pointer (some ⟨w.heap.size, 0, none⟩) := f3
    have f17 : a.tmps.getD 17 undef = .bool true := f17
    refine rely_wp (rely_guard f17) ?_
    exact opr_load_hash rfl f3 (hT.row r0) (hK _ _ (NewT.refl _) rfl)
  · -- 12: Op.call ( value (Operand.func 23), args := #[t18], argTypes 
    intro a wx hT hF K hK
    obtain ⟨f18, f17, _⟩ := hF
    have f18 : a.tmps.getD 18 undef = .agg (rowA 32 (bF d)) := f18
    have f17 : a.tmps.getD 17 undef = .bool true := f17
    refine rely_wp (rely_guard f17) ?_
    exact opr_cv (Hex_cv d S wx HS.out) rfl Tryd.func23 (by kernel_rfl) (by kernel_rfl) (by simp only [List.map_toArray, List.map_cons, List.map_nil, eval_tmp, f18]) hK
  · -- 13: Op.load 31 t3
    intro a wx hT hF K hK
    obtain ⟨f3, f17, _⟩ := hF
    have f3 : a.tmps.getD 3 undef = .pointer (some ⟨w.heap.size, 0, none⟩) := f3
    have f17 : a.tmps.getD 17 undef = .bool true := f17
    refine rely_wp (rely_guard f17) ?_
    exact opr_load_hash rfl f3 (hT.row r0) (hK _ _ (NewT.refl _) rfl)
  · -- 14: Op.call ( value (Operand.func 24), args := #[t20], argTypes 
    intro a wx hT hF K hK
    obtain ⟨f20, f17, _⟩ := hF
    have f20 : a.tmps.getD 20 undef = .agg (rowA 32 (bF d)) := f20
    have f17 : a.tmps.getD 17 undef = .bool true := f17
    refine rely_wp (rely_guard f17) ?_
    exact opr_cv (RHex_cv d S wx HS.out) rfl Tryd.func24 (by kernel_rfl) (by kernel_rfl) (by simp only [List.map_toArray, List.map_cons, List.map_nil, eval_tmp, f20]) hK
  · -- 15: Op.binOp BinOp.eql 9 t19 t21 9
    intro a wx hT hF K hK
    obtain ⟨f19, f21, f17, _⟩ := hF
    have f19 : a.tmps.getD 19 undef = .string S := f19
    have f21 : a.tmps.getD 21 undef = .string S := f21
    have f17 : a.tmps.getD 17 undef = .bool true := f17
    refine rely_wp (rely_guard f17) ?_
    simp only [Array.getD_eq_getD_getElem?] at f19
    simp only [Array.getD_eq_getD_getElem?] at f21
    simp only [Array.getD_eq_getD_getElem?] at f17
    go_simp
    exact hK _ _ (NewT.refl _) rfl
  · -- 16: Op.pick t17 t22 (const (Value.bool false))
    intro a wx hT hF K hK
    obtain ⟨f17, f22, f10, _⟩ := hF
    have f17 : a.tmps.getD 17 undef = .bool true := f17
    have f22 : a.tmps.getD 22 undef = .bool true := f22
    have f10 : a.tmps.getD 10 undef = .bool false := f10
    refine rely_wp (rely_guard f10) ?_
    exact opr_pick_true rfl f17 (hK _ _ (NewT.refl _) f22)
  · -- 17: Op.pick t10 (const (Value.bool true)) t23
    intro a wx hT hF K hK
    obtain ⟨f10, f23, _⟩ := hF
    have f10 : a.tmps.getD 10 undef = .bool false := f10
    have f23 : a.tmps.getD 23 undef = .bool true := f23
    refine rely_wp rfl ?_
    exact opr_pick_false rfl f10 (hK _ _ (NewT.refl _) f23)
  · -- 18: Op.assign t24
    intro a wx hT hF K hK
    obtain ⟨f24, _⟩ := hF
    have f24 : a.tmps.getD 24 undef = .bool true := f24
    refine rely_wp rfl ?_
    exact opr_move (.inr rfl) (hK _ _ (NewT.refl _) f24)
  · intro wx hT
    intro u7 h; have g7 := h (by simp); clear h; replace g7 := show (svRd l).pred u7 wx from g7
    intro u h; obtain rfl := h (by simp); clear h
    intro u h; obtain rfl := h (by simp); clear h
    intro u h; obtain rfl := h (by simp); clear h
    intro u11 h; have g11 := h (by simp); clear h; replace g11 := show (svRd l).pred u11 wx from g11
    intro u12 h; have g12 := h (by simp); clear h; replace g12 := show (svParts [l]).pred u12 wx from g12
    intro u h; obtain rfl := h (by simp); clear h
    intro u14 h; have g14 := h (by simp); clear h; replace g14 := show (svRd l).pred u14 wx from g14
    intro u h; obtain rfl := h (by simp); clear h
    intro u h; obtain rfl := h (by simp); clear h
    intro u h; obtain rfl := h (by simp); clear h
    intro u h; obtain rfl := h (by simp); clear h
    intro u h; obtain rfl := h (by simp); clear h
    intro u h; obtain rfl := h (by simp); clear h
    intro u h; obtain rfl := h (by simp); clear h
    intro u h; obtain rfl := h (by simp); clear h
    intro u h; obtain rfl := h (by simp); clear h
    intro u h; obtain rfl := h (by simp); clear h
    intro u h; obtain rfl := h (by simp); clear h
    refine relyEnd_nil ?_
    go_simp

    go_wp2
    go_ret
    exact ⟨rfl, hB.trans (hT.out.mono hB.size)⟩
set_option maxHeartbeats 2000000 in
theorem ShaSums_many (A : Option Addr) (nb cap : Nat) (l : List UInt8) (d : Nat → UInt8) (w : World) (hT : Tables w) (hr : RdV w [] (.slice A nb cap) l) (hnb : 1000 < nb) : Calls Tryd.prog 4 #[.slice A nb cap, .agg (rowA 32 (bF d))] w fun e w' => e = .returned (.bool true) ∧ Below w.heap.size w w' := by
  have HT := Lib.hid hT
  clear hT
  go_enter Tryd.func4, Tryd.ntmps4
  go_wp2_with fail
  have r0 := rowIs_box w 31 32 (bF d)
  have hB : Below w.heap.size w (w.alloc (.cells (rowA 32 (bF d)) 31)) := (Below.refl _ w).alloc (Nat.le_refl _) _
  refine (alive_any _ (HT.out.below hB)).mono ?_
  rintro e w1 ⟨rfl, hB1⟩
  replace r0 := rowIs_below r0 hB1 r0.lt
  replace hB := hB.trans (hB1.mono hB.size)
  have hl : l.length = nb := by obtain ⟨_, _, hv, _⟩ := hr; cases hv; rfl
  replace hr := Lib.hid (hr.keep (KeepBut.below hB))
  clear hB1
  subst hl
  have hd : decide ((1000 : Int) < (l.length : Int)) = true := by simp; omega
  go_wp2_with fail
  refine wp_region_rely NewT [svRd l, SV.eq (.int .i64 (List.length l : Int)), SV.eq (.bool true), SV.eq (.bool true), SV.eq undef, SV.eq undef, SV.eq undef, SV.eq undef, SV.eq undef, SV.eq undef, SV.eq undef, SV.eq undef, SV.eq undef, SV.eq undef, SV.eq undef, SV.eq undef, SV.eq undef, SV.eq (.bool true), SV.eq (.bool true)] [([(0, none)], none), ([(7, some 0)], none), ([(8, some 1)], none), ([(9, some 2)], none), ([(0, none), (10, some 3)], some (10, false)), ([(11, some 4), (10, some 3)], some (10, false)), ([(12, some 5), (10, some 3)], some (10, false)), ([(0, none), (10, some 3)], some (10, false)), ([(14, some 7), (10, some 3)], some (10, false)), ([(13, some 6), (15, some 8), (10, some 3)], some (10, false)), ([(16, some 9), (10, some 3)], some (10, false)), ([(3, none), (17, some 10)], some (17, true)), ([(18, some 11), (17, some 10)], some (17, true)), ([(3, none), (17, some 10)], some (17, true)), ([(20, some 13), (17, some 10)], some (17, true)), ([(19, some 12), (21, some 14), (17, some 10)], some (17, true)), ([(17, some 10), (22, some 15), (10, some 3)], some (10, false)), ([(10, some 3), (23, some 16)], none), ([(24, some 17)], none)] 25 (by kernel_rfl) rfl (by kernel_rfl) NewT.trans (NewT.drew _) (Nat.le_of_ble_eq_true rfl) ⟨?_, ?_, ?_, ?_, ?_, ?_, ?_, ?_, ?_, ?_, ?_, ?_, ?_, ?_, ?_, ?_, ?_, ?_, ?_, trivial⟩ ?_
  · -- 0: Op.move t0
    intro a wx hT hF K hK
    obtain ⟨f0, _⟩ := hF
    have f0 : a.tmps.getD 0 undef = .slice A l.length cap := f0
    refine rely_wp rfl ?_
    exact opr_move (.inl rfl) (hK _ _ (NewT.refl _) (by rw [eval_tmp, f0]; exact hT.rd hr.out))
  · -- 1: Op.call ( builtin len, args := #[t7], argTypes := #[24] )
    intro a wx hT hF K hK
    obtain ⟨f7, _⟩ := hF
    replace f7 := show (svRd l).pred (a.tmps.getD 7 undef) wx from f7
    refine rely_wp rfl ?_
    exact opr_len_rd rfl f7 (hK _ _ (NewT.refl _) rfl)
  · -- 2: Op.binOp BinOp.gtr 3 t8 (const (1000:i64)) 3
    intro a wx hT hF K hK
    obtain ⟨f8, _⟩ := hF
    have f8 : a.tmps.getD 8 undef = .int .i64 (List.length l : Int) := f8
    refine rely_wp rfl ?_
    simp only [Array.getD_eq_getD_getElem?] at f8
    go_simp
    exact hK _ _ (NewT.refl _) rfl
  · -- 3: Op.move t9
    intro a wx hT hF K hK
    obtain ⟨f9, _⟩ := hF
    have f9 : a.tmps.getD 9 undef = .bool true := f9
    refine rely_wp rfl ?_
    exact opr_move (.inl rfl) (hK _ _ (NewT.refl _) f9)
  · -- 4: Op.move t0
    intro a wx hT hF K hK
    obtain ⟨f0, f10, _⟩ := hF
    have f0 : a.tmps.getD 0 undef = .slice A l.length cap := f0
    have f10 : a.tmps.getD 10 undef = .bool true := f10
    exact rely_skip (rely_guard_no f10 (by decide)) (hK _ _ (NewT.refl _) rfl)
  · -- 5: Op.buildSlice 41 1 #[(0, t11)]
    intro a wx hT hF K hK
    obtain ⟨f11, f10, _⟩ := hF
    have f11 : a.tmps.getD 11 undef = undef := f11
    have f10 : a.tmps.getD 10 undef = .bool true := f10
    exact rely_skip (rely_guard_no f10 (by decide)) (hK _ _ (NewT.refl _) rfl)
  · -- 6: Op.call ( value (Operand.func 21), args := #[t12], argTypes 
    intro a wx hT hF K hK
    obtain ⟨f12, f10, _⟩ := hF
    have f12 : a.tmps.getD 12 undef = undef := f12
    have f10 : a.tmps.getD 10 undef = .bool true := f10
    exact rely_skip (rely_guard_no f10 (by decide)) (hK _ _ (NewT.refl _) rfl)
  · -- 7: Op.move t0
    intro a wx hT hF K hK
    obtain ⟨f0, f10, _⟩ := hF
    have f0 : a.tmps.getD 0 undef = .slice A l.length cap := f0
    have f10 : a.tmps.getD 10 undef = .bool true := f10
    exact rely_skip (rely_guard_no f10 (by decide)) (hK _ _ (NewT.refl _) rfl)
  · -- 8: Op.call ( value (Operand.func 22), args := #[t14], argTypes 
    intro a wx hT hF K hK
    obtain ⟨f14, f10, _⟩ := hF
    have f14 : a.tmps.getD 14 undef = undef := f14
    have f10 : a.tmps.getD 10 undef = .bool true := f10
    exact rely_skip (rely_guard_no f10 (by decide)) (hK _ _ (NewT.refl _) rfl)
  · -- 9: Op.binOp BinOp.eql 31 t13 t15 31
    intro a wx hT hF K hK
    obtain ⟨f13, f15, f10, _⟩ := hF
    have f13 : a.tmps.getD 13 undef = undef := f13
    have f15 : a.tmps.getD 15 undef = undef := f15
    have f10 : a.tmps.getD 10 undef = .bool true := f10
    exact rely_skip (rely_guard_no f10 (by decide)) (hK _ _ (NewT.refl _) rfl)
  · -- 10: Op.move t16
    intro a wx hT hF K hK
    obtain ⟨f16, f10, _⟩ := hF
    have f16 : a.tmps.getD 16 undef = undef := f16
    have f10 : a.tmps.getD 10 undef = .bool true := f10
    exact rely_skip (rely_guard_no f10 (by decide)) (hK _ _ (NewT.refl _) rfl)
  · -- 11: Op.load 31 t3
    intro a wx hT hF K hK
    obtain ⟨f3, f17, _⟩ := hF
    have f3 : a.tmps.getD 3 undef = .pointer (some ⟨w.heap.size, 0, none⟩) := f3
    have f17 : a.tmps.getD 17 undef = undef := f17
    exact rely_skip (rely_guard_undef f17) (hK _ _ (NewT.refl _) rfl)
  · -- 12: Op.call ( value (Operand.func 23), args := #[t18], argTypes 
    intro a wx hT hF K hK
    obtain ⟨f18, f17, _⟩ := hF
    have f18 : a.tmps.getD 18 undef = undef := f18
    have f17 : a.tmps.getD 17 undef = undef := f17
    exact rely_skip (rely_guard_undef f17) (hK _ _ (NewT.refl _) rfl)
  · -- 13: Op.load 31 t3
    intro a wx hT hF K hK
    obtain ⟨f3, f17, _⟩ := hF
    have f3 : a.tmps.getD 3 undef = .pointer (some ⟨w.heap.size, 0, none⟩) := f3
    have f17 : a.tmps.getD 17 undef = undef := f17
    exact rely_skip (rely_guard_undef f17) (hK _ _ (NewT.refl _) rfl)
  · -- 14: Op.call ( value (Operand.func 24), args := #[t20], argTypes 
    intro a wx hT hF K hK
    obtain ⟨f20, f17, _⟩ := hF
    have f20 : a.tmps.getD 20 undef = undef := f20
    have f17 : a.tmps.getD 17 undef = undef := f17
    exact rely_skip (rely_guard_undef f17) (hK _ _ (NewT.refl _) rfl)
  · -- 15: Op.binOp BinOp.eql 9 t19 t21 9
    intro a wx hT hF K hK
    obtain ⟨f19, f21, f17, _⟩ := hF
    have f19 : a.tmps.getD 19 undef = undef := f19
    have f21 : a.tmps.getD 21 undef = undef := f21
    have f17 : a.tmps.getD 17 undef = undef := f17
    exact rely_skip (rely_guard_undef f17) (hK _ _ (NewT.refl _) rfl)
  · -- 16: Op.pick t17 t22 (const (Value.bool false))
    intro a wx hT hF K hK
    obtain ⟨f17, f22, f10, _⟩ := hF
    have f17 : a.tmps.getD 17 undef = undef := f17
    have f22 : a.tmps.getD 22 undef = undef := f22
    have f10 : a.tmps.getD 10 undef = .bool true := f10
    exact rely_skip (rely_guard_no f10 (by decide)) (hK _ _ (NewT.refl _) rfl)
  · -- 17: Op.pick t10 (const (Value.bool true)) t23
    intro a wx hT hF K hK
    obtain ⟨f10, f23, _⟩ := hF
    have f10 : a.tmps.getD 10 undef = .bool true := f10
    have f23 : a.tmps.getD 23 undef = undef := f23
    refine rely_wp rfl ?_
    exact opr_pick_true rfl f10 (hK _ _ (NewT.refl _) rfl)
  · -- 18: Op.assign t24
    intro a wx hT hF K hK
    obtain ⟨f24, _⟩ := hF
    have f24 : a.tmps.getD 24 undef = .bool true := f24
    refine rely_wp rfl ?_
    exact opr_move (.inr rfl) (hK _ _ (NewT.refl _) f24)
  · intro wx hT
    intro u7 h; have g7 := h (by simp); clear h; replace g7 := show (svRd l).pred u7 wx from g7
    intro u h; obtain rfl := h (by simp); clear h
    intro u h; obtain rfl := h (by simp); clear h
    intro u h; obtain rfl := h (by simp); clear h
    intro u h; obtain rfl := h (by simp); clear h
    intro u h; obtain rfl := h (by simp); clear h
    intro u h; obtain rfl := h (by simp); clear h
    intro u h; obtain rfl := h (by simp); clear h
    intro u h; obtain rfl := h (by simp); clear h
    intro u h; obtain rfl := h (by simp); clear h
    intro u h; obtain rfl := h (by simp); clear h
    intro u h; obtain rfl := h (by simp); clear h
    intro u h; obtain rfl := h (by simp); clear h
    intro u h; obtain rfl := h (by simp); clear h
    intro u h; obtain rfl := h (by simp); clear h
    intro u h; obtain rfl := h (by simp); clear h
    intro u h; obtain rfl := h (by simp); clear h
    intro u h; obtain rfl := h (by simp); clear h
    intro u h; obtain rfl := h (by simp); clear h
    refine relyEnd_nil ?_
    go_simp

    go_wp2
    go_ret
    exact ⟨rfl, hB.trans (hT.out.mono hB.size)⟩
theorem ShaSums_walk (v : Value) (l : List UInt8) (d : Nat → UInt8) (w : World) (hT : Tables w) (hr : RdV w [] v l) : Calls Tryd.prog 4 #[v, .agg (rowA 32 (bF d))] w fun e w' => e = .returned (.bool true) ∧ Below w.heap.size w w' := by
  have hr0 := hr
  obtain ⟨A, c, rfl, _⟩ := hr0
  by_cases h : l.length ≤ 1000
  · exact ShaSums_few A _ c l d w hT hr h
  · exact ShaSums_many A _ c l d w hT hr (by omega)
end Go.Proofs.YtpoebajpmkcjdaaDoor
