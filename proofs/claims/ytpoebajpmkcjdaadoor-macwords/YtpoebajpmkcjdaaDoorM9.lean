/- Package mac: are two hashes the same: what Equal returns, by a closure over all bytes. -/
import Derived.Test.YtpoebajpmkcjdaaDoorM2
namespace Go.Proofs.YtpoebajpmkcjdaaDoor
open Go Go.RowKit
theorem u8_or (x y : UInt8) : bits .or .u8 (bN x) (bN y) = bN (x ||| y) := by
  have h : ∀ a b : BitVec 8, bits .or .u8 ((a.toNat : Nat) : Int) ((b.toNat : Nat) : Int) = (((a ||| b).toNat : Nat) : Int) := by
    intro a b
    show IntKind.u8.wrap ((BitVec.ofInt 8 ((a.toNat : Nat) : Int) ||| BitVec.ofInt 8 ((b.toNat : Nat) : Int)).toNat : Int) = _
    simp only [BitVec.ofInt_natCast, BitVec.ofNat_toNat, BitVec.setWidth_eq]
    rw [wrap_u8]; have := (a ||| b).isLt; omega
  exact h x.toBitVec y.toBitVec
attribute [local go_sem] bF_at u8_xor u8_or
theorem Eq1_any (x y d : UInt8) (g : Nat) (w : World) (hr : w.rowIs g 5 1 (bF fun _ => d)) :
    Calls Tryd.prog 48 #[.int .u8 (bN x), .int .u8 (bN y), .pointer (some ⟨g, 0, none⟩)] w fun e w' => ∃ v, e = .returned v ∧ w.setCell ⟨g, 0, none⟩ (.int .u8 (bN (d ||| (x ^^^ y)))) = w' := by
  have c0 := hr.cell (i := 0) (by omega)
  have f0 := hr.frozen 0
  go_enter Tryd.func48, Tryd.ntmps48
  go_wp2
  go_end0
  exact ⟨_, rfl, rfl⟩
theorem row1_set {w : World} {g : Nat} {t : TypeId} {d d' : UInt8} (h : w.rowIs g t 1 (bF fun _ => d)) : (w.setCell ⟨g, 0, none⟩ (.int .u8 (bN d'))).rowIs g t 1 (bF fun _ => d') :=
  (h.set 0 _).congr fun i hi => by
    obtain rfl : i = 0 := by omega
    rw [if_pos rfl]; rfl
/-- What the closure has found behind k pairs. -/
def orTo (a b : Nat → UInt8) : Nat → UInt8
  | 0 => 0
  | k + 1 => orTo a b k ||| (a k ^^^ b k)
theorem u8_or_zero (x y : UInt8) : (x ||| y) = 0 ↔ x = 0 ∧ y = 0 := by
  rw [← UInt8.toBitVec_inj, ← UInt8.toBitVec_inj, ← UInt8.toBitVec_inj]
  simp [BitVec.or_eq_zero_iff]
theorem u8_xor_zero (x y : UInt8) : (x ^^^ y) = 0 ↔ x = y := by
  rw [← UInt8.toBitVec_inj, ← UInt8.toBitVec_inj]
  simp [BitVec.xor_eq_zero_iff]
theorem orTo_zero (a b : Nat → UInt8) (k : Nat) : orTo a b k = 0 ↔ ∀ i, i < k → a i = b i := by
  induction k with
  | zero => simp [orTo]
  | succ k ih =>
    rw [orTo, u8_or_zero, ih, u8_xor_zero]
    constructor
    · rintro ⟨h1, h2⟩ i hi
      rcases Nat.lt_succ_iff_lt_or_eq.1 hi with h | rfl
      · exact h1 i h
      · exact h2
    · intro h
      exact ⟨fun i hi => h i (by omega), h k (by omega)⟩
theorem orTo_eqH (a b : Nat → UInt8) : ((bN (orTo a b 32) == 0) : Bool) = eqH a b := by
  rw [Bool.eq_iff_iff, eqH_iff, ← orTo_zero]
  simp only [beq_iff_eq]
  constructor
  · intro h; exact bN_inj (h.trans rfl)
  · intro h; rw [h]; rfl
set_option maxHeartbeats 2000000 in
theorem eachPair_any (a b : Nat → UInt8) (g : Nat) (w : World) (hr : w.rowIs g 5 1 (bF fun _ => 0)) :
    Calls Tryd.prog 47 #[.agg (rowA 32 (bF a)), .agg (rowA 32 (bF b)), .func (.func 48) #[] #[.pointer (some ⟨g, 0, none⟩)]] w fun e w' => ∃ v, e = .returned v ∧ w'.rowIs g 5 1 (bF fun _ => orTo a b 32) ∧ Below g w w' := by
  have hg := hr.lt
  go_enter Tryd.func47, Tryd.ntmps47
  go_upto_region 1 with fail
  have r0 := (rowIs_box w 31 32 (bF a)).alloc (.cells (rowA 32 (bF b)) 31)
  have r1 := rowIs_box (w.alloc (.cells (rowA 32 (bF a)) 31)) 31 32 (bF b)
  rw [World.size_alloc] at r1
  have hB := NewT.trans _ _ _ (NewT.alloc w (.cells (rowA 32 (bF a)) 31)) (NewT.alloc (w.alloc (.cells (rowA 32 (bF a)) 31)) (.cells (rowA 32 (bF b)) 31))
  change Code.wp _ _ _ _ ((w.alloc (.cells (rowA 32 (bF a)) 31)).alloc (.cells (rowA 32 (bF b)) 31))
  generalize ((w.alloc (.cells (rowA 32 (bF a)) 31)).alloc (.cells (rowA 32 (bF b)) 31)) = W0 at r0 r1 hB ⊢
  replace hr := hB.row hr
  have hB0 : Below g w W0 := hB.out.mono (Nat.le_of_lt hg)
  clear hB
  go_wp2
  go_loopw [7] (fun i wr => ∃ k : Nat, k ≤ 32 ∧ i = .int .i64 k ∧ wr.rowIs w.heap.size 31 32 (bF a) ∧ wr.rowIs (w.heap.size + 1) 31 32 (bF b) ∧ wr.rowIs g 5 1 (bF fun _ => orTo a b k) ∧ Below g w wr) (fun i _ => 32 - (intOf i).toNat)
  case atStart => exact ⟨0, by omega, rfl, r0, r1, hr, hB0⟩
  case round =>
    obtain ⟨k, hk, rfl, q0, q1, qr, qB⟩ := hrel
    clear r0 r1 hr hB0
    by_cases hlt : k < 32
    · have hki : (k : Int) < 32 := by omega
      go_upto_region 4 with fail
      refine wp_region_rely NewT [SV.eq (.func (.func 48) #[] #[.pointer (some ⟨g, 0, none⟩)]), SV.eq (.int .i64 (k : Int)), SV.eq (.pointer (some ⟨w.heap.size, k, none⟩)), SV.eq (.int .u8 (bN (a k))), SV.eq (.int .i64 (k : Int)), SV.eq (.pointer (some ⟨w.heap.size + 1, k, none⟩)), SV.eq (.int .u8 (bN (b k)))] [([(2, none)], none), ([(6, none)], none), ([(3, none), (11, some 1)], none), ([(12, some 2)], none), ([(6, none)], none), ([(4, none), (14, some 4)], none), ([(15, some 5)], none)] 19 rfl (by kernel_rfl) rfl (by kernel_rfl) (by kernel_rfl) rfl NewT.trans (NewT.drew _) (Nat.le_of_ble_eq_true rfl) ⟨?_, ?_, ?_, ?_, ?_, ?_, ?_, trivial⟩ ?_
      · -- 0: Op.move t2
        intro a wx hT hF K hK
        obtain ⟨f2, _⟩ := hF
        have f2 : a.tmps.getD 2 undef = .func (.func 48) #[] #[.pointer (some ⟨g, 0, none⟩)] := f2
        refine rely_wp rfl ?_
        exact opr_move (.inl rfl) (hK _ _ (NewT.refl _) f2)
      · -- 1: Op.move t6
        intro a wx hT hF K hK
        obtain ⟨f6, _⟩ := hF
        have f6 : a.tmps.getD 6 undef = .int .i64 (k : Int) := f6
        refine rely_wp rfl ?_
        exact opr_move (.inl rfl) (hK _ _ (NewT.refl _) f6)
      · -- 2: Op.indexAddr 31 t3 t11
        intro a wx hT hF K hK
        obtain ⟨f3, f11, _⟩ := hF
        have f3 : a.tmps.getD 3 undef = .pointer (some ⟨w.heap.size, 0, none⟩) := f3
        have f11 : a.tmps.getD 11 undef = .int .i64 (k : Int) := f11
        refine rely_wp rfl ?_
        simp only [Array.getD_eq_getD_getElem?] at f3
        simp only [Array.getD_eq_getD_getElem?] at f11
        go_simp
        exact hK _ _ (NewT.refl _) rfl
      · -- 3: Op.load 5 t12
        intro a wx hT hF K hK
        obtain ⟨f12, _⟩ := hF
        have f12 : a.tmps.getD 12 undef = .pointer (some ⟨w.heap.size, k, none⟩) := f12
        refine rely_wp rfl ?_
        simp only [Array.getD_eq_getD_getElem?] at f12
        have c := (hT.row q0).cell (i := k) hlt
        rw [bF_at] at c
        go_simp
        exact hK _ _ (NewT.refl _) rfl
      · -- 4: Op.move t6
        intro a wx hT hF K hK
        obtain ⟨f6, _⟩ := hF
        have f6 : a.tmps.getD 6 undef = .int .i64 (k : Int) := f6
        refine rely_wp rfl ?_
        exact opr_move (.inl rfl) (hK _ _ (NewT.refl _) f6)
      · -- 5: Op.indexAddr 31 t4 t14
        intro a wx hT hF K hK
        obtain ⟨f4, f14, _⟩ := hF
        have f4 : a.tmps.getD 4 undef = .pointer (some ⟨w.heap.size + 1, 0, none⟩) := f4
        have f14 : a.tmps.getD 14 undef = .int .i64 (k : Int) := f14
        refine rely_wp rfl ?_
        simp only [Array.getD_eq_getD_getElem?] at f4
        simp only [Array.getD_eq_getD_getElem?] at f14
        go_simp
        exact hK _ _ (NewT.refl _) rfl
      · -- 6: Op.load 5 t15
        intro a wx hT hF K hK
        obtain ⟨f15, _⟩ := hF
        have f15 : a.tmps.getD 15 undef = .pointer (some ⟨w.heap.size + 1, k, none⟩) := f15
        refine rely_wp rfl ?_
        simp only [Array.getD_eq_getD_getElem?] at f15
        have c := (hT.row q1).cell (i := k) hlt
        rw [bF_at] at c
        go_simp
        exact hK _ _ (NewT.refl _) rfl
      · intro wx hT
        intro u h; obtain rfl := h (by simp); clear h
        intro u h; obtain rfl := h (by simp); clear h
        intro u h; obtain rfl := h (by simp); clear h
        intro u h; obtain rfl := h (by simp); clear h
        intro u h; obtain rfl := h (by simp); clear h
        intro u h; obtain rfl := h (by simp); clear h
        intro u h; obtain rfl := h (by simp); clear h
        refine relyEnd_nil rfl ?_
        simp only [Act.put, List.setIfInBounds_toArray, List.set_cons_zero, List.set_cons_succ]
        refine opr_callv rfl rfl Tryd.func48 (by kernel_rfl) (by kernel_rfl) (by simp only [List.map_toArray, List.map_cons, List.map_nil]; rfl) ((Eq1_any (a k) (b k) (orTo a b k) g wx (hT.row qr)).mono ?_)
        rintro e w2 ⟨v, rfl, rfl⟩
        refine ⟨v, rfl, ?_⟩
        have n0 := (hT.row q0).setOther (a := ⟨g, 0, none⟩) (show w.heap.size ≠ g by omega) (.int .u8 (bN (orTo a b k ||| (a k ^^^ b k))))
        have n1 := (hT.row q1).setOther (a := ⟨g, 0, none⟩) (show w.heap.size + 1 ≠ g by omega) (.int .u8 (bN (orTo a b k ||| (a k ^^^ b k))))
        have nr : (wx.setCell ⟨g, 0, none⟩ (.int .u8 (bN (orTo a b k ||| (a k ^^^ b k))))).rowIs g 5 1 (bF fun _ => orTo a b (k + 1)) := row1_set (hT.row qr)
        have nB := (qB.trans (hT.out.mono (by have := qB.size; omega))).setCell (p := ⟨g, 0, none⟩) (Nat.le_refl _) (.int .u8 (bN (orTo a b k ||| (a k ^^^ b k))))
        generalize wx.setCell ⟨g, 0, none⟩ (.int .u8 (bN (orTo a b k ||| (a k ^^^ b k)))) = w3 at n0 n1 nr nB ⊢
        clear q0 q1 qr qB hT
        go_simp
        go_wp2
        go_roundw
        case rel => exact ⟨k + 1, by omega, by go_num, n0, n1, nr, nB⟩
        case measure => simp [intOf]; omega
    · obtain rfl : k = 32 := by omega
      go_wp2
      go_end0
      exact ⟨_, rfl, qr, qB⟩
set_option maxHeartbeats 2000000 in
theorem Equal_cv (a b : Nat → UInt8) (w : World) : Cv 29 #[.agg (rowA 32 (bF a)), .agg (rowA 32 (bF b))] w (.eq (.bool (eqH a b))) := by
  unfold Cv
  go_enter Tryd.func29, Tryd.ntmps29
  go_upto_region 2 with fail
  have hB : NewT w (((w.alloc (.cells (rowA 32 (bF a)) 31)).alloc (.cells (rowA 32 (bF b)) 31)).alloc (.cells #[.int .u8 0] 5)) := NewT.trans _ _ _ (NewT.trans _ _ _ (NewT.alloc w _) (NewT.alloc _ _)) (NewT.alloc _ _)
  have r0 := ((rowIs_box w 31 32 (bF a)).alloc (.cells (rowA 32 (bF b)) 31)).alloc (.cells #[.int .u8 0] 5)
  have r1 := (rowIs_box (w.alloc (.cells (rowA 32 (bF a)) 31)) 31 32 (bF b)).alloc (.cells #[.int .u8 0] 5)
  have r2 := World.rowIs_alloc ((w.alloc (.cells (rowA 32 (bF a)) 31)).alloc (.cells (rowA 32 (bF b)) 31)) #[.int .u8 0] 5 (bF fun _ => 0) (fun i hi => by
    obtain rfl : i = 0 := by simpa using hi
    rfl)
  rw [World.size_alloc] at r1 r2
  rw [World.size_alloc] at r2
  change Code.wp _ _ _ _ (((w.alloc (.cells (rowA 32 (bF a)) 31)).alloc (.cells (rowA 32 (bF b)) 31)).alloc (.cells #[.int .u8 0] 5))
  generalize (((w.alloc (.cells (rowA 32 (bF a)) 31)).alloc (.cells (rowA 32 (bF b)) 31)).alloc (.cells #[.int .u8 0] 5)) = W0 at r0 r1 r2 hB ⊢
  change W0.rowIs (w.heap.size + 1 + 1) 5 1 (bF fun _ => 0) at r2
  refine wp_region_seq NewT [SV.eq (.agg (rowA 32 (bF a))), SV.eq (.agg (rowA 32 (bF b))), SV.eq (.func (.func 48) #[] #[.pointer (some ⟨w.heap.size + 1 + 1, 0, none⟩)])] [([(2, none)], none), ([(3, none)], none), ([(5, none)], none)] 12 rfl rfl (by kernel_rfl) rfl NewT.trans (NewT.refl _) (Nat.le_of_ble_eq_true rfl) ⟨?_, ?_, ?_, trivial⟩ ?_
  · -- 0: Op.load 31 t2
    intro a wx hT hF K hK
    obtain ⟨f2, _⟩ := hF
    have f2 : a.tmps.getD 2 undef = .pointer (some ⟨w.heap.size, 0, none⟩) := f2
    refine rely_wp rfl ?_
    exact opr_load_hash rfl f2 (hT.row r0) (hK _ _ (NewT.refl _) rfl)
  · -- 1: Op.load 31 t3
    intro a wx hT hF K hK
    obtain ⟨f3, _⟩ := hF
    have f3 : a.tmps.getD 3 undef = .pointer (some ⟨w.heap.size + 1, 0, none⟩) := f3
    refine rely_wp rfl ?_
    exact opr_load_hash rfl f3 (hT.row r1) (hK _ _ (NewT.refl _) rfl)
  · -- 2: Op.makeFunc (Fn.func 48) #[] #[t5]
    intro a wx hT hF K hK
    obtain ⟨f5, _⟩ := hF
    have f5 : a.tmps.getD 5 undef = .pointer (some ⟨w.heap.size + 1 + 1, 0, none⟩) := f5
    refine rely_wp rfl ?_
    simp only [Array.getD_eq_getD_getElem?] at f5
    go_simp
    exact hK _ _ (NewT.refl _) rfl
  · intro wx hT
    intro u h; obtain rfl := h (by simp); clear h
    intro u h; obtain rfl := h (by simp); clear h
    intro u h; obtain rfl := h (by simp); clear h
    refine relyEnd_nil rfl ?_
    simp only [Act.put, List.setIfInBounds_toArray, List.set_cons_zero, List.set_cons_succ]
    refine opr_call rfl Tryd.func47 (by kernel_rfl) (by kernel_rfl) (by simp only [List.map_toArray, List.map_cons, List.map_nil]; rfl) ((eachPair_any a b (w.heap.size + 1 + 1) wx (hT.row r2)).mono ?_)
    rintro e w2 ⟨v, rfl, q2, hB2⟩
    refine ⟨v, rfl, ?_⟩
    have hB3 := (NewT.trans _ _ _ hB hT).out.trans (hB2.mono (by omega))
    have c2 := q2.cell (i := 0) (by omega)
    rw [bF_at] at c2
    have he := orTo_eqH a b
    clear hT hB hB2 r0 r1 r2
    generalize bN (orTo a b 32) = z at c2 he
    go_simp
    go_wp2
    go_ret
    exact ⟨_, rfl, hB3, rfl⟩
end Go.Proofs.YtpoebajpmkcjdaaDoor
