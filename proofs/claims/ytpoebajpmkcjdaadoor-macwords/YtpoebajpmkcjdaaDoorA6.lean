import Derived.Test.YtpoebajpmkcjdaaDoorA5
import Derived.Maps.AppendAt
namespace Go.Proofs.YtpoebajpmkcjdaaDoor
open Go.RowKit
attribute [local go_sem] bF_at rowA_at

theorem made_row (n : Nat) (z : Value) : madeCells #[z] n = rowA n (fun _ => z) := by
  apply Array.ext_getElem?
  intro i
  by_cases h : i < n
  · rw [rowA_at _ _ _ h]; simp [madeCells, h, Nat.mod_one]
  · have h1 : (rowA n fun _ => z).size ≤ i := by rw [rowA_size]; omega
    rw [Array.getElem?_eq_none h1]; simp [madeCells]; omega
theorem ownsRow_row {w : World} {g : Nat} {t : TypeId} {c : Nat} {f : Nat → Value} (h : w.rowIs g t c f) (base k : Nat) (hk : k ≤ c) (hc : c ≤ maxLen) (hb : base ≤ g) :
    w.ownsRow base t 1 (.slice (some ⟨g, 0, none⟩) k c) k ((List.range k).map f) := by
  obtain ⟨cur, h1, h2, h3⟩ := h
  refine ⟨by simp, .inr ⟨g, c, cur, rfl, hb, h1, hk, hc, by omega, ?_⟩⟩
  apply List.ext_getElem?
  intro i
  rw [List.getElem?_take]
  by_cases hi : i < k
  · rw [if_pos (by omega)]
    have := h3 i (by omega)
    simpa [hi] using this
  · rw [if_neg (by omega)]
    simp [hi]
theorem info5 : (Tryd.prog.info? 5).map (fun i => (i.zero, i.size, i.bytes)) = some (some (.int .u8 0), 1, 1) := by kernel_rfl
/-- The bytes that tell the length 8 n, the highest first. -/
def lenByte (n i : Nat) : UInt8 := UInt8.ofNat (n * 8 % 18446744073709551616 / 2 ^ (56 - 8 * i))
def fillHead (i : Nat) : UInt8 := if i = 0 then 128 else 0
theorem one_cell (w : World) (v : Value) (t : TypeId) : ∀ (j : Nat) (u : Value), [v][j]? = some u → (w.alloc (.cells #[v] t)).cell? ((⟨w.heap.size, 0, none⟩ : Addr).add j) = some u := by
  intro j u h
  cases j with
  | zero => simp at h; subst h; rw [Addr.add_zero']; exact World.cell?_alloc_at _ _ _ _ rfl
  | succ j => simp at h
def FillPost (n r : Nat) (w : World) (e : Ending) (w' : World) : Prop := ∃ v, e = .returned v ∧ w'.ownsRow w.heap.size 5 1 v (r + 8) ((List.range r).map (bF fillHead) ++ (List.range 8).map (bF (lenByte n))) ∧ Below w.heap.size w w'
theorem make_fill (i0 : TypeInfo) (hi : Tryd.prog.info? 5 = some i0) (hz0 : i0.zero = some (.int .u8 0)) (hz1 : i0.size = 1) (hz2 : i0.bytes = 1) (r : Nat) (hr : r ≤ 64) (W : World) :
    (Instr.makeSlice 24 (.int .i64 (r : Int)) (.int .i64 ((r : Int) + 8))).run Tryd.prog W = .ok (.slice (some ⟨W.heap.size, 0, none⟩) r (r + 8)) (W.alloc (.cells (rowA (r + 8) (bF fun _ => 0)) 5)) := by
  have := run_make (P := Tryd.prog) W 24 5 i0 _ Tryd.underlying24 hi hz0 .i64 .i64 (r : Int) ((r : Int) + 8) (by omega) (by omega) (by rw [hz2]; omega) (by omega)
  rw [this, hz1, show ((r : Int) + 8).toNat = r + 8 by omega, Int.toNat_natCast, Nat.mul_one]
  have e : madeCells (Value.int .u8 0).cells (r + 8) = rowA (r + 8) (bF fun _ => 0) := made_row (r + 8) (.int .u8 0)
  rw [e]
theorem lenByte_eq (n i : Nat) : IntKind.u8.wrap (IntKind.u64.wrap ((n : Int) * 8) / 2 ^ (56 - 8 * i)) = bN (lenByte n i) := by
  have h1 : IntKind.u64.wrap ((n : Int) * 8) = ((n * 8 % 18446744073709551616 : Nat) : Int) := by simp [IntKind.wrap, IntKind.bits, IntKind.signed]
  rw [h1, wrap_u8, lenByte, bN, UInt8.toNat_ofNat']
  have h2 : ((2 : Int) ^ (56 - 8 * i)) = ((2 ^ (56 - 8 * i) : Nat) : Int) := by simp
  rw [h2, ← Int.natCast_ediv]
  omega
set_option maxHeartbeats 1000000 in
theorem Fill_two (n r : Nat) (hn : n ≤ 9223372036854775807) (hr : (56 : Int) - (n : Int) % 64 = r) (hr1 : 1 ≤ r) (hr2 : r ≤ 64) (w : World) :
    Calls Tryd.prog 19 #[.int .i64 n] w (FillPost n r w) := by
  obtain ⟨i0, hi, hz0, hz1, hz2⟩ := info_parts info5
  have hmk : ∀ W : World, (Instr.makeSlice 24 (.int .i64 (r : Int)) (.int .i64 ((r : Int) + 8))).run Tryd.prog W = .ok (.slice (some ⟨W.heap.size, 0, none⟩) r (r + 8)) (W.alloc (.cells (rowA (r + 8) (bF fun _ => 0)) 5)) := make_fill i0 hi hz0 hz1 hz2 r hr2
  have h0 : 0 < r := by omega
  have hd0 : decide (r = 0) = false := by simp; omega
  have hlb := lenByte_eq n
  have HLB := Lib.hid hlb
  clear hlb
  go_enter Tryd.func19, Tryd.ntmps19
  go_wp2
  have r0 : (w.alloc (.cells ((rowA (r + 8) (bF fun _ => 0)).setIfInBounds 0 (.int .u8 128)) 5)).rowIs w.heap.size 5 (r + 8) (bF fillHead) := by
    have := (rowIs_box w 5 (r + 8) (bF fun _ => 0)).set 0 (.int .u8 128)
    rw [World.setCell_alloc_at _ _ _ _ _ rfl] at this
    exact this.congr fun i _ => by by_cases h : i = 0 <;> simp [h, bF, fillHead, bN]
  have hB : Below w.heap.size w (w.alloc (.cells ((rowA (r + 8) (bF fun _ => 0)).setIfInBounds 0 (.int .u8 128)) 5)) := (Below.refl _ w).alloc (Nat.le_refl _) _
  have ho := ownsRow_row r0 w.heap.size r (by omega) (by unfold maxLen; omega) (Nat.le_refl _)
  generalize w.alloc (.cells ((rowA (r + 8) (bF fun _ => 0)).setIfInBounds 0 (.int .u8 128)) 5) = W0 at ho hB ⊢
  clear r0 hmk
  go_loopw [4, 21] (fun v i wr => ∃ k : Nat, k ≤ 8 ∧ i = .int .i64 k ∧ wr.ownsRow w.heap.size 5 1 v (r + k) ((List.range r).map (bF fillHead) ++ (List.range k).map (bF (lenByte n))) ∧ Below w.heap.size w wr) (fun _ i _ => 8 - (intOf i).toNat)
  case atStart => exact ⟨0, by omega, rfl, by simpa using ho, hB⟩
  case round =>
    obtain ⟨k, hk, rfl, hown, qB⟩ := hrel
    clear ho hB
    by_cases hlt : k < 8
    · have e56 : ((56 : Int) - 8 * (k : Int)).toNat = 56 - 8 * k := by omega
      have hb8 := HLB.out k
      go_wp2_with (at_builtin; refine wpList_append_own _ rfl (.tmp 24) (.tmp 33) 24 rfl w.heap.size 5 i0 _ 1 1 Tryd.underlying24 hi hz0 hz1 hz2 rfl (by omega) u4 (r + k) _ rfl (hown.alloc _) ⟨wr.heap.size, 0, none⟩ 1 1 [bF (lenByte n) k] rfl rfl (one_cell _ _ _) (by simp [bF, Value.oneCell']) (by unfold maxLen; omega) (by omega) (by have := qB.size; simp; omega) ?_; intro v' w1 hown' hg1 _)
      go_roundw
      case rel =>
        refine ⟨k + 1, by omega, by go_num, ?_, (qB.alloc qB.size _).grown hg1 (by have := qB.size; simp; omega) (fun g e => (hown.lt g e).1)⟩
        rw [List.range_succ, List.map_append, ← List.append_assoc]
        exact hown'
      case measure => simp [intOf]; omega
    · obtain rfl : k = 8 := by omega
      go_wp2
      go_ret
      exact ⟨u4, rfl, hown, qB⟩
set_option maxHeartbeats 1000000 in
theorem Fill_one (n r : Nat) (hn : n ≤ 9223372036854775807) (hr0 : (56 : Int) - (n : Int) % 64 ≤ 0) (hr : (56 : Int) - (n : Int) % 64 + 64 = r) (hr2 : r ≤ 64) (w : World) :
    Calls Tryd.prog 19 #[.int .i64 n] w (FillPost n r w) := by
  obtain ⟨i0, hi, hz0, hz1, hz2⟩ := info_parts info5
  have hmk : ∀ W : World, (Instr.makeSlice 24 (.int .i64 (r : Int)) (.int .i64 ((r : Int) + 8))).run Tryd.prog W = .ok (.slice (some ⟨W.heap.size, 0, none⟩) r (r + 8)) (W.alloc (.cells (rowA (r + 8) (bF fun _ => 0)) 5)) := make_fill i0 hi hz0 hz1 hz2 r hr2
  have h0 : 0 < r := by omega
  have hlb := lenByte_eq n
  have HLB := Lib.hid hlb
  clear hlb
  go_enter Tryd.func19, Tryd.ntmps19
  go_wp2
  have r0 : (w.alloc (.cells ((rowA (r + 8) (bF fun _ => 0)).setIfInBounds 0 (.int .u8 128)) 5)).rowIs w.heap.size 5 (r + 8) (bF fillHead) := by
    have := (rowIs_box w 5 (r + 8) (bF fun _ => 0)).set 0 (.int .u8 128)
    rw [World.setCell_alloc_at _ _ _ _ _ rfl] at this
    exact this.congr fun i _ => by by_cases h : i = 0 <;> simp [h, bF, fillHead, bN]
  have hB : Below w.heap.size w (w.alloc (.cells ((rowA (r + 8) (bF fun _ => 0)).setIfInBounds 0 (.int .u8 128)) 5)) := (Below.refl _ w).alloc (Nat.le_refl _) _
  have ho := ownsRow_row r0 w.heap.size r (by omega) (by unfold maxLen; omega) (Nat.le_refl _)
  generalize w.alloc (.cells ((rowA (r + 8) (bF fun _ => 0)).setIfInBounds 0 (.int .u8 128)) 5) = W0 at ho hB ⊢
  clear r0 hmk
  go_loopw [4, 21] (fun v i wr => ∃ k : Nat, k ≤ 8 ∧ i = .int .i64 k ∧ wr.ownsRow w.heap.size 5 1 v (r + k) ((List.range r).map (bF fillHead) ++ (List.range k).map (bF (lenByte n))) ∧ Below w.heap.size w wr) (fun _ i _ => 8 - (intOf i).toNat)
  case atStart => exact ⟨0, by omega, rfl, by simpa using ho, hB⟩
  case round =>
    obtain ⟨k, hk, rfl, hown, qB⟩ := hrel
    clear ho hB
    by_cases hlt : k < 8
    · have e56 : ((56 : Int) - 8 * (k : Int)).toNat = 56 - 8 * k := by omega
      have hb8 := HLB.out k
      go_wp2_with (at_builtin; refine wpList_append_own _ rfl (.tmp 24) (.tmp 33) 24 rfl w.heap.size 5 i0 _ 1 1 Tryd.underlying24 hi hz0 hz1 hz2 rfl (by omega) u4 (r + k) _ rfl (hown.alloc _) ⟨wr.heap.size, 0, none⟩ 1 1 [bF (lenByte n) k] rfl rfl (one_cell _ _ _) (by simp [bF, Value.oneCell']) (by unfold maxLen; omega) (by omega) (by have := qB.size; simp; omega) ?_; intro v' w1 hown' hg1 _)
      go_roundw
      case rel =>
        refine ⟨k + 1, by omega, by go_num, ?_, (qB.alloc qB.size _).grown hg1 (by have := qB.size; simp; omega) (fun g e => (hown.lt g e).1)⟩
        rw [List.range_succ, List.map_append, ← List.append_assoc]
        exact hown'
      case measure => simp [intOf]; omega
    · obtain rfl : k = 8 := by omega
      go_wp2
      go_ret
      exact ⟨u4, rfl, hown, qB⟩
theorem Fill_any (n : Nat) (hn : n ≤ 9223372036854775807) (w : World) : Calls Tryd.prog 19 #[.int .i64 n] w (FillPost n (if n % 64 < 56 then 56 - n % 64 else 120 - n % 64) w) := by
  by_cases h : n % 64 < 56
  · rw [if_pos h]; exact Fill_two n _ hn (by omega) (by omega) (by omega) w
  · rw [if_neg h]; exact Fill_one n _ hn (by omega) (by omega) (by omega) w
set_option maxHeartbeats 400000 in
theorem Fill_neg (n : Int) (hn : n < 0) (w : World) : Calls Tryd.prog 19 #[.int .i64 n] w fun e w' => e = .returned (.slice none 0 0) ∧ w = w' := by
  go_enter Tryd.func19, Tryd.ntmps19
  go_wp2
  go_ret
  exact ⟨rfl, rfl⟩
end Go.Proofs.YtpoebajpmkcjdaaDoor
