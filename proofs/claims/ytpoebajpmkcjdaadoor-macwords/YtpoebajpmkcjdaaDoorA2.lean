import Derived.Test.YtpoebajpmkcjdaaDoorA1
import Derived.Test.YtpoebajpmkcjdaaDoorMem
namespace Go.Proofs.YtpoebajpmkcjdaaDoor
open Go.RowKit
attribute [local go_sem] u32_add u32_xor u32_and u32_or u32_not signed_u32 wrap_uN u32_mul256 bN_u32

/-- A list's byte at a place. -/
def bAt (l : List UInt8) (i : Nat) : UInt8 := l.getD i 0
def wordTo (l : List UInt8) (t : Nat) : Nat → BitVec 32
  | 0 => 0
  | j + 1 => (wordTo l t j <<< 8) ||| (bAt l (4 * t + j)).toBitVec.setWidth 32
def zero64 : Nat → Value := fun _ => .int .u32 0
def part1 (l : List UInt8) (k j : Nat) : Nat → Value := fun i => .int .u32 (uN (if i < k then wordTo l i 4 else if i = k then wordTo l k j else 0))

theorem rowIs_zeros (w : World) (t : TypeId) : (w.alloc (.cells (Array.replicate 64 (.int .u32 0)) t)).rowIs w.heap.size t 64 zero64 := by
  have := World.rowIs_alloc w (Array.replicate 64 (.int .u32 0)) t zero64 (fun i hi => by simp at hi; simp [zero64, hi])
  simpa using this
theorem part1_start (l : List UInt8) (i : Nat) : zero64 i = part1 l 0 0 i := by
  simp only [zero64, part1]; by_cases h : i = 0 <;> simp [h, wordTo, uN]
theorem part1_next (l : List UInt8) (k i : Nat) : part1 l k 4 i = part1 l (k + 1) 0 i := by
  simp only [part1]
  by_cases h : i < k
  · rw [if_pos h, if_pos (by omega)]
  · by_cases h2 : i = k
    · subst h2; simp
    · rw [if_neg h, if_neg h2, if_neg (by omega)]; by_cases h3 : i = k + 1 <;> simp [h3, wordTo]
theorem part1_set (l : List UInt8) (k j i : Nat) : (if i = k then Value.int .u32 (uN (wordTo l k (j + 1))) else part1 l k j i) = part1 l k (j + 1) i := by
  simp only [part1]
  by_cases h : i = k
  · subst h; simp
  · simp [h]
def schedL (l : List UInt8) : Nat → List (BitVec 32)
  | 0 => (List.range 16).map fun i => wordTo l i 4
  | n + 1 => schedL l n ++ [ss1 ((schedL l n).getD (n + 14) 0) + (schedL l n).getD (n + 9) 0 + ss0 ((schedL l n).getD (n + 1) 0) + (schedL l n).getD n 0]
def wS (l : List UInt8) (n i : Nat) : BitVec 32 := (schedL l n).getD i 0
def part2 (l : List UInt8) (n : Nat) : Nat → Value := fun i => .int .u32 (uN (wS l n i))
theorem schedL_length (l : List UInt8) (n : Nat) : (schedL l n).length = 16 + n := by
  induction n with
  | zero => simp [schedL]
  | succ n ih => simp [schedL, ih]; omega
theorem part2_start (l : List UInt8) (i : Nat) : part1 l 16 0 i = part2 l 0 i := by
  simp only [part1, part2, wS, schedL]
  by_cases h : i < 16
  · simp [h]
  · by_cases h2 : i = 16
    · subst h2; simp [wordTo]
    · simp [h, h2]
theorem wS_old (l : List UInt8) (n i : Nat) (h : i < 16 + n) : wS l (n + 1) i = wS l n i := by
  have := schedL_length l n
  simp only [wS, schedL]
  simp [List.getElem?_append, this, h]
theorem wS_new (l : List UInt8) (n : Nat) : wS l (n + 1) (16 + n) = ss1 (wS l n (n + 14)) + wS l n (n + 9) + ss0 (wS l n (n + 1)) + wS l n n := by
  have := schedL_length l n
  simp only [wS, schedL]
  simp [this]
theorem wS_past (l : List UInt8) (n i : Nat) (h : 16 + n ≤ i) : wS l n i = 0 := by
  have := schedL_length l n
  simp only [wS]
  simp [this, h]
theorem part2_set (l : List UInt8) (t : Nat) (ht : 16 ≤ t) (i : Nat) :
    (if i = t then Value.int .u32 (uN (ss1 (wS l (t - 16) (t - 2)) + wS l (t - 16) (t - 7) + ss0 (wS l (t - 16) (t - 15)) + wS l (t - 16) (t - 16))) else part2 l (t - 16) i) = part2 l (t + 1 - 16) i := by
  obtain ⟨n, rfl⟩ : ∃ n, t = 16 + n := ⟨t - 16, by omega⟩
  rw [show 16 + n - 16 = n by omega, show 16 + n - 2 = n + 14 by omega, show 16 + n - 7 = n + 9 by omega, show 16 + n - 15 = n + 1 by omega, show 16 + n + 1 - 16 = n + 1 by omega]
  simp only [part2]
  by_cases h : i = 16 + n
  · subst h; rw [if_pos rfl, wS_new]
  · rw [if_neg h]
    by_cases h2 : i < 16 + n
    · rw [wS_old l n i h2]
    · rw [wS_past l n i (by omega), wS_past l (n + 1) i (by omega)]
theorem part1_at (l : List UInt8) (k j : Nat) : part1 l k j k = .int .u32 (uN (wordTo l k j)) := by simp [part1]

set_option maxHeartbeats 400000 in
theorem schedule_any (l : List UInt8) (b o cap : Nat) (hcap : 64 ≤ cap) (hm : cap ≤ maxLen) (w : World) (hb : b < w.heap.size)
    (hc : ∀ i, i < 64 → w.cell? ⟨b, o + i, none⟩ = some (.int .u8 (bN (bAt l i)))) :
    Calls Tryd.prog 37 #[.slice (some ⟨b, o, none⟩) 64 cap] w fun e w' => e = .returned (.agg (rowA 64 fun i => .int .u32 (uN (wS l 48 i)))) ∧ Below w.heap.size w w' := by
  unfold maxLen at hm
  have HC := Lib.hid hc
  clear hc
  go_enter Tryd.func37, Tryd.ntmps37
  go_wp2
  go_loopw [8] (fun i wr => ∃ k : Nat, k ≤ 16 ∧ i = .int .i64 k ∧ wr.rowIs w.heap.size 59 64 zero64 ∧ wr.rowIs (w.heap.size + 1) 59 64 (part1 l k 0) ∧ Below w.heap.size w wr) (fun i _ => 16 - (intOf i).toNat)
  case atStart =>
    refine ⟨0, Nat.zero_le _, rfl, (rowIs_zeros w 59).alloc _, ?_, ((Below.refl _ w).alloc (Nat.le_refl _) _).alloc (by simp) _⟩
    have h := rowIs_zeros (w.alloc (.cells (Array.replicate 64 (.int .u32 0)) 59)) 59
    rw [World.size_alloc] at h
    exact h.congr fun i _ => part1_start l i
  case round =>
    obtain ⟨k, hk, rfl, hz, hr, hB⟩ := hrel
    by_cases hlt : k < 16
    · go_wp2
      go_loopw [19] (fun i wr => ∃ j : Nat, j ≤ 4 ∧ i = .int .i64 j ∧ wr.rowIs w.heap.size 59 64 zero64 ∧ wr.rowIs (w.heap.size + 1) 59 64 (part1 l k j) ∧ Below w.heap.size w wr) (fun i _ => 4 - (intOf i).toNat)
      case atStart => exact ⟨0, Nat.zero_le _, rfl, hz, hr, hB⟩
      case round =>
        obtain ⟨j, hj, rfl, hz2, hr2, hB2⟩ := hrel
        clear hz hr hB
        by_cases hlt2 : j < 4
        · have hcell := (hB2.cell (p := ⟨b, o + (4 * k + j), none⟩) hb).trans (HC.out (4 * k + j) (by omega))
          rw [← Nat.add_assoc] at hcell
          have hw := hr2.cell (i := k) (by omega)
          rw [part1_at] at hw
          have hf := hr2.frozen k
          go_wp2
          go_roundw
          case rel => exact ⟨j + 1, by omega, by go_num, hz2.setOther (by simp) _, (hr2.set k _).congr fun i _ => part1_set l k j i, hB2.setCell (by simp) _⟩
          case measure => simp [intOf]; omega
        · obtain rfl : j = 4 := by omega
          go_wp2
          go_roundw
          case rel => exact ⟨k + 1, by omega, by go_num, hz2, hr2.congr fun i _ => part1_next l k i, hB2⟩
          case measure => simp [intOf]; omega
    · obtain rfl : k = 16 := by omega
      rw [show ((16 : Nat) : Int) = 16 from rfl]
      go_wp2
      go_loopw [7] (fun i wr => ∃ t : Nat, 16 ≤ t ∧ t ≤ 64 ∧ i = .int .i64 t ∧ wr.rowIs w.heap.size 59 64 zero64 ∧ wr.rowIs (w.heap.size + 1) 59 64 (part2 l (t - 16)) ∧ Below w.heap.size w wr) (fun i _ => 64 - (intOf i).toNat)
      case atStart => exact ⟨16, by omega, by omega, rfl, hz, hr.congr fun i _ => part2_start l i, hB⟩
      case round =>
        obtain ⟨t, ht1, ht2, rfl, hz2, hr2, hB2⟩ := hrel
        clear hz hr hB
        by_cases hlt : t < 64
        · have c0 : wr.cell? ⟨w.heap.size + 1, t, none⟩ = some (.int .u32 (uN (wS l (t - 16) t))) := hr2.cell (i := t) (by omega)
          have c2 : wr.cell? ⟨w.heap.size + 1, t - 2, none⟩ = some (.int .u32 (uN (wS l (t - 16) (t - 2)))) := hr2.cell (i := t - 2) (by omega)
          have c7 : wr.cell? ⟨w.heap.size + 1, t - 7, none⟩ = some (.int .u32 (uN (wS l (t - 16) (t - 7)))) := hr2.cell (i := t - 7) (by omega)
          have c15 : wr.cell? ⟨w.heap.size + 1, t - 15, none⟩ = some (.int .u32 (uN (wS l (t - 16) (t - 15)))) := hr2.cell (i := t - 15) (by omega)
          have c16 : wr.cell? ⟨w.heap.size + 1, t - 16, none⟩ = some (.int .u32 (uN (wS l (t - 16) (t - 16)))) := hr2.cell (i := t - 16) (by omega)
          have hf := hr2.frozen t
          have i2 : (2 : Int) ≤ t := by omega
          have j2 : (t : Int) - 2 < 64 := by omega
          have i7 : (7 : Int) ≤ t := by omega
          have j7 : (t : Int) - 7 < 64 := by omega
          have i15 : (15 : Int) ≤ t := by omega
          have j15 : (t : Int) - 15 < 64 := by omega
          have i16 : (16 : Int) ≤ t := by omega
          have j16 : (t : Int) - 16 < 64 := by omega
          go_wp2
          refine wp_region_still_tail 23 (by kernel_rfl) (by kernel_rfl) ?_
          simp only [List.take_succ_cons, List.take_zero, List.drop_succ_cons, List.drop_zero]
          iterate 5 (refine wpStill_step (fun K hK => ?_); go_simp; (try go_bits); refine hK _ ?_; clear hK K)
          (refine wpStill_step (fun K hK => ?_); go_simp; refine ⟨_, ((ss1_any _ _).mono fun _ _ h => ⟨h.1, h.2.symm⟩), hK _ ?_⟩; clear hK K)
          iterate 9 (refine wpStill_step (fun K hK => ?_); go_simp; (try go_bits); refine hK _ ?_; clear hK K)
          (refine wpStill_step (fun K hK => ?_); go_simp; refine ⟨_, ((ss0_any _ _).mono fun _ _ h => ⟨h.1, h.2.symm⟩), hK _ ?_⟩; clear hK K)
          iterate 7 (refine wpStill_step (fun K hK => ?_); go_simp; (try go_bits); refine hK _ ?_; clear hK K)
          refine wpStill_nil ?_
          go_wp2
          go_roundw
          case rel => exact ⟨t + 1, by omega, by omega, by go_num, hz2.setOther (by simp) _, (hr2.set t _).congr fun i _ => part2_set l t ht1 i, (hB2.setCell (p := ⟨w.heap.size + 1, t, none⟩) (by simp) _).drew⟩
          case measure => simp [intOf]; omega
        · obtain rfl : t = 64 := by omega
          have hsz : (Tryd.prog.info? 59).map (·.size) = some 64 := by kernel_rfl
          have hR := rangeAt_row hr2
          go_wp2_with (first
            | (refine wpList_load_mid rfl 59 (.tmp 3) rfl (w.heap.size + 1) 0 rfl (rowA 64 (part2 l (64 - 16))).toList _ hR Tryd.underlying59 rfl (by rw [rowA_toList]; simpa using hsz) ?_)
            | (refine wpList_store_mid rfl 59 (.tmp 2) (.tmp 61) rfl w.heap.size 0 (rowA 64 (part2 l (64 - 16))) rfl rfl (by rw [rowA_size]; exact there_row hz2) (by rw [rowA_size]; exact hsz) (rowA_one _ _ fun _ => rfl) ?_))
          exact bodyPost_ret (results_row rfl _ rfl (rowIs_setAll hz2 (part2 l 48)) Tryd.underlying59 hsz) rfl ⟨rfl, below_setCells _ (Nat.le_refl _) _ _ _ hB2⟩
end Go.Proofs.YtpoebajpmkcjdaaDoor
