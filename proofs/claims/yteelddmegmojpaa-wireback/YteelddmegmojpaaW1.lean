/- A number's bytes are put: wire.Num. -/
import Derived.Test.YteelddmegmojpaaCore2
import Derived.Test.YteelddmegmojpaaW0
namespace Go.Proofs.Yteelddmegmojpaa
open Go Go.RowKit

theorem or128 (x : Int) : bits .or .u8 (IntKind.u8.wrap x) 128 = bN (uB ((x % 128).toNat + 128)) := by
  have h : ∀ k : Fin 256, bits .or .u8 (k.val : Int) 128 = ((k.val % 128 + 128 : Nat) : Int) := by decide +kernel
  rw [wrap_u8, bN, toNat_uB]
  have := h ⟨(x % 256).toNat, by omega⟩
  simp only at this
  rw [show (((x % 256).toNat : Nat) : Int) = x % 256 by omega] at this
  rw [this]; omega
theorem and127 (y : Nat) : bits .and .u8 (bN (uB (y % 128 + 128))) 127 = bN (uB (y % 128)) := by
  have h : ∀ k : Fin 256, bits .and .u8 (k.val : Int) 127 = ((k.val % 128 : Nat) : Int) := by decide +kernel
  rw [bN, bN, toNat_uB, toNat_uB]
  have := h ⟨(y % 128 + 128) % 256, by omega⟩
  simp only at this
  rw [this]; omega
/-- The place i, ahead of the last one's mask. -/
def numC (n s i : Nat) : UInt8 := uB (n / 2 ^ (7 * (s - 1 - i)) % 128 + 128)
theorem numC_eq (n s i : Nat) : bits .or .u8 ((n : Int) / 2 ^ (7 * (s - 1 - i)) % 256) 128 = bN (numC n s i) := by
  rw [← wrap_u8, or128, numC]
  have h2 : ((2 : Int) ^ (7 * (s - 1 - i))) = ((2 ^ (7 * (s - 1 - i)) : Nat) : Int) := by simp
  rw [h2, ← Int.natCast_ediv]
  congr 2
theorem sz_test (n k : Nat) (hn : n ≤ 2147483647) (hk : 1 ≤ k) (hk2 : k ≤ sz n) : (0 < (n : Int) / 2 ^ (7 * k)) ↔ k < sz n := by
  have h5 := sz_le n
  have hh : k = 1 ∨ k = 2 ∨ k = 3 ∨ k = 4 ∨ k = 5 := by omega
  unfold sz at *
  rcases hh with rfl | rfl | rfl | rfl | rfl
  all_goals
    simp only [Nat.reduceMul, Int.reducePow]
    split <;> (try split) <;> (try split) <;> (try split) <;> omega
theorem rdV_nil (W : World) (L : List Nat) : RdV W L (.slice none 0 0) [] := ⟨none, 0, rfl, Nat.le_refl _, by unfold maxLen; omega, fun h => absurd h (by simp)⟩
set_option maxHeartbeats 1000000 in
theorem Num_in (n : Nat) (hn : n ≤ 2147483647) (w : World) : Cv 11 #[.int .i64 (n : Int)] w (svRdN w (numL n)) := by
  unfold Cv
  obtain ⟨s, hs⟩ : ∃ s, sz n = s := ⟨_, rfl⟩
  have h1 := sz_pos n
  have h5 := sz_le n
  have hT := sz_test n
  have hrow := numL_row n hn
  rw [hs] at h1 h5 hT hrow
  have Hrow := Lib.hid hrow
  have HT := Lib.hid hT
  have Hs := Lib.hid hs
  clear hT hrow hs
  obtain ⟨i0, hi, hz0, hz1, hz2⟩ := info_parts info5
  have hmk : ∀ W : World, (Instr.makeSlice 22 (.int .i64 (s : Int)) (.int .i64 (s : Int))).run Try.prog W = .ok (.slice (some ⟨W.heap.size, 0, none⟩) s s) (W.alloc (.cells (rowA s (bF fun _ => 0)) 5)) := make_bytes i0 hi hz0 hz1 hz2 s (by omega)
  have HB := Lib.hid (numC_eq n s)
  clear hi hz0 hz1 hz2
  go_enter Try.func11, Try.ntmps11
  go_wp2
  go_loop [3] (fun i => ∃ k : Nat, 1 ≤ k ∧ k ≤ s ∧ i = .int .i64 k) (fun i => s - (intOf i).toNat)
  case atStart => exact ⟨1, by omega, by omega, rfl⟩
  case round =>
    obtain ⟨k, hk1, hk, rfl⟩ := hrel
    have e7 : ((7 : Int) * (k : Int)).toNat = 7 * k := by omega
    have ht := HT.out k hn hk1 hk
    by_cases hlt : k < s
    · have ht1 : 0 < (n : Int) / 2 ^ (7 * k) := ht.2 hlt
      clear ht
      go_wp2
      go_round
      case rel => exact ⟨k + 1, by omega, by omega, by go_num⟩
      case measure => simp [intOf]; omega
    · have ht1 : ¬ 0 < (n : Int) / 2 ^ (7 * k) := fun h => hlt (ht.1 h)
      clear ht
      obtain rfl : k = s := by omega
      go_wp2
      have r0 := rowIs_box w 5 k (bF fun _ => 0)
      have hB : Below w.heap.size w (w.alloc (.cells (rowA k (bF fun _ => 0)) 5)) := (Below.refl _ w).alloc (Nat.le_refl _) _
      generalize w.alloc (.cells (rowA k (bF fun _ => 0)) 5) = W0 at r0 hB ⊢
      clear hmk ht1 hlt e7
      go_loopw [23] (fun i wr => ∃ j : Nat, j ≤ k ∧ i = .int .i64 j ∧ wr.rowIs w.heap.size 5 k (bF (putTo (numC n k) j)) ∧ Below w.heap.size w wr) (fun i _ => k - (intOf i).toNat)
      case atStart => exact ⟨0, by omega, rfl, r0.congr fun i _ => by simp [bF, putTo], hB⟩
      case round =>
        obtain ⟨j, hj, rfl, q0, qB⟩ := hrel
        clear r0 hB
        by_cases hlt : j < k
        · have c0 := q0.cell (i := j) hlt
          have f0 := q0.frozen j
          have e7 : ((7 : Int) * ((k : Int) - 1 - (j : Int))).toNat = 7 * (k - 1 - j) := by omega
          have hb8 := HB.out j
          go_wp2
          go_roundw
          case rel => exact ⟨j + 1, by omega, by go_num, (q0.set j _).congr fun i _ => putTo_set _ j i, qB.setCell (by simp) _⟩
          case measure => simp [intOf]; omega
        · obtain rfl : j = k := by omega
          obtain ⟨m, rfl⟩ : ∃ m, j = m + 1 := ⟨j - 1, by omega⟩
          have c0 := q0.cell (i := m) (by omega)
          have f0 := q0.frozen m
          have e1 : bN (putTo (numC n (m + 1)) (m + 1) m) = bN (uB (n % 128 + 128)) := by
            rw [putTo, if_pos (by omega), numC, show m + 1 - 1 - m = 0 by omega]; simp
          rw [bF_at, e1] at c0
          have h127 := and127 n
          obtain ⟨y, hy⟩ : ∃ y, uB (n % 128 + 128) = y := ⟨_, rfl⟩
          rw [hy] at c0 h127
          clear hy e1
          go_wp2
          go_ret
          refine ⟨_, rfl, qB.setCell (by simp) _, fun L hL => ?_⟩
          have q1 := (q0.set m (.int .u8 (bN (uB (n % 128))))).congr (g := bF (numB n (m + 1))) fun i hi => by
            by_cases hm : i = m
            · subst hm
              rw [if_pos rfl, bF_at, numB, if_pos rfl, show i + 1 - 1 - i = 0 by omega]; simp
            · rw [if_neg hm, bF_at, bF_at, putTo, if_pos hi, numB, if_neg (by omega), numC]
          have := rd_row (L := L) q1 (fun hm => by have := hL _ hm; omega) (by omega)
          rw [← Hrow.out] at this
          exact this
set_option maxHeartbeats 400000 in
theorem Num_out (n : Int) (hn : ¬ (0 ≤ n ∧ n ≤ 2147483647)) (w : World) : Cv 11 #[.int .i64 n] w (svRdN w []) := by
  unfold Cv
  by_cases h0 : n < 0
  · go_enter Try.func11, Try.ntmps11
    go_wp2
    go_ret
    exact ⟨_, rfl, NewT.refl _, fun L _ => rdV_nil _ _⟩
  · have h1 : 2147483647 < n := by omega
    clear hn
    go_enter Try.func11, Try.ntmps11
    go_wp2
    go_ret
    exact ⟨_, rfl, NewT.refl _, fun L _ => rdV_nil _ _⟩
/-- Whatever number. -/
theorem Num_cv (n : Int) (w : World) : Cv 11 #[.int .i64 n] w (svRdN w (numI n)) := by
  unfold numI
  by_cases h : 0 ≤ n ∧ n ≤ 2147483647
  · rw [if_pos h]
    obtain ⟨m, rfl⟩ := Int.eq_ofNat_of_zero_le h.1
    exact Num_in m (by omega) w
  · rw [if_neg h]; exact Num_out n h w
end Go.Proofs.Yteelddmegmojpaa
