/- Numbers as bytes, on lists: a number's bytes, how bytes are read as a number, and that these two are one another's. No program is named here. -/
import Derived.Test.YteelddmegmojpaaBase
namespace Go.Proofs.Yteelddmegmojpaa
open Go

/-- How many bytes a number has. -/
def sz (n : Nat) : Nat := if n < 128 then 1 else if n < 16384 then 2 else if n < 2097152 then 3 else if n < 268435456 then 4 else 5
abbrev uB (n : Nat) : UInt8 := UInt8.ofNat n
/-- A number's bytes. -/
def numL (n : Nat) : List UInt8 :=
  if n < 128 then [uB n] else if n < 16384 then [uB (n / 128 + 128), uB (n % 128)] else if n < 2097152 then [uB (n / 16384 + 128), uB (n / 128 % 128 + 128), uB (n % 128)]
  else if n < 268435456 then [uB (n / 2097152 + 128), uB (n / 16384 % 128 + 128), uB (n / 128 % 128 + 128), uB (n % 128)]
  else [uB (n / 268435456 % 128 + 128), uB (n / 2097152 % 128 + 128), uB (n / 16384 % 128 + 128), uB (n / 128 % 128 + 128), uB (n % 128)]
theorem numL_length (n : Nat) : (numL n).length = sz n := by unfold numL sz; split <;> (try split) <;> (try split) <;> (try split) <;> rfl
theorem sz_pos (n : Nat) : 1 ≤ sz n := by unfold sz; split <;> (try split) <;> (try split) <;> (try split) <;> omega
theorem sz_le (n : Nat) : sz n ≤ 5 := by unfold sz; split <;> (try split) <;> (try split) <;> (try split) <;> omega
/-- The bytes of whatever number there is, none of what is none. -/
def numI (n : Int) : List UInt8 := if 0 ≤ n ∧ n ≤ 2147483647 then numL n.toNat else []
theorem numI_nat (n : Nat) (h : n ≤ 2147483647) : numI (n : Int) = numL n := by unfold numI; rw [if_pos (by omega), Int.toNat_natCast]
theorem numI_length (n : Int) : (numI n).length ≤ 5 := by
  unfold numI; split
  · rw [numL_length]; exact sz_le _
  · simp
/-- Bytes, from place i on, read as a number: it, how many bytes it has, the error. -/
def goN : List UInt8 → Nat → Nat → Nat × Nat × Nat
  | [], _, _ => (0, 0, 3)
  | c :: r, i, v => if (i = 0 ∧ c.toNat = 128) ∨ i = 5 then (0, 0, 2) else if 128 ≤ c.toNat then goN r (i + 1) (v * 128 + c.toNat % 128)
    else if 2147483647 < v * 128 + c.toNat % 128 then (0, 0, 2) else (v * 128 + c.toNat % 128, i + 1, 0)
theorem toNat_uB (n : Nat) : (uB n).toNat = n % 256 := UInt8.toNat_ofNat'
theorem goN_put (n : Nat) (hn : n ≤ 2147483647) (r : List UInt8) : goN (numL n ++ r) 0 0 = (n, sz n, 0) := by
  unfold numL sz
  by_cases h1 : n < 128
  · rw [if_pos h1, if_pos h1]
    simp only [List.cons_append, List.nil_append, goN, toNat_uB]
    rw [if_neg (by omega), if_neg (by omega), if_neg (by omega)]
    simp; omega
  rw [if_neg h1, if_neg h1]
  by_cases h2 : n < 16384
  · rw [if_pos h2, if_pos h2]
    simp only [List.cons_append, List.nil_append, goN, toNat_uB]
    rw [if_neg (by omega), if_pos (by omega), if_neg (by omega), if_neg (by omega), if_neg (by omega)]
    simp; omega
  rw [if_neg h2, if_neg h2]
  by_cases h3 : n < 2097152
  · rw [if_pos h3, if_pos h3]
    simp only [List.cons_append, List.nil_append, goN, toNat_uB]
    rw [if_neg (by omega), if_pos (by omega), if_neg (by omega), if_pos (by omega), if_neg (by omega), if_neg (by omega), if_neg (by omega)]
    simp; omega
  rw [if_neg h3, if_neg h3]
  by_cases h4 : n < 268435456
  · rw [if_pos h4, if_pos h4]
    simp only [List.cons_append, List.nil_append, goN, toNat_uB]
    rw [if_neg (by omega), if_pos (by omega), if_neg (by omega), if_pos (by omega), if_neg (by omega), if_pos (by omega), if_neg (by omega), if_neg (by omega), if_neg (by omega)]
    simp; omega
  rw [if_neg h4, if_neg h4]
  simp only [List.cons_append, List.nil_append, goN, toNat_uB]
  rw [if_neg (by omega), if_pos (by omega), if_neg (by omega), if_pos (by omega), if_neg (by omega), if_pos (by omega), if_neg (by omega), if_pos (by omega), if_neg (by omega), if_neg (by omega), if_neg (by omega)]
  simp; omega
/-- What an error says, and that there is none of another kind. -/
theorem goN_err : ∀ (l : List UInt8) (i v : Nat), (goN l i v).2.2 ≠ 0 → goN l i v = (0, 0, (goN l i v).2.2) ∧ ((goN l i v).2.2 = 2 ∨ (goN l i v).2.2 = 3)
  | [], _, _, _ => ⟨rfl, .inr rfl⟩
  | c :: r, i, v, h => by
    rw [goN] at h ⊢
    split
    · exact ⟨rfl, .inl rfl⟩
    · rename_i h1
      rw [if_neg h1] at h
      split
      · rename_i h2
        rw [if_pos h2] at h
        exact goN_err r _ _ h
      · rename_i h2
        rw [if_neg h2] at h
        split
        · exact ⟨rfl, .inl rfl⟩
        · rename_i h3
          rw [if_neg h3] at h
          exact absurd rfl h
theorem goN_bounds : ∀ (l : List UInt8) (i v : Nat), (goN l i v).2.2 = 0 → (goN l i v).1 ≤ 2147483647 ∧ i < (goN l i v).2.1 ∧ (goN l i v).2.1 ≤ i + l.length
  | [], _, _, h => by simp [goN] at h
  | c :: r, i, v, h => by
    rw [goN] at h ⊢
    split at h
    · simp at h
    · rename_i h1
      rw [if_neg h1]
      split at h
      · rename_i h2
        rw [if_pos h2]
        have := goN_bounds r (i + 1) _ h
        simp only [List.length_cons]
        omega
      · rename_i h2
        rw [if_neg h2]
        split at h
        · simp at h
        · rename_i h3
          rw [if_neg h3]
          simp only [List.length_cons]
          omega
theorem uB_back (c : UInt8) (n : Nat) (h : n = c.toNat) : uB n = c := by subst h; simp [uB]
/-- Each number has one form, and no beginning of it is a number. -/
theorem goN_one (b : List UInt8) (n k : Nat) (h : goN b 0 0 = (n, k, 0)) : numL n = b.take k ∧ ∀ i, i < k → goN (b.take i) 0 0 = (0, 0, 3) := by
  rcases b with _ | ⟨c0, b⟩
  · simp [goN] at h
  have t0 := c0.toNat_lt
  rw [goN] at h
  split at h
  · simp at h
  rename_i g0
  split at h
  rotate_left
  · rename_i h0
    split at h
    · simp at h
    rename_i m0
    simp only [Prod.mk.injEq] at h
    obtain ⟨rfl, rfl, _⟩ := h
    refine ⟨?_, fun i hi => ?_⟩
    · unfold numL
      rw [if_pos (by omega)]
      simp only [List.take_succ_cons, List.take_zero, List.cons.injEq, and_true]
      exact uB_back _ _ (by omega)
    · obtain rfl : i = 0 := by omega
      rfl
  rename_i h0
  rcases b with _ | ⟨c1, b⟩
  · simp [goN] at h
  have t1 := c1.toNat_lt
  rw [goN] at h
  split at h
  · simp at h
  rename_i g1
  split at h
  rotate_left
  · rename_i h1
    split at h
    · simp at h
    rename_i m1
    simp only [Prod.mk.injEq] at h
    obtain ⟨rfl, rfl, _⟩ := h
    refine ⟨?_, fun i hi => ?_⟩
    · unfold numL
      rw [if_neg (by omega), if_pos (by omega)]
      simp only [Nat.zero_add, Nat.reduceAdd, List.take_succ_cons, List.take_zero, List.cons.injEq, and_true]
      exact ⟨uB_back _ _ (by omega), uB_back _ _ (by omega)⟩
    · have : i = 0 ∨ i = 1 := by omega
      rcases this with rfl | rfl
      · rfl
      · simp only [List.take_succ_cons, List.take_zero, goN]
        rw [if_neg (by first | omega | (simp; omega)), if_pos h0]
  rename_i h1
  rcases b with _ | ⟨c2, b⟩
  · simp [goN] at h
  have t2 := c2.toNat_lt
  rw [goN] at h
  split at h
  · simp at h
  rename_i g2
  split at h
  rotate_left
  · rename_i h2
    split at h
    · simp at h
    rename_i m2
    simp only [Prod.mk.injEq] at h
    obtain ⟨rfl, rfl, _⟩ := h
    refine ⟨?_, fun i hi => ?_⟩
    · unfold numL
      rw [if_neg (by omega), if_neg (by omega), if_pos (by omega)]
      simp only [Nat.zero_add, Nat.reduceAdd, List.take_succ_cons, List.take_zero, List.cons.injEq, and_true]
      exact ⟨uB_back _ _ (by omega), uB_back _ _ (by omega), uB_back _ _ (by omega)⟩
    · have : i = 0 ∨ i = 1 ∨ i = 2 := by omega
      rcases this with rfl | rfl | rfl
      · rfl
      · simp only [List.take_succ_cons, List.take_zero, goN]
        rw [if_neg (by first | omega | (simp; omega)), if_pos h0]
      · simp only [List.take_succ_cons, List.take_zero, goN]
        rw [if_neg (by first | omega | (simp; omega)), if_pos h0, if_neg (by first | omega | (simp; omega)), if_pos h1]
  rename_i h2
  rcases b with _ | ⟨c3, b⟩
  · simp [goN] at h
  have t3 := c3.toNat_lt
  rw [goN] at h
  split at h
  · simp at h
  rename_i g3
  split at h
  rotate_left
  · rename_i h3
    split at h
    · simp at h
    rename_i m3
    simp only [Prod.mk.injEq] at h
    obtain ⟨rfl, rfl, _⟩ := h
    refine ⟨?_, fun i hi => ?_⟩
    · unfold numL
      rw [if_neg (by omega), if_neg (by omega), if_neg (by omega), if_pos (by omega)]
      simp only [Nat.zero_add, Nat.reduceAdd, List.take_succ_cons, List.take_zero, List.cons.injEq, and_true]
      exact ⟨uB_back _ _ (by omega), uB_back _ _ (by omega), uB_back _ _ (by omega), uB_back _ _ (by omega)⟩
    · have : i = 0 ∨ i = 1 ∨ i = 2 ∨ i = 3 := by omega
      rcases this with rfl | rfl | rfl | rfl
      · rfl
      · simp only [List.take_succ_cons, List.take_zero, goN]
        rw [if_neg (by first | omega | (simp; omega)), if_pos h0]
      · simp only [List.take_succ_cons, List.take_zero, goN]
        rw [if_neg (by first | omega | (simp; omega)), if_pos h0, if_neg (by first | omega | (simp; omega)), if_pos h1]
      · simp only [List.take_succ_cons, List.take_zero, goN]
        rw [if_neg (by first | omega | (simp; omega)), if_pos h0, if_neg (by first | omega | (simp; omega)), if_pos h1, if_neg (by first | omega | (simp; omega)), if_pos h2]
  rename_i h3
  rcases b with _ | ⟨c4, b⟩
  · simp [goN] at h
  have t4 := c4.toNat_lt
  rw [goN] at h
  split at h
  · simp at h
  rename_i g4
  split at h
  rotate_left
  · rename_i h4
    split at h
    · simp at h
    rename_i m4
    simp only [Prod.mk.injEq] at h
    obtain ⟨rfl, rfl, _⟩ := h
    refine ⟨?_, fun i hi => ?_⟩
    · unfold numL
      rw [if_neg (by omega), if_neg (by omega), if_neg (by omega), if_neg (by omega)]
      simp only [Nat.zero_add, Nat.reduceAdd, List.take_succ_cons, List.take_zero, List.cons.injEq, and_true]
      exact ⟨uB_back _ _ (by omega), uB_back _ _ (by omega), uB_back _ _ (by omega), uB_back _ _ (by omega), uB_back _ _ (by omega)⟩
    · have : i = 0 ∨ i = 1 ∨ i = 2 ∨ i = 3 ∨ i = 4 := by omega
      rcases this with rfl | rfl | rfl | rfl | rfl
      · rfl
      · simp only [List.take_succ_cons, List.take_zero, goN]
        rw [if_neg (by first | omega | (simp; omega)), if_pos h0]
      · simp only [List.take_succ_cons, List.take_zero, goN]
        rw [if_neg (by first | omega | (simp; omega)), if_pos h0, if_neg (by first | omega | (simp; omega)), if_pos h1]
      · simp only [List.take_succ_cons, List.take_zero, goN]
        rw [if_neg (by first | omega | (simp; omega)), if_pos h0, if_neg (by first | omega | (simp; omega)), if_pos h1, if_neg (by first | omega | (simp; omega)), if_pos h2]
      · simp only [List.take_succ_cons, List.take_zero, goN]
        rw [if_neg (by first | omega | (simp; omega)), if_pos h0, if_neg (by first | omega | (simp; omega)), if_pos h1, if_neg (by first | omega | (simp; omega)), if_pos h2, if_neg (by first | omega | (simp; omega)), if_pos h3]
  rename_i h4
  rcases b with _ | ⟨c5, b⟩
  · simp [goN] at h
  · rw [goN, if_pos (by omega)] at h
    simp at h
/-- The place i of a number's bytes. -/
def numB (n s i : Nat) : UInt8 := if i + 1 = s then uB (n / 2 ^ (7 * (s - 1 - i)) % 128) else uB (n / 2 ^ (7 * (s - 1 - i)) % 128 + 128)
theorem numL_row (n : Nat) (hn : n ≤ 2147483647) : numL n = (List.range (sz n)).map (numB n (sz n)) := by
  unfold numL sz
  by_cases h1 : n < 128
  · rw [if_pos h1, if_pos h1]; simp [numB, List.range_succ, show n % 128 = n by omega]
  rw [if_neg h1, if_neg h1]
  by_cases h2 : n < 16384
  · rw [if_pos h2, if_pos h2]; simp [numB, List.range_succ, show n / 128 % 128 = n / 128 by omega]
  rw [if_neg h2, if_neg h2]
  by_cases h3 : n < 2097152
  · rw [if_pos h3, if_pos h3]; simp [numB, List.range_succ, show n / 16384 % 128 = n / 16384 by omega]
  rw [if_neg h3, if_neg h3]
  by_cases h4 : n < 268435456
  · rw [if_pos h4, if_pos h4]; simp [numB, List.range_succ, show n / 2097152 % 128 = n / 2097152 by omega]
  rw [if_neg h4, if_neg h4]
  simp [numB, List.range_succ]
/-- A greater number by its head. -/
theorem numL_step (n : Nat) (hn : n ≤ 2147483647) (h : 128 ≤ n) : ∃ (init : List UInt8) (x : Nat), x < 128 ∧ numL (n / 128) = init ++ [uB x] ∧ numL n = init ++ [uB (x + 128), uB (n % 128)] := by
  unfold numL
  rw [if_neg (show ¬ n < 128 by omega)]
  by_cases h2 : n < 16384
  · rw [if_pos h2, if_pos (by omega)]
    exact ⟨[], n / 128, by omega, rfl, rfl⟩
  rw [if_neg h2, if_neg (show ¬ n / 128 < 128 by omega)]
  by_cases h3 : n < 2097152
  · rw [if_pos h3, if_pos (show n / 128 < 16384 by omega)]
    refine ⟨[uB (n / 128 / 128 + 128)], n / 128 % 128, by omega, rfl, ?_⟩
    rw [show n / 128 / 128 = n / 16384 by omega]; rfl
  rw [if_neg h3, if_neg (show ¬ n / 128 < 16384 by omega)]
  by_cases h4 : n < 268435456
  · rw [if_pos h4, if_pos (show n / 128 < 2097152 by omega)]
    refine ⟨[uB (n / 128 / 16384 + 128), uB (n / 128 / 128 % 128 + 128)], n / 128 % 128, by omega, rfl, ?_⟩
    rw [show n / 128 / 128 = n / 16384 by omega, show n / 128 / 16384 = n / 2097152 by omega]; rfl
  rw [if_neg h4, if_neg (show ¬ n / 128 < 2097152 by omega), if_pos (show n / 128 < 268435456 by omega)]
  refine ⟨[uB (n / 128 / 2097152 + 128), uB (n / 128 / 16384 % 128 + 128), uB (n / 128 / 128 % 128 + 128)], n / 128 % 128, by omega, rfl, ?_⟩
  rw [show n / 128 / 128 = n / 16384 by omega, show n / 128 / 16384 = n / 2097152 by omega, show n / 128 / 2097152 = n / 268435456 % 128 by omega]; rfl
end Go.Proofs.Yteelddmegmojpaa
