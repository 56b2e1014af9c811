/- WireOrder: numbers' bytes stand in the numbers' order; the law, walked. -/
import Derived.Test.YteelddmegmojpaaWA
namespace Go.Proofs.Yteelddmegmojpaa
open Go Go.RowKit

/-- Ahead, or the same. -/
def leB (x y : List UInt8) : Bool := Op.bytesLess x y || x == y
theorem leB_cons (m n : Nat) (hm : m < 256) (hn : n < 256) (x y : List UInt8) (h : m < n ∨ (m = n ∧ leB x y = true)) : leB (uB m :: x) (uB n :: y) = true := by
  unfold leB at *
  rw [Op.bytesLess]
  rcases h with h | ⟨rfl, h⟩
  · have : uB m < uB n := by rw [UInt8.lt_iff_toNat_lt, toNat_uB, toNat_uB]; omega
    simp [this]
  · simp only [Bool.or_eq_true] at h ⊢
    rcases h with h | h
    · left; simp [h]
    · right; simpa using h
theorem last_le {m n : Nat} (h : m ≤ n) : m < n ∨ (m = n ∧ leB [] [] = true) := by
  rcases Nat.lt_or_eq_of_le h with h | h
  · exact .inl h
  · exact .inr ⟨h, rfl⟩
theorem numL_le (a b : Nat) (h : a ≤ b) (hb : b ≤ 2147483647) (hs : sz a = sz b) : leB (numL a) (numL b) = true := by
  unfold numL
  unfold sz at hs
  by_cases a1 : a < 128
  · rw [if_pos a1] at hs ⊢
    have b1 : b < 128 := by
      by_cases b1 : b < 128
      · exact b1
      · rw [if_neg b1] at hs; split at hs <;> (try split at hs) <;> (try split at hs) <;> omega
    rw [if_pos b1]
    exact leB_cons _ _ (by omega) (by omega) _ _ (last_le (by omega))
  rw [if_neg a1, if_neg (show ¬ b < 128 by omega)] at hs ⊢
  by_cases a2 : a < 16384
  · rw [if_pos a2] at hs ⊢
    have b2 : b < 16384 := by
      by_cases b2 : b < 16384
      · exact b2
      · rw [if_neg b2] at hs; split at hs <;> (try split at hs) <;> omega
    rw [if_pos b2]
    refine leB_cons _ _ (by omega) (by omega) _ _ ?_
    by_cases e : a / 128 = b / 128
    · exact .inr ⟨by omega, leB_cons _ _ (by omega) (by omega) _ _ (last_le (by omega))⟩
    · left; omega
  rw [if_neg a2, if_neg (show ¬ b < 16384 by omega)] at hs ⊢
  by_cases a3 : a < 2097152
  · rw [if_pos a3] at hs ⊢
    have b3 : b < 2097152 := by
      by_cases b3 : b < 2097152
      · exact b3
      · rw [if_neg b3] at hs; split at hs <;> omega
    rw [if_pos b3]
    refine leB_cons _ _ (by omega) (by omega) _ _ ?_
    by_cases e : a / 16384 = b / 16384
    · refine .inr ⟨by omega, leB_cons _ _ (by omega) (by omega) _ _ ?_⟩
      by_cases e2 : a / 128 % 128 = b / 128 % 128
      · exact .inr ⟨by omega, leB_cons _ _ (by omega) (by omega) _ _ (last_le (by omega))⟩
      · left; omega
    · left; omega
  rw [if_neg a3, if_neg (show ¬ b < 2097152 by omega)] at hs ⊢
  by_cases a4 : a < 268435456
  · rw [if_pos a4] at hs ⊢
    have b4 : b < 268435456 := by
      by_cases b4 : b < 268435456
      · exact b4
      · rw [if_neg b4] at hs; omega
    rw [if_pos b4]
    refine leB_cons _ _ (by omega) (by omega) _ _ ?_
    by_cases e : a / 2097152 = b / 2097152
    · refine .inr ⟨by omega, leB_cons _ _ (by omega) (by omega) _ _ ?_⟩
      by_cases e2 : a / 16384 % 128 = b / 16384 % 128
      · refine .inr ⟨by omega, leB_cons _ _ (by omega) (by omega) _ _ ?_⟩
        by_cases e3 : a / 128 % 128 = b / 128 % 128
        · exact .inr ⟨by omega, leB_cons _ _ (by omega) (by omega) _ _ (last_le (by omega))⟩
        · left; omega
      · left; omega
    · left; omega
  rw [if_neg a4, if_neg (show ¬ b < 268435456 by omega)]
  refine leB_cons _ _ (by omega) (by omega) _ _ ?_
  by_cases e : a / 268435456 = b / 268435456
  · refine .inr ⟨by omega, leB_cons _ _ (by omega) (by omega) _ _ ?_⟩
    by_cases e1 : a / 2097152 % 128 = b / 2097152 % 128
    · refine .inr ⟨by omega, leB_cons _ _ (by omega) (by omega) _ _ ?_⟩
      by_cases e2 : a / 16384 % 128 = b / 16384 % 128
      · refine .inr ⟨by omega, leB_cons _ _ (by omega) (by omega) _ _ ?_⟩
        by_cases e3 : a / 128 % 128 = b / 128 % 128
        · exact .inr ⟨by omega, leB_cons _ _ (by omega) (by omega) _ _ (last_le (by omega))⟩
        · left; omega
      · left; omega
    · left; omega
  · left; omega
theorem sz_mono (a b : Nat) (h : a ≤ b) : sz a ≤ sz b := by
  unfold sz
  split <;> (try split) <;> (try split) <;> (try split) <;> (try split) <;> (try split) <;> (try split) <;> (try split) <;> omega
set_option maxHeartbeats 2000000 in
theorem WireOrder_in (a b : Nat) (h : a ≤ b) (hb : b ≤ 2147483647) (w : World) : Calls Try.prog 6 #[.int .i64 (a : Int), .int .i64 (b : Int)] w fun e w' => e = .returned (.bool true) ∧ Below w.heap.size w w' := by
  have e1 := numI_nat a (by omega)
  have e2 := numI_nat b hb
  have l1 := numL_length a
  have l2 := numL_length b
  have p1 := sz_pos a
  have p2 := sz_le b
  have hm := sz_mono a b h
  have hq : sz a = sz b → leB (numL a) (numL b) = true := numL_le a b h hb
  generalize sz a = n at *
  generalize sz b = m at *
  generalize numL a = x at *
  generalize numL b = y at *
  have E1 := Lib.hid e1
  have E2 := Lib.hid e2
  have L1 := Lib.hid l1
  have L2 := Lib.hid l2
  have Hq := Lib.hid hq
  clear e1 e2 l1 l2 hq
  have i1 : ((n : Int) == 0) = false := by simp; omega
  have tk : Hid True := Lib.hid trivial
  by_cases hnm : n < m
  · go_enter Try.func6, Try.ntmps6
    go_wp2_with (first
      | (go_at_call 9; refine (alive3_any w).mono ?_; rintro _ w1 ⟨rfl, hB1⟩)
      | (go_at_call 11; clear tk; refine Calls.mono (Num_cv a w1) ?_; rintro _ w2 ⟨v2, rfl, hN2, hv2⟩; rw [E1.out] at hv2; obtain ⟨A2, n2, c2, rfl, Hn2⟩ := rdV_form' (hv2 [] (by simp)); obtain rfl : n = n2 := L1.out.symm.trans Hn2.out; have V2 := Lib.hid (svRdN_rd hv2 [] (by simp)); clear hv2)
      | (go_at_call 11; refine Calls.mono (Num_cv b w2) ?_; rintro _ w3 ⟨v3, rfl, hN3, hv3⟩; rw [E2.out] at hv3; obtain ⟨A3, n3, c3, rfl, Hn3⟩ := rdV_form' (hv3 [] (by simp)); obtain rfl : m = n3 := L2.out.symm.trans Hn3.out; have V3 := Lib.hid (svRdN_rd hv3 [] (by simp)); clear hv3))
    go_ret
    exact ⟨rfl, (NewT.trans _ _ _ hB1 (NewT.trans _ _ _ hN2 hN3)).out⟩
  · obtain rfl : n = m := by omega
    have hleq : (Op.bytesLess x y || x == y) = true := Hq.out rfl
    go_enter Try.func6, Try.ntmps6
    go_wp2_with (first
      | (go_at_call 9; refine (alive3_any w).mono ?_; rintro _ w1 ⟨rfl, hB1⟩)
      | (go_at_call 11; clear tk; refine Calls.mono (Num_cv a w1) ?_; rintro _ w2 ⟨v2, rfl, hN2, hv2⟩; rw [E1.out] at hv2; obtain ⟨A2, n2, c2, rfl, Hn2⟩ := rdV_form' (hv2 [] (by simp)); obtain rfl : n = n2 := L1.out.symm.trans Hn2.out; have V2 := Lib.hid (svRdN_rd hv2 [] (by simp)); clear hv2)
      | (go_at_call 11; refine Calls.mono (Num_cv b w2) ?_; rintro _ w3 ⟨v3, rfl, hN3, hv3⟩; rw [E2.out] at hv3; obtain ⟨A3, n3, c3, rfl, Hn3⟩ := rdV_form' (hv3 [] (by simp)); obtain rfl : n = n3 := L2.out.symm.trans Hn3.out; have V3 := Lib.hid (svRdN_rd hv3 [] (by simp)); clear hv3; have k2 := conv_rd (NewT.rd hN3 V2.out); have k3 := conv_rd V3.out))
    go_ret
    exact ⟨rfl, (NewT.trans _ _ _ hB1 (NewT.trans _ _ _ hN2 hN3)).out⟩
set_option maxHeartbeats 1000000 in
theorem WireOrder_walk (a b : Int) (w : World) : Calls Try.prog 6 #[.int .i64 a, .int .i64 b] w fun e w' => e = .returned (.bool true) ∧ Below w.heap.size w w' := by
  by_cases h1 : a < 0
  · go_enter Try.func6, Try.ntmps6
    go_wp2_with (go_at_call 9; refine (alive3_any w).mono ?_; rintro _ w1 ⟨rfl, hB1⟩)
    go_ret
    exact ⟨rfl, hB1⟩
  by_cases h2 : b < a
  · go_enter Try.func6, Try.ntmps6
    go_wp2_with (go_at_call 9; refine (alive3_any w).mono ?_; rintro _ w1 ⟨rfl, hB1⟩)
    go_ret
    exact ⟨rfl, hB1⟩
  by_cases h3 : 2147483647 < b
  · go_enter Try.func6, Try.ntmps6
    go_wp2_with (go_at_call 9; refine (alive3_any w).mono ?_; rintro _ w1 ⟨rfl, hB1⟩)
    go_ret
    exact ⟨rfl, hB1⟩
  obtain ⟨x, rfl⟩ := Int.eq_ofNat_of_zero_le (show 0 ≤ a by omega)
  obtain ⟨y, rfl⟩ := Int.eq_ofNat_of_zero_le (show 0 ≤ b by omega)
  exact WireOrder_in x y (by omega) (by omega) w
end Go.Proofs.Yteelddmegmojpaa
