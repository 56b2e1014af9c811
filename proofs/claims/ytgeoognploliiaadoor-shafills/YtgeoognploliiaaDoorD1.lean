import Derived.Test.YtgeoognploliiaaDoorC2
namespace Go.Proofs.YtgeoognploliiaaDoor
open Go.RowKit

def FillFacts (N : Nat) (w : World) (e : Ending) (w' : World) : Prop :=
  ∃ g m c, e = .returned (.slice (some ⟨g, 0, none⟩) m c) ∧ 9 ≤ m ∧ m ≤ 72 ∧ (N + m) % 64 = 0 ∧ w'.cell? ⟨g, 0, none⟩ = some (.int .u8 128) ∧ w'.cell? ⟨g, m - 1, none⟩ = some (.int .u8 (8 * (N : Int) % 256)) ∧ Below w.heap.size w w'
theorem bN_ofNat (n : Nat) : bN (UInt8.ofNat n) = ((n % 256 : Nat) : Int) := by unfold bN; rw [UInt8.toNat_ofNat']
theorem Fill_facts (N : Nat) (hN : N ≤ 9223372036854775807) (w : World) : Calls Tryd.prog 13 #[.int .i64 N] w (FillFacts N w) :=
  (Fill_any N hN w).mono fun e w' h => by
    obtain ⟨v, rfl, ho, hb⟩ := h
    generalize hr : (if N % 64 < 56 then 56 - N % 64 else 120 - N % 64) = r at ho
    have hr1 : 1 ≤ r ∧ r ≤ 64 ∧ (N + (r + 8)) % 64 = 0 := by rw [← hr]; split <;> omega
    obtain ⟨g, c, rfl, _, _⟩ := ho.form (by omega)
    have hc := ho.cells (g := g) rfl
    refine ⟨g, r + 8, c, rfl, by omega, by omega, hr1.2.2, ?_, ?_, hb⟩
    · have := hc 0 (.int .u8 128) (by rw [List.getElem?_append_left (by simp; omega), List.getElem?_map, List.getElem?_range (by omega)]; rfl)
      rwa [Addr.add_mid, Nat.zero_add] at this
    · have := hc (r + 7) (.int .u8 (8 * (N : Int) % 256)) (by
        rw [List.getElem?_append_right (by simp)]
        have e7 : lenByte N 7 = UInt8.ofNat (N * 8 % 18446744073709551616 / 2 ^ 0) := rfl
        simp [bF]
        rw [e7, bN_ofNat]
        omega)
      rwa [Addr.add_mid, Nat.zero_add] at this

set_option maxHeartbeats 1000000 in
theorem ShaFills_walk (n : Int) (w : World) (hT : Tables w) : Calls Tryd.prog 6 #[.int .i64 n] w fun e w' => e = .returned (.bool true) ∧ Below w.heap.size w w' := by
  have HT := Lib.hid hT
  clear hT
  by_cases hneg : n < 0
  · go_enter Tryd.func6, Tryd.ntmps6
    go_wp2_with fail
    refine (alive_any w HT.out).mono ?_
    rintro e w1 ⟨rfl, hB⟩
    go_wp2_with fail
    refine (Fill_neg _ (by omega) _).mono ?_
    rintro e w2 ⟨rfl, rfl⟩
    go_wp2
    go_ret
    exact ⟨rfl, hB⟩
  · by_cases hbig : 1000000 < n
    · go_enter Tryd.func6, Tryd.ntmps6
      go_wp2_with fail
      refine (alive_any w HT.out).mono ?_
      rintro e w1 ⟨rfl, hB⟩
      go_wp2_with fail
      refine (Fill_neg _ (by omega) _).mono ?_
      rintro e w2 ⟨rfl, rfl⟩
      go_wp2
      go_ret
      exact ⟨rfl, hB⟩
    · obtain ⟨N, rfl⟩ := Int.eq_ofNat_of_zero_le (Int.not_lt.1 hneg)
      go_enter Tryd.func6, Tryd.ntmps6
      go_wp2_with fail
      refine (alive_any w HT.out).mono ?_
      rintro e w1 ⟨rfl, hB⟩
      go_wp2_with fail
      refine (Fill_facts N (by omega) _).mono ?_
      rintro e w2 ⟨g, m, c, rfl, h9, h72, h64, hc0, hc1, hB2⟩
      have t1 : decide (9 ≤ m) = true := by simp; omega
      have t2 : decide (m ≤ 72) = true := by simp; omega
      have i0 : 0 < m := by omega
      have i1 : (m : Int) - 1 < (m : Int) := by omega
      have e1 : (((N : Int) + (m : Int)) % 64 == 0) = true := by simp; omega
      go_wp2
      go_ret
      exact ⟨rfl, hB.trans (hB2.mono hB.size)⟩
end Go.Proofs.YtgeoognploliiaaDoor
