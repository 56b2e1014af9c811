import Derived.Test.YtgeoognploliiaaDoorC2
namespace Go.Proofs.YtgeoognploliiaaDoor
open Go.RowKit

/-- The half of a byte that the digit i of a hash tells. -/
def halfN (d : Nat → UInt8) (i : Nat) : Nat := if i % 2 = 1 then loN (d (i / 2)) else hiN (d (i / 2))
theorem halfN_lt (d : Nat → UInt8) (i : Nat) : halfN d i < 16 := by unfold halfN; split; exact loN_lt _; exact hiN_lt _
theorem hexL_at (d : Nat → UInt8) (n i : Nat) (h : i < 2 * n) : (hexL d n)[i]? = some (hx (halfN d i)) := by
  induction n with
  | zero => omega
  | succ n ih =>
    rw [hexL]
    by_cases h1 : i < 2 * n
    · rw [List.getElem?_append_left (by rw [hexL_length]; exact h1)]; exact ih h1
    · rw [List.getElem?_append_right (by rw [hexL_length]; omega), hexL_length]
      have : i = 2 * n ∨ i = 2 * n + 1 := by omega
      rcases this with rfl | rfl
      · simp only [Nat.sub_self, List.getElem?_cons_zero, halfN]
        rw [if_neg (by omega), show 2 * n / 2 = n by omega]
      · rw [show 2 * n + 1 - 2 * n = 1 by omega]
        simp only [List.getElem?_cons_succ, List.getElem?_cons_zero, halfN]
        rw [if_pos (by omega), show (2 * n + 1) / 2 = n by omega]
theorem hx_low (k : Nat) (h : k < 10) : bN (hx k) = 48 + (k : Int) := by
  have : ∀ k : Fin 10, bN (hx k.val) = 48 + (k.val : Int) := by decide
  exact this ⟨k, h⟩
theorem hx_high (k : Nat) (h : 10 ≤ k) (h2 : k < 16) : bN (hx k) = 87 + (k : Int) := by
  have : ∀ k : Fin 16, 10 ≤ k.val → bN (hx k.val) = 87 + (k.val : Int) := by decide
  exact this ⟨k, h2⟩ h
theorem ba_at (l : List UInt8) (i : Nat) (b : UInt8) (h : l[i]? = some b) : (⟨l.toArray⟩ : ByteArray)[i]? = some b := by
  obtain ⟨hlt, hb⟩ := List.getElem?_eq_some_iff.1 h
  have hs : i < (⟨l.toArray⟩ : ByteArray).size := by show i < l.toArray.size; simpa using hlt
  rw [getElem?_pos _ i hs]
  have : (⟨l.toArray⟩ : ByteArray)[i] = l.toArray[i]'(by simpa using hlt) := rfl
  rw [this]
  simpa using hb
theorem ba_size (l : List UInt8) : (⟨l.toArray⟩ : ByteArray).size = l.length := by show l.toArray.size = _; simp
theorem index_str (S : ByteArray) (i : Nat) (b : UInt8) (h : S[i]? = some b) (w : World) : (Instr.index 9 (.string S) (.int .i64 (i : Int))).run Tryd.prog w = .ok (.int .u8 (bN b)) w := by
  simp [Instr.index, asIntOf, run_underlying Tryd.underlying9, h, bN]

set_option maxHeartbeats 2000000 in
theorem ShaHex_walk (d : Nat → UInt8) (w : World) (hT : Tables w) : Calls Tryd.prog 8 #[.agg (rowA 32 (bF d))] w fun e w' => e = .returned (.bool true) ∧ Below w.heap.size w w' := by
  have HT := Lib.hid hT
  clear hT
  go_enter Tryd.func8, Tryd.ntmps8
  go_wp2_with fail
  have r0 := rowIs_box w 31 32 (bF d)
  have hB : Below w.heap.size w (w.alloc (.cells (rowA 32 (bF d)) 31)) := (Below.refl _ w).alloc (Nat.le_refl _) _
  refine (alive_any _ (HT.out.below hB)).mono ?_
  rintro e w1 ⟨rfl, hB1⟩
  replace r0 := rowIs_below r0 hB1 r0.lt
  replace hB := hB.trans (hB1.mono hB.size)
  clear hB1
  have hR := rangeAt_row r0
  go_wp2_with (refine wpList_load_mid rfl 31 (.tmp 1) rfl w.heap.size 0 rfl (rowA 32 (bF d)).toList _ hR Tryd.underlying31 rfl (by rw [rowA_toList]; simpa using info31) ?_)
  clear hR
  refine (Hex_any d _).mono ?_
  rintro e w2 ⟨rfl, hB1⟩
  replace r0 := rowIs_below r0 hB1 r0.lt
  replace hB := hB.trans (hB1.mono hB.size)
  clear hB1
  obtain ⟨S, HS⟩ : ∃ S : ByteArray, Hid (⟨(hexL d 32).toArray⟩ = S) := ⟨_, Lib.hid rfl⟩
  rw [HS.out]
  have hsz : S.size = 64 := by rw [← HS.out, ba_size, hexL_length]
  have hat : ∀ i, i < 64 → S[i]? = some (hx (halfN d i)) := fun i hi => by rw [← HS.out]; exact ba_at _ _ _ (hexL_at d 32 i (by omega))
  have Hat := Lib.hid hat
  clear hat
  go_wp2
  go_loop [4] (fun i => ∃ k : Nat, k ≤ 64 ∧ i = .int .i64 k) (fun i => 64 - (intOf i).toNat)
  case atStart => exact ⟨0, by omega, rfl⟩
  case round =>
    obtain ⟨k, hk, rfl⟩ := hrel
    by_cases hlt : k < 64
    · have hc := r0.cell (i := k / 2) (by omega)
      obtain ⟨b, hb, hbN⟩ : ∃ b : Nat, b < 256 ∧ bN (d (k / 2)) = (b : Int) := ⟨(d (k / 2)).toNat, UInt8.toNat_lt _, rfl⟩
      rw [bF_at, hbN] at hc
      have hi := fun W => index_str S k _ (Hat.out k hlt) W
      have hh := halfN_lt d k
      have hk2 : k / 2 < 32 := by omega
      have hk2i : (k : Int) / 2 < 32 := by omega
      have HbN := Lib.hid hbN
      clear hbN
      by_cases hp : k % 2 = 1
      · have ehalf : halfN d k = b % 16 := by
          have := HbN.out; unfold bN at this; unfold halfN loN; rw [if_pos hp]; omega
        have ep : ((k : Int) % 2 == 1) = true := by simp; omega
        rw [ehalf] at hi hh
        clear ehalf
        by_cases hlow : b % 16 < 10
        · rw [hx_low _ hlow] at hi
          have t1 : decide ((97 : Int) ≤ 48 + ((b % 16 : Nat) : Int)) = false := by simp; omega
          have t2 : decide (48 + ((b % 16 : Nat) : Int) < 48) = false := by simp; omega
          have t3 : decide ((57 : Int) < 48 + ((b % 16 : Nat) : Int)) = false := by simp; omega
          go_wp2
          go_round
          case rel => exact ⟨k + 1, by omega, by go_num⟩
          case measure => simp [intOf]; omega
        · rw [hx_high _ (by omega) hh] at hi
          have t1 : decide ((97 : Int) ≤ 87 + ((b % 16 : Nat) : Int)) = true := by simp; omega
          have t2 : decide (87 + ((b % 16 : Nat) : Int) ≤ 102) = true := by simp; omega
          go_wp2
          go_round
          case rel => exact ⟨k + 1, by omega, by go_num⟩
          case measure => simp [intOf]; omega
      · have ehalf : halfN d k = b / 16 := by
          have := HbN.out; unfold bN at this; unfold halfN hiN; rw [if_neg hp]; omega
        have ep : ((k : Int) % 2 == 1) = false := by simp; omega
        rw [ehalf] at hi hh
        clear ehalf
        by_cases hlow : b / 16 < 10
        · rw [hx_low _ hlow] at hi
          have t1 : decide ((97 : Int) ≤ 48 + ((b / 16 : Nat) : Int)) = false := by simp; omega
          have t2 : decide (48 + ((b / 16 : Nat) : Int) < 48) = false := by simp; omega
          have t3 : decide ((57 : Int) < 48 + ((b / 16 : Nat) : Int)) = false := by simp; omega
          go_wp2
          go_round
          case rel => exact ⟨k + 1, by omega, by go_num⟩
          case measure => simp [intOf]; omega
        · rw [hx_high _ (by omega) hh] at hi
          have t1 : decide ((97 : Int) ≤ 87 + ((b / 16 : Nat) : Int)) = true := by simp; omega
          have t2 : decide (87 + ((b / 16 : Nat) : Int) ≤ 102) = true := by simp; omega
          go_wp2
          go_round
          case rel => exact ⟨k + 1, by omega, by go_num⟩
          case measure => simp [intOf]; omega
    · obtain rfl : k = 64 := by omega
      go_wp2
      go_ret
      exact ⟨rfl, hB⟩
end Go.Proofs.YtgeoognploliiaaDoor
