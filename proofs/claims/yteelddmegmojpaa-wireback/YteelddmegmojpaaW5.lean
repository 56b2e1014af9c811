/- Bytes are read as a number: wire.number. -/
import Derived.Test.YteelddmegmojpaaW4
namespace Go.Proofs.Yteelddmegmojpaa
open Go Go.RowKit

theorem and127b (c : UInt8) : bits .and .u8 (bN c) 127 = ((c.toNat % 128 : Nat) : Int) := by
  have h : ∀ k : Fin 256, bits .and .u8 (k.val : Int) 127 = ((k.val % 128 : Nat) : Int) := by decide +kernel
  have := h ⟨c.toNat, c.toNat_lt⟩
  exact this
theorem and128b (c : UInt8) : bits .and .u8 (bN c) 128 = if 128 ≤ c.toNat then 128 else 0 := by
  have h : ∀ k : Fin 256, bits .and .u8 (k.val : Int) 128 = if 128 ≤ k.val then 128 else 0 := by decide +kernel
  have := h ⟨c.toNat, c.toNat_lt⟩
  exact this
theorem or7 (v m : Nat) (hm : m < 128) (hv : v < 1125899906842624) : bits .or .u64 ((v : Int) * 128) (m : Int) = ((v * 128 + m : Nat) : Int) := by
  show IntKind.u64.wrap (((BitVec.ofInt 64 ((v : Int) * 128) ||| BitVec.ofInt 64 (m : Int)).toNat : Nat) : Int) = _
  have e1 : BitVec.ofInt 64 ((v : Int) * 128) = BitVec.ofNat 64 (v * 128) := by
    rw [show (v : Int) * 128 = ((v * 128 : Nat) : Int) by omega, BitVec.ofInt_natCast]
  rw [e1, BitVec.ofInt_natCast, BitVec.toNat_or, BitVec.toNat_ofNat, BitVec.toNat_ofNat, Nat.mod_eq_of_lt (by omega), Nat.mod_eq_of_lt (by omega)]
  have := Nat.shiftLeft_add_eq_or_of_lt (b := m) (i := 7) (by omega) v
  rw [Nat.shiftLeft_eq] at this
  rw [show v * 128 = v * 2 ^ 7 by omega, ← this]
  simp [IntKind.wrap, IntKind.bits, IntKind.signed]
  omega
theorem drop_bAt (l : List UInt8) (k : Nat) (h : k < l.length) : l.drop k = bAt l k :: l.drop (k + 1) := by
  rw [List.drop_eq_getElem_cons h]; simp [bAt, h]
/-- What is read, as values. -/
def numV (r : Nat × Nat × Nat) : Value := .tuple #[.int .i64 (r.1 : Int), .int .i64 (r.2.1 : Int), .int .i64 (r.2.2 : Int)]
set_option maxHeartbeats 2000000 in
theorem number_cv (v : Value) (l : List UInt8) (L : List Nat) (w : World) (h : RdV w L v l) (hl : l.length ≤ 1000000) : Cv 29 #[v] w (.eq (numV (goN l 0 0))) := by
  unfold Cv
  obtain ⟨A, cap, rfl, h1, h2, h3⟩ := h
  have H3 := Lib.hid h3
  clear h3
  unfold maxLen at h2
  generalize hn : l.length = n at *
  have Hn := Lib.hid hn
  clear hn
  go_enter Try.func29, Try.ntmps29
  go_wp2
  go_loop [5, 10] (fun x i => ∃ k s : Nat, k ≤ n ∧ k ≤ 5 ∧ i = .int .i64 k ∧ x = .int .u64 (s : Int) ∧ Hid (s < 128 ^ k) ∧ Hid (goN l 0 0 = goN (l.drop k) k s)) (fun _ i => n - (intOf i).toNat)
  case atStart => exact ⟨0, 0, by omega, by omega, rfl, rfl, Lib.hid (by simp), Lib.hid rfl⟩
  case round =>
    obtain ⟨k, s, hk, hk5, rfl, rfl, Hs, Hg⟩ := hrel
    by_cases hlt : k < n
    · obtain ⟨b, o, rfl, _, hcell⟩ := H3.out (by omega)
      have c0 := hcell k hlt
      have Hd := Lib.hid (drop_bAt l k (by rw [Hn.out]; exact hlt))
      generalize bAt l k = c at c0 Hd
      have ht := c.toNat_lt
      have hs5 : s < 34359738368 := Nat.lt_of_lt_of_le Hs.out (Nat.le_trans (Nat.pow_le_pow_right (by omega) hk5) (by omega))
      have a7 := and127b c
      have a8 := and128b c
      have o7 := or7 s (c.toNat % 128) (by omega) (by omega)
      have Hg2 : Hid (goN l 0 0 = goN (c :: l.drop (k + 1)) k s) := Lib.hid (by rw [Hg.out, Hd.out])
      clear hcell Hg Hd
      have hbc : bN c = (c.toNat : Int) := rfl
      generalize hct : c.toNat = m at *
      have Hct := Lib.hid hct
      clear hct
      obtain ⟨r, hr⟩ : ∃ r, m % 128 = r := ⟨_, rfl⟩
      have hr7 : r < 128 := by omega
      rw [hr] at a7 o7
      have Hr := Lib.hid hr
      clear hr
      by_cases hbad : (k = 0 ∧ m = 128) ∨ k = 5
      · have hres : goN l 0 0 = (0, 0, 2) := by rw [Hg2.out, goN, if_pos (by rw [Hct.out]; exact hbad)]
        have Hres := Lib.hid hres
        clear hres a7 a8 o7
        rw [hbc] at c0
        clear hbc
        rcases hbad with ⟨hk0, hm8⟩ | hk0
        · have q0 : ((k : Int) == 0) = true := by simp; omega
          have q8 : ((m : Int) == 128) = true := by simp; omega
          clear hk0 hm8
          go_wp2
          go_ret3
          exact ⟨_, rfl, NewT.refl _, by rw [Hres.out]; rfl⟩
        · have q0 : ((k : Int) == 0) = false := by simp; omega
          have q5 : ((k : Int) == 5) = true := by simp; omega
          clear hk0
          go_wp2
          go_ret3
          exact ⟨_, rfl, NewT.refl _, by rw [Hres.out]; rfl⟩
      · rw [hbc] at c0 a7 a8
        clear hbc
        have hk4 : k ≤ 4 := by omega
        have q5 : ((k : Int) == 5) = false := by simp; omega
        have t1 : k = 0 → ((m : Int) == 128) = false := fun h => by
          simp; omega
        have T1 := Lib.hid t1
        clear t1
        by_cases hm : 128 ≤ m
        · rw [if_pos hm] at a8
          have hres : goN l 0 0 = goN (l.drop (k + 1)) (k + 1) (s * 128 + r) := by
            rw [Hg2.out, goN, if_neg (by rw [Hct.out]; exact hbad), if_pos (by rw [Hct.out]; exact hm), Hct.out, Hr.out]
          have Hres := Lib.hid hres
          have hsn : s * 128 + r < 128 ^ (k + 1) := by
            have := Hs.out
            rw [Nat.pow_succ]; omega
          have Hsn := Lib.hid hsn
          clear hres hsn hbad
          by_cases hk0 : k = 0
          · have q0 : ((k : Int) == 0) = true := by simp; omega
            have hm8 : ((m : Int) == 128) = false := T1.out hk0
            clear hk0
            go_wp2
            go_round
            case rel => exact ⟨k + 1, s * 128 + r, by omega, by omega, by go_num, rfl, Hsn, Hres⟩
            case measure => simp [intOf]; omega
          · have q0 : ((k : Int) == 0) = false := by simp; omega
            clear hk0
            go_wp2
            go_round
            case rel => exact ⟨k + 1, s * 128 + r, by omega, by omega, by go_num, rfl, Hsn, Hres⟩
            case measure => simp [intOf]; omega
        · rw [if_neg hm] at a8
          have hres : goN l 0 0 = if 2147483647 < s * 128 + r then (0, 0, 2) else (s * 128 + r, k + 1, 0) := by
            rw [Hg2.out, goN, if_neg (by rw [Hct.out]; exact hbad), if_neg (by rw [Hct.out]; exact hm), Hct.out, Hr.out]
          obtain ⟨s2, hs2⟩ : ∃ s2, s * 128 + r = s2 := ⟨_, rfl⟩
          rw [hs2] at hres o7
          have hs2b : s2 < 9223372036854775807 := by omega
          clear hbad hs2
          by_cases hmax : 2147483647 < s2
          · rw [if_pos hmax] at hres
            have Hres := Lib.hid hres
            clear hres
            by_cases hk0 : k = 0
            · have q0 : ((k : Int) == 0) = true := by simp; omega
              have hm8 : ((m : Int) == 128) = false := T1.out hk0
              clear hk0
              go_wp2
              go_ret3
              exact ⟨_, rfl, NewT.refl _, by rw [Hres.out]; rfl⟩
            · have q0 : ((k : Int) == 0) = false := by simp; omega
              clear hk0
              go_wp2
              go_ret3
              exact ⟨_, rfl, NewT.refl _, by rw [Hres.out]; rfl⟩
          · rw [if_neg hmax] at hres
            have Hres := Lib.hid hres
            clear hres
            by_cases hk0 : k = 0
            · have q0 : ((k : Int) == 0) = true := by simp; omega
              have hm8 : ((m : Int) == 128) = false := T1.out hk0
              clear hk0
              go_wp2
              go_ret3
              exact ⟨_, rfl, NewT.refl _, by rw [Hres.out]; rfl⟩
            · have q0 : ((k : Int) == 0) = false := by simp; omega
              clear hk0
              go_wp2
              go_ret3
              exact ⟨_, rfl, NewT.refl _, by rw [Hres.out]; rfl⟩
    · obtain rfl : k = n := by omega
      have hres : goN l 0 0 = (0, 0, 3) := by rw [Hg.out, List.drop_of_length_le (by rw [Hn.out]; exact Nat.le_refl _), goN]
      have Hres := Lib.hid hres
      clear hres
      go_wp2
      go_ret3
      exact ⟨_, rfl, NewT.refl _, by rw [Hres.out]; rfl⟩
end Go.Proofs.Yteelddmegmojpaa
