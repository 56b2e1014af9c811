/- The reference's Number: a number's low bytes, so many, the highest first. -/
import Derived.Test.YtpoebajpmkcjdaaDoorM5
namespace Go.Proofs.YtpoebajpmkcjdaaDoor
open Go Go.RowKit

/-- From place q on the bytes stand. -/
def lowTo (f : Nat → UInt8) (q p : Nat) : UInt8 := if q ≤ p then f p else 0
theorem lowTo_set (f : Nat → UInt8) (q p : Nat) (z : Int) (hz : z = bN (f q)) : (if p = q then Value.int .u8 z else bF (lowTo f (q + 1)) p) = bF (lowTo f q) p := by
  subst hz
  simp only [bF, lowTo]
  by_cases h : p = q
  · subst h; simp
  · by_cases h2 : q ≤ p
    · rw [if_neg h, if_pos (by omega), if_pos h2]
    · rw [if_neg h, if_neg (by omega), if_neg h2]
theorem hiB_low (n s q : Nat) (hq : q < s) : ((n / 2 ^ (8 * (s - (q + 1))) : Nat) : Int) % 256 = bN (hiB n s q) := by
  rw [hiB, bN, UInt8.toNat_ofNat', show s - (q + 1) = s - 1 - q by omega]
  omega
theorem div_next (n s q : Nat) (hq : q < s) : ((n / 2 ^ (8 * (s - (q + 1))) : Nat) : Int) / 256 = ((n / 2 ^ (8 * (s - q)) : Nat) : Int) := by
  rw [show 8 * (s - q) = 8 * (s - (q + 1)) + 8 by omega, Nat.pow_add, ← Nat.div_div_eq_div_mul]
  omega
set_option maxHeartbeats 1000000 in
theorem RNumber_any (n : Int) (s : Nat) (hs : 1 ≤ s) (hs2 : s ≤ 8) (w : World) :
    Cv 35 #[.int .i64 n, .int .i64 (s : Int)] w (svRdN w (hiL (wN n) s)) := by
  unfold Cv
  obtain ⟨i0, hi, hz0, hz1, hz2⟩ := info_parts info5
  have hmk : ∀ W : World, (Instr.makeSlice 24 (.int .i64 (s : Int)) (.int .i64 (s : Int))).run Tryd.prog W = .ok (.slice (some ⟨W.heap.size, 0, none⟩) s s) (W.alloc (.cells (rowA s (bF fun _ => 0)) 5)) := make_bytes i0 hi hz0 hz1 hz2 s (by omega)
  have hw : IntKind.u64.wrap n = (wN n : Int) := wN_eq n
  have hwl : wN n < 18446744073709551616 := by unfold wN; omega
  obtain ⟨M, hM⟩ : ∃ M, wN n = M := ⟨_, rfl⟩
  rw [hM] at hw hwl
  rw [hM]
  clear hi hz0 hz1 hz2 hM
  go_enter Tryd.func35, Tryd.ntmps35
  go_wp2
  clear hw
  have r0 := rowIs_box w 5 s (bF fun _ => 0)
  have hB : Below w.heap.size w (w.alloc (.cells (rowA s (bF fun _ => 0)) 5)) := (Below.refl _ w).alloc (Nat.le_refl _) _
  generalize w.alloc (.cells (rowA s (bF fun _ => 0)) 5) = W0 at r0 hB ⊢
  clear hmk
  go_loopw [6, 7] (fun u i wr => ∃ q : Nat, q ≤ s ∧ u = .int .u64 ((M / 2 ^ (8 * (s - q)) : Nat) : Int) ∧ i = .int .i64 ((q : Int) - 1) ∧ wr.rowIs w.heap.size 5 s (bF (lowTo (hiB M s) q)) ∧ Below w.heap.size w wr) (fun _ i _ => (intOf i + 1).toNat)
  case atStart => exact ⟨s, Nat.le_refl _, by simp, rfl, r0.congr fun p hp => by simp only [bF, lowTo]; rw [if_neg (by omega)], hB⟩
  case round =>
    obtain ⟨q, hq, rfl, rfl, q0, qB⟩ := hrel
    clear r0 hB
    cases q with
    | succ q =>
      rw [show ((q + 1 : Nat) : Int) - 1 = (q : Int) by omega]
      have hb1 := hiB_low M s q (by omega)
      have hb2 := div_next M s q (by omega)
      have hle : M / 2 ^ (8 * (s - (q + 1))) < 18446744073709551616 := Nat.lt_of_le_of_lt (Nat.div_le_self _ _) hwl
      generalize M / 2 ^ (8 * (s - (q + 1))) = m1 at hb1 hb2 hle
      generalize hm2 : M / 2 ^ (8 * (s - q)) = m2 at hb2
      have Hb1 := Lib.hid hb1
      have Hb2 := Lib.hid hb2
      have Hm2 := Lib.hid hm2
      clear hb1 hb2 hm2
      have c0 := q0.cell (i := q) (by omega)
      have f0 := q0.frozen q
      go_wp2
      go_roundw
      case rel =>
        refine ⟨q, by omega, ?_, by go_num, (q0.set q _).congr fun p _ => lowTo_set _ q p _ ?_, qB.setCell (by simp) _⟩
        · rw [Hm2.out, ← Hb2.out]
        · exact Hb1.out
      case measure => simp [intOf]
    | zero =>
      go_wp2
      go_ret
      refine ⟨_, rfl, qB, fun L hL => ?_⟩
      have := rd_row (L := L) q0 (fun hm => by have := hL _ hm; omega) (by omega)
      have e : (List.range s).map (lowTo (hiB M s) 0) = hiL M s := List.map_congr_left fun i hi => by simp [lowTo]
      rw [e] at this
      exact this
theorem RNumber_8 (n : Int) (w : World) : Cv 35 #[.int .i64 n, .int .i64 8] w (svRdN w (hiL (wN n) 8)) := RNumber_any n 8 (by omega) (by omega) w
theorem RNumber_4 (n : Int) (w : World) : Cv 35 #[.int .i64 n, .int .i64 4] w (svRdN w (hiL (wN n) 4)) := RNumber_any n 4 (by omega) (by omega) w
theorem RNumber_8s (n : Int) (w : World) : Cv 35 #[.int .i64 n, .int .i64 8] w (svRd (hiL (wN n) 8)) := Calls.mono (RNumber_8 n w) fun _ _ ⟨v, he, hN, h⟩ => ⟨v, he, hN, h [] (by simp)⟩
end Go.Proofs.YtpoebajpmkcjdaaDoor
