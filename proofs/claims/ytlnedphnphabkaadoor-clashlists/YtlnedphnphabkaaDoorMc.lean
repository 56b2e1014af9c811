/- The reference's Turn. -/
import Derived.Test.YtlnedphnphabkaaDoorMb
import Derived.Test.YtlnedphnphabkaaDoorMa
import Derived.Lib.AppendZeros
import Derived.Defers
import Derived.Recover
set_option linter.all false
namespace Go.Proofs.YtlnedphnphabkaaDoor
open Go.RowKit
set_option maxRecDepth 8000
set_option linter.all false
/-- Numbers of 32 bits in cells of 64. -/
def vF (s : Nat → BitVec 32) : Nat → Value := fun i => .int .u64 (uN (s i))
theorem vF_at (s : Nat → BitVec 32) (i : Nat) : vF s i = .int .u64 (uN (s i)) := rfl
theorem wS_final (l : List UInt8) (n i : Nat) (h : i < 16 + n) (hn : n ≤ 48) : wS l 48 i = wS l n i := by
  obtain ⟨k, hk⟩ : ∃ k, 48 = n + k := ⟨48 - n, by omega⟩
  rw [hk]
  clear hk hn
  induction k with
  | zero => rfl
  | succ k ih => rw [← Nat.add_assoc, wS_old l (n + k) i (by omega), ih]
theorem wS_first (l : List UInt8) (i : Nat) (h : i < 16) : wS l 48 i = wordTo l i 4 := by
  rw [wS_final l 0 i (by omega) (by omega)]; simp [wS, schedL, h]
theorem wS_rec (l : List UInt8) (t : Nat) (h1 : 16 ≤ t) (h2 : t < 64) : wS l 48 t = ss1 (wS l 48 (t - 2)) + wS l 48 (t - 7) + ss0 (wS l 48 (t - 15)) + wS l 48 (t - 16) := by
  obtain ⟨n, rfl⟩ : ∃ n, t = 16 + n := ⟨t - 16, by omega⟩
  rw [wS_final l (n + 1) (16 + n) (by omega) (by omega), wS_new, show 16 + n - 2 = n + 14 by omega, show 16 + n - 7 = n + 9 by omega, show 16 + n - 15 = n + 1 by omega, show 16 + n - 16 = n by omega,
    wS_final l n (n + 14) (by omega) (by omega), wS_final l n (n + 9) (by omega) (by omega), wS_final l n (n + 1) (by omega) (by omega), wS_final l n n (by omega) (by omega)]
theorem word_step (x : BitVec 32) (b : UInt8) (hx : x.toNat < 16777216) : (x <<< 8 ||| b.toBitVec.setWidth 32).toNat = x.toNat * 256 + b.toNat := by
  have hb := b.toNat_lt
  have e1 : (x <<< 8).toNat = x.toNat <<< 8 := by rw [BitVec.toNat_shiftLeft, Nat.mod_eq_of_lt]; rw [Nat.shiftLeft_eq]; omega
  have e2 : (b.toBitVec.setWidth 32).toNat = b.toNat := by rw [BitVec.toNat_setWidth]; show b.toNat % _ = _; omega
  rw [BitVec.toNat_or, e1, e2, ← Nat.shiftLeft_add_eq_or_of_lt (by omega), Nat.shiftLeft_eq]
theorem word_num (l : List UInt8) (t : Nat) : uN (wordTo l t 4) = ((bN (bAt l (4 * t)) * 256 + bN (bAt l (4 * t + 1))) * 256 + bN (bAt l (4 * t + 2))) * 256 + bN (bAt l (4 * t + 3)) := by
  have h0 := (bAt l (4 * t)).toNat_lt
  have h1 := (bAt l (4 * t + 1)).toNat_lt
  have h2 := (bAt l (4 * t + 2)).toNat_lt
  have h3 := (bAt l (4 * t + 3)).toNat_lt
  have e1 : (wordTo l t 1).toNat = (bAt l (4 * t)).toNat := by simp [wordTo]
  have e2 : (wordTo l t 2).toNat = (wordTo l t 1).toNat * 256 + (bAt l (4 * t + 1)).toNat := word_step (wordTo l t 1) _ (by omega)
  have e3 : (wordTo l t 3).toNat = (wordTo l t 2).toNat * 256 + (bAt l (4 * t + 2)).toNat := word_step (wordTo l t 2) _ (by omega)
  have e4 : (wordTo l t 4).toNat = (wordTo l t 3).toNat * 256 + (bAt l (4 * t + 3)).toNat := word_step (wordTo l t 3) _ (by omega)
  unfold uN bN
  omega
/-- The first t numbers of a list, the others 0. -/
def cutT (s : Nat → BitVec 32) (t : Nat) : Nat → BitVec 32 := fun i => if i < t then s i else 0
theorem cutT_at (s : Nat → BitVec 32) (t i : Nat) (h : i < t) : cutT s t i = s i := if_pos h
theorem cutT_set (s : Nat → BitVec 32) (t : Nat) (z : Int) (hz : z = uN (s t)) (i : Nat) : (if i = t then Value.int .u64 z else vF (cutT s t) i) = vF (cutT s (t + 1)) i := by
  subst hz
  simp only [vF, cutT]
  by_cases h : i = t
  · subst h; simp
  · by_cases h2 : i < t
    · rw [if_neg h, if_pos h2, if_pos (by omega)]
    · rw [if_neg h, if_neg h2, if_neg (by omega)]
theorem rowIs_zeros64 (s : Nat → BitVec 32) (w : World) (t : TypeId) (n : Nat) : (w.alloc (.cells (Array.replicate n (.int .u64 0)) t)).rowIs w.heap.size t n (vF (cutT s 0)) := by
  have := World.rowIs_alloc w (Array.replicate n (.int .u64 0)) t (vF (cutT s 0)) (fun i hi => by simp at hi; simp [vF, cutT, hi, uN])
  simpa using this
theorem info47 : (Tryd.prog.info? 96).map (·.size) = some 8 := by kernel_rfl
theorem wrap32_uN (x : BitVec 32) : IntKind.u32.wrap (uN x) = uN x := wrap_uN x

attribute [local go_sem] uF_at
set_option maxRecDepth 20000 in
set_option maxHeartbeats 1000000 in
theorem RTurn_no (s : Nat → BitVec 32) (A : Option Addr) (n cap : Nat) (hn : n ≠ 64) (w : World) :
    Calls Tryd.prog 54 #[.agg (rowA 8 (uF s)), .slice A n cap] w fun e w' => e = .returned (.agg (rowA 8 (uF s))) ∧ Below w.heap.size w w' := by
  have hn2 : ((n : Int) == 64) = false := by simp; omega
  have r0 := (rowIs_box w 71 8 (uF s)).alloc (.cells (rowA 8 fun _ => .int .u32 0) 71)
  have r1 := rowIs_box (w.alloc (.cells (rowA 8 (uF s)) 71)) 71 8 fun _ => .int .u32 0
  have hB : Below w.heap.size w ((w.alloc (.cells (rowA 8 (uF s)) 71)).alloc (.cells (rowA 8 fun _ => .int .u32 0) 71)) :=
    ((Below.refl _ w).alloc (Nat.le_refl _) _).alloc (by simp) _
  rw [World.size_alloc] at r1
  have hR := rangeAt_row r0
  go_enter Tryd.func54, Tryd.ntmps54
  go_wp2_with (first
    | (refine wpList_load_mid rfl 71 (.tmp 2) rfl w.heap.size 0 rfl (rowA 8 (uF s)).toList _ hR Tryd.underlying71 rfl (by rw [rowA_toList]; simpa using info23) ?_)
    | (refine wpList_store_mid rfl 71 (.tmp 4) (.tmp 22) rfl (w.heap.size + 1) 0 (rowA 8 (uF s)) rfl rfl (by rw [rowA_size]; exact there_row r1) (by rw [rowA_size]; exact info23) (rowA_one _ _ fun _ => rfl) ?_))
  exact bodyPost_ret (results_row rfl _ rfl (rowIs_setAll r1 (uF s)) Tryd.underlying71 info23) rfl ⟨rfl, below_setCells _ (by omega) _ _ _ hB⟩
attribute [local go_sem] vF_at wrap64_uN wrap32_uN u64_xor u64_and u64_not u64_add2 u64_add3 u64_add4 u64_add5 mod_t2 mod_t4 mod_t5 tmod_t2 tmod_t4 tmod_t5
def RT1 (s : Nat → BitVec 32) (l : List UInt8) (w : World) (t : Nat) (wr : World) : Prop :=
  wr.rowIs w.heap.size 71 8 (uF s) ∧ wr.rowIs (w.heap.size + 1) 71 8 (fun _ => .int .u32 0) ∧ wr.rowIs (w.heap.size + 1 + 1) 94 64 (vF (cutT (wS l 48) t)) ∧ Below w.heap.size w wr
set_option maxRecDepth 20000 in
set_option maxHeartbeats 4000000 in
theorem RTurn_any (K s : Nat → BitVec 32) (l : List UInt8) (b o cap : Nat) (_ : 64 ≤ cap) (_ : cap ≤ maxLen) (w : World) (hb : b < w.heap.size) (h1 : 1 < w.heap.size)
    (hK : ∀ i, i < 64 → w.cell? ⟨1, i, none⟩ = some (.int .u32 (uN (K i))))
    (hc : ∀ i, i < 64 → w.cell? ⟨b, o + i, none⟩ = some (.int .u8 (bN (bAt l i)))) :
    Calls Tryd.prog 54 #[.agg (rowA 8 (uF s)), .slice (some ⟨b, o, none⟩) 64 cap] w fun e w' => e = .returned (.agg (rowA 8 (uF fun i => s i + (runTo K (wS l 48) (St.of s) 64).get i))) ∧ Below w.heap.size w w' := by
  have HK := Lib.hid hK
  have HC := Lib.hid hc
  clear hK hc
  go_enter Tryd.func54, Tryd.ntmps54
  go_wp2
  have r0 := ((rowIs_box w 71 8 (uF s)).alloc (.cells (rowA 8 fun _ => .int .u32 0) 71)).alloc (.cells (Array.replicate 64 (.int .u64 0)) 94)
  have r1 := (rowIs_box (w.alloc (.cells (rowA 8 (uF s)) 71)) 71 8 fun _ => .int .u32 0).alloc (.cells (Array.replicate 64 (.int .u64 0)) 94)
  have r2 := rowIs_zeros64 (wS l 48) ((w.alloc (.cells (rowA 8 (uF s)) 71)).alloc (.cells (rowA 8 fun _ => .int .u32 0) 71)) 94 64
  have hB : Below w.heap.size w (((w.alloc (.cells (rowA 8 (uF s)) 71)).alloc (.cells (rowA 8 fun _ => .int .u32 0) 71)).alloc (.cells (Array.replicate 64 (.int .u64 0)) 94)) :=
    (((Below.refl _ w).alloc (Nat.le_refl _) _).alloc (by simp) _).alloc (by simp; omega) _
  rw [World.size_alloc] at r1 r2
  rw [World.size_alloc] at r2
  change Code.wp _ _ _ _ (((w.alloc (.cells (rowA 8 (uF s)) 71)).alloc (.cells (rowA 8 fun _ => .int .u32 0) 71)).alloc (.cells (Array.replicate 64 (.int .u64 0)) 94))
  generalize (((w.alloc (.cells (rowA 8 (uF s)) 71)).alloc (.cells (rowA 8 fun _ => .int .u32 0) 71)).alloc (.cells (Array.replicate 64 (.int .u64 0)) 94)) = W0 at r0 r1 r2 hB ⊢
  go_loopw [6] (fun i wr => ∃ t : Nat, t ≤ 64 ∧ i = .int .i64 t ∧ RT1 s l w t wr) (fun i _ => 64 - (intOf i).toNat)
  case atStart => exact ⟨0, by omega, rfl, r0, r1, r2, hB⟩
  case round =>
    obtain ⟨t, ht, rfl, q0, q1, q2, qB⟩ := hrel
    clear r0 r1 r2 hB
    by_cases hlt : t < 64
    · by_cases h16 : t < 16
      · have e0 : wr.cell? ⟨b, o + 4 * t, none⟩ = _ := (qB.cell (p := ⟨b, o + (4 * t), none⟩) hb).trans (HC.out (4 * t) (by omega))
        have e1 : wr.cell? ⟨b, o + (4 * t + 1), none⟩ = _ := (qB.cell (p := ⟨b, o + (4 * t + 1), none⟩) hb).trans (HC.out (4 * t + 1) (by omega))
        have e2 : wr.cell? ⟨b, o + (4 * t + 2), none⟩ = _ := (qB.cell (p := ⟨b, o + (4 * t + 2), none⟩) hb).trans (HC.out (4 * t + 2) (by omega))
        have e3 : wr.cell? ⟨b, o + (4 * t + 3), none⟩ = _ := (qB.cell (p := ⟨b, o + (4 * t + 3), none⟩) hb).trans (HC.out (4 * t + 3) (by omega))
        have hz := word_num l t
        obtain ⟨z0, y0, x0⟩ : ∃ z : Nat, z < 256 ∧ bN (bAt l (4 * t)) = (z : Int) := ⟨(bAt l (4 * t)).toNat, UInt8.toNat_lt _, rfl⟩
        obtain ⟨z1, y1, x1⟩ : ∃ z : Nat, z < 256 ∧ bN (bAt l (4 * t + 1)) = (z : Int) := ⟨(bAt l (4 * t + 1)).toNat, UInt8.toNat_lt _, rfl⟩
        obtain ⟨z2, y2, x2⟩ : ∃ z : Nat, z < 256 ∧ bN (bAt l (4 * t + 2)) = (z : Int) := ⟨(bAt l (4 * t + 2)).toNat, UInt8.toNat_lt _, rfl⟩
        obtain ⟨z3, y3, x3⟩ : ∃ z : Nat, z < 256 ∧ bN (bAt l (4 * t + 3)) = (z : Int) := ⟨(bAt l (4 * t + 3)).toNat, UInt8.toNat_lt _, rfl⟩
        rw [x0] at e0 hz
        rw [x1] at e1 hz
        rw [x2] at e2 hz
        rw [x3] at e3 hz
        clear x0 x1 x2 x3
        have Hz := Lib.hid hz
        clear hz
        have j0 : (0 : Int) ≤ 4 * (t : Int) := by omega
        have j1 : (0 : Int) ≤ 4 * (t : Int) + 1 := by omega
        have j2 : (0 : Int) ≤ 4 * (t : Int) + 2 := by omega
        have j3 : (0 : Int) ≤ 4 * (t : Int) + 3 := by omega
        have i0 : 4 * (t : Int) < 64 := by omega
        have i1 : 4 * (t : Int) + 1 < 64 := by omega
        have i2 : 4 * (t : Int) + 2 < 64 := by omega
        have i3 : 4 * (t : Int) + 3 < 64 := by omega
        have it : (t : Int) < 64 := by omega
        have it2 : (t : Int) < 16 := by omega
        have ct := q2.cell (i := t) hlt
        have cf := q2.frozen t
        go_wp2
        refine wp_region_still_tail 35 (by kernel_rfl) (by kernel_rfl) ?_
        simp only [List.take_succ_cons, List.take_zero, List.drop_succ_cons, List.drop_zero]
        repeat (refine wpStill_step (fun K hK => ?_); go_simp; (try go_bits); refine hK _ ?_; clear hK K)
        refine wpStill_nil ?_
        go_wp2
        go_roundw
        case rel => exact ⟨t + 1, by omega, by go_num, q0.drew.setOther (by simp; omega) _, q1.drew.setOther (by simp) _, (q2.drew.set t _).congr fun i _ => cutT_set (wS l 48) t _ (by rw [wS_first l t h16, Hz.out]) i, (qB.setCell (p := ⟨w.heap.size + 1 + 1, t, none⟩) (by simp; omega) _).drew⟩
        case measure => simp [intOf]; omega
      · have c2 := q2.cell (i := t - 2) (by omega)
        have c7 := q2.cell (i := t - 7) (by omega)
        have c15 := q2.cell (i := t - 15) (by omega)
        have c16 := q2.cell (i := t - 16) (by omega)
        rw [vF_at, cutT_at _ _ _ (by omega)] at c2 c7 c15 c16
        have ct := q2.cell (i := t) hlt
        have cf := q2.frozen t
        have hz := wS_rec l t (by omega) hlt
        have Hz := Lib.hid hz
        clear hz
        generalize wS l 48 (t - 2) = y2 at c2 Hz
        generalize wS l 48 (t - 7) = y7 at c7 Hz
        generalize wS l 48 (t - 15) = y15 at c15 Hz
        generalize wS l 48 (t - 16) = y16 at c16 Hz
        have i2 : (2 : Int) ≤ t := by omega
        have j2 : (t : Int) - 2 < 64 := by omega
        have i7 : (7 : Int) ≤ t := by omega
        have j7 : (t : Int) - 7 < 64 := by omega
        have i15 : (15 : Int) ≤ t := by omega
        have j15 : (t : Int) - 15 < 64 := by omega
        have i16 : (16 : Int) ≤ t := by omega
        have j16 : (t : Int) - 16 < 64 := by omega
        have it : (t : Int) < 64 := by omega
        have it2 : ¬ (t : Int) < 16 := by omega
        go_wp2
        refine wp_region_still_lit (by kernel_rfl) (by kernel_rfl) ?_
        repeat (refine wpStill_step (fun K hK => ?_); go_simp; (try go_bits); refine hK _ ?_; clear hK K)
        refine wpStill_nil ?_
        go_wp2
        change Code.wp _ _ _ _ wr.drew
        replace q0 := q0.drew
        replace q1 := q1.drew
        replace q2 := q2.drew
        replace qB := qB.drew
        replace c2 := cell_drew c2
        replace c7 := cell_drew c7
        replace c15 := cell_drew c15
        replace c16 := cell_drew c16
        replace ct := cell_drew ct
        replace cf : wr.drew.frozen? ⟨w.heap.size + 1 + 1, t, none⟩ = false := cf
        generalize wr.drew = wr2 at q0 q1 q2 qB c2 c7 c15 c16 ct cf ⊢
        refine wp_region_still_tail 30 (by kernel_rfl) (by kernel_rfl) ?_
        simp only [List.take_succ_cons, List.take_zero, List.drop_succ_cons, List.drop_zero]
        repeat (refine wpStill_step (fun K hK => ?_); go_simp; (first
          | (refine ⟨_, ((right_any _ _ (by decide) (by decide) _).mono fun _ _ h => ⟨h.1, h.2.symm⟩), hK _ ?_⟩)
          | (refine ⟨_, ((shift_any _ _ (by decide) (by decide) _).mono fun _ _ h => ⟨h.1, h.2.symm⟩), hK _ ?_⟩)
          | ((try go_bits); refine hK _ ?_)); clear hK K)
        refine wpStill_nil ?_
        go_wp2
        go_roundw
        case rel => exact ⟨t + 1, by omega, by go_num, q0.drew.setOther (by simp; omega) _, q1.drew.setOther (by simp) _, (q2.drew.set t _).congr fun i _ => cutT_set (wS l 48) t _ (by rw [Hz.out]; rfl) i, (qB.setCell (p := ⟨w.heap.size + 1 + 1, t, none⟩) (by simp; omega) _).drew⟩
        case measure => simp [intOf]; omega
    · obtain rfl : t = 64 := by omega
      rw [show ((64 : Nat) : Int) = 64 from rfl]
      have hgB : w.heap.size + 1 + 1 < wr.heap.size := q2.lt
      have q3 := rowIs_zeros64 s wr 96 8
      replace q0 := q0.alloc (.cells (Array.replicate 8 (.int .u64 0)) 96)
      replace q1 := q1.alloc (.cells (Array.replicate 8 (.int .u64 0)) 96)
      replace q2 := q2.alloc (.cells (Array.replicate 8 (.int .u64 0)) 96)
      replace q2 := q2.congr (g := vF (wS l 48)) fun i hi => by rw [vF_at, vF_at, cutT_at _ _ _ hi]
      have qB2 := qB.alloc qB.size (.cells (Array.replicate 8 (.int .u64 0)) 96)
      go_wp2
      change Code.wp _ _ _ _ (wr.alloc (.cells (Array.replicate 8 (.int .u64 0)) 96))
      generalize wr.heap.size = g at hgB q3 ⊢
      generalize wr.alloc (.cells (Array.replicate 8 (.int .u64 0)) 96) = W1 at q0 q1 q2 q3 qB2 ⊢
      clear qB
      go_loopw [10] (fun i wr => ∃ t : Nat, t ≤ 8 ∧ i = .int .i64 t ∧ wr.rowIs w.heap.size 71 8 (uF s) ∧ wr.rowIs (w.heap.size + 1) 71 8 (fun _ => .int .u32 0) ∧ wr.rowIs (w.heap.size + 1 + 1) 94 64 (vF (wS l 48)) ∧ wr.rowIs g 96 8 (vF (cutT s t)) ∧ Below w.heap.size w wr) (fun i _ => 8 - (intOf i).toNat)
      case atStart => exact ⟨0, by omega, rfl, q0, q1, q2, q3, qB2⟩
      case round =>
        clear q0 q1 q2 q3 qB2
        obtain ⟨t, ht, rfl, q0, q1, q2, q3, qB⟩ := hrel
        by_cases hlt : t < 8
        · have c0 := q0.cell (i := t) hlt
          have c3 := q3.cell (i := t) hlt
          have f3 := q3.frozen t
          have it : (t : Int) < 8 := by omega
          go_wp2
          go_roundw
          case rel => exact ⟨t + 1, by omega, by go_num, q0.setOther (by simp; omega) _, q1.setOther (by simp; omega) _, q2.setOther (by simp; omega) _, (q3.set t _).congr fun i _ => cutT_set s t _ rfl i, (qB.setCell (p := ⟨g, t, none⟩) (by simp; omega) _)⟩
          case measure => simp [intOf]; omega
        · obtain rfl : t = 8 := by omega
          rw [show ((8 : Nat) : Int) = 8 from rfl]
          replace q3 := q3.congr (g := vF (St.of s).get) fun i hi => by
            rw [vF_at, vF_at, cutT_at _ _ _ hi]
            match i, hi with
            | 0, _ => rfl | 1, _ => rfl | 2, _ => rfl | 3, _ => rfl | 4, _ => rfl | 5, _ => rfl | 6, _ => rfl | 7, _ => rfl
          go_wp2
          rename_i wr1
          generalize wr = W2 at q0 q1 q2 q3 qB ⊢
          go_loopw [11] (fun i wr => ∃ (t : Nat) (x : St), t ≤ 64 ∧ i = .int .i64 t ∧ Hid (x = runTo K (wS l 48) (St.of s) t) ∧ wr.rowIs w.heap.size 71 8 (uF s) ∧ wr.rowIs (w.heap.size + 1) 71 8 (fun _ => .int .u32 0) ∧ wr.rowIs (w.heap.size + 1 + 1) 94 64 (vF (wS l 48)) ∧ wr.rowIs g 96 8 (vF x.get) ∧ Below w.heap.size w wr) (fun i _ => 64 - (intOf i).toNat)
          case atStart => exact ⟨0, St.of s, by omega, rfl, rfl, q0, q1, q2, q3, qB⟩
          case round =>
            clear q0 q1 q2 q3 qB
            obtain ⟨t, x, ht, rfl, hx, q0, q1, q2, q3, qB⟩ := hrel
            by_cases hlt : t < 64
            · have cK := (qB.cell (p := ⟨1, t, none⟩) h1).trans (HK.out t hlt)
              have cW := q2.cell (i := t) hlt
              rw [vF_at] at cW
              obtain ⟨Wt, HWt⟩ : ∃ Wt, Hid (wS l 48 t = Wt) := ⟨_, Lib.hid rfl⟩
              rw [HWt.out] at cW
              have it : (t : Int) < 64 := by omega
              have c0 : wr.cell? ⟨g, 0, none⟩ = some (.int .u64 (uN x.a)) := q3.cell (i := 0) (by omega)
              have c1 : wr.cell? ⟨g, 1, none⟩ = some (.int .u64 (uN x.b)) := q3.cell (i := 1) (by omega)
              have c2 : wr.cell? ⟨g, 2, none⟩ = some (.int .u64 (uN x.c)) := q3.cell (i := 2) (by omega)
              have c3 : wr.cell? ⟨g, 3, none⟩ = some (.int .u64 (uN x.d)) := q3.cell (i := 3) (by omega)
              have c4 : wr.cell? ⟨g, 4, none⟩ = some (.int .u64 (uN x.e)) := q3.cell (i := 4) (by omega)
              have c5 : wr.cell? ⟨g, 5, none⟩ = some (.int .u64 (uN x.f)) := q3.cell (i := 5) (by omega)
              have c6 : wr.cell? ⟨g, 6, none⟩ = some (.int .u64 (uN x.g)) := q3.cell (i := 6) (by omega)
              have c7 : wr.cell? ⟨g, 7, none⟩ = some (.int .u64 (uN x.h)) := q3.cell (i := 7) (by omega)
              go_wp2
              refine wp_region_still_lit (by kernel_rfl) (by kernel_rfl) ?_
              repeat (refine wpStill_step (fun K hK => ?_); go_simp; (try go_bits); refine hK _ ?_; clear hK K)
              refine wpStill_nil ?_
              go_wp2_with fail
              change Code.wp _ _ _ _ wr.drew
              replace q0 := q0.drew
              replace q1 := q1.drew
              replace q2 := q2.drew
              replace q3 := q3.drew
              replace qB := qB.drew
              replace cK := cell_drew cK
              replace cW := cell_drew cW
              replace c0 := cell_drew c0
              replace c1 := cell_drew c1
              replace c2 := cell_drew c2
              replace c3 := cell_drew c3
              replace c4 := cell_drew c4
              replace c5 := cell_drew c5
              replace c6 := cell_drew c6
              replace c7 := cell_drew c7
              generalize wr.drew = wr2 at q0 q1 q2 q3 qB cK cW c0 c1 c2 c3 c4 c5 c6 c7 ⊢
              refine wp_region_still_lit (by kernel_rfl) (by kernel_rfl) ?_
              repeat (refine wpStill_step (fun K hK => ?_); go_simp; (first
                | (refine ⟨_, ((right_any _ _ (by decide) (by decide) _).mono fun _ _ h => ⟨h.1, h.2.symm⟩), hK _ ?_⟩)
                | ((try go_bits); refine hK _ ?_)); clear hK K)
              refine wpStill_nil ?_
              change Exit.then _ _ _ _ wr2.drew
              replace q0 := q0.drew
              replace q1 := q1.drew
              replace q2 := q2.drew
              replace q3 := q3.drew
              replace qB := qB.drew
              replace c0 := cell_drew c0
              replace c1 := cell_drew c1
              replace c2 := cell_drew c2
              replace c3 := cell_drew c3
              replace c4 := cell_drew c4
              replace c5 := cell_drew c5
              replace c6 := cell_drew c6
              replace c7 := cell_drew c7
              clear cK cW
              generalize wr2.drew = wr3 at q0 q1 q2 q3 qB c0 c1 c2 c3 c4 c5 c6 c7 ⊢
              obtain ⟨o1, Ho1⟩ : ∃ o1, Hid (x.h + (x.e.rotateRight 6 ^^^ x.e.rotateRight 11 ^^^ x.e.rotateRight 25) + (x.e &&& x.f ^^^ ~~~x.e &&& x.g) + K t + Wt = o1) := ⟨_, Lib.hid rfl⟩
              obtain ⟨m1, Hm1⟩ : ∃ m1, Hid (x.a &&& x.b ^^^ x.a &&& x.c ^^^ x.b &&& x.c = m1) := ⟨_, Lib.hid rfl⟩
              rw [Ho1.out, Hm1.out]
              go_wp2_with fail
              refine (right_any _ _ (by decide) (by decide) _).mono ?_
              rintro e w' ⟨rfl, rfl⟩
              go_wp2_with fail
              refine (right_any _ _ (by decide) (by decide) _).mono ?_
              rintro e w' ⟨rfl, rfl⟩
              go_wp2_with fail
              refine (right_any _ _ (by decide) (by decide) _).mono ?_
              rintro e w' ⟨rfl, rfl⟩
              go_upto_region 24 with fail
              obtain ⟨o2, Ho2⟩ : ∃ o2, Hid ((x.a.rotateRight (2 : Int).toNat ^^^ x.a.rotateRight (13 : Int).toNat ^^^ x.a.rotateRight (22 : Int).toNat) + m1 = o2) := ⟨_, Lib.hid rfl⟩
              first | rw [Ho2.out] | (simp only [Int.reduceToNat] at Ho2; rw [Ho2.out])
              refine wp_region_lit ?_
              iterate 22 (refine wpList_plain rfl (fun K hK => ?_); go_simp; (try go_bits); refine hK _ _ ?_; clear hK K)
              have hth := there_row q3
              refine wpList_store_mid rfl 96 (.tmp 9) (.tmp 200) rfl g 0 #[.int .u64 (uN (o1 + o2)), .int .u64 (uN x.a), .int .u64 (uN x.b), .int .u64 (uN x.c), .int .u64 (uN (x.d + o1)), .int .u64 (uN x.e), .int .u64 (uN x.f), .int .u64 (uN x.g)] ?_ ?_ hth info47 ?_ ?_
              · go_simp
              · go_simp
              · simp [Value.oneCell']
              obtain ⟨nx, hnx⟩ : ∃ nx : St, nx = ⟨o1 + o2, x.a, x.b, x.c, x.d + o1, x.e, x.f, x.g⟩ := ⟨_, rfl⟩
              have hL : (#[.int .u64 (uN (o1 + o2)), .int .u64 (uN x.a), .int .u64 (uN x.b), .int .u64 (uN x.c), .int .u64 (uN (x.d + o1)), .int .u64 (uN x.e), .int .u64 (uN x.f), .int .u64 (uN x.g)] : Array Value).toList = (rowA 8 (vF nx.get)).toList := by rw [hnx]; rfl
              rw [hL]
              have Hnx : Hid (nx = runTo K (wS l 48) (St.of s) (t + 1)) := Lib.hid (by
                rw [runTo, ← hx.out, HWt.out, hnx, ← Ho1.out, ← Ho2.out, ← Hm1.out]; rfl)
              clear hL hnx Ho1 Ho2 Hm1 c0 c1 c2 c3 c4 c5 c6 c7 hth
              replace q0 := rowIs_setOther q0 (b' := g) (by omega) (rowA 8 (vF nx.get)).toList 0
              replace q1 := rowIs_setOther q1 (b' := g) (by omega) (rowA 8 (vF nx.get)).toList 0
              replace q2 := rowIs_setOther q2 (b' := g) (by omega) (rowA 8 (vF nx.get)).toList 0
              replace q3 := rowIs_setAll q3 (vF nx.get)
              replace qB := below_setCells g (by omega) (rowA 8 (vF nx.get)).toList 0 _ qB
              generalize wr3.setCells g 0 (rowA 8 (vF nx.get)).toList = wr4 at q0 q1 q2 q3 qB ⊢
              go_wp2
              go_roundw
              case rel => exact ⟨t + 1, nx, by omega, by go_num, Hnx, q0, q1, q2, q3, qB⟩
              case measure => simp [intOf]; omega
            · obtain rfl : t = 64 := by omega
              rw [show ((64 : Nat) : Int) = 64 from rfl]
              obtain ⟨T, HT2⟩ : ∃ T, Hid (x.get = T) := ⟨_, Lib.hid rfl⟩
              rw [HT2.out] at q3
              clear q2
              go_wp2
              generalize wr = W3 at q0 q1 q3 qB ⊢
              go_loopw [18] (fun i wr => ∃ k : Nat, k ≤ 8 ∧ i = .int .i64 k ∧ wr.rowIs w.heap.size 71 8 (uF (mixed s T k)) ∧ wr.rowIs (w.heap.size + 1) 71 8 (fun _ => .int .u32 0) ∧ wr.rowIs g 96 8 (vF T) ∧ Below w.heap.size w wr) (fun i _ => 8 - (intOf i).toNat)
              case atStart => exact ⟨0, by omega, rfl, q0, q1, q3, qB⟩
              case round =>
                clear q0 q1 q3 qB
                obtain ⟨k, hk, rfl, q0, q1, q3, qB⟩ := hrel
                by_cases hlt : k < 8
                · have c0 := q0.cell (i := k) (by omega)
                  rw [uF_at, show mixed s T k k = s k by simp [mixed]] at c0
                  have c3 := q3.cell (i := k) (by omega)
                  have f0 := q0.frozen k
                  have i8 : (k : Int) < 8 := by omega
                  go_wp2
                  refine wp_region_still_tail 12 (by kernel_rfl) (by kernel_rfl) ?_
                  simp only [List.take_succ_cons, List.take_zero, List.drop_succ_cons, List.drop_zero]
                  repeat (refine wpStill_step (fun K hK => ?_); go_simp; (try go_bits); refine hK _ ?_; clear hK K)
                  refine wpStill_nil ?_
                  go_wp2
                  go_roundw
                  case rel => exact ⟨k + 1, by omega, by go_num, ((q0.set k _).congr fun i _ => mixed_set s T k i), q1.setOther (by simp) _, q3.setOther (by simp; omega) _, (qB.setCell (p := ⟨w.heap.size, k, none⟩) (by simp) _).drew⟩
                  case measure => simp [intOf]; omega
                · obtain rfl : k = 8 := by omega
                  have hR := rangeAt_row q0
                  go_wp2_with (first
                    | (refine wpList_load_mid rfl 71 (.tmp 2) rfl w.heap.size 0 rfl (rowA 8 (uF (mixed s T 8))).toList _ hR Tryd.underlying71 rfl (by rw [rowA_toList]; simpa using info23) ?_)
                    | (refine wpList_store_mid rfl 71 (.tmp 4) (.tmp 217) rfl (w.heap.size + 1) 0 (rowA 8 (uF (mixed s T 8))) rfl rfl (by rw [rowA_size]; exact there_row q1) (by rw [rowA_size]; exact info23) (rowA_one _ _ fun _ => rfl) ?_))
                  refine bodyPost_ret (results_row rfl _ rfl (rowIs_setAll q1 (uF (mixed s T 8))) Tryd.underlying71 info23) rfl ⟨?_, below_setCells _ (by omega) _ _ _ qB⟩
                  rw [← hx.out, HT2.out]
                  exact congrArg (fun z => Ending.returned (.agg z)) (rowA_congr fun i hi => by simp [uF, mixed, hi])
end Go.Proofs.YtlnedphnphabkaaDoor
/- The reference's Fill. -/
namespace Go.Proofs.YtlnedphnphabkaaDoor
open Go.RowKit
set_option maxRecDepth 8000
set_option linter.all false
attribute [local go_sem] bF_at

theorem fillHead_pos (k : Nat) (h : 1 ≤ k) : bF fillHead k = .int .u8 0 := by
  simp [bF, fillHead, bN, show k ≠ 0 by omega]
theorem step_len (n k p : Nat) (hk : k < 8) (hn : n ≤ 1000000) (hp : p = 72057594037927936 / 256 ^ k) : ((n * 8 / p % 256 : Nat) : Int) = bN (lenByte n k) := by
  have e : 72057594037927936 / 256 ^ k = 2 ^ (56 - 8 * k) := by
    have : ∀ k : Fin 8, 72057594037927936 / 256 ^ k.val = 2 ^ (56 - 8 * k.val) := by decide
    exact this ⟨k, hk⟩
  rw [lenByte, bN, UInt8.toNat_ofNat', hp, e, Nat.mod_eq_of_lt (a := n * 8) (by omega)]

set_option maxHeartbeats 1000000 in
theorem RFill_r (n r : Nat) (hn : n ≤ 1000000) (hr1 : 1 ≤ r) (hr2 : r ≤ 64) (hr3 : (n + r) % 64 = 56) (hr4 : ∀ k, 1 ≤ k → k < r → (n + k) % 64 ≠ 56) (w : World) :
    Calls Tryd.prog 53 #[.int .i64 n] w (FillPost n r w) := by
  obtain ⟨i0, hi, hz0, hz1, hz2⟩ := info_parts info5
  have H4 := Lib.hid hr4
  have H3 := Lib.hid hr3
  clear hr4 hr3
  go_enter Tryd.func53, Tryd.ntmps53
  go_wp2
  have r0 : (w.alloc (.cells #[.int .u8 128] 5)).rowIs w.heap.size 5 1 (bF fillHead) := (rowIs_box w 5 1 fun _ => .int .u8 128).congr fun i hi => by
    obtain rfl : i = 0 := by omega
    rfl
  have hB : Below w.heap.size w (w.alloc (.cells #[.int .u8 128] 5)) := (Below.refl _ w).alloc (Nat.le_refl _) _
  have ho := ownsRow_row r0 w.heap.size 1 (by omega) (by unfold maxLen; omega) (Nat.le_refl _)
  generalize w.alloc (.cells #[.int .u8 128] 5) = W0 at ho hB ⊢
  clear r0
  go_loopw [3] (fun v wr => ∃ k : Nat, 1 ≤ k ∧ k ≤ r ∧ wr.ownsRow w.heap.size 5 1 v k ((List.range k).map (bF fillHead)) ∧ Below w.heap.size w wr) (fun v _ => match v with | .slice _ m _ => r - m | _ => 0)
  case atStart => exact ⟨1, by omega, by omega, ho, hB⟩
  case round =>
    obtain ⟨k, hk1, hk, hown, qB⟩ := hrel
    clear ho hB
    obtain ⟨g, c, rfl, _, _⟩ := hown.form (by omega)
    by_cases hlt : k < r
    · have t1 : (((n : Int) + (k : Int)) % 64 == 56) = false := by
        have := H4.out k hk1 hlt
        simp; omega
      go_wp2_with (at_builtin; refine wpList_append_own _ rfl (.tmp 16) (.tmp 17) 23 rfl w.heap.size 5 i0 _ 1 1 Tryd.underlying23 hi hz0 hz1 hz2 rfl (by omega) _ k _ rfl (hown.alloc _) ⟨wr.heap.size, 0, none⟩ 1 1 [.int .u8 0] rfl rfl (one_cell _ _ _) (by simp [Value.oneCell']) (by unfold maxLen; omega) (by omega) (by have := qB.size; simp; omega) ?_; intro v' w1 hown' hg1 _)
      go_roundw
      case rel =>
        refine ⟨k + 1, by omega, by omega, ?_, (qB.alloc qB.size _).grown hg1 (by have := qB.size; simp; omega) (fun g e => (hown.lt g e).1)⟩
        rw [List.range_succ, List.map_append]
        simp only [List.map_cons, List.map_nil]
        rw [fillHead_pos k hk1]
        exact hown'
      case measure =>
        obtain ⟨g', c', rfl, _, _⟩ := hown'.form (by omega)
        show r - (k + 1) < r - k
        omega
    · obtain rfl : k = r := by omega
      have t1 : (((n : Int) + (k : Int)) % 64 == 56) = true := by
        have := H3.out
        simp; omega
      have t2 : (((n : Int) + (k : Int)) % 64 != 56) = false := by
        have := H3.out
        simp; omega
      have Ht1 := Lib.hid t1
      go_wp2
      clear t1 t2
      go_loopw [3, 5, 6] (fun v st i wr => ∃ j p : Nat, j ≤ 8 ∧ i = .int .i64 j ∧ st = .int .u64 p ∧ Hid (p = 72057594037927936 / 256 ^ j) ∧ wr.ownsRow w.heap.size 5 1 v (k + j) ((List.range k).map (bF fillHead) ++ (List.range j).map (bF (lenByte n))) ∧ Below w.heap.size w wr) (fun _ _ i _ => 8 - (intOf i).toNat)
      case atStart => exact ⟨0, 72057594037927936, by omega, rfl, rfl, Lib.hid (by simp), by simpa using hown, qB⟩
      case round =>
        clear hown qB
        obtain ⟨j, p, hj, rfl, rfl, Hp, hown, qB⟩ := hrel
        by_cases hlt : j < 8
        · have hp0 : 0 < p := by
            have : ∀ k : Fin 8, 0 < 72057594037927936 / 256 ^ k.val := by decide
            rw [Hp.out]; exact this ⟨j, hlt⟩
          have hpz : ((p : Int) == 0) = false := by simp; omega
          have hsl := step_len n j p hlt hn Hp.out
          have Hsl := Lib.hid hsl
          clear hsl
          have hp1 : (p : Int) ≠ 0 := by omega
          have hpb : p ≤ 72057594037927936 := by rw [Hp.out]; exact Nat.div_le_self _ _
          have hpw : IntKind.u64.wrap ((p : Int) / 256) = ((p / 256 : Nat) : Int) := by rw [wrap_u64]; omega
          have hval : ((n : Int) * 8 / (p : Int)).tmod 256 % 256 = bN (lenByte n j) := by
            have h0 : (0 : Int) ≤ (n : Int) * 8 / p := Int.ediv_nonneg (by omega) (by omega)
            rw [Int.tmod_eq_emod_of_nonneg h0, ← Hsl.out]
            have : (n : Int) * 8 / (p : Int) = ((n * 8 / p : Nat) : Int) := by simp
            rw [this]; omega
          go_wp2_with (at_builtin; refine wpList_append_own _ rfl (.tmp 26) (.tmp 32) 23 rfl w.heap.size 5 i0 _ 1 1 Tryd.underlying23 hi hz0 hz1 hz2 rfl (by omega) u3 (k + j) _ rfl (hown.alloc _) ⟨wr.heap.size, 0, none⟩ 1 1 [bF (lenByte n) j] rfl rfl (one_cell _ _ _) (by simp [bF, Value.oneCell']) (by unfold maxLen; omega) (by omega) (by have := qB.size; simp; omega) ?_; intro v' w1 hown' hg1 _)
          go_roundw
          case rel =>
            refine ⟨j + 1, p / 256, by omega, by go_num, rfl, Lib.hid (by rw [Hp.out, Nat.div_div_eq_div_mul, Nat.pow_succ]), ?_, (qB.alloc qB.size _).grown hg1 (by have := qB.size; simp; omega) (fun g e => (hown.lt g e).1)⟩
            rw [List.range_succ, List.map_append, ← List.append_assoc]
            exact hown'
          case measure => simp [intOf]; omega
        · obtain rfl : j = 8 := by omega
          go_wp2
          go_ret
          exact ⟨_, rfl, hown, qB⟩
theorem RFill_any (n : Nat) (hn : n ≤ 1000000) (w : World) : Calls Tryd.prog 53 #[.int .i64 n] w (FillPost n (if n % 64 < 56 then 56 - n % 64 else 120 - n % 64) w) := by
  by_cases h : n % 64 < 56
  · rw [if_pos h]; exact RFill_r n _ hn (by omega) (by omega) (by omega) (fun k _ _ => by omega) w
  · rw [if_neg h]; exact RFill_r n _ hn (by omega) (by omega) (by omega) (fun k _ _ => by omega) w
set_option maxHeartbeats 400000 in
theorem RFill_neg (n : Int) (hn : n < 0) (w : World) : Calls Tryd.prog 53 #[.int .i64 n] w fun e w' => e = .returned (.slice none 0 0) ∧ w = w' := by
  go_enter Tryd.func53, Tryd.ntmps53
  go_wp2
  go_ret
  exact ⟨rfl, rfl⟩
end Go.Proofs.YtlnedphnphabkaaDoor
/- The reference's Sum. -/
namespace Go.Proofs.YtlnedphnphabkaaDoor
open Go.RowKit
set_option maxRecDepth 8000
set_option linter.all false
attribute [local go_sem] uF_at bF_at run_storeU run_storeB

theorem ownsRow_belowW {W W' : World} {base : Nat} {e : TypeId} {size : Nat} {v : Value} {n : Nat} {xs : List Value} (h : W.ownsRow base e size v n xs) (hb : Below W.heap.size W W') : W'.ownsRow base e size v n xs :=
  h.kept (row := none) ⟨hb.os, hb.tape, hb.output, hb.size, fun k hk _ => hb.block k hk⟩ (by cases v.ownBlock with | none => exact .inl rfl | some k => exact .inr (by simp))
/-- The digest, written from behind: the numbers before i, and of number i the last j bytes. -/
def outF (S : Nat → BitVec 32) (i j p : Nat) : UInt8 := if p < 4 * i then dig S p else if 4 * i + 4 ≤ p + j ∧ p < 4 * i + 4 then dig S p else 0
theorem outF_set (S : Nat → BitVec 32) (i j : Nat) (hj : j < 4) (z : Int) (hz : z = bN (dig S (4 * i + (3 - j)))) (p : Nat) : (if p = 4 * i + (3 - j) then Value.int .u8 z else bF (outF S i j) p) = bF (outF S i (j + 1)) p := by
  subst hz
  simp only [bF, outF]
  by_cases h : p = 4 * i + (3 - j)
  · subst h; rw [if_pos rfl, if_neg (by omega), if_pos (by omega)]
  · rw [if_neg h]
    by_cases h2 : p < 4 * i
    · rw [if_pos h2, if_pos h2]
    · rw [if_neg h2, if_neg h2]
      by_cases h3 : 4 * i + 4 ≤ p + j ∧ p < 4 * i + 4
      · rw [if_pos h3, if_pos (by omega)]
      · rw [if_neg h3, if_neg (by omega)]
theorem outF_next (S : Nat → BitVec 32) (i p : Nat) : bF (outF S i 4) p = bF (outF S (i + 1) 0) p := by
  simp only [bF, outF]
  by_cases h : p < 4 * i
  · rw [if_pos h, if_pos (by omega)]
  · rw [if_neg h]
    by_cases h2 : p < 4 * i + 4
    · rw [if_pos ⟨by omega, h2⟩, if_pos (by omega)]
    · rw [if_neg (by omega), if_neg (by omega), if_neg (by omega)]
theorem outF_zero (S : Nat → BitVec 32) (p : Nat) : bF (fun _ => 0) p = bF (outF S 0 0) p := by
  simp only [bF, outF]
  rw [if_neg (by omega), if_neg (by omega)]
theorem dig_back (S : Nat → BitVec 32) (i j : Nat) (hj : j < 4) : (uN (S i >>> (8 * j))) % 256 = bN (dig S (4 * i + (3 - j))) := by
  rw [dig, show (4 * i + (3 - j)) / 4 = i by omega, show (4 * i + (3 - j)) % 4 = 3 - j by omega, show 24 - 8 * (3 - j) = 8 * j by omega, ← u32_u8, wrap_u8]
theorem dig_div (x : BitVec 32) (j : Nat) : uN (x >>> (8 * j)) / (256 : Int) = uN (x >>> (8 * (j + 1))) := by
  have := u32_shr (x >>> (8 * j)) 8
  rw [show ((2 : Int) ^ 8) = 256 from rfl] at this
  rw [this, ← BitVec.shiftRight_add]
  rfl
theorem fill_len (n : Nat) : (n + (fillB n).length) % 64 = 0 := by rw [fillB_length]; split <;> omega
theorem sha_all (l : List UInt8) (m : Nat) (h : (l ++ fillB l.length).length = 64 * m) : shaL Kc Fc l = dig (sB (l ++ fillB l.length) m) := by
  have : cks (l ++ fillB l.length) = (List.range m).map (blk (l ++ fillB l.length)) := by unfold cks; rw [h, show 64 * m / 64 = m by omega]; rfl
  rw [shaL, this, sB_fold]
set_option maxHeartbeats 4000000 in
theorem RSum_any (v : Value) (l : List UInt8) (w : World) (hT : Tables w) (hr : RdV w [] v l) (hl : l.length ≤ 900000) :
    Calls Tryd.prog 35 #[v] w fun e w' => e = .returned (.agg (rowA 32 (bF (shaL Kc Fc l)))) ∧ Below w.heap.size w w' := by
  have HT := Lib.hid hT
  have hsz := hT.size
  have Hr := Lib.hid hr
  obtain ⟨A, cap, rfl, _⟩ := hr
  clear hT
  obtain ⟨n, hn⟩ : ∃ n, l.length = n := ⟨_, rfl⟩
  rw [hn] at hl Hr ⊢
  obtain ⟨i0, hi, hz0, hz1, hz2⟩ := info_parts info5
  have hB1 : Below (w.heap.size) w ((w.alloc (.cells (rowA 32 (bF fun _ => 0)) 30)).alloc (.cells #[] 5)) := ((Below.refl _ w).alloc (Nat.le_refl _) _).alloc (by simp) _
  have rz : ((w.alloc (.cells (rowA 32 (bF fun _ => 0)) 30)).alloc (.cells #[] 5)).rowIs w.heap.size 30 32 (bF fun _ => 0) := (rowIs_box w 30 32 (bF fun _ => 0)).alloc _
  have hown0 : ((w.alloc (.cells (rowA 32 (bF fun _ => 0)) 30)).alloc (.cells #[] 5)).ownsRow (w.heap.size + 1) 5 1 (.slice (some ⟨w.heap.size + 1, 0, none⟩) 0 0) 0 [] := by
    have := rowIs_box (w.alloc (.cells (rowA 32 (bF fun _ => 0)) 30)) 5 0 (fun _ => undef)
    rw [World.size_alloc] at this
    exact ownsRow_row this (w.heap.size + 1) 0 (by omega) (by unfold maxLen; omega) (Nat.le_refl _)
  have Hr1 := Lib.hid (Hr.out.keep (KeepBut.below hB1))
  have hs1 : w.heap.size + 1 ≤ ((w.alloc (.cells (rowA 32 (bF fun _ => 0)) 30)).alloc (.cells #[] 5)).heap.size := by simp
  go_enter Tryd.func35, Tryd.ntmps35
  go_wp2_with (at_builtin; first
    | (refine wpList_append_rd rfl (.tmp 10) (.tmp 11) 23 rfl (base := w.heap.size + 1) Tryd.underlying23 hi hz0 hz1 hz2 rfl hown0 rfl Hr1.out (by omega) hs1 ?_; intro v2 w2 o2 grow2
       have b2 := (Below.refl (w.heap.size + 1) ((w.alloc (.cells (rowA 32 (bF fun _ => 0)) 30)).alloc (.cells #[] 5))).grown grow2 hs1 (fun k e => (hown0.lt k e).1)
       have hB2 := hB1.trans (b2.mono (Nat.le_succ _))
       replace rz := rowIs_below rz b2 (by omega)
       clear grow2 hown0 hs1 Hr1 hB1 b2))
  refine (RFill_any n (by omega) _).mono ?_
  rintro e w3 ⟨v3, rfl, ho3, hb3⟩
  have rd3 := Lib.hid (rdV_fill (L := []) (by simp) ho3)
  have o3 := ownsRow_belowW o2 hb3
  replace rz := rowIs_below rz hb3 rz.lt
  have hB3 := hB2.trans (hb3.mono hB2.size)
  clear o2 ho3 hb3 hB2
  have hfl := fill_len n
  have hf2 : (fillB n).length ≤ 72 := by rw [fillB_length]; split <;> omega
  have hf3 : 0 < (fillB n).length := by rw [fillB_length]; omega
  go_upto_region 2 with (at_builtin; refine wpList_append_rd rfl (.tmp 12) (.tmp 15) 23 rfl (base := w.heap.size + 1) Tryd.underlying23 hi hz0 hz1 hz2 rfl o3 rfl rd3.out (by omega) (by have := rz.lt; omega) ?_; intro v4 w4 o4 grow4)
  have hB4 := hB3.grown grow4 hB3.size (fun k e => by have := (o3.lt k e).1; omega)
  replace rz : w4.rowIs w.heap.size 30 32 (bF fun _ => 0) := rowIs_below rz ((Below.refl (w.heap.size + 1) w3).grown grow4 (by have := rz.lt; omega) (fun k e => (o3.lt k e).1)) (by omega)
  obtain ⟨c, hc⟩ : ∃ c, l ++ fillB n = c := ⟨_, rfl⟩
  have Rall : RdV w4 [] v4 c := by rw [← hc]; exact rdV_own (by simpa [List.map_append] using o4) (by simp) (by simp)
  obtain ⟨m, hm⟩ : ∃ m, m = c.length / 64 := ⟨_, rfl⟩
  have hcm : c.length = 64 * m := by rw [hm, ← hc]; simp only [List.length_append]; omega
  have hD : shaL Kc Fc l = dig (sB c m) := by rw [← hc, ← hn]; exact sha_all l m (by rw [hn, hc, hcm])
  have HD := Lib.hid hD
  obtain ⟨A4, c4, rfl, hcap4, hmax4, hA4⟩ := Rall
  obtain ⟨M, hM⟩ : ∃ M, c.length = M := ⟨_, rfl⟩
  rw [hM] at hcap4 hA4 hcm ⊢
  have hM2 : M ≤ 900072 := by rw [← hM, ← hc]; simp only [List.length_append]; omega
  have hM0 : 0 < M := by rw [← hM, ← hc]; simp only [List.length_append]; omega
  obtain ⟨b4, o4', rfl, _, hcell4⟩ := hA4 hM0
  have HC := Lib.hid hcell4
  have HM := Lib.hid hcm
  have hb4 : b4 < w4.heap.size := World.block_lt_of_cell? _ _ (hcell4 0 hM0)
  clear hD hcell4 hcm hM hc hm hA4 o4 o3 grow4 rd3 hfl hf2 hf3 hB3
  have T4 := HT.out.below hB4
  have f0 := T4.f 0 (by omega)
  have f1 := T4.f 1 (by omega)
  have f2 := T4.f 2 (by omega)
  have f3 := T4.f 3 (by omega)
  have f4 := T4.f 4 (by omega)
  have f5 := T4.f 5 (by omega)
  have f6 := T4.f 6 (by omega)
  have f7 := T4.f 7 (by omega)
  have h0 : 0 < w4.heap.size := by have := T4.size; omega
  clear T4
  go_wp2
  clear f0 f1 f2 f3 f4 f5 f6 f7
  have rs := rowIs_box w4 71 8 (uF Fc)
  have hB5 := (Below.refl _ w4).alloc (Nat.le_refl _) (.cells (rowA 8 (uF Fc)) 71)
  change Code.wp _ _ _ _ (w4.alloc (.cells (rowA 8 (uF Fc)) 71))
  generalize w4.alloc (.cells (rowA 8 (uF Fc)) 71) = w5 at rs hB5 ⊢
  go_loopw [5] (fun i wr => ∃ j k : Nat, j = 64 * k ∧ j ≤ M ∧ i = .int .i64 j ∧ wr.rowIs w4.heap.size 71 8 (uF (sB c k)) ∧ Below w4.heap.size w4 wr) (fun i _ => M - (intOf i).toNat)
  case atStart => exact ⟨0, 0, rfl, by omega, rfl, rs, hB5⟩
  case round =>
    obtain ⟨j, k, hjk, hjM, rfl, qs, qB⟩ := hrel
    clear rs hB5
    by_cases hlt : j < M
    · have HM2 := HM.out
      have hsl := slice_blk b4 o4' M c4 j (by omega)
      have hB6 : Below w.heap.size w wr := hB4.trans (qB.mono hB4.size)
      have HC2 : Hid (∀ i, i < 64 → wr.cell? ⟨b4, o4' + j + i, none⟩ = some (.int .u8 (bN (bAt (blk c k) i)))) := Lib.hid fun i hi => by
        rw [Nat.add_assoc]
        refine (qB.cell (p := ⟨b4, o4' + (j + i), none⟩) hb4).trans ?_
        rw [HC.out (j + i) (by omega), bAt_blk c k i hi, ← hjk]
      have HT2 := HT.out.below hB6
      have HTk := Lib.hid HT2.k
      have hs2 := HT2.size
      have hbr : b4 < wr.heap.size := Nat.lt_of_lt_of_le hb4 qB.size
      have d1 : decide ((j : Int) + 64 ≤ (M : Int)) = true := by simp; omega
      have d2 : (j : Int) + 64 ≤ (M : Int) := by omega
      have hcj : 64 ≤ c4 - j := by omega
      have hcj2 : c4 - j ≤ maxLen := by omega
      clear HT2
      have Hjk := Lib.hid hjk
      clear hjk HM2
      obtain ⟨s, Hs⟩ : ∃ s, Hid (sB c k = s) := ⟨_, Lib.hid rfl⟩
      rw [Hs.out] at qs
      have c0 := qs.cell (i := 0) (by omega)
      have c1 := qs.cell (i := 1) (by omega)
      have c2 := qs.cell (i := 2) (by omega)
      have c3 := qs.cell (i := 3) (by omega)
      have c4' := qs.cell (i := 4) (by omega)
      have c5 := qs.cell (i := 5) (by omega)
      have c6 := qs.cell (i := 6) (by omega)
      have c7 := qs.cell (i := 7) (by omega)
      go_wp2
      refine wp_region_still_tail 6 (by kernel_rfl) (by kernel_rfl) ?_
      simp only [List.take_succ_cons, List.take_zero, List.drop_succ_cons, List.drop_zero]
      iterate 6 (refine wpStill_step (fun K hK => ?_); go_simp; (try go_bits); refine hK _ ?_; clear hK K)
      refine wpStill_nil ?_
      go_wp2_with fail
      refine (RTurn_any Kc s (blk c k) b4 (o4' + j) (c4 - j) hcj hcj2 wr.drew hbr hs2 HTk.out HC2.out).mono ?_
      rintro e w6 ⟨rfl, hB7⟩
      replace qs := rowIs_below qs.drew hB7 qs.lt
      have hB8 : Below w4.heap.size w4 w6 := qB.drew.trans (hB7.mono qB.size)
      have rw2 : RowW w6 w4.heap.size 8 := ⟨_, _, qs⟩
      clear c0 c1 c2 c3 c4' c5 c6 c7 hB7 qB
      go_wp2
      go_roundw
      case rel =>
        refine ⟨j + 64, k + 1, by have := Hjk.out; omega, by omega, by go_num, ?_, below_setCells _ (Nat.le_refl _) _ _ _ hB8⟩
        have := rowIs_setAll qs (uF (turnF Kc s (blk c k)))
        rw [sB, Hs.out]
        exact this
      case measure => simp [intOf]; omega
    · obtain rfl : j = M := by omega
      obtain rfl : k = m := by have := HM.out; omega
      obtain ⟨S, HS⟩ : ∃ S, Hid (sB c k = S) := ⟨_, Lib.hid rfl⟩
      rw [HS.out] at qs
      have Hjk := Lib.hid hjk
      clear hjk
      have hg4 : w4.heap.size < wr.heap.size := qs.lt
      have ro := rowIs_box wr 30 32 (bF fun _ => 0)
      replace qs := qs.alloc (.cells (rowA 32 (bF fun _ => 0)) 30)
      have rz2 := (rowIs_below rz qB rz.lt).alloc (.cells (rowA 32 (bF fun _ => 0)) 30)
      have hgw : w.heap.size < wr.heap.size := (rowIs_below rz qB rz.lt).lt
      have qB6 := (hB4.trans (qB.mono hB4.size)).alloc (by omega) (.cells (rowA 32 (bF fun _ => 0)) 30)
      go_wp2
      change Code.wp _ _ _ _ (wr.alloc (.cells (rowA 32 (bF fun _ => 0)) 30))
      generalize wr.heap.size = g at hgw hg4 ro ⊢
      generalize wr.alloc (.cells (rowA 32 (bF fun _ => 0)) 30) = W6 at ro qs rz2 qB6 ⊢
      clear rz qB
      go_loopw [7] (fun i wr => ∃ t : Nat, t ≤ 8 ∧ i = .int .i64 t ∧ wr.rowIs w4.heap.size 71 8 (uF S) ∧ wr.rowIs w.heap.size 30 32 (bF fun _ => 0) ∧ wr.rowIs g 30 32 (bF (outF S t 0)) ∧ Below w.heap.size w wr) (fun i _ => 8 - (intOf i).toNat)
      case atStart => exact ⟨0, by omega, rfl, qs, rz2, ro.congr fun p _ => outF_zero S p, qB6⟩
      case round =>
        clear qs rz2 ro qB6
        obtain ⟨t, ht, rfl, qs, qz, qo, qB⟩ := hrel
        by_cases hlt : t < 8
        · have cs := qs.cell (i := t) hlt
          have it : (t : Int) < 8 := by omega
          go_wp2
          clear cs
          go_loopw [8, 9] (fun x k wr => ∃ j : Nat, j ≤ 4 ∧ k = .int .i64 (3 - (j : Int)) ∧ x = .int .u32 (uN (S t >>> (8 * j))) ∧ wr.rowIs w4.heap.size 71 8 (uF S) ∧ wr.rowIs w.heap.size 30 32 (bF fun _ => 0) ∧ wr.rowIs g 30 32 (bF (outF S t j)) ∧ Below w.heap.size w wr) (fun _ k _ => (intOf k + 1).toNat)
          case atStart => exact ⟨0, by omega, rfl, rfl, qs, qz, qo, qB⟩
          case round =>
            clear qs qz qo qB
            obtain ⟨j, hj, rfl, rfl, qs, qz, qo, qB⟩ := hrel
            by_cases hj4 : j < 4
            · obtain ⟨q, hq⟩ : ∃ q, 3 - j = q := ⟨_, rfl⟩
              have hz := dig_back S t j hj4
              have hd := dig_div (S t) j
              rw [hq] at hz
              obtain ⟨X, hX, hX2⟩ : ∃ X : Nat, X < 4294967296 ∧ uN (S t >>> (8 * j)) = (X : Int) := ⟨(S t >>> (8 * j)).toNat, (S t >>> (8 * j)).isLt, rfl⟩
              rw [hX2] at hz hd ⊢
              have hqi : (3 : Int) - (j : Int) = (q : Int) := by omega
              rw [hqi]
              have Hz := Lib.hid hz
              have Hd := Lib.hid hd
              have Hq := Lib.hid hq
              have Hqi := Lib.hid hqi
              have hq3 : q ≤ 3 := by omega
              clear hz hd hX2 hq hqi
              have co := qo.cell (i := 4 * t + q) (by omega)
              have fo := qo.frozen (4 * t + q)
              have i1 : 4 * (t : Int) + (q : Int) < 32 := by omega
              have i2 : (0 : Int) ≤ 4 * (t : Int) + (q : Int) := by omega
              go_wp2
              go_roundw
              case rel =>
                refine ⟨j + 1, by omega, ?_, by rw [← Hd.out], qs.setOther (by simp; omega) _, qz.setOther (by simp; omega) _, (qo.set (4 * t + q) _).congr fun p _ => ?_, qB.setCell (p := ⟨g, 4 * t + q, none⟩) (by simp; omega) _⟩
                · congr 1
                  have := Hqi.out
                  omega
                · have := outF_set S t j hj4 ((X : Int) % 256) (by rw [Hq.out]; exact Hz.out) p
                  rwa [Hq.out] at this
              case measure => simp only [intOf]; omega
            · obtain rfl : j = 4 := by omega
              go_wp2
              go_roundw
              case rel => exact ⟨t + 1, by omega, by go_num, qs, qz, qo.congr fun p _ => outF_next S t p, qB⟩
              case measure => simp [intOf]; omega
        · obtain rfl : t = 8 := by omega
          have hR := rangeAt_row qo
          go_wp2_with (first
            | (refine wpList_load_mid rfl 30 (.tmp 6) rfl g 0 rfl (rowA 32 (bF (outF S 8 0))).toList _ hR Tryd.underlying30 rfl (by rw [rowA_toList]; simpa using info31) ?_)
            | (refine wpList_store_mid rfl 30 (.tmp 2) (.tmp 53) rfl w.heap.size 0 (rowA 32 (bF (outF S 8 0))) rfl rfl (by rw [rowA_size]; exact there_row qz) (by rw [rowA_size]; exact info31) (rowA_one _ _ fun _ => rfl) ?_))
          refine bodyPost_ret (results_row rfl _ rfl (rowIs_setAll qz (bF (outF S 8 0))) Tryd.underlying30 info31) rfl ⟨?_, below_setCells _ (Nat.le_refl _) _ _ _ qB⟩
          rw [HD.out, HS.out]
          exact congrArg (fun z => Ending.returned (.agg z)) (rowA_congr fun i hi => by simp only [bF, outF]; rw [if_pos (by omega)])
end Go.Proofs.YtlnedphnphabkaaDoor
/- The document's answers for layer 5: Leaf, Pair, Split and Root, walked. -/
namespace Go.Proofs.YtlnedphnphabkaaDoor
open Go Go.RowKit
set_option maxRecDepth 8000
set_option linter.all false
theorem RSumB_cv (v : Value) (l : List UInt8) (D : Hs) (w : World) (hT : Tables w) (hr : RdV w [] v l) (hl : l.length ≤ 900000) (hD : shaL Kc Fc l = D) : Cv 35 #[v] w (.eq (.agg (rowA 32 (bF D)))) := by
  rw [← hD]; exact Cv.of_eq (RSum_any v l w hT hr hl)
theorem rdV_nil0 (w : World) : RdV w [] (.slice none 0 0) [] := ⟨none, 0, rfl, Nat.le_refl _, by unfold maxLen; omega, fun h => absurd h (by simp)⟩
theorem split_pow (n e : Nat) (h1 : 2 ^ e < n) (h2 : n ≤ 2 ^ (e + 1)) : splitN n = 2 ^ e := by
  obtain ⟨m, rfl⟩ : ∃ m, n = 2 ^ e + m := ⟨n - 2 ^ e, by omega⟩
  rw [Nat.pow_succ] at h2
  exact splitN_eq e m (by omega) (by omega)
set_option maxHeartbeats 1000000 in
theorem RSplit_cv (n : Int) (hn : n ≤ 1099511627776) (w : World) : Cv 28 #[.int .i64 n] w (.eq (.int .i64 (splitN n.toNat : Int))) := by
  unfold Cv
  go_enter Tryd.func28, Tryd.ntmps28
  go_wp2
  go_loopw [3, 4] (fun k p wr => ∃ (a e : Nat), p = .int .i64 (a : Int) ∧ Hid (a = 2 ^ e) ∧ k = .int .i64 (if e = 0 then 0 else ((a / 2 : Nat) : Int)) ∧ (e = 0 ∨ Hid ((a / 2 : Nat) < n ∧ a = 2 * (a / 2))) ∧ a ≤ 2199023255552 ∧ 1 ≤ a ∧ w = wr) (fun _ p _ => (n - intOf p).toNat)
  case atStart => exact ⟨1, 0, rfl, Lib.hid rfl, rfl, .inl rfl, by omega, by omega, rfl⟩
  case round =>
    obtain ⟨a, e, rfl, HE, rfl, hor, ha, ha1, rfl⟩ := hrel
    have HOR := Lib.hid hor
    clear hor
    obtain ⟨kk, hkk⟩ : ∃ kk : Int, (if e = 0 then 0 else ((a / 2 : Nat) : Int)) = kk := ⟨_, rfl⟩
    have HKK := Lib.hid hkk
    rw [hkk]
    clear hkk
    by_cases hlt : (a : Int) < n
    · go_wp2
      go_roundw
      case rel => exact ⟨2 * a, e + 1, by go_num, Lib.hid (by rw [HE.out, Nat.pow_succ]; omega), by rw [if_neg (by omega), show 2 * a / 2 = a by omega], .inr (Lib.hid ⟨by rw [show 2 * a / 2 = a by omega]; exact hlt, by omega⟩), by omega, by omega, by first | rfl | trivial⟩
      case measure => simp [intOf]; omega
    · go_wp2
      go_ret
      refine ⟨_, rfl, NewT.refl _, ?_⟩
      show Value.int .i64 kk = .int .i64 _
      congr 1
      rw [← HKK.out]
      by_cases he : e = 0
      · rw [if_pos he]
        have h1 := HE.out
        rw [he] at h1
        unfold splitN
        rw [if_pos (by omega)]
        rfl
      · rw [if_neg he]
        obtain ⟨q1, q2⟩ : (a / 2 : Nat) < n ∧ a = 2 * (a / 2) := (HOR.out.resolve_left he).out
        obtain ⟨e', rfl⟩ : ∃ e', e = e' + 1 := ⟨e - 1, by omega⟩
        have h1 := HE.out
        have h2 : a / 2 = 2 ^ e' := by rw [Nat.pow_succ] at h1; omega
        rw [h2]
        rw [split_pow n.toNat e' (by omega) (by omega)]
end Go.Proofs.YtlnedphnphabkaaDoor
/- The document's answers for layer 5: Leaf, Pair and Root, walked. -/
namespace Go.Proofs.YtlnedphnphabkaaDoor
open Go Go.RowKit
set_option maxRecDepth 8000
set_option linter.all false
/-- A row of bytes of the call's own, from block B on. -/
def OwnB (W : World) (B : Nat) (v : Value) (l : List UInt8) : Prop := W.ownsRow B 5 1 v l.length (l.map (fun b : UInt8 => Value.int .u8 (bN b)))
theorem OwnB.keep {W W' : World} {B : Nat} {v : Value} {l : List UInt8} (h : OwnB W B v l) (hN : NewT W W') : OwnB W' B v l := by
  obtain ⟨h1, h2⟩ := h
  refine ⟨h1, ?_⟩
  rcases h2 with h2 | ⟨g, cap, cur, hv, hb, hg, r⟩
  · exact .inl h2
  · exact .inr ⟨g, cap, cur, hv, hb, (hN.out.block g (Array.getElem?_eq_some_iff.1 hg).1).trans hg, r⟩
theorem OwnB.rd {W : World} {B : Nat} {v : Value} {l : List UInt8} (h : OwnB W B v l) : RdV W [] v l := rdV_own h rfl (by simp)
def svOB (B : Nat) (l : List UInt8) : SV NewT := ⟨fun v w => OwnB w B v l, fun _ _ _ h hT => h.keep hT⟩
/-- A new slice of one byte, with no room more. -/
def svB1 (B : Nat) (b : UInt8) : SV NewT := ⟨fun v w => ∃ g, v = .slice (some ⟨g, 0, none⟩) 1 1 ∧ OwnB w B v [b], fun _ _ _ ⟨g, h1, h2⟩ hT => ⟨g, h1, h2.keep hT⟩⟩
theorem opr_bsB1 {a : Act} {w : World} {o : Oper} {K : Act → World → Prop} {Q : Exit → Act → World → Prop} {x : Operand} {B : Nat} {b : UInt8} (ho : o.op = .buildSlice 23 1 #[(0, x)]) (hx : a.eval x = .int .u8 (bN b)) (hB : B ≤ w.heap.size) (h : ∀ v w', NewT w w' → (svB1 B b).pred v w' → K (a.put o.dst v) w') : o.wp Tryd.prog a w K Q := by
  obtain ⟨dst, op, type, pos, after, guard⟩ := o
  simp only at ho
  subst ho
  refine opr_val (s := Instr.buildSlice 23 1 #[(0, a.eval x)]) (by simp [execOp]) (by rw [hx]; exact run_bsb1 _ w) (h _ _ (NewT.alloc _ _) ⟨w.heap.size, rfl, by simp, .inr ⟨w.heap.size, 1, _, rfl, hB, World.alloc_heap_new w _, by simp, by unfold maxLen; omega, by simp, by simp⟩⟩)
theorem run_appB {W : World} {B : Nat} {v u : Value} {l m : List UInt8} (h : OwnB W B v l) (hr : RdV W [] u m) (hn : l.length + m.length ≤ 1000000) (hB : B ≤ W.heap.size) (ty : TypeId) :
    ∃ v' w', (Builtin.append_ #[23, 23] ty #[v, u]).run Tryd.prog W = .ok v' w' ∧ OwnB w' B v' (l ++ m) ∧ Below B W w' := by
  obtain ⟨i0, hi, hz0, hz1, hz2⟩ := info_parts info5
  obtain ⟨v', w', h1, h2, h3⟩ := run_append_rd (P := Tryd.prog) (ty := ty) Tryd.underlying23 hi hz0 hz1 hz2 h hr hn hB
  refine ⟨v', w', h1, ?_, (Below.refl _ W).grown h3 hB (fun k hk => (World.ownsRow.lt h k hk).1)⟩
  unfold OwnB
  rw [List.length_append, List.map_append]
  exact h2
/-- Bytes behind one byte with no room: a new row. -/
theorem run_appB1 {W : World} {B : Nat} {b : UInt8} {v u : Value} {m : List UInt8} (h : (svB1 B b).pred v W) (hr : RdV W [] u m) (hm : 0 < m.length) (hn : 1 + m.length ≤ 1000000) (hB : B ≤ W.heap.size) (ty : TypeId) :
    ∃ v' w', (Builtin.append_ #[23, 23] ty #[v, u]).run Tryd.prog W = .ok v' w' ∧ OwnB w' B v' (b :: m) ∧ NewT W w' := by
  obtain ⟨g, hv, ho⟩ := h
  obtain ⟨v', w', h1, h2, _⟩ := run_appB ho hr (by simpa using hn) hB ty
  refine ⟨v', w', h1, h2, ?_⟩
  obtain ⟨i0, hi, hz0, hz1, hz2⟩ := info_parts info5
  obtain ⟨A, c, rfl, k1, k2, k3⟩ := hr
  obtain ⟨b2, o2, rfl, _, hc⟩ := k3 hm
  have ho2 := ho
  rw [hv] at h1 ho2
  have hrun := run_append_grow (P := Tryd.prog) W 23 ty 5 i0 _ Tryd.underlying23 hi hz0 ⟨g, 0, none⟩ 1 1 ([b].map (fun b : UInt8 => Value.int .u8 (bN b))) (by rw [hz1]; rfl) (World.ownsRow.cells ho2 (g := g) rfl) ⟨b2, o2, none⟩ m.length c (m.map (fun b : UInt8 => Value.int .u8 (bN b))) (by rw [hz1]; simp) (fun j u hj => by
      have hjl : j < m.length := by have := (List.getElem?_eq_some_iff.1 hj).1; simpa using this
      rw [Addr.add_mid, hc j hjl, ← map_at m j hjl, hj]) (by omega) (by omega) (growslice_fits (by omega) (by rw [hz2]; omega))
  rw [h1] at hrun
  injection hrun with _ e
  subst e
  exact NewT.trans _ _ _ (NewT.drew W) (NewT.alloc _ _)
set_option maxHeartbeats 1000000 in
theorem RLeaf_cv (v : Value) (l : List UInt8) (D : Hs) (w : World) (hT : Tables w) (hl : RdV w [] v l) (hn : l.length ≤ 10000) (hD : shaL Kc Fc ([0] ++ l) = D) : Cv 31 #[v] w (.eq (.agg (rowA 32 (bF D)))) := by
  unfold Cv
  have HD := Lib.hid hD
  have HT := Lib.hid hT
  have HL := Lib.hid hl
  clear hT hl hD
  go_enter Tryd.func31, Tryd.ntmps31
  go_upto_region 1 with fail
  have r0 := rowIs_box w 30 32 (bF fun _ => 0)
  have hN := NewT.alloc w (.cells (rowA 32 (bF fun _ => 0)) 30)
  change Code.wp _ _ _ _ (w.alloc (.cells (rowA 32 (bF fun _ => 0)) 30))
  generalize w.alloc (.cells (rowA 32 (bF fun _ => 0)) 30) = W0 at r0 hN ⊢
  have R0 := Lib.hid r0
  have HN := Lib.hid hN
  replace HT := Lib.hid (hN.tables HT.out)
  replace HL := Lib.hid (hN.rd HL.out)
  clear r0 hN
  refine wp_region_steps0 NewT [svB1 W0.heap.size 0, svRd (l)] [([], none), ([(0, none)], none)] 7 2 rfl rfl (by kernel_rfl) NewT.trans (NewT.refl _) (Nat.le_of_ble_eq_true rfl) ⟨?_, ?_, trivial⟩ ?_
  · intro a wx hT hF K hK
    refine rely_wp rfl ?_
    exact opr_bsB1 (B := W0.heap.size) (b := 0) rfl rfl hT.out.size hK
  · intro a wx hT hF K hK
    obtain ⟨f0, _⟩ := hF
    have f0 : a.tmps.getD 0 undef = v := f0
    refine rely_wp rfl ?_
    exact opr_move (.inl rfl) (hK _ _ (NewT.refl _) (by rw [eval_tmp, f0]; exact hT.rd HL.out))
  · intro wa ka
    intro u3 h; have g3 := h (by simp); clear h; replace g3 := show (svB1 W0.heap.size 0).pred u3 wa from g3
    intro u4 h; have g4 := h (by simp); clear h; replace g4 := show (svRd (l)).pred u4 wa from g4
    refine relyEnd_nil rfl ?_
    simp only [Act.put, List.setIfInBounds_toArray, List.set_cons_zero, List.set_cons_succ]
    refine wpList_plain rfl (fun K hK => ?_)
    obtain ⟨_, _, hO⟩ : ∃ g, u3 = .slice (some ⟨g, 0, none⟩) 1 1 ∧ OwnB wa W0.heap.size u3 [0] := g3
    have hR : RdV wa [] u4 l := g4
    obtain ⟨v', w', hrun, h2, h3⟩ := run_appB hO hR (by simp; omega) ka.out.size 23
    refine opr_append rfl rfl rfl hrun (hK _ _ ?_)
    clear hK K
    simp only [Act.put, List.setIfInBounds_toArray, List.set_cons_zero, List.set_cons_succ]
    have kb : NewT W0 w' := NewT.of (ka.out.trans h3)
    refine wpList_plain rfl (fun K hK => ?_)
    refine opr_cv (RSumB_cv v' ([0] ++ l) D w' (kb.tables HT.out) h2.rd (by simp; omega) HD.out) rfl Tryd.func35 (by kernel_rfl) (by kernel_rfl) (by simp only [List.map_toArray, List.map_cons, List.map_nil, eval_tmp]; rfl) ?_
    intro v6 wc kc e6
    obtain rfl : v6 = .agg (rowA 32 (bF D)) := e6
    refine hK _ _ ?_
    clear hK K
    simp only [Act.put, List.setIfInBounds_toArray, List.set_cons_zero, List.set_cons_succ]
    have hT := NewT.trans _ _ _ kb kc
    refine wpList_plain rfl (fun K hK => ?_)
    refine opr_store_new (B := w.heap.size) (W := w) info31 rfl rfl rfl (hT.row R0.out) (NewT.trans _ _ _ HN.out hT) (Nat.le_refl _) ?_
    intro w9 hB9 r9
    refine hK _ _ ?_
    refine wpList_end rfl ?_
    simp only [Act.put]
    go_simp
    go_wp2
    exact bodyPost_ret (results_row rfl _ rfl r9 Tryd.underlying30 info31) rfl ⟨_, rfl, hB9, rfl⟩
set_option maxHeartbeats 1000000 in
theorem RPair_cv (p q : Hs) (w : World) : Cv 29 #[.agg (rowA 32 (bF p)), .agg (rowA 32 (bF q))] w (svRd ((1 :: digL p) ++ digL q)) := by
  unfold Cv
  go_enter Tryd.func29, Tryd.ntmps29
  go_upto_region 1 with fail
  have r1 := (rowIs_box w 30 32 (bF p)).alloc (.cells (rowA 32 (bF q)) 30)
  have r2 := rowIs_box (w.alloc (.cells (rowA 32 (bF p)) 30)) 30 32 (bF q)
  rw [World.size_alloc] at r2
  have hN : NewT w ((w.alloc (.cells (rowA 32 (bF p)) 30)).alloc (.cells (rowA 32 (bF q)) 30)) := NewT.trans _ _ _ (NewT.alloc _ _) (NewT.alloc _ _)
  change Code.wp _ _ _ _ ((w.alloc (.cells (rowA 32 (bF p)) 30)).alloc (.cells (rowA 32 (bF q)) 30))
  generalize ((w.alloc (.cells (rowA 32 (bF p)) 30)).alloc (.cells (rowA 32 (bF q)) 30)) = W0 at r1 r2 hN ⊢
  have R1 := Lib.hid r1
  have R2 := Lib.hid r2
  have HN := Lib.hid hN
  clear r1 r2 hN
  refine wp_region_rely_tail (NewT) [svB1 W0.heap.size 1, svRd (digL (p)), svOB W0.heap.size (1 :: digL p), svRd (digL (q))] [([], none), ([(2, none)], none), ([(5, some 0), (6, some 1)], none), ([(3, none)], none)] 10 4 (by kernel_rfl) rfl rfl (Nat.zero_lt_succ _) (by kernel_rfl) (by kernel_rfl) (by kernel_rfl) NewT.trans (NewT.drew _) (Nat.le_of_ble_eq_true rfl) ⟨?_, ?_, ?_, ?_, trivial⟩ ?_
  · intro a wx hT hF K hK
    refine rely_wp rfl ?_
    exact opr_bsB1 (B := W0.heap.size) (b := 1) rfl rfl hT.out.size hK
  · intro a wx hT hF K hK
    obtain ⟨f2, _⟩ := hF
    have f2 : a.tmps.getD 2 undef = .pointer (some ⟨w.heap.size, 0, none⟩) := f2
    refine rely_wp rfl ?_
    exact opr_sliceH rfl f2 (hK _ _ (NewT.refl _) (rd_rowH (hT.row R1.out) (by decide) (fun j _ => by rw [Nat.zero_add])))
  · intro a wx hT hF K hK
    obtain ⟨f5, f6, _⟩ := hF
    replace f5 := show (svB1 W0.heap.size 1).pred (a.tmps.getD 5 undef) wx from f5
    replace f6 := show (svRd (digL (p))).pred (a.tmps.getD 6 undef) wx from f6
    refine rely_wp rfl ?_
    obtain ⟨v', w', hrun, h2, h3⟩ := run_appB1 f5 f6 (by simp [digL_length]) (by simp [digL_length]) hT.out.size _
    exact opr_append rfl rfl rfl hrun (hK _ _ h3 h2)
  · intro a wx hT hF K hK
    obtain ⟨f3, _⟩ := hF
    have f3 : a.tmps.getD 3 undef = .pointer (some ⟨w.heap.size + 1, 0, none⟩) := f3
    refine rely_wp rfl ?_
    exact opr_sliceH rfl f3 (hK _ _ (NewT.refl _) (rd_rowH (hT.row R2.out) (by decide) (fun j _ => by rw [Nat.zero_add])))
  · intro wa ka
    intro _ _
    intro _ _
    intro u7 h; have g7 := h (by simp); clear h; replace g7 := show (svOB W0.heap.size (1 :: digL p)).pred u7 wa from g7
    intro u8 h; have g8 := h (by simp); clear h; replace g8 := show (svRd (digL (q))).pred u8 wa from g8
    refine relyEnd_nil rfl ?_
    simp only [Act.put, List.setIfInBounds_toArray, List.set_cons_zero, List.set_cons_succ]
    refine wpList_plain rfl (fun K hK => ?_)
    have hO : OwnB wa W0.heap.size u7 (1 :: digL p) := g7
    have hR : RdV wa [] u8 (digL q) := g8
    obtain ⟨v', w', hrun, h2, h3⟩ := run_appB hO hR (by simp [digL_length]) ka.out.size 23
    refine opr_append rfl rfl rfl hrun (hK _ _ ?_)
    refine wpList_plain rfl (fun K hK => ?_)
    refine opr_move (.inr rfl) (hK _ _ ?_)
    refine wpList_end rfl ?_
    simp only [Act.put, List.setIfInBounds_toArray, List.set_cons_zero, List.set_cons_succ]
    go_simp
    go_wp2
    go_ret
    exact ⟨_, rfl, NewT.trans _ _ _ HN.out (NewT.of (ka.out.trans h3)), h2.rd⟩
end Go.Proofs.YtlnedphnphabkaaDoor
/- Texts put together: slices.Concat, and the texts of leaves and nodes. -/
namespace Go.Proofs.YtlnedphnphabkaaDoor
open Go Go.RowKit
set_option maxRecDepth 8000
set_option linter.all false
theorem zeroB (n : Nat) : Builtin.zeroCells (Value.int .u8 0).cells n = rowA n (bF fun _ => 0) := by
  have e : (Value.int .u8 0).cells = #[.int .u8 0] := rfl
  rw [e]
  unfold Builtin.zeroCells
  apply Array.ext (by simp [rowA_size])
  intro i h1 h2
  simp [rowA, bF, Nat.mod_one]
  rfl
theorem rowA_app (n m : Nat) (v : Value) : rowA n (fun _ => v) ++ rowA m (fun _ => v) = rowA (n + m) (fun _ => v) := by
  apply Array.ext (by simp [rowA_size])
  intro i h1 h2
  rw [Array.getElem_append]
  split <;> simp [rowA]
theorem run_grow (w : World) (B n : Nat) (hB : B ≤ w.heap.size) (h0 : 0 < n) (hn : n ≤ 1000000) (ty : TypeId) :
    ∃ g cap w', (Builtin.append_ #[23, 3] ty #[.slice none 0 0, .int .i64 (n : Int)]).run Tryd.prog w = .ok (.slice (some ⟨g, 0, none⟩) n cap) w' ∧ NewT w w' ∧ OwnB w' B (.slice (some ⟨g, 0, none⟩) 0 cap) [] := by
  have hi := info5
  obtain ⟨i0, hi0, hi1⟩ := Option.map_eq_some_iff.1 hi
  simp only [Prod.mk.injEq] at hi1
  obtain ⟨z0, z1, z2⟩ := hi1
  have h := Lib.run_append_nil_zeros (P := Tryd.prog) w 23 3 ty 5 i0 (.int .u8 0) .i64 .i64 Tryd.underlying23 Tryd.underlying3 hi0 z0 n h0 (by omega) (by omega) (by rw [z2]; omega)
  refine ⟨w.heap.size, _, _, h, NewT.trans _ _ _ (NewT.drew w) (NewT.alloc _ _), ?_⟩
  have hc : grownCap w n 0 5 ≤ maxLen := grownCap_le_maxLen w n 0 _ (by unfold maxLen; omega)
  have hg := grownCap_ge w n 0 5
  generalize grownCap w n 0 5 = cap at hc hg
  rw [zeroB, zeroB]
  rw [show rowA n (bF fun _ => 0) ++ rowA (cap - n) (bF fun _ => 0) = rowA cap (bF fun _ => 0) from by
    rw [show (bF fun _ => 0) = (fun _ => Value.int .u8 (bN 0)) from rfl, rowA_app, show n + (cap - n) = cap by omega]]
  have hr := rowIs_box w.drew 5 cap (bF fun _ => 0)
  exact ownsRow_row hr B 0 (by omega) hc hB
set_option maxHeartbeats 400000 in
theorem Grow_cv (n B : Nat) (w : World) (hB : B ≤ w.heap.size) (h0 : 0 < n) (hn : n ≤ 1000000) : Cv 84 #[.slice none 0 0, .int .i64 (n : Int)] w (svOB B []) := by
  unfold Cv
  have t1 : ¬ (n : Int) < 0 := by omega
  have t2 : (0 : Int) < (n : Int) := by omega
  obtain ⟨g, cap, w', hr, hN, hO⟩ := run_grow w B n hB h0 hn 23
  have HO := Lib.hid hO
  have HN := Lib.hid hN
  clear hO hN
  go_enter Tryd.func84, Tryd.ntmps84
  go_wp2_with (at_builtin; refine Lib.wpList_append_run _ rfl _ _ _ _ rfl _ _ rfl rfl _ _ hr ?_)
  go_ret
  exact ⟨_, rfl, HN.out, HO.out⟩
theorem flat_take {ls : List (List UInt8)} {k : Nat} {x : List UInt8} (h : ls[k]? = some x) : (ls.take (k + 1)).flatten = (ls.take k).flatten ++ x := by
  rw [List.take_succ, h]; simp
theorem flat_le (ls : List (List UInt8)) (k : Nat) : (ls.take k).flatten.length ≤ ls.flatten.length := by
  conv => rhs; rw [← List.take_append_drop k ls, List.flatten_append, List.length_append]
  omega
set_option maxHeartbeats 1000000 in
theorem Concat_cv (v : Value) (ls : List (List UInt8)) (w : World) (hp : Parts w v ls) (h0 : 0 < ls.flatten.length) (hn : ls.flatten.length ≤ 1000000) : Cv 75 #[v] w (svRd ls.flatten) := by
  unfold Cv
  have HA0 := Lib.hid hp
  obtain ⟨A, c, e, _⟩ := parts_form hp
  have pm := parts_max hp
  unfold maxLen at pm
  subst e
  clear hp
  have HZ := Lib.hid h0
  have HL := Lib.hid hn
  clear h0 hn
  go_enter Tryd.func75, Tryd.ntmps75
  go_wp2
  go_loopw [3, 11] (fun s i wr => ∃ k m : Nat, k ≤ ls.length ∧ s = .int .i64 (m : Int) ∧ i = .int .i64 (k : Int) ∧ Hid ((ls.take k).flatten.length = m) ∧ NewT w wr) (fun _ i _ => ls.length - (intOf i).toNat)
  case atStart => exact ⟨0, 0, by omega, rfl, rfl, Lib.hid (by simp), NewT.refl _⟩
  case round =>
    obtain ⟨k, m, hk, rfl, rfl, HM, hN⟩ := hrel
    have HN := Lib.hid hN
    have HA := Lib.hid (hN.partsL HA0.out)
    clear hN
    by_cases hlt : k < ls.length
    · have it : (k : Int) < (ls.length : Int) := by omega
      obtain ⟨x, hx⟩ : ∃ d, ls[k]? = some d := ⟨_, List.getElem?_eq_getElem (by omega)⟩
      have HX := Lib.hid hx
      have hm' : m + x.length = (ls.take (k + 1)).flatten.length := by rw [flat_take hx, List.length_append, HM.out]
      have hle : m + x.length ≤ 1000000 := by rw [hm']; exact Nat.le_trans (flat_le ls _) HL.out
      have HW : Hid (wrap64 ((m : Int) + (x.length : Int)) = ((m + x.length : Nat) : Int)) := Lib.hid (by unfold wrap64; omega)
      have tneg : ¬ ((m + x.length : Nat) : Int) < 0 := by omega
      have HMM := Lib.hid hm'
      clear hx hm'
      go_upto_region 4 with fail
      obtain ⟨va, ea⟩ : ∃ v, Value.slice A ls.length c = v := ⟨_, rfl⟩
      rw [ea] at HA ⊢
      refine wp_region_steps0 NewT [svPT (x), svRd (x), svRd (x)] [([(9, none), (11, none)], none), ([(13, some 0)], none), ([(14, some 1)], none)] 36 3 rfl rfl (by kernel_rfl) NewT.trans (NewT.refl _) (Nat.le_of_ble_eq_true rfl) ⟨?_, ?_, ?_, trivial⟩ ?_
      · intro a wx hT hF K hK
        obtain ⟨f9, f11, _⟩ := hF
        have f9 : a.tmps.getD 9 undef = va := f9
        have f11 : a.tmps.getD 11 undef = .int .i64 ((k : Int)) := f11
        refine rely_wp rfl ?_
        exact opr_idxT (i := k) (l := x) (HX.out) (rfl) rfl (by rw [eval_tmp, f9]; exact (hT.partsL HA.out)) f11 (fun v hv => hK v _ (NewT.refl _) hv)
      · intro a wx hT hF K hK
        obtain ⟨f13, _⟩ := hF
        replace f13 := show (svPT (x)).pred (a.tmps.getD 13 undef) wx from f13
        refine rely_wp rfl ?_
        exact opr_ldT rfl f13 (fun u hu => hK u _ (NewT.refl _) hu)
      · intro a wx hT hF K hK
        obtain ⟨f14, _⟩ := hF
        replace f14 := show (svRd (x)).pred (a.tmps.getD 14 undef) wx from f14
        refine rely_wp rfl ?_
        exact opr_move (.inr rfl) (hK _ _ (NewT.refl _) f14)
      · intro wa ka
        intro _ _
        intro _ _
        intro u5 h; have g5 := h (by simp); clear h; replace g5 := show (svRd (x)).pred u5 wa from g5
        refine relyEnd_nil rfl ?_
        refine wpList_end rfl ?_
        simp only [Act.put, List.setIfInBounds_toArray, List.set_cons_zero, List.set_cons_succ]
        go_simp
        have G5 := Lib.hid g5
        replace HN := Lib.hid (NewT.trans _ _ _ HN.out ka)
        clear g5 ka HA
        go_upto_region 5 with fail
        refine wp_region_steps0 NewT [SV.eq (.int .i64 ((m : Int))), svRd (x), SV.eq (.int .i64 ((List.length (x) : Int))), SV.eq (.int .i64 (((m + x.length : Nat) : Int))), SV.eq (.int .i64 (((m + x.length : Nat) : Int)))] [([(3, none)], none), ([(5, none)], none), ([(16, some 1)], none), ([(15, some 0), (17, some 2)], none), ([(18, some 3)], none)] 36 5 rfl rfl (by kernel_rfl) NewT.trans (NewT.refl _) (Nat.le_of_ble_eq_true rfl) ⟨?_, ?_, ?_, ?_, ?_, trivial⟩ ?_
        · intro a wx hT hF K hK
          obtain ⟨f3, _⟩ := hF
          have f3 : a.tmps.getD 3 undef = .int .i64 ((m : Int)) := f3
          refine rely_wp rfl ?_
          exact opr_move (.inl rfl) (hK _ _ (NewT.refl _) f3)
        · intro a wx hT hF K hK
          obtain ⟨f5, _⟩ := hF
          have f5 : a.tmps.getD 5 undef = u5 := f5
          refine rely_wp rfl ?_
          exact opr_move (.inl rfl) (hK _ _ (NewT.refl _) (by rw [eval_tmp, f5]; exact hT.rd G5.out))
        · intro a wx hT hF K hK
          obtain ⟨f16, _⟩ := hF
          replace f16 := show (svRd (x)).pred (a.tmps.getD 16 undef) wx from f16
          refine rely_wp rfl ?_
          exact opr_len_rd rfl f16 (hK _ _ (NewT.refl _) rfl)
        · intro a wx hT hF K hK
          obtain ⟨f15, f17, _⟩ := hF
          have f15 : a.tmps.getD 15 undef = .int .i64 ((m : Int)) := f15
          have f17 : a.tmps.getD 17 undef = .int .i64 ((List.length (x) : Int)) := f17
          refine rely_wp rfl ?_
          exact opr_add (r := ((m + x.length : Nat) : Int)) Tryd.underlying3 (HW.out) rfl f15 f17 (hK _ _ (NewT.refl _) rfl)
        · intro a wx hT hF K hK
          obtain ⟨f18, _⟩ := hF
          have f18 : a.tmps.getD 18 undef = .int .i64 (((m + x.length : Nat) : Int)) := f18
          refine rely_wp rfl ?_
          exact opr_move (.inr rfl) (hK _ _ (NewT.refl _) f18)
        · intro wb kb
          intro u h; obtain rfl := Eq.symm (h (by simp)); clear h
          intro _ _
          intro u h; obtain rfl := Eq.symm (h (by simp)); clear h
          intro u h; obtain rfl := Eq.symm (h (by simp)); clear h
          intro u h; obtain rfl := Eq.symm (h (by simp)); clear h
          refine relyEnd_nil rfl ?_
          refine wpList_end rfl ?_
          simp only [Act.put, List.setIfInBounds_toArray, List.set_cons_zero, List.set_cons_succ]
          go_simp
          replace HN := Lib.hid (NewT.trans _ _ _ HN.out kb)
          clear kb
          subst ea
          go_wp2
          go_roundw
          case rel => exact ⟨k + 1, m + x.length, by omega, by go_num, by go_num, Lib.hid HMM.out.symm, HN.out⟩
          case measure => simp [intOf]; omega
    · obtain rfl : k = ls.length := by omega
      have hm : ls.flatten.length = m := by have := HM.out; rw [List.take_length] at this; exact this
      have H0 : Hid (0 < m) := Lib.hid (by have := HZ.out; omega)
      have H1 : Hid (m ≤ 1000000) := Lib.hid (by have := HL.out; omega)
      clear hm HM
      go_upto_region 9 with fail
      refine wp_region_steps0 NewT [SV.eq (.int .i64 ((m : Int))), svOB w.heap.size [], svOB w.heap.size []] [([(3, none)], none), ([(23, some 0)], none), ([(24, some 1)], none)] 36 3 rfl rfl (by kernel_rfl) NewT.trans (NewT.refl _) (Nat.le_of_ble_eq_true rfl) ⟨?_, ?_, ?_, trivial⟩ ?_
      · intro a wx hT hF K hK
        obtain ⟨f3, _⟩ := hF
        have f3 : a.tmps.getD 3 undef = .int .i64 ((m : Int)) := f3
        refine rely_wp rfl ?_
        exact opr_move (.inl rfl) (hK _ _ (NewT.refl _) f3)
      · intro a wx hT hF K hK
        obtain ⟨f23, _⟩ := hF
        have f23 : a.tmps.getD 23 undef = .int .i64 ((m : Int)) := f23
        refine rely_wp rfl ?_
        exact opr_cv (Grow_cv m w.heap.size wx (Nat.le_trans HN.out.out.size hT.out.size) H0.out H1.out) rfl Tryd.func84 (by kernel_rfl) (by kernel_rfl) (by simp only [List.map_toArray, List.map_cons, List.map_nil, eval_tmp, eval_const, f23]) hK
      · intro a wx hT hF K hK
        obtain ⟨f24, _⟩ := hF
        replace f24 := show (svOB w.heap.size []).pred (a.tmps.getD 24 undef) wx from f24
        refine rely_wp rfl ?_
        exact opr_move (.inr rfl) (hK _ _ (NewT.refl _) f24)
      · intro wc kc
        intro u h; obtain rfl := Eq.symm (h (by simp)); clear h
        intro _ _
        intro u6 h; have g6 := h (by simp); clear h; replace g6 := show (svOB w.heap.size []).pred u6 wc from g6
        refine relyEnd_nil rfl ?_
        refine wpList_end rfl ?_
        simp only [Act.put, List.setIfInBounds_toArray, List.set_cons_zero, List.set_cons_succ]
        go_simp
        replace HN := Lib.hid (NewT.trans _ _ _ HN.out kc)
        have G6 := Lib.hid g6
        clear kc g6 HA H0 H1 hk hlt
        go_wp2
        go_loopw [6, 27] (fun v i wr => ∃ k : Nat, k ≤ ls.length ∧ i = .int .i64 (k : Int) ∧ Hid (OwnB wr w.heap.size v (ls.take k).flatten) ∧ NewT w wr) (fun _ i _ => ls.length - (intOf i).toNat)
        case atStart => exact ⟨0, by omega, rfl, Lib.hid (show OwnB _ w.heap.size _ (ls.take 0).flatten from by rw [List.take_zero, List.flatten_nil]; exact G6.out), HN.out⟩
        case round =>
        clear HN G6
        obtain ⟨k, hk, rfl, HO, hN⟩ := hrel
        have HN := Lib.hid hN
        have HA := Lib.hid (hN.partsL HA0.out)
        clear hN
        by_cases hlt : k < ls.length
        · have it : (k : Int) < (ls.length : Int) := by omega
          obtain ⟨x, hx⟩ : ∃ d, ls[k]? = some d := ⟨_, List.getElem?_eq_getElem (by omega)⟩
          have HX := Lib.hid hx
          have HF := Lib.hid (flat_take hx)
          have HLE : Hid ((ls.take k).flatten.length + x.length ≤ 1000000) := Lib.hid (by rw [← List.length_append, ← flat_take hx]; exact Nat.le_trans (flat_le ls _) HL.out)
          clear hx
          go_upto_region 12 with fail
          obtain ⟨va, ea⟩ : ∃ v, Value.slice A ls.length c = v := ⟨_, rfl⟩
          rw [ea] at HA ⊢
          refine wp_region_steps0 NewT [svPT (x), svRd (x), svRd (x)] [([(25, none), (27, none)], none), ([(29, some 0)], none), ([(30, some 1)], none)] 36 3 rfl rfl (by kernel_rfl) NewT.trans (NewT.refl _) (Nat.le_of_ble_eq_true rfl) ⟨?_, ?_, ?_, trivial⟩ ?_
          · intro a wx hT hF K hK
            obtain ⟨f25, f27, _⟩ := hF
            have f25 : a.tmps.getD 25 undef = va := f25
            have f27 : a.tmps.getD 27 undef = .int .i64 ((k : Int)) := f27
            refine rely_wp rfl ?_
            exact opr_idxT (i := k) (l := x) (HX.out) (rfl) rfl (by rw [eval_tmp, f25]; exact (hT.partsL HA.out)) f27 (fun v hv => hK v _ (NewT.refl _) hv)
          · intro a wx hT hF K hK
            obtain ⟨f29, _⟩ := hF
            replace f29 := show (svPT (x)).pred (a.tmps.getD 29 undef) wx from f29
            refine rely_wp rfl ?_
            exact opr_ldT rfl f29 (fun u hu => hK u _ (NewT.refl _) hu)
          · intro a wx hT hF K hK
            obtain ⟨f30, _⟩ := hF
            replace f30 := show (svRd (x)).pred (a.tmps.getD 30 undef) wx from f30
            refine rely_wp rfl ?_
            exact opr_move (.inr rfl) (hK _ _ (NewT.refl _) f30)
          · intro wd kd
            intro _ _
            intro _ _
            intro u8 h; have g8 := h (by simp); clear h; replace g8 := show (svRd (x)).pred u8 wd from g8
            refine relyEnd_nil rfl ?_
            refine wpList_end rfl ?_
            simp only [Act.put, List.setIfInBounds_toArray, List.set_cons_zero, List.set_cons_succ]
            go_simp
            replace HN := Lib.hid (NewT.trans _ _ _ HN.out kd)
            replace HO := Lib.hid (HO.out.keep kd)
            have G8 := Lib.hid g8
            clear g8 kd HA
            go_upto_region 13 with fail
            refine wp_region_lit ?_
            refine wpList_plain rfl (fun K hK => ?_)
            refine opr_move (.inl rfl) (hK _ _ ?_)
            clear hK K
            refine wpList_plain rfl (fun K hK => ?_)
            refine opr_move (.inl rfl) (hK _ _ ?_)
            clear hK K
            simp only [Act.put, List.setIfInBounds_toArray, List.set_cons_zero, List.set_cons_succ]
            refine wpList_plain rfl (fun K hK => ?_)
            obtain ⟨v', w', hrun, h2, h3⟩ := run_appB HO.out G8.out HLE.out HN.out.out.size 23
            refine opr_append rfl rfl rfl hrun (hK _ _ ?_)
            clear hK K
            simp only [Act.put, List.setIfInBounds_toArray, List.set_cons_zero, List.set_cons_succ]
            refine wpList_plain rfl (fun K hK => ?_)
            refine opr_move (.inr rfl) (hK _ _ ?_)
            refine wpList_end rfl ?_
            simp only [Act.put, List.setIfInBounds_toArray, List.set_cons_zero, List.set_cons_succ]
            go_simp
            subst ea
            rw [← HF.out] at h2
            have HO2 := Lib.hid h2
            have HN2 := Lib.hid (NewT.of (HN.out.out.trans h3))
            clear h2 h3 HO HN G8 hrun
            go_wp2
            go_roundw
            case rel => exact ⟨k + 1, by omega, by go_num, HO2, HN2.out⟩
            case measure => simp [intOf]; omega
        · obtain rfl : k = ls.length := by omega
          have HO2 := HO.out.rd
          rw [List.take_length] at HO2
          have HO3 := Lib.hid HO2
          clear HO2 HO
          go_wp2
          go_ret
          exact ⟨_, rfl, HN.out, HO3.out⟩
set_option maxHeartbeats 400000 in
theorem LeafText_cv (v : Value) (l : List UInt8) (w : World) (hl : RdV w [] v l) (hn : l.length ≤ 10000) : Cv 65 #[v] w (svRd (0 :: l)) := by
  unfold Cv
  have HL := Lib.hid hl
  have HNN := Lib.hid hn
  have HF : Hid ([[0], l].flatten = 0 :: l) := Lib.hid (by simp)
  clear hl hn
  go_enter Tryd.func65, Tryd.ntmps65
  go_upto_region 1 with fail
  refine wp_region_steps0 NewT [svRd ([0]), svRd (l), svParts [[0], l], svRd (0 :: l), svRd (0 :: l)] [([], none), ([(0, none)], none), ([(3, some 0), (4, some 1)], none), ([(5, some 2)], none), ([(6, some 3)], none)] 7 5 rfl rfl (by kernel_rfl) NewT.trans (NewT.refl _) (Nat.le_of_ble_eq_true rfl) ⟨?_, ?_, ?_, ?_, ?_, trivial⟩ ?_
  · intro a wx hT hF K hK
    refine rely_wp rfl ?_
    exact opr_bsb1 (b := 0) rfl rfl hK
  · intro a wx hT hF K hK
    obtain ⟨f0, _⟩ := hF
    have f0 : a.tmps.getD 0 undef = v := f0
    refine rely_wp rfl ?_
    exact opr_move (.inl rfl) (hK _ _ (NewT.refl _) (by rw [eval_tmp, f0]; exact hT.rd HL.out))
  · intro a wx hT hF K hK
    obtain ⟨f3, f4, _⟩ := hF
    replace f3 := show (svRd ([0])).pred (a.tmps.getD 3 undef) wx from f3
    replace f4 := show (svRd (l)).pred (a.tmps.getD 4 undef) wx from f4
    refine rely_wp rfl ?_
    exact opr_bs2 rfl f3 f4 hK
  · intro a wx hT hF K hK
    obtain ⟨f5, _⟩ := hF
    replace f5 := show (svParts [[0], l]).pred (a.tmps.getD 5 undef) wx from f5
    refine rely_wp rfl ?_
    exact opr_cv ((by rw [← HF.out]; exact Concat_cv _ [[0], l] wx f5 (by simp) (by simp; have := HNN.out; omega))) rfl Tryd.func75 (by kernel_rfl) (by kernel_rfl) (by simp only [List.map_toArray, List.map_cons, List.map_nil, eval_tmp]) hK
  · intro a wx hT hF K hK
    obtain ⟨f6, _⟩ := hF
    replace f6 := show (svRd (0 :: l)).pred (a.tmps.getD 6 undef) wx from f6
    refine rely_wp rfl ?_
    exact opr_move (.inr rfl) (hK _ _ (NewT.refl _) f6)
  · intro wa ka
    intro _ _
    intro _ _
    intro _ _
    intro _ _
    intro u2 h; have g2 := h (by simp); clear h; replace g2 := show (svRd (0 :: l)).pred u2 wa from g2
    refine relyEnd_nil rfl ?_
    refine wpList_end rfl ?_
    simp only [Act.put, List.setIfInBounds_toArray, List.set_cons_zero, List.set_cons_succ]
    go_simp
    go_wp2
    go_ret
    exact ⟨_, rfl, ka, g2⟩
set_option maxHeartbeats 400000 in
theorem NodeText_cv (p q : Hs) (w : World) : Cv 66 #[.agg (rowA 32 (bF p)), .agg (rowA 32 (bF q))] w (svRd (1 :: (digL p ++ digL q))) := by
  unfold Cv
  have HF : Hid ([[1], digL p, digL q].flatten = 1 :: (digL p ++ digL q)) := Lib.hid (by simp)
  go_enter Tryd.func66, Tryd.ntmps66
  go_upto_region 1 with fail
  have r1 := (rowIs_box w 30 32 (bF p)).alloc (.cells (rowA 32 (bF q)) 30)
  have r2 := rowIs_box (w.alloc (.cells (rowA 32 (bF p)) 30)) 30 32 (bF q)
  rw [World.size_alloc] at r2
  have hN : NewT w ((w.alloc (.cells (rowA 32 (bF p)) 30)).alloc (.cells (rowA 32 (bF q)) 30)) := (NewT.trans _ _ _ (NewT.alloc _ _) (NewT.alloc _ _))
  change Code.wp _ _ _ _ ((w.alloc (.cells (rowA 32 (bF p)) 30)).alloc (.cells (rowA 32 (bF q)) 30))
  generalize ((w.alloc (.cells (rowA 32 (bF p)) 30)).alloc (.cells (rowA 32 (bF q)) 30)) = W0 at r1 r2 hN ⊢
  have R1 := Lib.hid r1
  have R2 := Lib.hid r2
  have HN := Lib.hid hN
  clear r1 r2 hN
  refine wp_region_rely (NewT) [svRd ([1]), svRd (digL (p)), svRd (digL (q)), svParts [[1], digL (p), digL (q)], svRd (1 :: (digL p ++ digL q))] [([], none), ([(2, none)], none), ([(3, none)], none), ([(5, some 0), (6, some 1), (7, some 2)], none), ([(8, some 3)], none)] 10 rfl (by kernel_rfl) rfl (by kernel_rfl) (by kernel_rfl) rfl NewT.trans (NewT.drew _) (Nat.le_of_ble_eq_true rfl) ⟨?_, ?_, ?_, ?_, ?_, trivial⟩ ?_
  · intro a wx hT hF K hK
    refine rely_wp rfl ?_
    exact opr_bsb1 (b := 1) rfl rfl hK
  · intro a wx hT hF K hK
    obtain ⟨f2, _⟩ := hF
    have f2 : a.tmps.getD 2 undef = .pointer (some ⟨w.heap.size, 0, none⟩) := f2
    refine rely_wp rfl ?_
    exact opr_sliceH rfl f2 (hK _ _ (NewT.refl _) (rd_rowH (hT.row R1.out) (by decide) (fun j _ => by rw [Nat.zero_add])))
  · intro a wx hT hF K hK
    obtain ⟨f3, _⟩ := hF
    have f3 : a.tmps.getD 3 undef = .pointer (some ⟨w.heap.size + 1, 0, none⟩) := f3
    refine rely_wp rfl ?_
    exact opr_sliceH rfl f3 (hK _ _ (NewT.refl _) (rd_rowH (hT.row R2.out) (by decide) (fun j _ => by rw [Nat.zero_add])))
  · intro a wx hT hF K hK
    obtain ⟨f5, f6, f7, _⟩ := hF
    replace f5 := show (svRd ([1])).pred (a.tmps.getD 5 undef) wx from f5
    replace f6 := show (svRd (digL (p))).pred (a.tmps.getD 6 undef) wx from f6
    replace f7 := show (svRd (digL (q))).pred (a.tmps.getD 7 undef) wx from f7
    refine rely_wp rfl ?_
    exact opr_bs3 rfl f5 f6 f7 hK
  · intro a wx hT hF K hK
    obtain ⟨f8, _⟩ := hF
    replace f8 := show (svParts [[1], digL (p), digL (q)]).pred (a.tmps.getD 8 undef) wx from f8
    refine rely_wp rfl ?_
    exact opr_cv ((by rw [← HF.out]; exact Concat_cv _ [[1], digL p, digL q] wx f8 (by simp) (by simp [digL_length]))) rfl Tryd.func75 (by kernel_rfl) (by kernel_rfl) (by simp only [List.map_toArray, List.map_cons, List.map_nil, eval_tmp]) hK
  · intro wa ka
    intro _ _
    intro _ _
    intro _ _
    intro _ _
    intro u9 h; have g9 := h (by simp); clear h; replace g9 := show (svRd (1 :: (digL p ++ digL q))).pred u9 wa from g9
    refine relyEnd_nil rfl ?_
    simp only [Act.put, List.setIfInBounds_toArray, List.set_cons_zero, List.set_cons_succ]
    refine opr_move (.inr rfl) ?_
    go_simp
    go_wp2
    go_ret
    exact ⟨_, rfl, NewT.trans _ _ _ HN.out ka, g9⟩
end Go.Proofs.YtlnedphnphabkaaDoor
/- Rows of hashes of the own: steps that write them alone, appends. -/
namespace Go.Proofs.YtlnedphnphabkaaDoor
open Go Go.RowKit
set_option maxRecDepth 8000
set_option linter.all false
/-- A step that writes block g, and blocks from B on, alone. -/
structure FT (g B : Nat) (w w' : World) : Prop where
  below : Below g w w'
  keep : ∀ k o, k < B → k ≠ g → w.heap[k]? = some o → o.isCells = true → w'.heap[k]? = some o
theorem FT.trans {g B : Nat} {a b c : World} (h : FT g B a b) (k : FT g B b c) : FT g B a c := ⟨h.below.trans k.below, fun i o h1 h2 h3 h4 => k.keep i o h1 h2 (h.keep i o h1 h2 h3 h4) h4⟩
theorem FT.of_rt {g B : Nat} {w w' : World} (h : RT g w w') : FT g B w w' := ⟨h.below, fun k o _ hk ho hc => h.keep.2 k o (by simpa using hk) ho hc⟩
theorem FT.new {g B : Nat} {w w' : World} (hg : g < w.heap.size) (h : NewT w w') : FT g B w w' := FT.of_rt (RT.new hg h)
theorem FT.row {g B : Nat} {w w' : World} (h : FT g B w w') {b n : Nat} {t : TypeId} {f : Nat → Value} (hb : b < B) (hne : b ≠ g) (hr : w.rowIs b t n f) : w'.rowIs b t n f := by
  obtain ⟨c, hc, hs, hf⟩ := hr
  exact ⟨c, h.keep _ _ hb hne hc rfl, hs, hf⟩
theorem FT.below_of {g B w0 : Nat} {w w' : World} (h : FT g B w w') (hg : w0 ≤ g) : Below w0 w w' := h.below.mono hg
/-- Blocks that came behind W are written, and R: to whoever looks from W on, a step that writes R alone. -/
theorem RT.late2 {R g : Nat} {W w w' : World} (h : RT R W w) (hg : W.heap.size ≤ g) (hR : R < W.heap.size) (hk : RT g w w') : RT R W w' :=
  ⟨h.below.trans (hk.below.mono (by omega)), Nat.le_trans h.keep.1 hk.keep.1, fun k o hk' ho hc => hk.keep.2 k o (by have := (Array.getElem?_eq_some_iff.1 ho).1; simp; omega) (h.keep.2 k o hk' ho hc) hc⟩
theorem OwnH.one {W : World} {B : Nat} {v : Value} {l : List Hs} (h : OwnH W B v l) : v.oneCell' = true := by obtain ⟨A, c, rfl, _⟩ := h.cap; rfl
theorem OwnH.rt {w w' : World} {g B : Nat} {v : Value} {l : List Hs} (h : OwnH w B v l) (hg : g < B) (hR : RT g w w') : OwnH w' B v l := by
  refine ⟨h.1, ?_⟩
  rcases h.2 with h2 | ⟨b, cap, cur, hv, hb, hh, r⟩
  · exact .inl h2
  · exact .inr ⟨b, cap, cur, hv, hb, hR.keep.2 b _ (by simp; omega) hh rfl, r⟩
theorem RdH.keep {w w' : World} {v : Value} {l : List Hs} (hr : RdH w v l) (hk : ∀ b o, w.heap[b]? = some o → o.isCells = true → (∃ A n c, v = .slice (some A) n c ∧ A.block = b) → w'.heap[b]? = some o) : RdH w' v l := by
  obtain ⟨A, cap, hv, h1, h2, h3⟩ := hr
  refine ⟨A, cap, hv, h1, h2, fun h0 => ?_⟩
  obtain ⟨b, o, hA, hc⟩ := h3 h0
  refine ⟨b, o, hA, fun i d hd j hj => ?_⟩
  have hcell := hc i d hd j hj
  obtain ⟨ob, ho, hic⟩ : ∃ ob, w.heap[b]? = some ob ∧ ob.isCells = true := by
    unfold World.cell? at hcell
    cases ho : w.heap[b]? with
    | none => simp [ho] at hcell
    | some ob => exact ⟨ob, rfl, by cases ob <;> simp_all [Obj.isCells]⟩
  rw [World.cell?_of_block ((hk b ob ho hic ⟨_, _, _, by rw [hv, hA], rfl⟩).trans ho.symm)]
  exact hcell
theorem info_hs : (Tryd.prog.info? 33).map (·.size) = some 1 := by kernel_rfl
theorem info_hs0 : (Tryd.prog.info? 33).map (·.size) = some (0 + 1) := by kernel_rfl
section
variable {a : Act} {w : World} {o : Oper} {K : Act → World → Prop} {Q : Exit → Act → World → Prop} {x y : Operand} {g o0 n : Nat} {t' : TypeId} {F : Nat → Value} {v : Value}
theorem opr_ldHs (hr : w.rowIs g t' n F) (hn : o0 < n) (hv : F o0 = v) (ho : o.op = .load 33 x) (hx : a.eval x = .pointer (some ⟨g, o0, none⟩)) (h : K (a.put o.dst v) w) : o.wp Tryd.prog a w K Q :=
  opr_ld1 Tryd.underlying33 rfl ho hx (by rw [hr.cell hn, hv]) h
theorem opr_toV {A : Option Addr} {n c k : Nat} (hk : k ≤ n) (hn : n ≤ c) (ho : o.op = .slice 33 x none (some y) none) (hx : a.eval x = .slice A n c) (hy : a.eval y = .int .i64 (k : Int)) (h : K (a.put o.dst (.slice A k c)) w) : o.wp Tryd.prog a w K Q := by
  obtain ⟨dst, op, type, pos, after, guard⟩ := o
  simp only at ho
  subst ho
  exact opr_val (s := Instr.sliceAt 33 (a.eval x) none (some (a.eval y)) none) (by simp [execOp]) (by rw [hx, hy]; simp [Instr.sliceAt, run_underlying Tryd.underlying33]; exact run_toH w hk hn) h
end
/-- An append onto an own row either stays in its block or makes a new one alone. -/
theorem run_appH_two {W : World} {B : Nat} {v u : Value} {l m : List Hs} (h : OwnH W B v l) (hr : RdH W u m) (hm : 0 < m.length) (hn : l.length + m.length ≤ 1000000) (hB : B ≤ W.heap.size) (ty : TypeId) :
    ∃ v' w', (Builtin.append_ #[33, 33] ty #[v, u]).run Tryd.prog W = .ok v' w' ∧ OwnH w' B v' (l ++ m) ∧ W.grownBy w' v.ownBlock ∧ (NewT W w' ∨ ∃ g c, v = .slice (some ⟨g, 0, none⟩) l.length c ∧ v' = .slice (some ⟨g, 0, none⟩) (l ++ m).length c) := by
  obtain ⟨v', w', h1, h2, h3⟩ := run_appH h hr hn hB ty
  refine ⟨v', w', h1, h2, h3, ?_⟩
  obtain ⟨i0, hi, hz0, hz1, hz2⟩ := info_parts infoH
  have hr0 := hr
  obtain ⟨A, cap, rfl, k1, k2, k3⟩ := hr
  obtain ⟨b, o, rfl, _⟩ := k3 hm
  have hz3 : (hcs m).length = m.length * i0.size := by rw [hz1]; exact hcs_length m
  rcases h.2 with ⟨rfl, h0⟩ | ⟨g, c, cur, rfl, hb, hg, hnc, hcm, hs, ht⟩
  · have hl : l = [] := List.eq_nil_of_length_eq_zero h0
    subst hl
    have hrun := run_append_nil (P := Tryd.prog) W 33 ty 30 i0 _ Tryd.underlying33 hi hz0 ⟨b, o, none⟩ m.length cap (hcs m) hz3 hr0.news (by omega) (by simp at hn; omega) (by simp at hn; rw [hz2]; omega)
    rw [h1] at hrun
    injection hrun with _ e
    subst e
    exact .inl (NewT.trans _ _ _ (NewT.drew W) (NewT.alloc _ _))
  · by_cases hroom : l.length + m.length ≤ c
    · have hrun := run_append_room (P := Tryd.prog) W 33 ty 30 i0 Tryd.underlying33 hi g l.length c cur hg ⟨b, o, none⟩ m.length cap (hcs m) hz3 hr0.news (hcs_one_cell m) hroom (by rw [hcs_length, hs, hz1]; omega)
      rw [h1] at hrun
      injection hrun with e _
      exact .inr ⟨g, c, rfl, by rw [List.length_append]; exact e⟩
    · have hrun := run_append_grow (P := Tryd.prog) W 33 ty 30 i0 _ Tryd.underlying33 hi hz0 ⟨g, 0, none⟩ l.length c (hcs l) (by rw [hz1]; exact hcs_length l) (h.cells (g := g) rfl) ⟨b, o, none⟩ m.length cap (hcs m) hz3 hr0.news (by omega) (by omega) (growslice_fits (by omega) (by rw [hz2]; omega))
      rw [h1] at hrun
      injection hrun with _ e
      subst e
      exact .inl (NewT.trans _ _ _ (NewT.drew W) (NewT.alloc _ _))
/-- A step of a region that appends onto v, which reads as S, what makes it read as L. -/
structure AT (B : Nat) (v : Value) (S L : List Hs) (w w' : World) : Prop where
  below : Below B w w'
  keep : KeepBut v.ownBlock.toList w w'
  old : OwnH w B v S → OwnH w' B v S
  new : ∀ v', OwnH w B v' L → OwnH w' B v' L
theorem AT.trans {B : Nat} {v : Value} {S L : List Hs} (a b c : World) (h : AT B v S L a b) (k : AT B v S L b c) : AT B v S L a c := ⟨h.below.trans k.below, h.keep.trans k.keep, fun x => k.old (h.old x), fun v' x => k.new v' (h.new v' x)⟩
theorem AT.of_new {B : Nat} {v : Value} {S L : List Hs} {w w' : World} (hB : B ≤ w.heap.size) (h : NewT w w') : AT B v S L w w' := ⟨h.out.mono hB, KeepBut.below h, fun x => x.new h, fun _ x => x.new h⟩
theorem AT.drew {B : Nat} {v : Value} {S L : List Hs} (w : World) : AT B v S L w w.drew := ⟨(Below.refl _ w).drew, KeepBut.drew w, fun x => x.keep fun _ _ => rfl, fun _ x => x.keep fun _ _ => rfl⟩
theorem AT.refl {B : Nat} {v : Value} {S L : List Hs} (w : World) : AT B v S L w w := ⟨Below.refl _ w, KeepBut.refl _ w, fun x => x, fun _ x => x⟩
theorem AT.app {B : Nat} {v v' : Value} {S m : List Hs} {w w' : World} (h : OwnH w B v S) (hm : 0 < m.length) (h' : OwnH w' B v' (S ++ m)) (hg : w.grownBy w' v.ownBlock) (hB : B ≤ w.heap.size) (two : NewT w w' ∨ ∃ g c, v = .slice (some ⟨g, 0, none⟩) S.length c ∧ v' = .slice (some ⟨g, 0, none⟩) (S ++ m).length c) : AT B v S (S ++ m) w w' := by
  have hk : KeepBut v.ownBlock.toList w w' := keepBut_grown hg fun k hk => by simp [hk]
  rcases two with hN | ⟨g, c, hv, hv'⟩
  · exact ⟨hN.out.mono hB, hk, fun x => x.new hN, fun _ x => x.new hN⟩
  · refine ⟨(Below.refl _ w).grown hg hB (fun k e => (h.lt k e).1), hk, fun _ => ?_, fun v'' h'' => ?_⟩
    · rw [hv'] at h'
      have := h'.take (k := S.length) (by simp) (by simp; omega)
      rw [List.take_left] at this
      rw [hv]; exact this
    · by_cases e : v''.ownBlock = some g
      · have e2 : v'' = v' := by
          rcases h''.2 with ⟨rfl, _⟩ | ⟨g2, c2, cur2, rfl, _, hh2, _, _, hs2, _⟩
          · cases e
          · simp [Value.ownBlock] at e
            subst e
            rw [hv] at h
            rcases h.2 with ⟨h3, _⟩ | ⟨g3, c3, cur3, h3, _, hh3, _, _, hs3, _⟩
            · cases h3
            · cases h3
              rw [hh2] at hh3
              cases hh3
              have : c2 = c := by omega
              rw [hv', this]
        rw [e2]; exact h'
      · exact h''.keep fun k hkk => hg.block k (h''.lt k hkk).2 (by rw [hv]; intro e2; simp [Value.ownBlock] at e2; subst e2; exact e hkk)
end Go.Proofs.YtlnedphnphabkaaDoor
/- One leaf more, by the binary digits of how many there are: the mathematics of a frontier's Add. No program is named. -/
namespace Go.Proofs.YtlnedphnphabkaaDoor
set_option maxRecDepth 8000
set_option linter.all false
section
variable {H : Type} (node : H → H → H) (z : H)
/-- A leaf more, the smallest whole tree first; n: how many there were. -/
def addT : Nat → H → List H → List H
  | _, h, [] => [h]
  | n, h, t :: T => if n % 2 = 1 then addT (n / 2) (node t h) T else h :: t :: T
theorem addT_odd (n : Nat) (h t : H) (T : List H) (hn : n % 2 = 1) : addT node n h (t :: T) = addT node (n / 2) (node t h) T := by rw [addT, if_pos hn]
theorem addT_even (n : Nat) (h : H) (T : List H) (hn : n % 2 = 0) : addT node n h T = h :: T := by
  cases T with
  | nil => rfl
  | cons t T => rw [addT, if_neg (by omega)]
variable {node z}
theorem Fr.dvd {S : List (Nat × H)} {l : List H} (h : Fr node z S l) (k : Nat) (hk : ∀ p ∈ S, k ≤ p.1) : 2 ^ k ∣ l.length := by
  induction h with
  | nil => exact ⟨0, by simp⟩
  | @cons k' a b F ha hF hb ih =>
    rw [List.length_append, ha]
    exact Nat.dvd_add (Nat.pow_dvd_pow 2 (hk (k', rootM node z a) (by simp))) (ih fun p hp => hk p (by simp [hp]))
theorem addT_addR (S : List (Nat × H)) : ∀ (k m : Nat) (h : H) (l : List H), Fr node z S.reverse l → (∀ p ∈ S, k ≤ p.1) → l.length = 2 ^ k * m → addT node m h (S.map (·.2)) = (addR node k h S).map (·.2) := by
  induction S with
  | nil => intro k m h l _ _ _; rfl
  | cons p S ih =>
    intro k m h l hl hk hm
    obtain ⟨k', h'⟩ := p
    rw [List.reverse_cons] at hl
    obtain ⟨a, c, rfl, h1, h2, h3, h4⟩ := hl.snoc_inv
    have h5 : ∀ p ∈ S, k' + 1 ≤ p.1 := fun p hp => h4 p (by simpa using hp)
    obtain ⟨q, hq⟩ := h1.dvd (k' + 1) fun p hp => h4 p hp
    have hp := Nat.two_pow_pos k
    rw [List.length_append, h2, hq] at hm
    rw [List.map_cons]
    unfold addR
    by_cases he : k' = k
    · subst he
      rw [if_pos rfl]
      have hm2 : m = 2 * q + 1 := by
        rw [Nat.pow_succ, Nat.mul_assoc] at hm
        have : 2 ^ k' * (2 * q + 1) = 2 ^ k' * m := by rw [Nat.mul_add, Nat.mul_one]; exact hm
        exact (Nat.eq_of_mul_eq_mul_left hp this).symm
      rw [addT_odd node m h h' _ (by omega), show m / 2 = q by omega]
      exact ih (k' + 1) q (node h' h) a h1 h5 hq
    · rw [if_neg he]
      have hkk : k < k' := by have := hk (k', h') (by simp); simp at this; omega
      obtain ⟨e, rfl⟩ : ∃ e, k' = k + 1 + e := ⟨k' - (k + 1), by omega⟩
      have hm2 : m = 2 * (2 ^ e * (2 * q + 1)) := by
        have e1 : 2 ^ (k + 1 + e + 1) * q + 2 ^ (k + 1 + e) = 2 ^ k * (2 * (2 ^ e * (2 * q + 1))) := by
          rw [show k + 1 + e + 1 = k + (1 + e + 1) by omega, show k + 1 + e = k + (1 + e) by omega, Nat.pow_add 2 k (1 + e + 1), Nat.pow_add 2 k (1 + e), Nat.mul_assoc, ← Nat.mul_add]
          congr 1
          rw [show 1 + e + 1 = e + 1 + 1 by omega, show 1 + e = e + 1 by omega, Nat.pow_succ 2 (e + 1), Nat.pow_succ 2 e, Nat.mul_add, Nat.mul_one]
          generalize 2 ^ e = y
          rw [Nat.mul_add, Nat.mul_comm y 2, Nat.mul_assoc, Nat.mul_assoc, Nat.mul_comm y (2 * q), Nat.mul_assoc, Nat.mul_comm q y]
        rw [e1] at hm
        exact (Nat.eq_of_mul_eq_mul_left hp hm).symm
      rw [addT_even node m h _ (by omega)]
      rfl
/-- A frontier of l's leaves, and one more. -/
theorem treesM_add (l : List H) (h : H) : treesM node z (l ++ [h]) = (addT node l.length h (treesM node z l).reverse).reverse := by
  obtain ⟨S, hS, _⟩ := fr_all (node := node) (z := z) l
  have h1 := hS.trees
  have h2 := (addR_one S h l hS).trees
  rw [← h1, ← h2, List.map_reverse, List.map_reverse, List.reverse_reverse]
  congr 1
  exact (addT_addR S 0 l.length h l hS (fun _ _ => Nat.zero_le _) (by simp)).symm
theorem treesM_ones (l : List H) : (treesM node z l).length = onesN l.length := by
  obtain ⟨S, hS, _⟩ := fr_all (node := node) (z := z) l
  rw [← hS.trees, List.length_map]; exact hS.ones
theorem treesM_root (l : List H) : rootF node z (treesM node z l) = rootM node z l := by
  obtain ⟨S, hS, _⟩ := fr_all (node := node) (z := z) l
  rw [← hS.trees]; exact hS.root
theorem treesM_whole (l : List H) (k : Nat) (hk : l.length = 2 ^ k) : treesM node z l = [rootM node z l] := by
  obtain ⟨S, hS, _⟩ := fr_all (node := node) (z := z) l
  rw [← hS.trees, hS.whole k hk]; rfl
theorem treesM_nil : treesM node z ([] : List H) = [] := by unfold treesM; simp
theorem onesN_pos (n : Nat) (h : 0 < n) : 0 < onesN n := by
  induction n using Nat.strongRecOn with
  | ind n ih =>
    rw [onesN_step]
    by_cases h2 : n % 2 = 1
    · omega
    · have := ih (n / 2) (by omega) (by omega); omega
theorem onesN_odd (n : Nat) (h : n % 2 = 1) : onesN n = onesN (n / 2) + 1 := by rw [onesN_step]; omega
theorem onesN_le (n : Nat) : onesN n ≤ n := by
  induction n using Nat.strongRecOn with
  | ind n ih =>
    by_cases h0 : n = 0
    · subst h0; simp [onesN_zero]
    · rw [onesN_step]; have := ih (n / 2) (by omega); omega
end
end Go.Proofs.YtlnedphnphabkaaDoor
/- Paths and proofs on lists, whatever a node's hash is: a leaf's path, what it comes to, that a list begins another one. No program is named. -/
namespace Go.Proofs.YtlnedphnphabkaaDoor
set_option maxRecDepth 8000
set_option linter.all false
theorem splitN_pow (n : Nat) (h : 2 ≤ n) : ∃ e, splitN n = 2 ^ e ∧ 2 ^ e < n ∧ n ≤ 2 ^ (e + 1) := by
  have h1 := splitN_lt n h
  refine ⟨(n - 1).log2, by unfold splitN; rw [if_neg (by omega)], ?_⟩
  have e : splitN n = 2 ^ (n - 1).log2 := by unfold splitN; rw [if_neg (by omega)]
  rw [Nat.pow_succ, ← e]; omega
/-- On which side a leaf lies, from the leaf up: true: the other tree is on its right. -/
def leftsM (i n : Nat) : List Bool :=
  if h : n < 2 then [] else if i < splitN n then leftsM i (splitN n) ++ [true] else leftsM (i - splitN n) (n - splitN n) ++ [false]
termination_by n
decreasing_by
  · have := splitN_lt n (by omega); omega
  · have := splitN_lt n (by omega); omega
theorem leftsM_few (i n : Nat) (h : n < 2) : leftsM i n = [] := by rw [leftsM, dif_pos h]
theorem leftsM_l (i n : Nat) (h : 2 ≤ n) (hi : i < splitN n) : leftsM i n = leftsM i (splitN n) ++ [true] := by rw [leftsM, dif_neg (by omega), if_pos hi]
theorem leftsM_r (i n : Nat) (h : 2 ≤ n) (hi : ¬ i < splitN n) : leftsM i n = leftsM (i - splitN n) (n - splitN n) ++ [false] := by rw [leftsM, dif_neg (by omega), if_neg hi]
theorem leftsM_le (e : Nat) : ∀ (i n : Nat), n ≤ 2 ^ e → (leftsM i n).length ≤ e := by
  induction e with
  | zero => intro i n h; rw [leftsM_few _ _ (by simp at h; omega)]; simp
  | succ e ih =>
    intro i n h
    by_cases h2 : n < 2
    · rw [leftsM_few _ _ h2]; simp
    · obtain ⟨f, h3, h4, h5⟩ := splitN_pow n (by omega)
      have hk : splitN n ≤ 2 ^ e := by
        rw [h3]
        have : f < e + 1 := (Nat.pow_lt_pow_iff_right (a := 2) (by omega)).1 (Nat.lt_of_lt_of_le h4 h)
        exact Nat.pow_le_pow_right (by omega) (by omega)
      have hs := splitN_lt n (by omega)
      by_cases hi : i < splitN n
      · rw [leftsM_l _ _ (by omega) hi, List.length_append]
        have := ih i (splitN n) hk; simp; omega
      · rw [leftsM_r _ _ (by omega) hi, List.length_append]
        have := ih (i - splitN n) (n - splitN n) (by omega); simp; omega
/-- On which side a beginning's end lies. -/
def leftsS (m n : Nat) : List Bool :=
  if h : n ≤ m ∨ n < 2 then [] else if m ≤ splitN n then leftsS m (splitN n) ++ [true] else leftsS (m - splitN n) (n - splitN n) ++ [false]
termination_by n
decreasing_by
  · have := splitN_lt n (by omega); omega
  · have := splitN_lt n (by omega); omega
/-- Is the beginning one whole tree on the way down? -/
def wholeS (m n : Nat) : Bool :=
  if h : n ≤ m ∨ n < 2 then true else if m ≤ splitN n then wholeS m (splitN n) else false
termination_by n
decreasing_by have := splitN_lt n (by omega); omega
theorem leftsS_all (m n : Nat) (h : n ≤ m ∨ n < 2) : leftsS m n = [] := by rw [leftsS, dif_pos h]
theorem leftsS_l (m n : Nat) (h : m < n) (h2 : 2 ≤ n) (hm : m ≤ splitN n) : leftsS m n = leftsS m (splitN n) ++ [true] := by rw [leftsS, dif_neg (by omega), if_pos hm]
theorem leftsS_r (m n : Nat) (h : m < n) (h2 : 2 ≤ n) (hm : ¬ m ≤ splitN n) : leftsS m n = leftsS (m - splitN n) (n - splitN n) ++ [false] := by rw [leftsS, dif_neg (by omega), if_neg hm]
theorem wholeS_all (m n : Nat) (h : n ≤ m ∨ n < 2) : wholeS m n = true := by rw [wholeS, dif_pos h]
theorem wholeS_l (m n : Nat) (h : m < n) (h2 : 2 ≤ n) (hm : m ≤ splitN n) : wholeS m n = wholeS m (splitN n) := by rw [wholeS, dif_neg (by omega), if_pos hm]
theorem wholeS_r (m n : Nat) (h : m < n) (h2 : 2 ≤ n) (hm : ¬ m ≤ splitN n) : wholeS m n = false := by rw [wholeS, dif_neg (by omega), if_neg hm]
theorem leftsS_le (e : Nat) : ∀ (m n : Nat), n ≤ 2 ^ e → (leftsS m n).length ≤ e := by
  induction e with
  | zero => intro m n h; rw [leftsS_all _ _ (by simp at h; omega)]; simp
  | succ e ih =>
    intro m n h
    by_cases h2 : n ≤ m ∨ n < 2
    · rw [leftsS_all _ _ h2]; simp
    · obtain ⟨f, h3, h4, h5⟩ := splitN_pow n (by omega)
      have hk : splitN n ≤ 2 ^ e := by
        rw [h3]
        have : f < e + 1 := (Nat.pow_lt_pow_iff_right (a := 2) (by omega)).1 (Nat.lt_of_lt_of_le h4 h)
        exact Nat.pow_le_pow_right (by omega) (by omega)
      have hs := splitN_lt n (by omega)
      by_cases hm : m ≤ splitN n
      · rw [leftsS_l _ _ (by omega) (by omega) hm, List.length_append]
        have := ih m (splitN n) hk; simp; omega
      · rw [leftsS_r _ _ (by omega) (by omega) hm, List.length_append]
        have := ih (m - splitN n) (n - splitN n) (by omega); simp; omega
section
variable {H : Type} (node : H → H → H) (z : H)
/-- A leaf's path. -/
def pathM (l : List H) (i : Nat) : List H :=
  if h : l.length < 2 then [] else if i < splitN l.length then pathM (l.take (splitN l.length)) i ++ [rootM node z (l.drop (splitN l.length))] else pathM (l.drop (splitN l.length)) (i - splitN l.length) ++ [rootM node z (l.take (splitN l.length))]
termination_by l.length
decreasing_by
  · have := splitN_lt l.length (by omega); simp; omega
  · have := splitN_lt l.length (by omega); simp; omega
theorem pathM_few (l : List H) (i : Nat) (h : l.length < 2) : pathM node z l i = [] := by rw [pathM, dif_pos h]
theorem pathM_l (l : List H) (i : Nat) (h : 2 ≤ l.length) (hi : i < splitN l.length) : pathM node z l i = pathM node z (l.take (splitN l.length)) i ++ [rootM node z (l.drop (splitN l.length))] := by rw [pathM, dif_neg (by omega), if_pos hi]
theorem pathM_r (l : List H) (i : Nat) (h : 2 ≤ l.length) (hi : ¬ i < splitN l.length) : pathM node z l i = pathM node z (l.drop (splitN l.length)) (i - splitN l.length) ++ [rootM node z (l.take (splitN l.length))] := by rw [pathM, dif_neg (by omega), if_neg hi]
/-- What a path comes to, side by side. -/
def foldP : H → List Bool → List H → H
  | h, b :: bs, p :: ps => foldP (if b then node h p else node p h) bs ps
  | h, _, _ => h
theorem foldP_app (bs : List Bool) : ∀ (h : H) (ps : List H) (b : Bool) (p : H), bs.length = ps.length → foldP node h (bs ++ [b]) (ps ++ [p]) = if b then node (foldP node h bs ps) p else node p (foldP node h bs ps) := by
  induction bs with
  | nil => intro h ps b p hl; obtain rfl : ps = [] := List.eq_nil_of_length_eq_zero (by simpa using hl.symm)
           rfl
  | cons b bs ih =>
    intro h ps b' p hl
    match ps, hl with
    | q :: ps, hl => simp only [List.cons_append, foldP]; exact ih _ ps b' p (by simpa using hl)
variable {node z}
theorem pathM_length (n : Nat) : ∀ (l : List H) (i : Nat), l.length ≤ n → (pathM node z l i).length = (leftsM i l.length).length := by
  induction n with
  | zero => intro l i h; rw [pathM_few _ _ _ _ (by omega), leftsM_few _ _ (by omega)]; rfl
  | succ n ih =>
    intro l i h
    by_cases h2 : l.length < 2
    · rw [pathM_few _ _ _ _ h2, leftsM_few _ _ h2]; rfl
    · have hs := splitN_lt l.length (by omega)
      by_cases hi : i < splitN l.length
      · rw [pathM_l _ _ _ _ (by omega) hi, leftsM_l _ _ (by omega) hi, List.length_append, List.length_append, ih _ _ (by rw [List.length_take]; omega), List.length_take, Nat.min_eq_left (by omega)]; rfl
      · rw [pathM_r _ _ _ _ (by omega) hi, leftsM_r _ _ (by omega) hi, List.length_append, List.length_append, ih _ _ (by rw [List.length_drop]; omega), List.length_drop]; rfl
/-- Of another leaf a path comes to the root of the list that has that in its place. -/
theorem path_set (n : Nat) : ∀ (l : List H) (i : Nat) (h : H), l.length ≤ n → i < l.length → foldP node h (leftsM i l.length) (pathM node z l i) = rootM node z (l.set i h) := by
  induction n with
  | zero => intro l i h hn hi; omega
  | succ n ih =>
    intro l i h hn hi
    by_cases h2 : l.length < 2
    · match l, h2, hi with
      | [x], _, hi =>
        obtain rfl : i = 0 := by simpa using hi
        rw [pathM_few _ _ _ _ (by simp), leftsM_few _ _ (by simp)]
        simp [foldP, rootM_one]
    · have hs := splitN_lt l.length (by omega)
      have hr := rootM_split node z (l.set i h) (by rw [List.length_set]; omega)
      rw [List.length_set] at hr
      by_cases hik : i < splitN l.length
      · have e1 : (l.set i h).take (splitN l.length) = (l.take (splitN l.length)).set i h := List.take_set ..
        have e2 : (l.set i h).drop (splitN l.length) = l.drop (splitN l.length) := List.drop_set_of_lt hik
        have hlen : (l.take (splitN l.length)).length = splitN l.length := by rw [List.length_take]; omega
        have h3 := ih (l.take (splitN l.length)) i h (by omega) (by omega)
        rw [hlen] at h3
        rw [pathM_l _ _ _ _ (by omega) hik, leftsM_l _ _ (by omega) hik, foldP_app _ _ _ _ _ _ (by rw [pathM_length _ _ _ (Nat.le_refl _), hlen]), h3, if_pos rfl, hr, e1, e2]
      · have e1 : (l.set i h).take (splitN l.length) = l.take (splitN l.length) := List.take_set_of_le (by omega)
        have e2 : (l.set i h).drop (splitN l.length) = (l.drop (splitN l.length)).set (i - splitN l.length) h := by rw [List.drop_set, if_neg (by omega)]
        have hlen : (l.drop (splitN l.length)).length = l.length - splitN l.length := by rw [List.length_drop]
        have h3 := ih (l.drop (splitN l.length)) (i - splitN l.length) h (by omega) (by omega)
        rw [hlen] at h3
        rw [pathM_r _ _ _ _ (by omega) hik, leftsM_r _ _ (by omega) hik, foldP_app _ _ _ _ _ _ (by rw [pathM_length _ _ _ (Nat.le_refl _), hlen]), h3, if_neg (by decide), hr, e1, e2]
/-- A leaf's path comes to the list's root. -/
theorem path_comes (l : List H) (i : Nat) (h : H) (hi : l[i]? = some h) : foldP node h (leftsM i l.length) (pathM node z l i) = rootM node z l := by
  obtain ⟨hlt, rfl⟩ := List.getElem?_eq_some_iff.1 hi
  rw [path_set l.length l i l[i] (Nat.le_refl _) hlt, List.set_getElem_self]
variable (node z)
/-- The proof that the first m begin a list. -/
def subM (m : Nat) (l : List H) (b : Bool) : List H :=
  if h : l.length ≤ m ∨ l.length < 2 then (if b then [] else [rootM node z l]) else if m ≤ splitN l.length then subM m (l.take (splitN l.length)) b ++ [rootM node z (l.drop (splitN l.length))] else subM (m - splitN l.length) (l.drop (splitN l.length)) false ++ [rootM node z (l.take (splitN l.length))]
termination_by l.length
decreasing_by
  · have := splitN_lt l.length (by omega); simp; omega
  · have := splitN_lt l.length (by omega); simp; omega
theorem subM_all (m : Nat) (l : List H) (b : Bool) (h : l.length ≤ m ∨ l.length < 2) : subM node z m l b = if b then [] else [rootM node z l] := by rw [subM, dif_pos h]
theorem subM_l (m : Nat) (l : List H) (b : Bool) (h : m < l.length) (h2 : 2 ≤ l.length) (hm : m ≤ splitN l.length) : subM node z m l b = subM node z m (l.take (splitN l.length)) b ++ [rootM node z (l.drop (splitN l.length))] := by rw [subM, dif_neg (by omega), if_pos hm]
theorem subM_r (m : Nat) (l : List H) (b : Bool) (h : m < l.length) (h2 : 2 ≤ l.length) (hm : ¬ m ≤ splitN l.length) : subM node z m l b = subM node z (m - splitN l.length) (l.drop (splitN l.length)) false ++ [rootM node z (l.take (splitN l.length))] := by rw [subM, dif_neg (by omega), if_neg hm]
/-- What a proof comes to, side by side: both roots. -/
def foldB : H × H → List Bool → List H → H × H
  | h, b :: bs, p :: ps => foldB (if b then (h.1, node h.2 p) else (node p h.1, node p h.2)) bs ps
  | h, _, _ => h
theorem foldB_app (bs : List Bool) : ∀ (h : H × H) (ps : List H) (b : Bool) (p : H), bs.length = ps.length → foldB node h (bs ++ [b]) (ps ++ [p]) = if b then ((foldB node h bs ps).1, node (foldB node h bs ps).2 p) else (node p (foldB node h bs ps).1, node p (foldB node h bs ps).2) := by
  induction bs with
  | nil => intro h ps b p hl; obtain rfl : ps = [] := List.eq_nil_of_length_eq_zero (by simpa using hl.symm)
           rfl
  | cons b bs ih =>
    intro h ps b' p hl
    match ps, hl with
    | q :: ps, hl => simp only [List.cons_append, foldB]; exact ih _ ps b' p (by simpa using hl)
variable {node z}
/-- A proof has one hash for each side, and one more if the beginning is no whole tree. -/
theorem subM_length (n : Nat) : ∀ (m : Nat) (l : List H) (b : Bool), l.length ≤ n → (subM node z m l b).length = (leftsS m l.length).length + (if b && wholeS m l.length then 0 else 1) := by
  induction n with
  | zero => intro m l b h; rw [subM_all _ _ _ _ _ (by omega), leftsS_all _ _ (by omega), wholeS_all _ _ (by omega)]; cases b <;> simp
  | succ n ih =>
    intro m l b h
    by_cases h2 : l.length ≤ m ∨ l.length < 2
    · rw [subM_all _ _ _ _ _ h2, leftsS_all _ _ h2, wholeS_all _ _ h2]; cases b <;> simp
    · have hs := splitN_lt l.length (by omega)
      by_cases hm : m ≤ splitN l.length
      · have hlen : (l.take (splitN l.length)).length = splitN l.length := by rw [List.length_take]; omega
        rw [subM_l _ _ _ _ _ (by omega) (by omega) hm, leftsS_l _ _ (by omega) (by omega) hm, wholeS_l _ _ (by omega) (by omega) hm, List.length_append, List.length_append, ih _ _ _ (by omega), hlen]; simp; omega
      · have hlen : (l.drop (splitN l.length)).length = l.length - splitN l.length := by rw [List.length_drop]
        rw [subM_r _ _ _ _ _ (by omega) (by omega) hm, leftsS_r _ _ (by omega) (by omega) hm, wholeS_r _ _ (by omega) (by omega) hm, List.length_append, List.length_append, ih _ _ _ (by omega), hlen]; simp
theorem rootM_take (l : List H) (m : Nat) (h2 : 2 ≤ l.length) (hm : ¬ m ≤ splitN l.length) (hn : m ≤ l.length) : rootM node z (l.take m) = node (rootM node z (l.take (splitN l.length))) (rootM node z ((l.drop (splitN l.length)).take (m - splitN l.length))) := by
  obtain ⟨e, h3, h4, h5⟩ := splitN_pow l.length h2
  have e1 : l.take m = l.take (splitN l.length) ++ (l.drop (splitN l.length)).take (m - splitN l.length) := by
    have : m = splitN l.length + (m - splitN l.length) := by omega
    rw [this, List.take_add, Nat.add_sub_cancel_left]
  rw [Nat.pow_succ] at h5
  rw [e1]
  exact rootM_app node z _ _ e (by rw [List.length_take, ← h3]; omega) (by rw [List.length_take, List.length_drop]; omega) (by rw [List.length_take, List.length_drop]; omega)
/-- A proof that tells its own first root comes to both roots. -/
theorem sub_false (n : Nat) : ∀ (m : Nat) (l : List H), l.length ≤ n → 1 ≤ m → m ≤ l.length → ∃ q qs, subM node z m l false = q :: qs ∧ (leftsS m l.length).length = qs.length ∧ foldB node (q, q) (leftsS m l.length) qs = (rootM node z (l.take m), rootM node z l) := by
  induction n with
  | zero => intro m l h1 h2 h3; omega
  | succ n ih =>
    intro m l hn h1 hml
    by_cases h2 : l.length ≤ m ∨ l.length < 2
    · refine ⟨rootM node z l, [], by rw [subM_all _ _ _ _ _ h2]; rfl, by rw [leftsS_all _ _ h2]; rfl, ?_⟩
      rw [leftsS_all _ _ h2, List.take_of_length_le (by omega)]; rfl
    · have hs := splitN_lt l.length (by omega)
      by_cases hm : m ≤ splitN l.length
      · have hlen : (l.take (splitN l.length)).length = splitN l.length := by rw [List.length_take]; omega
        obtain ⟨q, qs, e1, e2, e3⟩ := ih m (l.take (splitN l.length)) (by omega) h1 (by omega)
        rw [hlen] at e2 e3
        refine ⟨q, qs ++ [rootM node z (l.drop (splitN l.length))], by rw [subM_l _ _ _ _ _ (by omega) (by omega) hm, e1]; rfl, by rw [leftsS_l _ _ (by omega) (by omega) hm]; simp [e2], ?_⟩
        rw [leftsS_l _ _ (by omega) (by omega) hm, foldB_app _ _ _ _ _ _ e2, if_pos rfl, e3, List.take_take, Nat.min_eq_left hm, ← rootM_split node z l (by omega)]
      · have hlen : (l.drop (splitN l.length)).length = l.length - splitN l.length := by rw [List.length_drop]
        obtain ⟨q, qs, e1, e2, e3⟩ := ih (m - splitN l.length) (l.drop (splitN l.length)) (by omega) (by omega) (by omega)
        rw [hlen] at e2 e3
        refine ⟨q, qs ++ [rootM node z (l.take (splitN l.length))], by rw [subM_r _ _ _ _ _ (by omega) (by omega) hm, e1]; rfl, by rw [leftsS_r _ _ (by omega) (by omega) hm]; simp [e2], ?_⟩
        rw [leftsS_r _ _ (by omega) (by omega) hm, foldB_app _ _ _ _ _ _ e2, if_neg (by decide), e3, ← rootM_split node z l (by omega), ← rootM_take (node := node) (z := z) l m (by omega) hm hml]
/-- A proof comes to both roots. -/
theorem sub_true (n : Nat) : ∀ (m : Nat) (l : List H), l.length ≤ n → 1 ≤ m → m ≤ l.length →
    (wholeS m l.length = true → (leftsS m l.length).length = (subM node z m l true).length ∧ foldB node (rootM node z (l.take m), rootM node z (l.take m)) (leftsS m l.length) (subM node z m l true) = (rootM node z (l.take m), rootM node z l)) ∧
    (wholeS m l.length = false → ∃ q qs, subM node z m l true = q :: qs ∧ (leftsS m l.length).length = qs.length ∧ foldB node (q, q) (leftsS m l.length) qs = (rootM node z (l.take m), rootM node z l)) := by
  induction n with
  | zero => intro m l h1 h2 h3; omega
  | succ n ih =>
    intro m l hn h1 hml
    by_cases h2 : l.length ≤ m ∨ l.length < 2
    · rw [wholeS_all _ _ h2, leftsS_all _ _ h2, subM_all _ _ _ _ _ h2, List.take_of_length_le (by omega)]
      exact ⟨fun _ => ⟨rfl, rfl⟩, fun h => by cases h⟩
    · have hs := splitN_lt l.length (by omega)
      by_cases hm : m ≤ splitN l.length
      · have hlen : (l.take (splitN l.length)).length = splitN l.length := by rw [List.length_take]; omega
        have h3 := ih m (l.take (splitN l.length)) (by omega) h1 (by omega)
        rw [hlen, List.take_take, Nat.min_eq_left hm] at h3
        rw [wholeS_l _ _ (by omega) (by omega) hm, leftsS_l _ _ (by omega) (by omega) hm, subM_l _ _ _ _ _ (by omega) (by omega) hm]
        refine ⟨fun hw => ?_, fun hw => ?_⟩
        · obtain ⟨e2, e3⟩ := h3.1 hw
          refine ⟨by simp [e2], ?_⟩
          rw [foldB_app _ _ _ _ _ _ e2, if_pos rfl, e3, ← rootM_split node z l (by omega)]
        · obtain ⟨q, qs, e1, e2, e3⟩ := h3.2 hw
          refine ⟨q, qs ++ [rootM node z (l.drop (splitN l.length))], by rw [e1]; rfl, by simp [e2], ?_⟩
          rw [foldB_app _ _ _ _ _ _ e2, if_pos rfl, e3, ← rootM_split node z l (by omega)]
      · have hlen : (l.drop (splitN l.length)).length = l.length - splitN l.length := by rw [List.length_drop]
        rw [wholeS_r _ _ (by omega) (by omega) hm]
        refine ⟨fun h => (by cases h), fun _ => ?_⟩
        obtain ⟨q, qs, e1, e2, e3⟩ := sub_false (l.length - splitN l.length) (m - splitN l.length) (l.drop (splitN l.length)) (by omega) (by omega) (by omega)
        rw [hlen] at e2 e3
        refine ⟨q, qs ++ [rootM node z (l.take (splitN l.length))], by rw [subM_r _ _ _ _ _ (by omega) (by omega) hm, e1]; rfl, by rw [leftsS_r _ _ (by omega) (by omega) hm]; simp [e2], ?_⟩
        rw [leftsS_r _ _ (by omega) (by omega) hm, foldB_app _ _ _ _ _ _ e2, if_neg (by decide), e3, ← rootM_split node z l (by omega), ← rootM_take (node := node) (z := z) l m (by omega) hm hml]
end
end Go.Proofs.YtlnedphnphabkaaDoor
/- What a path or a proof comes to when its hashes are taken from the end, whatever a node's hash is. No program is named. -/
namespace Go.Proofs.YtlnedphnphabkaaDoor
set_option maxRecDepth 8000
set_option linter.all false
section
variable {H : Type} (node : H → H → H)
/-- The last c of the first k. -/
def winM (l : List H) (k c : Nat) : List H := (l.take k).drop (k - c)
theorem winM_length (l : List H) (k c : Nat) (hc : c ≤ k) (hk : k ≤ l.length) : (winM l k c).length = c := by
  unfold winM; rw [List.length_drop, List.length_take]; omega
theorem winM_succ (l : List H) (k c : Nat) (d : H) (hc : c ≤ k) (hd : l[k]? = some d) : winM l (k + 1) (c + 1) = winM l k c ++ [d] := by
  have hk : k < l.length := (List.getElem?_eq_some_iff.1 hd).1
  unfold winM
  rw [List.take_add_one, hd, show k + 1 - (c + 1) = k - c by omega, List.drop_append_of_le_length (by rw [List.length_take]; omega)]
  rfl
theorem winM_all (l : List H) : winM l l.length l.length = l := by unfold winM; simp
theorem winM_none (l : List H) (k : Nat) : winM l k 0 = [] := by unfold winM; rw [List.drop_eq_nil_of_le]; rw [List.length_take]; omega
/-- What a path comes to, of its last hashes. -/
def upP (leaf : H) (i n : Nat) (q : List H) : H := foldP node leaf (leftsM i n) q
theorem upP_few (leaf : H) (i n : Nat) (q : List H) (h : n < 2) : upP node leaf i n q = leaf := by unfold upP; rw [leftsM_few _ _ h]; rfl
theorem upP_l (leaf : H) (i n : Nat) (q : List H) (d : H) (h : 2 ≤ n) (hi : i < splitN n) (hq : q.length = (leftsM i (splitN n)).length) : upP node leaf i n (q ++ [d]) = node (upP node leaf i (splitN n) q) d := by
  unfold upP; rw [leftsM_l _ _ h hi, foldP_app _ _ _ _ _ _ hq.symm, if_pos rfl]
theorem upP_r (leaf : H) (i n : Nat) (q : List H) (d : H) (h : 2 ≤ n) (hi : ¬ i < splitN n) (hq : q.length = (leftsM (i - splitN n) (n - splitN n)).length) : upP node leaf i n (q ++ [d]) = node d (upP node leaf (i - splitN n) (n - splitN n) q) := by
  unfold upP; rw [leftsM_r _ _ h hi, foldP_app _ _ _ _ _ _ hq.symm, if_neg (by decide)]
/-- How many hashes a proof takes. -/
def needS (b : Bool) (m n : Nat) : Nat := (leftsS m n).length + (if b && wholeS m n then 0 else 1)
/-- What a proof comes to, of its last hashes. -/
def upB (b : Bool) (old : H) (m n : Nat) (q : List H) : H × H := if b && wholeS m n then foldB node (old, old) (leftsS m n) q else foldB node (q.headD old, q.headD old) (leftsS m n) q.tail
theorem needS_all (b : Bool) (n : Nat) : needS b n n = if b then 0 else 1 := by unfold needS; rw [leftsS_all _ _ (.inl (Nat.le_refl _)), wholeS_all _ _ (.inl (Nat.le_refl _))]; cases b <;> rfl
theorem needS_l (b : Bool) (m n : Nat) (h : m < n) (h2 : 2 ≤ n) (hm : m ≤ splitN n) : needS b m n = needS b m (splitN n) + 1 := by unfold needS; rw [leftsS_l _ _ h h2 hm, wholeS_l _ _ h h2 hm]; simp; omega
theorem needS_r (b : Bool) (m n : Nat) (h : m < n) (h2 : 2 ≤ n) (hm : ¬ m ≤ splitN n) : needS b m n = needS false (m - splitN n) (n - splitN n) + 1 := by unfold needS; rw [leftsS_r _ _ h h2 hm, wholeS_r _ _ h h2 hm]; simp
theorem upB_told (old : H) (n : Nat) : upB node true old n n [] = (old, old) := by unfold upB; rw [leftsS_all _ _ (.inl (Nat.le_refl _)), wholeS_all _ _ (.inl (Nat.le_refl _))]; rfl
theorem upB_own (old : H) (n : Nat) (d : H) : upB node false old n n [d] = (d, d) := by unfold upB; rw [leftsS_all _ _ (.inl (Nat.le_refl _))]; rfl
theorem upB_l (b : Bool) (old : H) (m n : Nat) (q : List H) (d : H) (h : m < n) (h2 : 2 ≤ n) (hm : m ≤ splitN n) (hq : q.length = needS b m (splitN n)) : upB node b old m n (q ++ [d]) = ((upB node b old m (splitN n) q).1, node (upB node b old m (splitN n) q).2 d) := by
  unfold needS at hq
  unfold upB
  rw [leftsS_l _ _ h h2 hm, wholeS_l _ _ h h2 hm]
  cases hb : b && wholeS m (splitN n)
  · rw [hb] at hq
    simp only [Bool.false_eq_true, if_false] at hq ⊢
    match q, hq with
    | x :: q, hq => simp only [List.cons_append, List.headD_cons, List.tail_cons]; rw [foldB_app _ _ _ _ _ _ (by simpa using hq.symm), if_pos rfl]
  · rw [hb] at hq
    simp only [if_true] at hq ⊢
    rw [foldB_app _ _ _ _ _ _ (by omega), if_pos rfl]
theorem upB_r (b : Bool) (old : H) (m n : Nat) (q : List H) (d : H) (h : m < n) (h2 : 2 ≤ n) (hm : ¬ m ≤ splitN n) (hq : q.length = needS false (m - splitN n) (n - splitN n)) : upB node b old m n (q ++ [d]) = (node d (upB node false old (m - splitN n) (n - splitN n) q).1, node d (upB node false old (m - splitN n) (n - splitN n) q).2) := by
  unfold needS at hq
  unfold upB
  rw [leftsS_r _ _ h h2 hm, wholeS_r _ _ h h2 hm]
  simp only [Bool.and_false, Bool.false_and, Bool.false_eq_true, if_false] at hq ⊢
  match q, hq with
  | x :: q, hq => simp only [List.cons_append, List.headD_cons, List.tail_cons]; rw [foldB_app _ _ _ _ _ _ (by simpa using hq.symm), if_neg (by decide)]
/-- May a path be asked? -/
def okP (i n : Int) (c : Nat) : Bool := decide (0 ≤ i) && (decide (i < n) && (decide (n ≤ 1048576) && decide ((leftsM i.toNat n.toNat).length = c)))
/-- May a proof be asked? -/
def okB (m n : Int) (c : Nat) : Bool := decide (1 ≤ m) && (decide (m ≤ n) && (decide (n ≤ 1048576) && decide (needS true m.toNat n.toNat = c)))
/-- What a path comes to. -/
def comesM (z0 : H) (leaf : H) (i n : Int) (l : List H) : H := if okP i n l.length then upP node leaf i.toNat n.toNat l else z0
/-- What a proof comes to. -/
def bothM (z0 : H) (old : H) (m n : Int) (l : List H) : H × H := if okB m n l.length then upB node true old m.toNat n.toNat l else (z0, z0)
variable {node} {z : H}
/-- A leaf's path comes to the root of the list with it in its place. -/
theorem comes_set (z0 : H) (l : List H) (i : Nat) (h : H) (hi : i < l.length) (hn : l.length ≤ 1048576) : okP (i : Int) (l.length : Int) (pathM node z l i).length = true ∧ comesM node z0 h (i : Int) (l.length : Int) (pathM node z l i) = rootM node z (l.set i h) := by
  have h1 : okP (i : Int) (l.length : Int) (pathM node z l i).length = true := by
    unfold okP
    rw [pathM_length (node := node) (z := z) _ l i (Nat.le_refl _)]
    simp; omega
  refine ⟨h1, ?_⟩
  unfold comesM upP
  rw [if_pos h1, Int.toNat_natCast, Int.toNat_natCast]
  exact path_set (node := node) (z := z) _ l i h (Nat.le_refl _) hi
theorem comes_root (z0 : H) (l : List H) (i : Nat) (h : H) (hi : l[i]? = some h) (hn : l.length ≤ 1048576) : comesM node z0 h (i : Int) (l.length : Int) (pathM node z l i) = rootM node z l := by
  obtain ⟨h1, h2⟩ := List.getElem?_eq_some_iff.1 hi
  rw [(comes_set z0 l i h h1 hn).2]
  congr 1
  rw [← h2]; exact List.set_getElem_self h1
/-- A list's proof comes to both roots. -/
theorem both_root (z0 : H) (l : List H) (m : Nat) (h1 : 1 ≤ m) (hm : m ≤ l.length) (hn : l.length ≤ 1048576) : okB (m : Int) (l.length : Int) (subM node z m l true).length = true ∧ bothM node z0 (rootM node z (l.take m)) (m : Int) (l.length : Int) (subM node z m l true) = (rootM node z (l.take m), rootM node z l) := by
  have hk : okB (m : Int) (l.length : Int) (subM node z m l true).length = true := by
    unfold okB
    rw [subM_length (node := node) (z := z) _ m l true (Nat.le_refl _)]
    simp [needS]; omega
  refine ⟨hk, ?_⟩
  unfold bothM upB
  rw [if_pos hk, Int.toNat_natCast, Int.toNat_natCast]
  obtain ⟨s1, s2⟩ := sub_true (node := node) (z := z) l.length m l (Nat.le_refl _) h1 hm
  cases hw : wholeS m l.length
  · obtain ⟨q, qs, e1, e2, e3⟩ := s2 hw
    simp only [Bool.and_false, Bool.false_eq_true, if_false]
    rw [e1]
    exact e3
  · simp only [Bool.and_true, if_true]
    exact (s1 hw).2
end
end Go.Proofs.YtlnedphnphabkaaDoor
/- Rows of hashes that a call makes and hands back. -/
namespace Go.Proofs.YtlnedphnphabkaaDoor
open Go Go.RowKit
set_option maxRecDepth 8000
set_option linter.all false
theorem OwnH.mono {W : World} {B C : Nat} {v : Value} {l : List Hs} (h : OwnH W C v l) (hB : B ≤ C) : OwnH W B v l := by
  refine ⟨h.1, ?_⟩
  rcases h.2 with h2 | ⟨g, cap, cur, hv, hb, r⟩
  · exact .inl h2
  · exact .inr ⟨g, cap, cur, hv, by omega, r⟩
/-- A row of the call's own, in blocks from B on. -/
def svOw (B : Nat) (l : List Hs) : SV NewT := ⟨fun v w => OwnH w B v l, fun _ _ _ h hT => h.new hT⟩
theorem Cv_own {f : Nat} {vs : Array Value} {w : World} {B : Nat} {l : List Hs} (h : Cv f vs w (svOw w.heap.size l)) (hB : B ≤ w.heap.size) : Cv f vs w (svOw B l) := by
  unfold Cv at *
  refine h.mono ?_
  rintro e w' ⟨u, rfl, hN, ho⟩
  exact ⟨u, rfl, hN, OwnH.mono ho hB⟩
theorem ownH_one (w : World) (B : Nat) (d : Hs) (hB : B ≤ w.heap.size) : OwnH (w.alloc (.cells (rowA 32 (bF d)) 30)) B (.slice (some ⟨w.heap.size, 0, none⟩) 1 1) [d] := by
  refine ⟨hcs_length _, .inr ⟨w.heap.size, 1, rowA 32 (bF d), rfl, hB, heap_alloc_new w _, by simp, by unfold maxLen; omega, by simp [rowA_size], ?_⟩⟩
  rw [hcs_one, rowA_toList]
  exact List.take_of_length_le (by simp)
/-- A slice of hashes, and whether there is one. -/
def svPq (l : List Hs) (b : Bool) : SV NewT := ⟨fun v w => ∃ u, v = .tuple #[u, .bool b] ∧ RdH w u l, fun _ _ _ ⟨u, h1, h2⟩ hT => ⟨u, h1, hT.hs h2⟩⟩
section
variable {P : Program} {a : Act} {w : World} {o : Oper} {K : Act → World → Prop} {Q : Exit → Act → World → Prop} {x y : Operand}
theorem opr_extP0 {l : List Hs} {b : Bool} (ho : o.op = .extract x 0) (hx : (svPq l b).pred (a.eval x) w) (h : ∀ u, RdH w u l → K (a.put o.dst u) w) : o.wp P a w K Q := by
  obtain ⟨dst, op, type, pos, after, guard⟩ := o
  simp only at ho
  subst ho
  obtain ⟨u, hv, hu⟩ := hx
  exact opr_val (s := Instr.extract (a.eval x) 0) (by simp [execOp]) (by rw [hv]; simp [Instr.extract]) (h u hu)
theorem opr_extP1 {l : List Hs} {b : Bool} (ho : o.op = .extract x 1) (hx : (svPq l b).pred (a.eval x) w) (h : K (a.put o.dst (.bool b)) w) : o.wp P a w K Q := by
  obtain ⟨dst, op, type, pos, after, guard⟩ := o
  simp only at ho
  subst ho
  obtain ⟨u, hv, hu⟩ := hx
  exact opr_val (s := Instr.extract (a.eval x) 1) (by simp [execOp]) (by rw [hv]; simp [Instr.extract]) h
end
/-- An append onto a row of the own, at a function's end. -/
theorem app_below {B : Nat} {w wa w' : World} {v : Value} {l : List Hs} (hN : NewT w wa) (hB : B = w.heap.size) (ho : OwnH wa B v l) (h3 : wa.grownBy w' v.ownBlock) : NewT w w' := by
  subst hB
  exact NewT.of (hN.out.trans ((Below.refl _ wa).grown h3 hN.out.size (fun k hk => (ho.lt k hk).1)))
end Go.Proofs.YtlnedphnphabkaaDoor
/- A row of hashes of the own, one of which is written over. -/
namespace Go.Proofs.YtlnedphnphabkaaDoor
open Go Go.RowKit
set_option maxRecDepth 8000
set_option linter.all false
theorem OwnH.rows {w : World} {B : Nat} {u : Value} {l : List Hs} (h : OwnH w B u l) (h0 : 0 < l.length) : ∃ g c f, u = .slice (some ⟨g, 0, none⟩) l.length c ∧ B ≤ g ∧ w.rowIs g 30 (c * 32) f ∧ l.length ≤ c ∧ c ≤ maxLen ∧ ∀ i d, l[i]? = some d → ∀ j, j < 32 → f (i * 32 + j) = bF d j := by
  rcases h.2 with ⟨_, h2⟩ | ⟨g, c, cur, hv, hb, hg, hc, hm, hs, ht⟩
  · omega
  · refine ⟨g, c, fun i => cur.getD i undef, hv, hb, ⟨cur, hg, hs, fun i hi => ?_⟩, hc, hm, fun i d hd j hj => ?_⟩
    · have : i < cur.size := by omega
      simp [this]
    · have h1 := hcs_at l i d hd j hj
      rw [← ht, List.getElem?_take] at h1
      split at h1
      · simp only [Array.getD_eq_getD_getElem?]
        rw [← Array.getElem?_toList, h1]; rfl
      · cases h1
theorem rdH_rowc {W : World} {g t c : Nat} {f : Nat → Value} {l : List Hs} (h : W.rowIs g t (c * 32) f) (hn : l.length ≤ c) (hm : c ≤ maxLen) (hf : ∀ i d, l[i]? = some d → ∀ j, j < 32 → f (i * 32 + j) = bF d j) : RdH W (.slice (some ⟨g, 0, none⟩) l.length c) l := by
  refine ⟨some ⟨g, 0, none⟩, c, rfl, hn, hm, fun _ => ⟨g, 0, rfl, fun i d hd j hj => ?_⟩⟩
  have hi : i < l.length := (List.getElem?_eq_some_iff.1 hd).1
  rw [show 0 + i * 32 + j = i * 32 + j by omega, h.cell (by omega), hf i d hd j hj]
theorem set_cells {f : Nat → Value} {l : List Hs} {i : Nat} {d : Hs} (hi : i < l.length) (hf : ∀ i d, l[i]? = some d → ∀ j, j < 32 → f (i * 32 + j) = bF d j) : ∀ i' e, (l.set i d)[i']? = some e → ∀ j, j < 32 → (fun k => if i * 32 ≤ k ∧ k < i * 32 + 32 then bF d (k - i * 32) else f k) (i' * 32 + j) = bF e j := by
  intro i' e he j hj
  by_cases h : i' = i
  · subst h
    rw [List.getElem?_set_self hi] at he
    cases he
    show (if _ then _ else _) = _
    rw [if_pos (by omega), show i' * 32 + j - i' * 32 = j by omega]
  · rw [List.getElem?_set_ne (Ne.symm h)] at he
    show (if _ then _ else _) = _
    rw [if_neg (by omega)]
    exact hf i' e he j hj
theorem opr_idxV {a : Act} {w : World} {o : Oper} {K : Act → World → Prop} {Q : Exit → Act → World → Prop} {x y : Operand} {b off n c i : Nat} (hi : i < n) (ho : o.op = .indexAddr 33 x y) (hx : a.eval x = .slice (some ⟨b, off, none⟩) n c) (hy : a.eval y = .int .i64 (i : Int)) (h : K (a.put o.dst (.pointer (some ⟨b, off + i * 32, none⟩))) w) : o.wp Tryd.prog a w K Q := by
  obtain ⟨dst, op, type, pos, after, guard⟩ := o
  simp only at ho
  subst ho
  exact opr_val (s := Instr.indexAt 33 (a.eval x) (a.eval y)) rfl (by rw [hx, hy]; exact run_idxH w hi) h
end Go.Proofs.YtlnedphnphabkaaDoor
/- A region that draws its order and makes two arrays: beside the conditions of single operations a relation on the frame that each step keeps. -/
namespace Go.Proofs.YtlnedphnphabkaaDoor
open Go Go.RowKit
set_option maxRecDepth 8000
set_option linter.all false

def relyStepJ (P : Program) (Q : Exit → Act → World → Prop) (T : World → World → Prop) (V : List (SV T)) (J : Act → World → Prop) (a0 : Act) (w0 : World) (o : Oper) (dp : List (Tmp × Option Nat)) (g : Option (Tmp × Bool)) (c : SV T) : Prop :=
  ∀ (a : Act) (w : World), T w0 w → relyFacts V a0 a w dp → J a w → ∀ K : Act → World → Prop, (∀ v w', T w w' → c.pred v w' → J (a.put o.dst v) w' → K (a.put o.dst v) w') →
    if relyGuard g a then o.wp P a w K Q else K (a.put o.dst undef) w
def relyAllJ (P : Program) (Q : Exit → Act → World → Prop) (T : World → World → Prop) (V : List (SV T)) (J : Act → World → Prop) (a0 : Act) (w0 : World) : List Oper → Deps → List (SV T) → Prop
  | [], _, _ => True
  | o :: r, (dp, g) :: D, c :: C => relyStepJ P Q T V J a0 w0 o dp g c ∧ relyAllJ P Q T V J a0 w0 r D C
  | _, _, _ => False
section
variable {P : Program} {ops : Array Oper} {Q : Exit → Act → World → Prop} {T : World → World → Prop} {V : List (SV T)} {J : Act → World → Prop} {a0 : Act} {w0 : World} {n : Nat} {D : Deps} {init tail : List Oper}
/-- A step that keeps the relation whatever its value is. -/
theorem relyStepJ_of {o : Oper} {dp : List (Tmp × Option Nat)} {g : Option (Tmp × Bool)} {c : SV T} (hj : ∀ a w v w', J a w → T w w' → J (a.put o.dst v) w') (h : relyStep P Q T V a0 w0 o dp g c) : relyStepJ P Q T V J a0 w0 o dp g c :=
  fun a w hT hF hJ K hK => h a w hT hF K fun v w' h1 h2 => hK v w' h1 h2 (hj a w v w' hJ h1)
theorem relyAllJ_at : ∀ (l : List Oper) (D : Deps) (C : List (SV T)) (k : Nat) (o : Oper) dp g, relyAllJ P Q T V J a0 w0 l D C → l[k]? = some o → D[k]? = some (dp, g) → relyStepJ P Q T V J a0 w0 o dp g (C.getD k SV.any)
  | [], _, _, _, _, _, _, _, h, _ => by simp at h
  | x :: r, [], _, _, _, _, _, h, _, _ => h.elim
  | x :: r, y :: D, [], _, _, _, _, h, _, _ => h.elim
  | x :: r, (dp, g) :: D, c :: C, 0, o, dp', g', h, ho, hD => by
    simp at ho hD
    obtain ⟨rfl, rfl⟩ := hD
    subst ho
    exact h.1
  | x :: r, (dp, g) :: D, c :: C, k + 1, o, dp', g', h, ho, hD => by
    have := relyAllJ_at r D C k o dp' g' h.2 (by simpa using ho) (by simpa using hD)
    simpa using this
theorem rely_next (hn : a0.tmps.size = n) (ht : ∀ a b c : World, T a b → T b c → T a c) {i : Nat} {o : Oper} {dp : List (Tmp × Option Nat)} {g : Option (Tmp × Bool)} {listed : Array Bool} {a : Act} {w : World}
    (ho : ops[i]? = some o) (h1 : relyOne ops n i o dp g = true) (h0 : listed.getD i true = false)
    (hall : ∀ e ∈ o.after, Region.binds .any e = true → listed.getD e.on false = true) (inv : RelyInv ops T V a0 w0 listed a w) :
    relyFacts V a0 a w dp ∧ Region.wanted o (yielded ops a.tmps) = relyGuard g a ∧ ∀ v w', T w w' → (V.getD i SV.any).pred v w' → RelyInv ops T V a0 w0 (listed.setIfInBounds i true) (a.put o.dst v) w' := by
  simp only [relyOne, Bool.and_eq_true] at h1
  obtain ⟨⟨⟨hdst, hafter⟩, hdp⟩, hg⟩ := h1
  have waits : ∀ j, Region.waitsFor .any ops i j = true → listed.getD j false = true := fun j hj => by
    obtain ⟨oi, hoi, e, he, hb, hon⟩ := Region.waitsFor_spec hj
    have : oi = o := Option.some.inj (hoi.symm.trans ho)
    subst this
    rw [← hon]
    exact hall e he hb
  have i0 : listed.getD i false = false := getD_both h0
  have hfacts : relyFacts V a0 a w dp := by
      induction dp with
    | nil => trivial
    | cons x r ih2 =>
      simp only [List.all_cons, Bool.and_eq_true] at hdp
      obtain ⟨hx, hr⟩ := hdp
      obtain ⟨d, j⟩ := x
      cases j with
      | some j =>
        simp only [Bool.and_eq_true, beq_iff_eq] at hx
        exact ⟨inv.new j d hx.1 (waits j hx.2), ih2 hr⟩
      | none =>
        refine ⟨inv.old d fun j hj => ?_, ih2 hr⟩
        have hjlt : j < ops.size := by
          unfold relyDst at hj
          cases hoj : ops[j]? with
          | none => simp [hoj] at hj
          | some oj => exact (Array.getElem?_eq_some_iff.1 hoj).1
        have h2 := List.all_eq_true.1 hx j (List.mem_range.2 hjlt)
        simp only [hj, bne_self_eq_false, Bool.false_or, Bool.or_eq_true, decide_eq_true_eq] at h2
        rcases h2 with rfl | h2
        · exact i0
        · cases hlj : listed.getD j false with
          | false => rfl
          | true =>
            obtain ⟨oj, hoj, e, he, hb, hon⟩ := Region.waitsFor_spec h2
            have := inv.closed j oj hoj hlj e he hb
            rw [hon, i0] at this
            cases this
  have hguard : Region.wanted o (yielded ops a.tmps) = relyGuard g a := by
    unfold Region.wanted
    cases hgo : o.guard with
    | none =>
      rw [hgo] at hg
      cases g with
      | none => rfl
      | some x => cases hg
    | some kb =>
      obtain ⟨k, b⟩ := kb
      rw [hgo] at hg
      cases g with
      | none => cases hg
      | some x =>
        obtain ⟨d, b'⟩ := x
        simp only [Bool.and_eq_true, beq_iff_eq, decide_eq_true_eq] at hg
        obtain ⟨⟨⟨rfl, hd⟩, _⟩, hlt⟩ := hg
        have hlt' : d < a.tmps.size := by rw [inv.slots, hn]; exact hlt
        have hd' : (ops[k]?).bind (·.dst) = some d := hd
        simp only [yielded, hd', Option.bind_some, relyGuard, Array.getD_eq_getD_getElem?, Array.getElem?_eq_getElem hlt', Option.getD_some]
        cases a.tmps[d] <;> simp
        all_goals (rename_i x; cases x <;> cases b <;> rfl)
  have next : ∀ v w', T w w' → (V.getD i SV.any).pred v w' → RelyInv ops T V a0 w0 (listed.setIfInBounds i true) (a.put o.dst v) w' := fun v w' hT hv => by
    have hilt : i < listed.size := by rw [inv.size]; exact (Array.getElem?_eq_some_iff.1 ho).1
    refine ⟨by simp [inv.size], fun j oj hj hlj e he hb => ?_, ht _ _ _ inv.now hT, by cases o.dst <;> simp [Act.put, inv.slots], by cases o.dst <;> simp [Act.put, inv.defers], fun j d hj hlj => ?_, fun d hno => ?_⟩
    · by_cases hij : i = j
      · subst hij
        have : oj = o := Option.some.inj (hj.symm.trans ho)
        subst this
        exact getD_set_true (hall e he hb)
      · rw [getD_set_ne false hij] at hlj
        exact getD_set_true (inv.closed j oj hj hlj e he hb)
    · by_cases hij : i = j
      · subst hij
        have hd : o.dst = some d := by simpa [relyDst, ho] using hj
        rw [hd] at hdst
        simp only [Bool.and_eq_true, decide_eq_true_eq] at hdst
        have hlt : d < a.tmps.size := by rw [inv.slots, hn]; exact hdst.1
        rw [hd]
        simpa [Act.put, hlt] using hv
      · rw [getD_set_ne false hij] at hlj
        have h3 := (V.getD j SV.any).stable _ _ _ (inv.new j d hj hlj) hT
        cases hod : o.dst with
        | none => exact h3
        | some d0 =>
          rw [hod] at hdst
          simp only [Bool.and_eq_true, decide_eq_true_eq] at hdst
          have hjlt : j < ops.size := by
            unfold relyDst at hj
            cases hoj : ops[j]? with
            | none => simp [hoj] at hj
            | some oj => exact (Array.getElem?_eq_some_iff.1 hoj).1
          have h4 := List.all_eq_true.1 hdst.2 j (List.mem_range.2 hjlt)
          simp only [Bool.or_eq_true, decide_eq_true_eq, bne_iff_ne, ne_eq] at h4
          have hne : d0 ≠ d := fun e => by
            subst e
            rcases h4 with h4 | h4
            · exact hij h4.symm
            · exact h4 hj
          simpa [Act.put, Array.getElem?_setIfInBounds_ne hne] using h3
    · have hni : o.dst ≠ some d := fun hd => by
        have := hno i (by simp [relyDst, ho, hd])
        simp [hilt] at this
      have hold := inv.old d fun j hj => by
        have hij : i ≠ j := fun e => by subst e; exact hni (by simpa [relyDst, ho] using hj)
        have := hno j hj
        rwa [getD_set_ne false hij] at this
      cases hod : o.dst with
      | none => exact hold
      | some d0 =>
        have hne : d0 ≠ d := fun e => hni (by rw [hod, e])
        simpa [Act.put, Array.getElem?_setIfInBounds_ne hne] using hold
  exact ⟨hfacts, hguard, next⟩
theorem wpAny_relyJ_tail (hsplit : ops.toList = init ++ tail) (hpos : 0 < tail.length) (hn : a0.tmps.size = n) (hB : relyB ops n 0 init D = true) (hsink : Region.sinkB .any ops init.length = true) (htb : tailB ops tail init.length = true) (ht : ∀ a b c : World, T a b → T b c → T a c)
    (hl : init.length ≤ V.length) (hA : relyAllJ P Q T V J a0 w0 init D V) (hE : ∀ w, T w0 w → relyEnd (fun _ a w => J a w → wpList P ops Q tail a w) T init V a0 w) :
    ∀ (fuel : Nat) (listed : Array Bool) (a : Act) (w : World), (unl ops listed).length = fuel → (∀ j, init.length ≤ j → j < ops.size → listed.getD j true = false) → RelyInv ops T V a0 w0 listed a w → J a w → wpAny P .any ops Q fuel listed a w := by
  obtain ⟨hsz, hpre, htl⟩ := split_at hsplit
  have hat : ∀ i o, init[i]? = some o → ∃ dp g, relyOne ops n i o dp g = true ∧ relyStepJ P Q T V J a0 w0 o dp g (V.getD i SV.any) := fun i o hi => by
    obtain ⟨dp, g, hD, h1⟩ := relyB_at init D 0 i o hB hi
    rw [Nat.zero_add] at h1
    exact ⟨dp, g, h1, relyAllJ_at _ _ _ i o dp g hA hi hD⟩
  -- once all of the first ones have come up
  have fin : ∀ (fuel : Nat) (listed : Array Bool) (a : Act) (w : World), (unl ops listed).length = fuel → (∀ j, init.length ≤ j → j < ops.size → listed.getD j true = false) → RelyInv ops T V a0 w0 listed a w → J a w → (∀ j, j < init.length → listed.getD j false = true) → wpAny P .any ops Q fuel listed a w := fun fuel listed a w hu hun inv hJ hdone => by
    have h1 : wpList P ops Q tail a w := rely_all (Q' := fun a w => J a w → wpList P ops Q tail a w) inv
      (fun k o hk => ⟨hpre k o hk, hdone k (List.getElem?_eq_some_iff.1 hk).1⟩) (fun j hj => by
        rcases Nat.lt_or_ge j init.length with h | h
        · exact h
        · rcases Nat.lt_or_ge j ops.size with h' | h'
          · rw [getD_both (hun j h h')] at hj; cases hj
          · have : listed.getD j false = false := by simp [Array.getElem?_eq_none (show listed.size ≤ j by rw [inv.size]; omega)]
            rw [this] at hj; cases hj) hl (hE w inv.now) hJ
    have hf : fuel = tail.length := by
      rw [← hu]
      unfold unl
      have e : (List.range ops.size).filter (fun i => !listed.getD i true) = List.range' init.length tail.length := by
        rw [List.range_eq_range', show ops.size = init.length + tail.length from hsz, ← List.range'_append_1, List.filter_append, List.filter_eq_nil_iff.2, List.filter_eq_self.2]
        · simp
        · intro i hi
          simp only [List.mem_range'_1] at hi
          rw [hun i (by omega) (by omega)]; rfl
        · intro i hi
          simp only [List.mem_range'_1] at hi
          have h2 := hdone i (by omega)
          have h3 : listed.getD i true = true := by
            have hlt : i < listed.size := by rw [inv.size]; omega
            simp [hlt] at h2 ⊢; exact h2
          rw [h3]; simp
      rw [e]; simp
    subst hf
    exact tail_seq hsplit htb tail.length 0 listed a w (by omega) inv.size (by simpa using hdone) (by simpa using hun) (by simpa using h1)
  intro fuel
  induction fuel with
  | zero =>
    intro listed a w hu hun inv hJ
    have : init.length ∈ unl ops listed := by
      unfold unl; rw [List.mem_filter]; exact ⟨List.mem_range.2 (by omega), by rw [hun _ (Nat.le_refl _) (by omega)]; rfl⟩
    rw [List.eq_nil_of_length_eq_zero hu] at this
    cases this
  | succ fuel ih =>
    intro listed a w hu hun inv hJ
    by_cases hdone : ∀ j, j < init.length → listed.getD j false = true
    · exact fin _ listed a w hu hun inv hJ hdone
    · -- none of the last ones may come up yet
      have hlow : ∀ i, i ∈ Region.ready .any ops listed → i < init.length := fun i hi => by
        rcases Nat.lt_or_ge i init.length with h | h
        · exact h
        · exfalso
          obtain ⟨h0, o, ho, hall⟩ := mem_ready.1 hi
          have hilt := (Array.getElem?_eq_some_iff.1 ho).1
          by_cases him : i = init.length
          · subst him
            apply hdone
            have hd : ∀ (d j : Nat), init.length - j = d → j < init.length → listed.getD j false = true := fun d => by
              induction d using Nat.strongRecOn with
              | _ d ihd =>
                intro j hd hj
                have h1 := List.all_eq_true.1 hsink j (List.mem_range.2 hj)
                obtain ⟨t, ht1, ht2⟩ := List.any_eq_true.1 h1
                simp only [Bool.and_eq_true, decide_eq_true_eq] at ht2
                obtain ⟨ot, hot, e, he, hb, hon⟩ := Region.waitsFor_spec ht2.2
                have htle : t ≤ init.length := by have := List.mem_range.1 ht1; omega
                rw [← hon]
                by_cases htm : t = init.length
                · subst htm
                  have : ot = o := Option.some.inj (hot.symm.trans ho)
                  subst this
                  exact hall e he hb
                · exact inv.closed t ot hot (ihd (init.length - t) (by omega) t rfl (by omega)) e he hb
            exact fun j hj => hd _ j rfl hj
          · have h := List.all_eq_true.1 htb (i - init.length) (List.mem_range.2 (by omega))
            simp only [Bool.and_eq_true, Bool.or_eq_true, decide_eq_true_eq] at h
            rw [show init.length + (i - init.length) = i by omega] at h
            rcases h.2 with h | h
            · omega
            · obtain ⟨oi, hoi', e, he, hbe, hon⟩ := Region.waitsFor_spec h
              have : oi = o := Option.some.inj (hoi'.symm.trans ho)
              subst this
              have h1 := hall e he hbe
              rw [hon, getD_both (hun (i - 1) (by omega) (by omega))] at h1
              cases h1
      refine ⟨fun hr => ?_, fun i hi => ?_⟩
      · exfalso
        apply hdone
        intro i
        induction i using Nat.strongRecOn with
        | _ i ih =>
          intro hi
          cases hli : listed.getD i false with
          | true => rfl
          | false =>
            exfalso
            have hmem : i ∈ Region.ready .any ops listed := by
              rw [mem_ready]
              refine ⟨getD_in (by rw [inv.size]; omega) hli, init[i], hpre i _ (List.getElem?_eq_getElem hi), fun e he hb => ?_⟩
              obtain ⟨dp, g, h1, _⟩ := hat i init[i] (List.getElem?_eq_getElem hi)
              simp only [relyOne, Bool.and_eq_true] at h1
              have h2 := (Array.all_eq_true_iff_forall_mem.1 h1.1.1.2) e he
              simp only [hb, Bool.not_true, Bool.false_or, decide_eq_true_eq] at h2
              exact ih e.on h2 (by omega)
            rw [hr] at hmem
            cases hmem
      · have hi' := hlow i hi
        obtain ⟨h0, o, ho, hall⟩ := mem_ready.1 hi
        have hio : init[i]? = some o := by
          have := hpre i init[i] (List.getElem?_eq_getElem hi')
          rw [ho] at this
          rw [List.getElem?_eq_getElem hi', Option.some.inj this]
        obtain ⟨dp, g, h1, hstep⟩ := hat i o hio
        obtain ⟨hfacts, hguard, next⟩ := rely_next hn ht ho h1 h0 hall inv
        have hs := hstep a w inv.now hfacts hJ (fun a' w' => wpAny P .any ops Q fuel (listed.setIfInBounds i true) a' w') (fun v w' hT hv hJ' => ih _ _ w' (by have := unl_set inv.size h0; omega) (fun j hj hj2 => by rw [getD_set_ne true (by omega)]; exact hun j hj hj2) (next v w' hT hv) hJ')
        unfold wpOp
        simp only [ho, hguard]
        split
        · rename_i hw; rw [if_pos hw] at hs; exact .inl hs
        · rename_i hw; rw [if_neg hw] at hs; exact hs
/-- **A region that draws its order, the last operations (from place m on) one behind the other.** -/
theorem wp_region_relyJ_tail {id : Nat} (T : World → World → Prop) (V : List (SV T)) (D : Deps) (n m : Nat) (hm : P.follows .mixedOrders = true) (hn : a0.tmps.size = n) (hlen : (ops.toList.take m).length = m) (hpos : 0 < (ops.toList.drop m).length) (hB : relyB ops n 0 (ops.toList.take m) D = true)
    (hsink : Region.sinkB .any ops m = true) (htb : tailB ops (ops.toList.drop m) m = true) (ht : ∀ a b c : World, T a b → T b c → T a c) (hd : T w0 w0.drew) (hJ0 : J a0 w0.drew) (hl : m ≤ V.length)
    (hA : relyAllJ P Q T V J a0 w0 (ops.toList.take m) D V) (hE : ∀ w, T w0 w → relyEnd (fun _ a w => J a w → wpList P ops Q (ops.toList.drop m) a w) T (ops.toList.take m) V a0 w) : (Code.region id ops true).wp P Q a0 w0 := by
  refine wp_region_any hm ?_
  refine wpAny_relyJ_tail (List.take_append_drop m ops.toList).symm hpos hn hB (by rw [hlen]; exact hsink) (by rw [hlen]; exact htb) ht (by rw [hlen]; exact hl) hA hE ops.size _ a0 w0.drew unl_start (fun j _ hj => by simp [hj]) (rely_start hd) hJ0
end
/-- Two slots hold pointers to different blocks, both there. -/
def TwoPtr (p q : Tmp) (a : Act) (w : World) : Prop :=
  (∀ g, a.tmps.getD p undef = .pointer (some ⟨g, 0, none⟩) → g < w.heap.size) ∧ (∀ g, a.tmps.getD q undef = .pointer (some ⟨g, 0, none⟩) → g < w.heap.size) ∧
    ∀ g g', a.tmps.getD p undef = .pointer (some ⟨g, 0, none⟩) → a.tmps.getD q undef = .pointer (some ⟨g', 0, none⟩) → g ≠ g'
theorem put_other {a : Act} {d : Option Tmp} {p : Tmp} (v : Value) (h : d ≠ some p) : (a.put d v).tmps.getD p undef = a.tmps.getD p undef := by
  cases d with
  | none => rfl
  | some d =>
    have hne : d ≠ p := fun e => h (by rw [e])
    simp [Act.put, Array.getElem?_setIfInBounds_ne hne]
theorem TwoPtr.keep {p q : Tmp} {a : Act} {w w' : World} {d : Option Tmp} {v : Value} (h : TwoPtr p q a w) (hp : d ≠ some p) (hq : d ≠ some q) (hT : NewT w w') : TwoPtr p q (a.put d v) w' := by
  unfold TwoPtr
  rw [put_other v hp, put_other v hq]
  exact ⟨fun g hg => Nat.lt_of_lt_of_le (h.1 g hg) hT.out.size, fun g hg => Nat.lt_of_lt_of_le (h.2.1 g hg) hT.out.size, h.2.2⟩
theorem put_same {a : Act} {p : Tmp} {g g' : Nat} (h : (a.put (some p) (.pointer (some ⟨g, 0, none⟩))).tmps.getD p undef = .pointer (some ⟨g', 0, none⟩)) : g' = g := by
  rcases Nat.lt_or_ge p a.tmps.size with hlt | hge
  · simp [Act.put, hlt] at h; exact h.symm
  · simp [Act.put, undef, Nat.not_lt.2 hge] at h
theorem TwoPtr.first {p q : Tmp} {a : Act} {w : World} {o : Obj} (h : TwoPtr p q a w) (hpq : p ≠ q) : TwoPtr p q (a.put (some p) (.pointer (some ⟨w.heap.size, 0, none⟩))) (w.alloc o) := by
  unfold TwoPtr
  rw [put_other (p := q) (d := some p) _ (by simpa using hpq)]
  refine ⟨fun g hg => by rw [put_same hg]; simp, fun g hg => by have := h.2.1 g hg; simp; omega, fun g g' hg hg' => ?_⟩
  have := h.2.1 g' hg'
  rw [put_same hg]; omega
theorem TwoPtr.second {p q : Tmp} {a : Act} {w : World} {o : Obj} (h : TwoPtr p q a w) (hpq : p ≠ q) : TwoPtr p q (a.put (some q) (.pointer (some ⟨w.heap.size, 0, none⟩))) (w.alloc o) := by
  unfold TwoPtr
  rw [put_other (p := p) (d := some q) _ (by simpa using Ne.symm hpq)]
  refine ⟨fun g hg => by have := h.1 g hg; simp; omega, fun g hg => by rw [put_same hg]; simp, fun g g' hg hg' => ?_⟩
  have := h.1 g hg
  rw [put_same hg']; omega
theorem opr_alloc_at {a : Act} {w : World} {o : Oper} {K : Act → World → Prop} {Q : Exit → Act → World → Prop} (ho : o.op = .alloc 30) (h : K (a.put o.dst (.pointer (some ⟨w.heap.size, 0, none⟩))) (w.alloc (.cells (rowA 32 (bF fun _ => 0)) 30))) : o.wp Tryd.prog a w K Q := by
  obtain ⟨dst, op, type, pos, after, guard⟩ := o
  simp only at ho
  subst ho
  exact opr_val (s := Instr.alloc 30 true (.tuple #[])) rfl (run_alloc_hash w) h
end Go.Proofs.YtlnedphnphabkaaDoor
/- A region that draws its order, some of whose operations turn a state one behind the other (each waits for the one ahead): beside the conditions of single operations a statement on the world for each phase. No program is named here. -/
namespace Go.Proofs.YtlnedphnphabkaaDoor
open Go Go.RowKit
set_option maxRecDepth 8000
set_option linter.all false

/-- One operation: it turns phase k into the next one (some k), or keeps whatever phase there is (none). -/
def relyStepP (P : Program) (Q : Exit → Act → World → Prop) (T : World → World → Prop) (V : List (SV T)) (J : Nat → World → Prop) (a0 : Act) (w0 : World) (o : Oper) (dp : List (Tmp × Option Nat)) (g : Option (Tmp × Bool)) (c : SV T) : Option Nat → Prop
  | none => ∀ (a : Act) (w : World), T w0 w → relyFacts V a0 a w dp → ∀ K : Act → World → Prop, (∀ v w', T w w' → (∀ k, J k w → J k w') → c.pred v w' → K (a.put o.dst v) w') →
    if relyGuard g a then o.wp P a w K Q else K (a.put o.dst undef) w
  | some k => ∀ (a : Act) (w : World), T w0 w → relyFacts V a0 a w dp → J k w → ∀ K : Act → World → Prop, (∀ v w', T w w' → J (k + 1) w' → c.pred v w' → K (a.put o.dst v) w') →
    if relyGuard g a then o.wp P a w K Q else K (a.put o.dst undef) w
def relyAllP (P : Program) (Q : Exit → Act → World → Prop) (T : World → World → Prop) (V : List (SV T)) (J : Nat → World → Prop) (a0 : Act) (w0 : World) : List Oper → Deps → List (SV T) → List (Option Nat) → Prop
  | [], _, _, _ => True
  | o :: r, (dp, g) :: D, c :: C, s :: S => relyStepP P Q T V J a0 w0 o dp g c s ∧ relyAllP P Q T V J a0 w0 r D C S
  | _, _, _, _ => False
/-- Each of the path's operations waits for the one ahead. -/
def pathB (ops : Array Oper) : List Nat → Bool
  | i :: j :: r => Region.waitsFor .any ops j i && pathB ops (j :: r)
  | _ => true
def placesB (path : List Nat) (S : List (Option Nat)) : Bool := decide path.Nodup && (List.range S.length).all fun i => S.getD i none == path.findIdx? (· == i)
section
variable {P : Program} {ops : Array Oper} {Q : Exit → Act → World → Prop} {T : World → World → Prop} {V : List (SV T)} {J : Nat → World → Prop} {a0 : Act} {w0 : World} {n : Nat} {D : Deps} {S : List (Option Nat)} {path : List Nat} {init : List Oper} {last : Oper}
theorem pathB_at : ∀ (path : List Nat) (j i i' : Nat), pathB ops path = true → path[j]? = some i → path[j + 1]? = some i' → Region.waitsFor .any ops i' i = true
  | [], _, _, _, _, h, _ => by simp at h
  | [x], j, _, _, _, _, h => by simp at h
  | x :: y :: r, 0, i, i', h, h1, h2 => by
    simp only [pathB, Bool.and_eq_true] at h
    simp at h1 h2
    subst h1 h2
    exact h.1
  | x :: y :: r, j + 1, i, i', h, h1, h2 => by
    simp only [pathB, Bool.and_eq_true] at h
    exact pathB_at (y :: r) j i i' h.2 (by simpa using h1) (by simpa using h2)
theorem relyAllP_at : ∀ (l : List Oper) (D : Deps) (C : List (SV T)) (S : List (Option Nat)) (k : Nat) (o : Oper) dp g, relyAllP P Q T V J a0 w0 l D C S → l[k]? = some o → D[k]? = some (dp, g) → relyStepP P Q T V J a0 w0 o dp g (C.getD k SV.any) (S.getD k none)
  | [], _, _, _, _, _, _, _, _, h, _ => by simp at h
  | x :: r, [], _, _, _, _, _, _, h, _, _ => h.elim
  | x :: r, y :: D, [], _, _, _, _, _, h, _, _ => h.elim
  | x :: r, y :: D, c :: C, [], _, _, _, _, h, _, _ => h.elim
  | x :: r, (dp, g) :: D, c :: C, s :: S, 0, o, dp', g', h, ho, hD => by
    simp at ho hD
    obtain ⟨rfl, rfl⟩ := hD
    subst ho
    exact h.1
  | x :: r, (dp, g) :: D, c :: C, s :: S, k + 1, o, dp', g', h, ho, hD => by
    have := relyAllP_at r D C S k o dp' g' h.2 (by simpa using ho) (by simpa using hD)
    simpa using this
/-- So many of the path's operations have come up. -/
structure PhInv (path : List Nat) (J : Nat → World → Prop) (listed : Array Bool) (w : World) (k : Nat) : Prop where
  le : k ≤ path.length
  done : ∀ j i, j < k → path[j]? = some i → listed.getD i false = true
  left : ∀ j i, k ≤ j → path[j]? = some i → listed.getD i false = false
  now : J k w
theorem ph_other {listed : Array Bool} {w w' : World} {k i : Nat} (h : PhInv path J listed w k) (hi : i ∉ path) (hJ : J k w') : PhInv path J (listed.setIfInBounds i true) w' k := by
  have hne : ∀ (j x : Nat), path[j]? = some x → i ≠ x := fun j x hx e => hi (e ▸ List.mem_of_getElem? hx)
  exact ⟨h.le, fun j x hj hx => by rw [getD_set_ne false (hne j x hx)]; exact h.done j x hj hx, fun j x hj hx => by rw [getD_set_ne false (hne j x hx)]; exact h.left j x hj hx, hJ⟩
theorem ph_own (hnd : path.Nodup) {listed : Array Bool} {w w' : World} {k i : Nat} (hlt : i < listed.size) (h : PhInv path J listed w k) (hi : path[k]? = some i) (hJ : J (k + 1) w') : PhInv path J (listed.setIfInBounds i true) w' (k + 1) := by
  have hk : k < path.length := (List.getElem?_eq_some_iff.1 hi).1
  have hinj : ∀ (j x : Nat), path[j]? = some x → j ≠ k → i ≠ x := fun j x hx hjk e => by
    subst e
    obtain ⟨h1, h2⟩ := List.getElem?_eq_some_iff.1 hx
    obtain ⟨h3, h4⟩ := List.getElem?_eq_some_iff.1 hi
    exact hjk ((List.getElem_inj hnd).1 (h2.trans h4.symm))
  refine ⟨hk, fun j x hj hx => ?_, fun j x hj hx => ?_, hJ⟩
  · by_cases e : j = k
    · subst e
      rw [hi] at hx
      cases hx
      simp [hlt]
    · rw [getD_set_ne false (hinj j x hx e)]; exact h.done j x (by omega) hx
  · rw [getD_set_ne false (hinj j x hx (by omega))]; exact h.left j x (by omega) hx
theorem wpAny_relyP {Q2 : Exit → Act → World → Prop} (hQ : ∀ (o : Oper) (a : Act) (w : World) (K : Act → World → Prop), a.defers = a0.defers → o.wp P a w K Q2 → o.wp P a w K Q) (hsplit : ops.toList = init ++ [last]) (hn : a0.tmps.size = n) (hB : relyB ops n 0 init D = true) (hlast : lastB ops last init.length = true) (hg : last.guard = none) (ht : ∀ a b c : World, T a b → T b c → T a c)
    (hpath : pathB ops path = true) (hplace : placesB path S = true) (hSl : S.length = init.length) (hpl : ∀ i ∈ path, i < init.length)
    (hl : init.length ≤ V.length) (hA : relyAllP P Q2 T V J a0 w0 init D V S) (hE : ∀ w, T w0 w → J path.length w → relyEnd (fun _ a w => last.wp P a w (fun a' w' => Q .normal a' w') Q) T init V a0 w) :
    ∀ (fuel : Nat) (listed : Array Bool) (a : Act) (w : World) (k : Nat), (unl ops listed).length = fuel → listed.getD init.length true = false → RelyInv ops T V a0 w0 listed a w → PhInv path J listed w k → wpAny P .any ops Q fuel listed a w := by
  obtain ⟨hlo, hsz, hpre⟩ := last_at hsplit
  simp only [lastB, Bool.and_eq_true] at hlast
  simp only [placesB, Bool.and_eq_true, decide_eq_true_eq] at hplace
  obtain ⟨hnd, hpos⟩ := hplace
  have hS : ∀ i, i < init.length → S.getD i none = path.findIdx? (· == i) := fun i hi => by
    have := List.all_eq_true.1 hpos i (List.mem_range.2 (by omega))
    simpa using this
  have hat : ∀ i o, init[i]? = some o → ∃ dp g, relyOne ops n i o dp g = true ∧ relyStepP P Q2 T V J a0 w0 o dp g (V.getD i SV.any) (path.findIdx? (· == i)) := fun i o hi => by
    obtain ⟨dp, g, hD, h1⟩ := relyB_at init D 0 i o hB hi
    rw [Nat.zero_add] at h1
    refine ⟨dp, g, h1, ?_⟩
    rw [← hS i (List.getElem?_eq_some_iff.1 hi).1]
    exact relyAllP_at _ _ _ _ i o dp g hA hi hD
  intro fuel
  induction fuel with
  | zero =>
    intro listed a w k hu hun inv _
    have : init.length ∈ unl ops listed := by
      unfold unl; rw [List.mem_filter]; exact ⟨List.mem_range.2 (by omega), by rw [hun]; rfl⟩
    rw [List.eq_nil_of_length_eq_zero hu] at this
    cases this
  | succ fuel ih =>
    intro listed a w k hu hun inv ph
    refine ⟨fun hr => ?_, fun i hi => ?_⟩
    · exfalso
      have all : ∀ i, i < init.length → listed.getD i false = true := fun i => by
        induction i using Nat.strongRecOn with
        | _ i ih =>
          intro hi
          cases hli : listed.getD i false with
          | true => rfl
          | false =>
            exfalso
            have hmem : i ∈ Region.ready .any ops listed := by
              rw [mem_ready]
              refine ⟨getD_in (by rw [inv.size]; omega) hli, init[i], hpre i _ (List.getElem?_eq_getElem hi), fun e he hb => ?_⟩
              obtain ⟨dp, g, h1, _⟩ := hat i init[i] (List.getElem?_eq_getElem hi)
              simp only [relyOne, Bool.and_eq_true] at h1
              have h2 := (Array.all_eq_true_iff_forall_mem.1 h1.1.1.2) e he
              simp only [hb, Bool.not_true, Bool.false_or, decide_eq_true_eq] at h2
              exact ih e.on h2 (by omega)
            rw [hr] at hmem
            cases hmem
      have hmem : init.length ∈ Region.ready .any ops listed := by
        rw [mem_ready]
        refine ⟨hun, last, hlo, fun e he hb => ?_⟩
        have h2 := (Array.all_eq_true_iff_forall_mem.1 hlast.2) e he
        simp only [hb, Bool.not_true, Bool.false_or, decide_eq_true_eq] at h2
        exact all e.on h2
      rw [hr] at hmem
      cases hmem
    · obtain ⟨h0, o, ho, hall⟩ := mem_ready.1 hi
      have hilt := (Array.getElem?_eq_some_iff.1 ho).1
      by_cases him : i = init.length
      · subst him
        have hol : o = last := Option.some.inj (ho.symm.trans hlo)
        subst hol
        have hdone : ∀ (d j : Nat), init.length - j = d → j < init.length → listed.getD j false = true := fun d => by
          induction d using Nat.strongRecOn with
          | _ d ihd =>
            intro j hd hj
            have h1 := List.all_eq_true.1 hlast.1 j (List.mem_range.2 hj)
            obtain ⟨t, ht1, ht2⟩ := List.any_eq_true.1 h1
            simp only [Bool.and_eq_true, decide_eq_true_eq] at ht2
            obtain ⟨ot, hot, e, he, hb, hon⟩ := Region.waitsFor_spec ht2.2
            have htle : t ≤ init.length := by have := List.mem_range.1 ht1; omega
            rw [← hon]
            by_cases htm : t = init.length
            · subst htm
              have : ot = o := Option.some.inj (hot.symm.trans ho)
              subst this
              exact hall e he hb
            · exact inv.closed t ot hot (ihd (init.length - t) (by omega) t rfl (by omega)) e he hb
        replace hdone : ∀ j, j < init.length → listed.getD j false = true := fun j hj => hdone _ j rfl hj
        have hk : k = path.length := by
          rcases Nat.lt_or_ge k path.length with h | h
          · exfalso
            have h1 := ph.left k path[k] (Nat.le_refl _) (List.getElem?_eq_getElem h)
            rw [hdone _ (hpl _ (List.getElem_mem h))] at h1
            cases h1
          · have := ph.le; omega
        subst hk
        have hJ := ph.now
        have h1 : o.wp P a w (fun a' w' => Q .normal a' w') Q := rely_all (Q' := fun a w => o.wp P a w (fun a' w' => Q .normal a' w') Q) inv
          (fun k o hk => ⟨hpre k o hk, hdone k (List.getElem?_eq_some_iff.1 hk).1⟩) (fun j hj => by
            rcases Nat.lt_or_ge j init.length with h | h
            · exact h
            · rcases Nat.eq_or_lt_of_le h with h | h
              · subst h; rw [getD_both hun] at hj; cases hj
              · have : listed.getD j false = false := by simp [Array.getElem?_eq_none (show listed.size ≤ j by rw [inv.size]; omega)]
                rw [this] at hj; cases hj) hl (hE w inv.now hJ)
        have hK : ∀ a' w', Q .normal a' w' → wpAny P .any ops Q fuel (listed.setIfInBounds init.length true) a' w' := fun a' w' h => wpAny_done (ready_none fun j hj => by
          by_cases hj2 : j = init.length
          · subst hj2; simp [show init.length < listed.size by rw [inv.size]; exact hj]
          · exact getD_set_true (hdone j (by omega))) h _
        unfold wpOp
        simp only [hlo, Region.wanted, hg, if_true]
        exact .inl (Oper.wp_mono hK h1)
      · have hi' : i < init.length := by omega
        have hio : init[i]? = some o := by
          have := hpre i init[i] (List.getElem?_eq_getElem hi')
          rw [ho] at this
          rw [List.getElem?_eq_getElem hi', Option.some.inj this]
        obtain ⟨dp, g, h1, hstep⟩ := hat i o hio
        obtain ⟨hfacts, hguard, next⟩ := rely_next hn ht ho h1 h0 hall inv
        have i0 : listed.getD i false = false := getD_both h0
        have hs : if relyGuard g a then o.wp P a w (fun a' w' => wpAny P .any ops Q fuel (listed.setIfInBounds i true) a' w') Q2 else wpAny P .any ops Q fuel (listed.setIfInBounds i true) (a.put o.dst undef) w := by
          cases hf : path.findIdx? (· == i) with
          | none =>
            rw [hf] at hstep
            have hni : i ∉ path := fun hm => by
              rw [List.findIdx?_eq_none_iff] at hf
              have := hf i hm
              simp at this
            exact hstep a w inv.now hfacts (fun a' w' => wpAny P .any ops Q fuel (listed.setIfInBounds i true) a' w') (fun v w' hT hJ hv => ih _ _ w' k (by have := unl_set inv.size h0; omega) (by rw [getD_set_ne true him]; exact hun) (next v w' hT hv) (ph_other ph hni (hJ k ph.now)))
          | some j =>
            rw [hf] at hstep
            have hpj : path[j]? = some i := by
              obtain ⟨h1, h2, _⟩ := List.findIdx?_eq_some_iff_getElem.1 hf
              rw [List.getElem?_eq_getElem h1]
              simpa using h2
            have hkj : k = j := by
              rcases Nat.lt_trichotomy j k with h | h | h
              · have := ph.done j i h hpj
                rw [i0] at this; cases this
              · exact h.symm
              · exfalso
                obtain ⟨j', rfl⟩ : ∃ j', j = j' + 1 := ⟨j - 1, by omega⟩
                have hlj : j' < path.length := by have := (List.getElem?_eq_some_iff.1 hpj).1; omega
                have hw := pathB_at path j' path[j'] i hpath (List.getElem?_eq_getElem hlj) hpj
                obtain ⟨oi, hoi, e, he, hb, hon⟩ := Region.waitsFor_spec hw
                have : oi = o := Option.some.inj (hoi.symm.trans ho)
                subst this
                have h2 := hall e he hb
                rw [hon, ph.left j' _ (by omega) (List.getElem?_eq_getElem hlj)] at h2
                cases h2
            subst hkj
            exact hstep a w inv.now hfacts ph.now (fun a' w' => wpAny P .any ops Q fuel (listed.setIfInBounds i true) a' w') (fun v w' hT hJ hv => ih _ _ w' (k + 1) (by have := unl_set inv.size h0; omega) (by rw [getD_set_ne true him]; exact hun) (next v w' hT hv) (ph_own hnd (by rw [inv.size]; exact hilt) ph hpj hJ))
        unfold wpOp
        simp only [ho, hguard]
        split
        · rename_i hw; rw [if_pos hw] at hs; exact .inl (hQ _ _ _ _ inv.defers hs)
        · rename_i hw; rw [if_neg hw] at hs; exact hs
/-- **A region that draws its order and turns a state step by step.** -/
theorem wp_region_relyQ {id : Nat} {Q2 : Exit → Act → World → Prop} (hQ : ∀ (o : Oper) (a : Act) (w : World) (K : Act → World → Prop), a.defers = a0.defers → o.wp P a w K Q2 → o.wp P a w K Q) (T : World → World → Prop) (J : Nat → World → Prop) (V : List (SV T)) (D : Deps) (S : List (Option Nat)) (path : List Nat) (n : Nat) (hla : ops.toList.getLast? = some last) (hm : P.follows .mixedOrders = true) (hn : a0.tmps.size = n) (hB : relyB ops n 0 ops.toList.dropLast D = true)
    (hlast : lastB ops last ops.toList.dropLast.length = true) (hg : last.guard = none) (hpath : (pathB ops path && placesB path S && decide (S.length = ops.toList.dropLast.length) && path.all fun i => decide (i < ops.toList.dropLast.length)) = true)
    (ht : ∀ a b c : World, T a b → T b c → T a c) (hd : T w0 w0.drew) (hJ : J 0 w0.drew) (hl : ops.toList.dropLast.length ≤ V.length)
    (hA : relyAllP P Q2 T V J a0 w0 ops.toList.dropLast D V S) (hE : ∀ w, T w0 w → J path.length w → relyEnd (fun _ a w => last.wp P a w (fun a' w' => Q .normal a' w') Q) T ops.toList.dropLast V a0 w) : (Code.region id ops true).wp P Q a0 w0 := by
  have hsplit := split_last hla
  obtain ⟨_, hsz, _⟩ := last_at hsplit
  simp only [Bool.and_eq_true, decide_eq_true_eq] at hpath
  obtain ⟨⟨⟨h1, h2⟩, h3⟩, h4⟩ := hpath
  refine wp_region_any hm ?_
  exact wpAny_relyP hQ hsplit hn hB hlast hg ht h1 h2 h3 (fun i hi => by simpa using List.all_eq_true.1 h4 i hi) hl hA hE ops.size _ a0 w0.drew 0 unl_start (by
    have hlt : ops.toList.dropLast.length < ops.size := by omega
    generalize ops.toList.dropLast.length = m at hlt
    simp [hlt]) (rely_start hd) ⟨Nat.zero_le _, fun j i hj => by omega, fun j i _ _ => getD_replicate_false .., hJ⟩
theorem wp_region_relyP {id : Nat} (T : World → World → Prop) (J : Nat → World → Prop) (V : List (SV T)) (D : Deps) (S : List (Option Nat)) (path : List Nat) (n : Nat) (hla : ops.toList.getLast? = some last) (hm : P.follows .mixedOrders = true) (hn : a0.tmps.size = n) (hB : relyB ops n 0 ops.toList.dropLast D = true)
    (hlast : lastB ops last ops.toList.dropLast.length = true) (hg : last.guard = none) (hpath : (pathB ops path && placesB path S && decide (S.length = ops.toList.dropLast.length) && path.all fun i => decide (i < ops.toList.dropLast.length)) = true)
    (ht : ∀ a b c : World, T a b → T b c → T a c) (hd : T w0 w0.drew) (hJ : J 0 w0.drew) (hl : ops.toList.dropLast.length ≤ V.length)
    (hA : relyAllP P Q T V J a0 w0 ops.toList.dropLast D V S) (hE : ∀ w, T w0 w → J path.length w → relyEnd (fun _ a w => last.wp P a w (fun a' w' => Q .normal a' w') Q) T ops.toList.dropLast V a0 w) : (Code.region id ops true).wp P Q a0 w0 :=
  wp_region_relyQ (fun _ _ _ _ _ h => h) T J V D S path n hla hm hn hB hlast hg hpath ht hd hJ hl hA hE
/-- What a panic out of a region may lean on: nothing was deferred since. -/
def Qx (d : List Deferred) (Q : Exit → Act → World → Prop) : Exit → Act → World → Prop
  | .panic ch, a, w => a.defers = d → Q (.panic ch) a w
  | e, a, w => Q e a w
theorem wp_Qx {o : Oper} {a : Act} {w : World} {K : Act → World → Prop} {d : List Deferred} (hd : a.defers = d) (hh : o.wp P a w K (Qx d Q)) : o.wp P a w K Q := by
  unfold Oper.wp at *
  generalize (execOp a.eval o).run P w = r at *
  cases r with
  | ok n w' =>
    cases n <;> simp only [Oper.upon] at hh ⊢ <;>
      first
        | exact hh
        | exact Calls.mono hh (fun e w'' he => by cases e <;> first | exact he hd | exact he)
        | exact Rows.mono hh (fun _ _ he => he)
  | halt x w' => cases x <;> simp only [Oper.upon] at hh ⊢ <;> first | exact hh hd | exact hh
/-- Such a region out of which an operation may panic. -/
theorem wp_region_relyX {id : Nat} (T : World → World → Prop) (J : Nat → World → Prop) (V : List (SV T)) (D : Deps) (S : List (Option Nat)) (path : List Nat) (n : Nat) (hla : ops.toList.getLast? = some last) (hm : P.follows .mixedOrders = true) (hn : a0.tmps.size = n) (hB : relyB ops n 0 ops.toList.dropLast D = true)
    (hlast : lastB ops last ops.toList.dropLast.length = true) (hg : last.guard = none) (hpath : (pathB ops path && placesB path S && decide (S.length = ops.toList.dropLast.length) && path.all fun i => decide (i < ops.toList.dropLast.length)) = true)
    (ht : ∀ a b c : World, T a b → T b c → T a c) (hd : T w0 w0.drew) (hJ : J 0 w0.drew) (hl : ops.toList.dropLast.length ≤ V.length)
    (hA : relyAllP P (Qx a0.defers Q) T V J a0 w0 ops.toList.dropLast D V S) (hE : ∀ w, T w0 w → J path.length w → relyEnd (fun _ a w => last.wp P a w (fun a' w' => Q .normal a' w') Q) T ops.toList.dropLast V a0 w) : (Code.region id ops true).wp P Q a0 w0 :=
  wp_region_relyQ (fun _ _ _ _ hd h => wp_Qx hd h) T J V D S path n hla hm hn hB hlast hg hpath ht hd hJ hl hA hE
end
end Go.Proofs.YtlnedphnphabkaaDoor
/- Hashes that are taken from the end of a list, one by one: the variable that holds what is left. -/
namespace Go.Proofs.YtlnedphnphabkaaDoor
open Go Go.RowKit
set_option maxRecDepth 8000
set_option linter.all false
/-- Block g holds what is left of the list: its first k. The list, and the tables, lay there ahead of g. -/
def TkAt (w : World) (g : Nat) (l : List Hs) (k : Nat) : Prop :=
  ∃ A c W, w.rowIs g 33 1 (fun _ => .slice A k c) ∧ Tables W ∧ NewT W w ∧ W.heap.size ≤ g ∧ RdH W (.slice A l.length c) l ∧ k ≤ l.length
theorem TkAt.lt {w : World} {g k : Nat} {l : List Hs} (h : TkAt w g l k) : g < w.heap.size := by obtain ⟨A, c, W, h1, _⟩ := h; exact h1.lt
theorem TkAt.le {w : World} {g k : Nat} {l : List Hs} (h : TkAt w g l k) : k ≤ l.length := by obtain ⟨A, c, W, _, _, _, _, _, h1⟩ := h; exact h1
theorem TkAt.tables {w : World} {g k : Nat} {l : List Hs} (h : TkAt w g l k) : Tables w := by obtain ⟨A, c, W, _, h1, h2, _⟩ := h; exact h2.tables h1
theorem TkAt.new {w w' : World} {g k : Nat} {l : List Hs} (h : TkAt w g l k) (hN : NewT w w') : TkAt w' g l k := by
  obtain ⟨A, c, W, h1, h2, h3, h4⟩ := h
  exact ⟨A, c, W, hN.row h1, h2, NewT.trans _ _ _ h3 hN, h4⟩
/-- A block behind g is written. -/
theorem TkAt.late {w w' : World} {g b k : Nat} {l : List Hs} (h : TkAt w g l k) (hR : RT b w w') (hb : g < b) : TkAt w' g l k := by
  obtain ⟨A, c, W, h1, h2, h3, h4, h5⟩ := h
  exact ⟨A, c, W, hR.row (by omega) h1, h2, NewT.of (h3.out.trans (hR.below.mono (by omega))), h4, h5⟩
theorem TkAt.tabs {w w' : World} {g k : Nat} {l : List Hs} (h : TkAt w g l k) (hR : RT g w w') : Tables w' := by
  obtain ⟨A, c, W, h1, h2, h3, h4, _⟩ := h
  exact (NewT.of (h3.out.trans (hR.below.mono h4))).tables h2
/-- What never comes. -/
def svNo {T : World → World → Prop} : SV T := ⟨fun _ _ => False, fun _ _ _ h _ => h⟩
/-- The panic that says that there is no hash left. -/
def fewP : List PanicEntry := [{ v := .iface 9 (.string ⟨#[116, 111, 111, 32, 102, 101, 119, 32, 104, 97, 115, 104, 101, 115]⟩), recovered := false }]
section
variable {P : Program} {a : Act} {w : World} {o : Oper} {K : Act → World → Prop} {Q : Exit → Act → World → Prop} {f : Nat} {fn : Func} {x : Operand} {args : Array Operand} {vs cap : Array Value} {ts : Array TypeId}
/-- A function value is called, and panics. -/
theorem opr_callvP (ho : o.op = .call { callee := .value x, args := args, argTypes := ts }) (hx : a.eval x = .func (.func f) #[] cap) (hf : P.funcs[f]? = some fn)
    (hn : (fn.name == "runtime.NumGoroutine") = false) (hb : fn.body.isNone = false) (hv : args.map a.eval ++ cap = vs)
    (h : Calls P f vs w fun e w' => ∃ ch, e = .panicked ch ∧ Q (.panic ch) a w') : o.wp P a w K Q := by
  obtain ⟨dst, op, type, pos, after, guard⟩ := o
  simp only at ho
  subst ho
  have e : execOp a.eval { dst, op := .call { callee := .value x, args := args, argTypes := ts }, type, pos, after, guard } = callFunc f vs := by
    show (do let d ← resolve a.eval { callee := .value x, args := args, argTypes := ts } type; invoke d.target d.args) = _
    simp only [resolve, Deferred.ofValue, hx, invoke, pure_bind]
    rw [← hv]; simp
  unfold Oper.wp
  rw [e, run_callFunc_go hf hn hb, Oper.upon_enter]
  refine h.mono ?_
  rintro e w' ⟨v, rfl, hk⟩
  exact hk
/-- A Go function is called, and panics. -/
theorem opr_callP (ho : o.op = .call { callee := .value (.func f), args := args, argTypes := ts }) (hf : P.funcs[f]? = some fn)
    (hn : (fn.name == "runtime.NumGoroutine") = false) (hb : fn.body.isNone = false) (hv : args.map a.eval = vs)
    (h : Calls P f vs w fun e w' => ∃ ch, e = .panicked ch ∧ Q (.panic ch) a w') : o.wp P a w K Q := by
  obtain ⟨dst, op, type, pos, after, guard⟩ := o
  simp only at ho
  subst ho
  subst hv
  unfold Oper.wp
  rw [execOp_call_go, show #[] ++ args.map a.eval ++ #[] = args.map a.eval by simp, run_callFunc_go hf hn hb, Oper.upon_enter]
  refine h.mono ?_
  rintro e w' ⟨v, rfl, hk⟩
  exact hk
end
end Go.Proofs.YtlnedphnphabkaaDoor
/- Boxes of one value; what calls hand back together: rows, flags. -/
namespace Go.Proofs.YtlnedphnphabkaaDoor
open Go Go.RowKit
set_option maxRecDepth 8000
set_option linter.all false
theorem rowIs_one (w : World) (t : TypeId) (v : Value) : (w.alloc (.cells #[v] t)).rowIs w.heap.size t 1 (fun _ => v) := rowIs_box w t 1 (fun _ => v)
/-- A block that is new is written. -/
theorem NewT.rt {w w1 w2 : World} {b : Nat} (h : NewT w w1) (hR : RT b w1 w2) (hb : w.heap.size ≤ b) : NewT w w2 := NewT.of (h.out.trans (hR.below.mono hb))
section
variable {P : Program} {w : World} {fn : Func} {tmps : Array Value}
theorem run_ldV_row {b n : Nat} {t ty : TypeId} {d : TypeDesc} {f : Nat → Value} (h : w.rowIs b t n f) (hu : P.underlying ty = some d) (hd : d.isRow = true) (hi : (P.info? ty).map (·.size) = some n) : (loadVar ty ⟨b, 0, none⟩).run P w = .ok (.agg (rowA n f)) w := by
  simpa using run_loadVar_mid (P := P) w b 0 ty (rowA n f).toList d (rangeAt_row h) hu hd (by rw [hi, rowA_toList]; simp)
theorem run_ldV_one {b : Nat} {t ty : TypeId} {v : Value} {d : TypeDesc} (h : w.rowIs b t 1 (fun _ => v)) (hu : P.underlying ty = some d) (hd : d.isRow = false) : (loadVar ty ⟨b, 0, none⟩).run P w = .ok v w := by
  have ha : (isAgg ty).run P w = .ok false w := by
    unfold isAgg
    rw [Sem.run_bind, run_underlying hu w]
    cases d <;> first | rfl | cases hd
  have hc := h.cell (i := 0) (by omega)
  simp only [loadVar, Sem.run_bind, ha, Result.andThen_ok, Bool.false_eq_true, if_false]
  simp [run_load, hc]
/-- A row, and what lies in a variable. -/
theorem results_rv {p q : Tmp} {tp tq t t' : TypeId} {d d' : TypeDesc} {n b b' : Nat} {f : Nat → Value} {v : Value} (hf : fn.results = #[.cell p tp, .cell q tq]) (hp : tmps.getD p undef = .pointer (some ⟨b, 0, none⟩)) (hq : tmps.getD q undef = .pointer (some ⟨b', 0, none⟩))
    (h : w.rowIs b t n f) (h' : w.rowIs b' t' 1 (fun _ => v)) (hu : P.underlying tp = some d) (hd : d.isRow = true) (hi : (P.info? tp).map (·.size) = some n) (hu' : P.underlying tq = some d') (hd' : d'.isRow = false) : (results fn tmps).run P w = .ok (.tuple #[.agg (rowA n f), v]) w := by
  have e1 := run_ldV_row (P := P) h hu hd hi
  have e2 := run_ldV_one (P := P) h' hu' hd'
  have hp' : tmps[p]?.getD undef = .pointer (some ⟨b, 0, none⟩) := by simpa using hp
  have hq' : tmps[q]?.getD undef = .pointer (some ⟨b', 0, none⟩) := by simpa using hq
  simp [results, hf, hp', hq', asAddr, e1, e2]
/-- A row, and a value of the frame. -/
theorem results_rt {p u : Tmp} {tp t : TypeId} {d : TypeDesc} {n b : Nat} {f : Nat → Value} {v : Value} (hf : fn.results = #[.cell p tp, .tmp u]) (hp : tmps.getD p undef = .pointer (some ⟨b, 0, none⟩)) (hv : tmps.getD u undef = v)
    (h : w.rowIs b t n f) (hu : P.underlying tp = some d) (hd : d.isRow = true) (hi : (P.info? tp).map (·.size) = some n) : (results fn tmps).run P w = .ok (.tuple #[.agg (rowA n f), v]) w := by
  have e1 := run_ldV_row (P := P) h hu hd hi
  have hp' : tmps[p]?.getD undef = .pointer (some ⟨b, 0, none⟩) := by simpa using hp
  have hv' : tmps[u]?.getD undef = v := by simpa using hv
  simp [results, hf, hp', hv', asAddr, e1]
/-- Two rows, and a value of the frame. -/
theorem results_rrt {p q u : Tmp} {tp t t' : TypeId} {d : TypeDesc} {n b b' : Nat} {f f' : Nat → Value} {v : Value} (hf : fn.results = #[.cell p tp, .cell q tp, .tmp u]) (hp : tmps.getD p undef = .pointer (some ⟨b, 0, none⟩)) (hq : tmps.getD q undef = .pointer (some ⟨b', 0, none⟩)) (hv : tmps.getD u undef = v)
    (h : w.rowIs b t n f) (h' : w.rowIs b' t' n f') (hu : P.underlying tp = some d) (hd : d.isRow = true) (hi : (P.info? tp).map (·.size) = some n) : (results fn tmps).run P w = .ok (.tuple #[.agg (rowA n f), .agg (rowA n f'), v]) w := by
  have e1 := run_ldV_row (P := P) h hu hd hi
  have e2 := run_ldV_row (P := P) h' hu hd hi
  have hp' : tmps[p]?.getD undef = .pointer (some ⟨b, 0, none⟩) := by simpa using hp
  have hq' : tmps[q]?.getD undef = .pointer (some ⟨b', 0, none⟩) := by simpa using hq
  have hv' : tmps[u]?.getD undef = v := by simpa using hv
  simp [results, hf, hp', hq', hv', asAddr, e1, e2]
variable {a : Act} {o : Oper} {K : Act → World → Prop} {Q : Exit → Act → World → Prop}
/-- A closure is made. -/
theorem opr_mkf {fid : Nat} {xs : Array Operand} {cap : Array Value} (ho : o.op = .makeFunc (.func fid) #[] xs) (hx : xs.map a.eval = cap) (h : K (a.put o.dst (.func (.func fid) #[] cap)) w) : o.wp P a w K Q := by
  obtain ⟨dst, op, type, pos, after, guard⟩ := o
  simp only at ho
  subst ho
  subst hx
  exact opr_val (s := Instr.makeFunc (.func fid) #[] (xs.map a.eval)) (by simp [execOp]) rfl h
/-- One of the values that a call hands back together. -/
theorem opr_ext {k : Nat} {x : Operand} {vs : Array Value} {v : Value} (ho : o.op = .extract x k) (hx : a.eval x = .tuple vs) (hv : vs[k]? = some v) (h : K (a.put o.dst v) w) : o.wp P a w K Q := by
  obtain ⟨dst, op, type, pos, after, guard⟩ := o
  simp only at ho
  subst ho
  exact opr_val (s := Instr.extract (a.eval x) k) (by simp [execOp]) (by rw [hx]; simp [Instr.extract, hv]) h
end
end Go.Proofs.YtlnedphnphabkaaDoor
/- The hashes of leaves: what clash.hashes makes. -/
namespace Go.Proofs.YtlnedphnphabkaaDoor
open Go Go.RowKit
set_option maxRecDepth 8000
set_option linter.all false
def LeafH (lf : List UInt8 → Hs) : Prop := ∀ x, shaL Kc Fc (0 :: x) = lf x
theorem leaf_ex : ∃ lf, LeafH lf := ⟨_, fun _ => rfl⟩
theorem LeafK {lf : List UInt8 → Hs} (hY : LeafH lf) (v : Value) (l : List UInt8) (w : World) (hT : Tables w) (hl : RdV w [] v l) (hn : l.length ≤ 10000) : Cv 21 #[v] w (.eq (.agg (rowA 32 (bF (lf l))))) :=
  Leaf_cv v l (lf l) w hT hl (by omega) (by rw [List.append_nil]; exact hY l)
theorem madeH (n : Nat) : madeCells (Value.agg (rowA 32 (bF fun _ => 0))).cells (n * 32) = rowA (n * 32) (bF fun _ => 0) := by
  have e : (Value.agg (rowA 32 (bF fun _ => 0))).cells = rowA 32 (bF fun _ => 0) := rfl
  rw [e]
  unfold madeCells
  apply Array.ext (by simp [rowA_size])
  intro i h1 h2
  have h3 : i % 32 < 32 := Nat.mod_lt _ (by decide)
  simp [rowA, bF, h3]
theorem run_makeH (w : World) (n : Nat) (hn : n ≤ 1000000) : (Instr.makeSlice 33 (.int .i64 (n : Int)) (.int .i64 (n : Int))).run Tryd.prog w = .ok (.slice (some ⟨w.heap.size, 0, none⟩) n n) (w.alloc (.cells (rowA (n * 32) (bF fun _ => 0)) 30)) := by
  obtain ⟨i0, hi0, hi1⟩ := Option.map_eq_some_iff.1 infoH
  simp only [Prod.mk.injEq] at hi1
  obtain ⟨z0, z1, z2⟩ := hi1
  have h := run_make (P := Tryd.prog) w 33 30 i0 _ Tryd.underlying33 hi0 z0 .i64 .i64 (n : Int) (n : Int) (by omega) (by omega) (by rw [z2]; omega) (by omega)
  rw [h, z1, Int.toNat_natCast, madeH]
theorem map_at_k {l : List (List UInt8)} {lf : List UInt8 → Hs} {k : Nat} {x : List UInt8} (h : l[k]? = some x) : (l.map lf)[k]? = some (lf x) := by simp [h]
set_option maxHeartbeats 1000000 in
theorem Hashes_cv {lf : List UInt8 → Hs} (hY : LeafH lf) (v : Value) (l : List (List UInt8)) (w : World) (hT : Tables w) (hp : Parts w v l) (hn : l.length ≤ 1000) (hb : ∀ x ∈ l, x.length ≤ 10000) : Cv 30 #[v, .func (.func 21) #[] #[]] w (svH (l.map lf)) := by
  unfold Cv
  have HT := Lib.hid hT
  have HA0 := Lib.hid hp
  have HBD := Lib.hid hb
  obtain ⟨A, c, e, _⟩ := parts_form hp
  subst e
  have hmk := run_makeH w l.length (by omega)
  clear hT hp hb
  go_enter Tryd.func30, Tryd.ntmps30
  go_wp2
  have r0 := rowIs_box w 30 (l.length * 32) (bF fun _ => 0)
  have hN0 := NewT.alloc w (.cells (rowA (l.length * 32) (bF fun _ => 0)) 30)
  generalize w.alloc (.cells (rowA (l.length * 32) (bF fun _ => 0)) 30) = W0 at r0 hN0 ⊢
  go_loopw [13] (fun i wr => ∃ (k : Nat) (m : List Hs) (F : Nat → Value), k ≤ l.length ∧ i = .int .i64 (k : Int) ∧ m.length = l.length ∧ Hid (∀ i, i < k → m[i]? = (l.map lf)[i]?) ∧ Hid (∀ i d, m[i]? = some d → ∀ j, j < 32 → F (i * 32 + j) = bF d j) ∧ Hid (wr.rowIs w.heap.size 30 (l.length * 32) F) ∧ NewT w wr) (fun i _ => l.length - (intOf i).toNat)
  case atStart => exact ⟨0, List.replicate l.length (fun _ => 0), _, by omega, rfl, by simp, Lib.hid (fun i hi => by omega), Lib.hid (fun i d hd j hj => by
    have := (List.mem_replicate.1 (List.mem_of_getElem? hd)).2
    subst this; rfl), Lib.hid r0, hN0⟩
  case round =>
    clear r0 hN0 hmk
    obtain ⟨k, m, F, hk, rfl, hm, HM, HF, RF, hN⟩ := hrel
    have HN := Lib.hid hN
    have HA := Lib.hid (hN.partsL HA0.out)
    clear hN
    by_cases hlt : k < l.length
    · have it : (k : Int) < (l.length : Int) := by omega
      obtain ⟨x, hx⟩ : ∃ d, l[k]? = some d := ⟨_, List.getElem?_eq_getElem (by omega)⟩
      have HX := Lib.hid hx
      have HX2 := Lib.hid (HBD.out x (List.mem_of_getElem? hx))
      clear hx
      go_upto_region 4 with fail
      obtain ⟨va, ea⟩ : ∃ v, Value.slice A l.length c = v := ⟨_, rfl⟩
      rw [ea] at HA ⊢
      refine wp_region_steps0 NewT [SV.eq (.int .i64 ((k : Int))), svPT (x), svRd (x), SV.eq (.int .i64 ((k : Int))), svRd (x)] [([(13, none)], none), ([(11, none), (13, none)], none), ([(16, some 1)], none), ([(15, some 0)], none), ([(17, some 2)], none)] 26 5 rfl rfl (by kernel_rfl) NewT.trans (NewT.refl _) (Nat.le_of_ble_eq_true rfl) ⟨?_, ?_, ?_, ?_, ?_, trivial⟩ ?_
      · intro a wx hT hF K hK
        obtain ⟨f13, _⟩ := hF
        have f13 : a.tmps.getD 13 undef = .int .i64 ((k : Int)) := f13
        refine rely_wp rfl ?_
        exact opr_move (.inl rfl) (hK _ _ (NewT.refl _) f13)
      · intro a wx hT hF K hK
        obtain ⟨f11, f13, _⟩ := hF
        have f11 : a.tmps.getD 11 undef = va := f11
        have f13 : a.tmps.getD 13 undef = .int .i64 ((k : Int)) := f13
        refine rely_wp rfl ?_
        exact opr_idxT (i := k) (l := x) (HX.out) (rfl) rfl (by rw [eval_tmp, f11]; exact (hT.partsL HA.out)) f13 (fun v hv => hK v _ (NewT.refl _) hv)
      · intro a wx hT hF K hK
        obtain ⟨f16, _⟩ := hF
        replace f16 := show (svPT (x)).pred (a.tmps.getD 16 undef) wx from f16
        refine rely_wp rfl ?_
        exact opr_ldT rfl f16 (fun u hu => hK u _ (NewT.refl _) hu)
      · intro a wx hT hF K hK
        obtain ⟨f15, _⟩ := hF
        have f15 : a.tmps.getD 15 undef = .int .i64 ((k : Int)) := f15
        refine rely_wp rfl ?_
        exact opr_move (.inr rfl) (hK _ _ (NewT.refl _) f15)
      · intro a wx hT hF K hK
        obtain ⟨f17, _⟩ := hF
        replace f17 := show (svRd (x)).pred (a.tmps.getD 17 undef) wx from f17
        refine rely_wp rfl ?_
        exact opr_move (.inr rfl) (hK _ _ (NewT.refl _) f17)
      · intro wa ka
        intro u h; obtain rfl := Eq.symm (h (by simp)); clear h
        intro _ _
        intro _ _
        intro u h; obtain rfl := Eq.symm (h (by simp)); clear h
        intro u7 h; have g7 := h (by simp); clear h; replace g7 := show (svRd (x)).pred u7 wa from g7
        refine relyEnd_nil rfl ?_
        refine wpList_end rfl ?_
        simp only [Act.put, List.setIfInBounds_toArray, List.set_cons_zero, List.set_cons_succ]
        go_simp
        have G7 := Lib.hid g7
        replace RF := Lib.hid (ka.row RF.out)
        replace HN := Lib.hid (NewT.trans _ _ _ HN.out ka)
        clear g7 ka HA
        go_upto_region 5 with fail
        refine wp_region_steps0 NewT [SV.eq ((.slice (some ⟨w.heap.size, 0, none⟩) l.length l.length)), SV.eq (.int .i64 ((k : Int))), SV.eq ((.func (.func 21) #[] #[])), svRd (x), SV.eq (.agg (rowA 32 (bF (lf (x)))))] [([(5, none)], none), ([(6, none)], none), ([(1, none)], none), ([(7, none)], none), ([(20, some 2), (21, some 3)], none)] 26 5 rfl rfl (by kernel_rfl) NewT.trans (NewT.refl _) (Nat.le_of_ble_eq_true rfl) ⟨?_, ?_, ?_, ?_, ?_, trivial⟩ ?_
        · intro a wx hT hF K hK
          obtain ⟨f5, _⟩ := hF
          have f5 : a.tmps.getD 5 undef = (.slice (some ⟨w.heap.size, 0, none⟩) l.length l.length) := f5
          refine rely_wp rfl ?_
          exact opr_move (.inl rfl) (hK _ _ (NewT.refl _) f5)
        · intro a wx hT hF K hK
          obtain ⟨f6, _⟩ := hF
          have f6 : a.tmps.getD 6 undef = .int .i64 ((k : Int)) := f6
          refine rely_wp rfl ?_
          exact opr_move (.inl rfl) (hK _ _ (NewT.refl _) f6)
        · intro a wx hT hF K hK
          obtain ⟨f1, _⟩ := hF
          have f1 : a.tmps.getD 1 undef = (.func (.func 21) #[] #[]) := f1
          refine rely_wp rfl ?_
          exact opr_move (.inl rfl) (hK _ _ (NewT.refl _) f1)
        · intro a wx hT hF K hK
          obtain ⟨f7, _⟩ := hF
          have f7 : a.tmps.getD 7 undef = u7 := f7
          refine rely_wp rfl ?_
          exact opr_move (.inl rfl) (hK _ _ (NewT.refl _) (by rw [eval_tmp, f7]; exact hT.rd G7.out))
        · intro a wx hT hF K hK
          obtain ⟨f20, f21, _⟩ := hF
          have f20 : a.tmps.getD 20 undef = (.func (.func 21) #[] #[]) := f20
          replace f21 := show (svRd (x)).pred (a.tmps.getD 21 undef) wx from f21
          refine rely_wp rfl ?_
          exact opr_cvv (cap := #[]) (LeafK hY _ (x) wx ((NewT.trans _ _ _ HN.out hT).tables HT.out) f21 (HX2.out)) rfl f20 Tryd.func21 (by kernel_rfl) (by kernel_rfl) (by simp only [List.map_toArray, List.map_cons, List.map_nil, List.append_toArray, List.cons_append, List.nil_append, List.append_nil, eval_tmp, eval_const]) hK
        · intro wb kb
          intro u h; obtain rfl := Eq.symm (h (by simp)); clear h
          intro u h; obtain rfl := Eq.symm (h (by simp)); clear h
          intro u h; obtain rfl := Eq.symm (h (by simp)); clear h
          intro _ _
          intro u h; obtain rfl := Eq.symm (h (by simp)); clear h
          refine relyEnd_nil rfl ?_
          simp only [Act.put, List.setIfInBounds_toArray, List.set_cons_zero, List.set_cons_succ]
          refine wpList_plain rfl (fun K hK => ?_)
          refine opr_idxV (i := k) hlt rfl rfl rfl (hK _ _ ?_)
          clear hK K
          simp only [Act.put, List.setIfInBounds_toArray, List.set_cons_zero, List.set_cons_succ]
          refine wpList_plain rfl (fun K hK => ?_)
          refine opr_putm (F := fun q => if k * 32 ≤ q ∧ q < k * 32 + 32 then bF (lf x) (q - k * 32) else F q) rfl rfl rfl (kb.row RF.out) (by omega) info31 (fun _ => rfl) (fun i hi => by rw [Nat.zero_add]) ?_
          intro w9 hR9 r9
          refine hK _ _ ?_
          refine wpList_end rfl ?_
          simp only [Act.put, List.setIfInBounds_toArray, List.set_cons_zero, List.set_cons_succ]
          go_simp
          have R9 := Lib.hid r9
          have HN9 := Lib.hid (NewT.rt (NewT.trans _ _ _ HN.out kb) hR9 (Nat.le_refl _))
          clear r9 hR9 kb RF HN G7
          subst ea
          go_wp2
          go_roundw
          case rel => exact ⟨k + 1, m.set k (lf x), _, by omega, by go_num, by rw [List.length_set]; exact hm, Lib.hid (fun i hi => by
            by_cases h : i = k
            · subst h; rw [List.getElem?_set_self (by omega), map_at_k HX.out]
            · rw [List.getElem?_set_ne (Ne.symm h)]; exact HM.out i (by omega)), Lib.hid (set_cells (by omega) HF.out), R9, HN9.out⟩
          case measure => simp [intOf]; omega
    · obtain rfl : k = l.length := by omega
      have hml : m = l.map lf := by
        apply List.ext_getElem? fun i => ?_
        by_cases hi : i < l.length
        · exact HM.out i hi
        · rw [List.getElem?_eq_none (by omega), List.getElem?_eq_none (by rw [List.length_map]; omega)]
      have hr := rdH_row RF.out (l := m) (by rw [hm]; omega) (by unfold maxLen; omega) HF.out
      rw [hm, hml] at hr
      have HR := Lib.hid hr
      clear hr hml
      go_wp2
      go_ret
      exact ⟨_, rfl, HN.out, HR.out⟩
end Go.Proofs.YtlnedphnphabkaaDoor
/- A region that draws its order and makes some rows of hashes: they are different ones. -/
namespace Go.Proofs.YtlnedphnphabkaaDoor
open Go Go.RowKit
set_option maxRecDepth 8000
set_option linter.all false
/-- Slots hold pointers to different blocks, all there. -/
def ManyPtr (ps : List Tmp) (a : Act) (w : World) : Prop :=
  (∀ p ∈ ps, ∀ g, a.tmps.getD p undef = .pointer (some ⟨g, 0, none⟩) → g < w.heap.size) ∧
    ∀ p ∈ ps, ∀ q ∈ ps, p ≠ q → ∀ g g', a.tmps.getD p undef = .pointer (some ⟨g, 0, none⟩) → a.tmps.getD q undef = .pointer (some ⟨g', 0, none⟩) → g ≠ g'
theorem ManyPtr.keep {ps : List Tmp} {a : Act} {w w' : World} {d : Option Tmp} {v : Value} (h : ManyPtr ps a w) (hd : ∀ p ∈ ps, d ≠ some p) (hT : NewT w w') : ManyPtr ps (a.put d v) w' := by
  refine ⟨fun p hp g hg => ?_, fun p hp q hq hpq g g' hg hg' => ?_⟩
  · rw [put_other v (hd p hp)] at hg
    exact Nat.lt_of_lt_of_le (h.1 p hp g hg) hT.out.size
  · rw [put_other v (hd p hp)] at hg
    rw [put_other v (hd q hq)] at hg'
    exact h.2 p hp q hq hpq g g' hg hg'
theorem ManyPtr.make {ps : List Tmp} {p : Tmp} {a : Act} {w : World} {o : Obj} (h : ManyPtr ps a w) : ManyPtr ps (a.put (some p) (.pointer (some ⟨w.heap.size, 0, none⟩))) (w.alloc o) := by
  have old : ∀ q ∈ ps, q ≠ p → ∀ g, (a.put (some p) (.pointer (some ⟨w.heap.size, 0, none⟩))).tmps.getD q undef = .pointer (some ⟨g, 0, none⟩) → g < w.heap.size ∧ a.tmps.getD q undef = .pointer (some ⟨g, 0, none⟩) := fun q hq hqp g hg => by
    rw [put_other (p := q) (d := some p) _ (by simpa using Ne.symm hqp)] at hg
    exact ⟨h.1 q hq g hg, hg⟩
  refine ⟨fun q hq g hg => ?_, fun q hq r hr hqr g g' hg hg' => ?_⟩
  · by_cases e : q = p
    · subst e; rw [put_same hg]; simp
    · have := (old q hq e g hg).1; simp; omega
  · by_cases e : q = p
    · subst e
      have := (old r hr (Ne.symm hqr) g' hg').1
      rw [put_same hg]; omega
    · by_cases e' : r = p
      · subst e'
        have := (old q hq e g hg).1
        rw [put_same hg']; omega
      · exact h.2 q hq r hr hqr g g' (old q hq e g hg).2 (old r hr e' g' hg').2
/-- A new row of hashes, behind B. -/
def svNw (B : Nat) : SV NewT := ⟨fun v w => ∃ g, v = .pointer (some ⟨g, 0, none⟩) ∧ B ≤ g ∧ w.rowIs g 30 32 (bF fun _ => 0), fun _ _ _ ⟨g, h1, h2, h3⟩ hT => ⟨g, h1, h2, hT.row h3⟩⟩
end Go.Proofs.YtlnedphnphabkaaDoor
