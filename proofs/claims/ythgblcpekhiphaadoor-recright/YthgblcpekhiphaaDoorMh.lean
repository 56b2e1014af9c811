/- The reference's Turn. -/
import Derived.Test.YthgblcpekhiphaaDoorMb
import Derived.Test.YthgblcpekhiphaaDoorMa
import Derived.Test.YthgblcpekhiphaaDoorMg
import Derived.Test.YthgblcpekhiphaaDoorRows
import Derived.ProofKit
import Derived.LaidMore
import Derived.OpenShut
import Derived.Stop.Joined
import Derived.Lib.LaidTab
import Derived.Stop.LaidErr
set_option linter.all false
namespace Go.Proofs.YthgblcpekhiphaaDoor
open Go.RowKit
set_option maxRecDepth 8000
/-- Numbers of 32 bits in cells of 64. -/
def vF (s : Nat → BitVec 32) : Nat → Value := fun i => .int .u64 (uN (s i))
theorem vF_at (s : Nat → BitVec 32) (i : Nat) : vF s i = .int .u64 (uN (s i)) := rfl
theorem wS_final (l : List UInt8) (n i : Nat) (h : i < 16 + n) (hn : n ≤ 48) : wS l 48 i = wS l n i := by
  obtain ⟨k, hk⟩ : ∃ k, 48 = n + k := ⟨48 - n, by omega⟩
  rw [hk]
  clear hk hn
  induction k with
  | zero => rfl
  | succ k ih => rw [← Nat.add_assoc, wS_old l (n + k) i (by omega), ih]
theorem wS_first (l : List UInt8) (i : Nat) (h : i < 16) : wS l 48 i = wordTo l i 4 := by
  rw [wS_final l 0 i (by omega) (by omega)]; simp [wS, schedL, h]
theorem wS_rec (l : List UInt8) (t : Nat) (h1 : 16 ≤ t) (h2 : t < 64) : wS l 48 t = ss1 (wS l 48 (t - 2)) + wS l 48 (t - 7) + ss0 (wS l 48 (t - 15)) + wS l 48 (t - 16) := by
  obtain ⟨n, rfl⟩ : ∃ n, t = 16 + n := ⟨t - 16, by omega⟩
  rw [wS_final l (n + 1) (16 + n) (by omega) (by omega), wS_new, show 16 + n - 2 = n + 14 by omega, show 16 + n - 7 = n + 9 by omega, show 16 + n - 15 = n + 1 by omega, show 16 + n - 16 = n by omega,
    wS_final l n (n + 14) (by omega) (by omega), wS_final l n (n + 9) (by omega) (by omega), wS_final l n (n + 1) (by omega) (by omega), wS_final l n n (by omega) (by omega)]
theorem word_step (x : BitVec 32) (b : UInt8) (hx : x.toNat < 16777216) : (x <<< 8 ||| b.toBitVec.setWidth 32).toNat = x.toNat * 256 + b.toNat := by
  have hb := b.toNat_lt
  have e1 : (x <<< 8).toNat = x.toNat <<< 8 := by rw [BitVec.toNat_shiftLeft, Nat.mod_eq_of_lt]; rw [Nat.shiftLeft_eq]; omega
  have e2 : (b.toBitVec.setWidth 32).toNat = b.toNat := by rw [BitVec.toNat_setWidth]; show b.toNat % _ = _; omega
  rw [BitVec.toNat_or, e1, e2, ← Nat.shiftLeft_add_eq_or_of_lt (by omega), Nat.shiftLeft_eq]
theorem word_num (l : List UInt8) (t : Nat) : uN (wordTo l t 4) = ((bN (bAt l (4 * t)) * 256 + bN (bAt l (4 * t + 1))) * 256 + bN (bAt l (4 * t + 2))) * 256 + bN (bAt l (4 * t + 3)) := by
  have h0 := (bAt l (4 * t)).toNat_lt
  have h1 := (bAt l (4 * t + 1)).toNat_lt
  have h2 := (bAt l (4 * t + 2)).toNat_lt
  have h3 := (bAt l (4 * t + 3)).toNat_lt
  have e1 : (wordTo l t 1).toNat = (bAt l (4 * t)).toNat := by simp [wordTo]
  have e2 : (wordTo l t 2).toNat = (wordTo l t 1).toNat * 256 + (bAt l (4 * t + 1)).toNat := word_step (wordTo l t 1) _ (by omega)
  have e3 : (wordTo l t 3).toNat = (wordTo l t 2).toNat * 256 + (bAt l (4 * t + 2)).toNat := word_step (wordTo l t 2) _ (by omega)
  have e4 : (wordTo l t 4).toNat = (wordTo l t 3).toNat * 256 + (bAt l (4 * t + 3)).toNat := word_step (wordTo l t 3) _ (by omega)
  unfold uN bN
  omega
/-- The first t numbers of a list, the others 0. -/
def cutT (s : Nat → BitVec 32) (t : Nat) : Nat → BitVec 32 := fun i => if i < t then s i else 0
theorem cutT_at (s : Nat → BitVec 32) (t i : Nat) (h : i < t) : cutT s t i = s i := if_pos h
theorem cutT_set (s : Nat → BitVec 32) (t : Nat) (z : Int) (hz : z = uN (s t)) (i : Nat) : (if i = t then Value.int .u64 z else vF (cutT s t) i) = vF (cutT s (t + 1)) i := by
  subst hz
  simp only [vF, cutT]
  by_cases h : i = t
  · subst h; simp
  · by_cases h2 : i < t
    · rw [if_neg h, if_pos h2, if_pos (by omega)]
    · rw [if_neg h, if_neg h2, if_neg (by omega)]
theorem rowIs_zeros64 (s : Nat → BitVec 32) (w : World) (t : TypeId) (n : Nat) : (w.alloc (.cells (Array.replicate n (.int .u64 0)) t)).rowIs w.heap.size t n (vF (cutT s 0)) := by
  have := World.rowIs_alloc w (Array.replicate n (.int .u64 0)) t (vF (cutT s 0)) (fun i hi => by simp at hi; simp [vF, cutT, hi, uN])
  simpa using this
theorem info47 : (Tryd.prog.info? 93).map (·.size) = some 8 := by kernel_rfl
theorem wrap32_uN (x : BitVec 32) : IntKind.u32.wrap (uN x) = uN x := wrap_uN x

attribute [local go_sem] uF_at
attribute [local go_sem] vF_at wrap64_uN wrap32_uN u64_xor u64_and u64_not u64_add2 u64_add3 u64_add4 u64_add5 mod_t2 mod_t4 mod_t5 tmod_t2 tmod_t4 tmod_t5
def RT1 (s : Nat → BitVec 32) (l : List UInt8) (w : World) (t : Nat) (wr : World) : Prop :=
  wr.rowIs w.heap.size 76 8 (uF s) ∧ wr.rowIs (w.heap.size + 1) 76 8 (fun _ => .int .u32 0) ∧ wr.rowIs (w.heap.size + 1 + 1) 91 64 (vF (cutT (wS l 48) t)) ∧ Below w.heap.size w wr
set_option maxRecDepth 20000 in
set_option maxHeartbeats 4000000 in
theorem RTurn_any (K s : Nat → BitVec 32) (l : List UInt8) (b o cap : Nat) (_ : 64 ≤ cap) (_ : cap ≤ maxLen) (w : World) (hb : b < w.heap.size) (h1 : 1 < w.heap.size)
    (hK : ∀ i, i < 64 → w.cell? ⟨1, i, none⟩ = some (.int .u32 (uN (K i))))
    (hc : ∀ i, i < 64 → w.cell? ⟨b, o + i, none⟩ = some (.int .u8 (bN (bAt l i)))) :
    Calls Tryd.prog 73 #[.agg (rowA 8 (uF s)), .slice (some ⟨b, o, none⟩) 64 cap] w fun e w' => e = .returned (.agg (rowA 8 (uF fun i => s i + (runTo K (wS l 48) (St.of s) 64).get i))) ∧ Below w.heap.size w w' := by
  have HK := Lib.hid hK
  have HC := Lib.hid hc
  clear hK hc
  go_enter Tryd.func73, Tryd.ntmps73
  go_wp2
  have r0 := ((rowIs_box w 76 8 (uF s)).alloc (.cells (rowA 8 fun _ => .int .u32 0) 76)).alloc (.cells (Array.replicate 64 (.int .u64 0)) 91)
  have r1 := (rowIs_box (w.alloc (.cells (rowA 8 (uF s)) 76)) 76 8 fun _ => .int .u32 0).alloc (.cells (Array.replicate 64 (.int .u64 0)) 91)
  have r2 := rowIs_zeros64 (wS l 48) ((w.alloc (.cells (rowA 8 (uF s)) 76)).alloc (.cells (rowA 8 fun _ => .int .u32 0) 76)) 91 64
  have hB : Below w.heap.size w (((w.alloc (.cells (rowA 8 (uF s)) 76)).alloc (.cells (rowA 8 fun _ => .int .u32 0) 76)).alloc (.cells (Array.replicate 64 (.int .u64 0)) 91)) :=
    (((Below.refl _ w).alloc (Nat.le_refl _) _).alloc (by simp) _).alloc (by simp; omega) _
  rw [World.size_alloc] at r1 r2
  rw [World.size_alloc] at r2
  change Code.wp _ _ _ _ (((w.alloc (.cells (rowA 8 (uF s)) 76)).alloc (.cells (rowA 8 fun _ => .int .u32 0) 76)).alloc (.cells (Array.replicate 64 (.int .u64 0)) 91))
  generalize (((w.alloc (.cells (rowA 8 (uF s)) 76)).alloc (.cells (rowA 8 fun _ => .int .u32 0) 76)).alloc (.cells (Array.replicate 64 (.int .u64 0)) 91)) = W0 at r0 r1 r2 hB ⊢
  go_loopw [6] (fun i wr => ∃ t : Nat, t ≤ 64 ∧ i = .int .i64 t ∧ RT1 s l w t wr) (fun i _ => 64 - (intOf i).toNat)
  case atStart => exact ⟨0, by omega, rfl, r0, r1, r2, hB⟩
  case round =>
    obtain ⟨t, ht, rfl, q0, q1, q2, qB⟩ := hrel
    clear r0 r1 r2 hB
    by_cases hlt : t < 64
    · by_cases h16 : t < 16
      · have e0 : wr.cell? ⟨b, o + 4 * t, none⟩ = _ := (qB.cell (p := ⟨b, o + (4 * t), none⟩) hb).trans (HC.out (4 * t) (by omega))
        have e1 : wr.cell? ⟨b, o + (4 * t + 1), none⟩ = _ := (qB.cell (p := ⟨b, o + (4 * t + 1), none⟩) hb).trans (HC.out (4 * t + 1) (by omega))
        have e2 : wr.cell? ⟨b, o + (4 * t + 2), none⟩ = _ := (qB.cell (p := ⟨b, o + (4 * t + 2), none⟩) hb).trans (HC.out (4 * t + 2) (by omega))
        have e3 : wr.cell? ⟨b, o + (4 * t + 3), none⟩ = _ := (qB.cell (p := ⟨b, o + (4 * t + 3), none⟩) hb).trans (HC.out (4 * t + 3) (by omega))
        have hz := word_num l t
        obtain ⟨z0, y0, x0⟩ : ∃ z : Nat, z < 256 ∧ bN (bAt l (4 * t)) = (z : Int) := ⟨(bAt l (4 * t)).toNat, UInt8.toNat_lt _, rfl⟩
        obtain ⟨z1, y1, x1⟩ : ∃ z : Nat, z < 256 ∧ bN (bAt l (4 * t + 1)) = (z : Int) := ⟨(bAt l (4 * t + 1)).toNat, UInt8.toNat_lt _, rfl⟩
        obtain ⟨z2, y2, x2⟩ : ∃ z : Nat, z < 256 ∧ bN (bAt l (4 * t + 2)) = (z : Int) := ⟨(bAt l (4 * t + 2)).toNat, UInt8.toNat_lt _, rfl⟩
        obtain ⟨z3, y3, x3⟩ : ∃ z : Nat, z < 256 ∧ bN (bAt l (4 * t + 3)) = (z : Int) := ⟨(bAt l (4 * t + 3)).toNat, UInt8.toNat_lt _, rfl⟩
        rw [x0] at e0 hz
        rw [x1] at e1 hz
        rw [x2] at e2 hz
        rw [x3] at e3 hz
        clear x0 x1 x2 x3
        have Hz := Lib.hid hz
        clear hz
        have j0 : (0 : Int) ≤ 4 * (t : Int) := by omega
        have j1 : (0 : Int) ≤ 4 * (t : Int) + 1 := by omega
        have j2 : (0 : Int) ≤ 4 * (t : Int) + 2 := by omega
        have j3 : (0 : Int) ≤ 4 * (t : Int) + 3 := by omega
        have i0 : 4 * (t : Int) < 64 := by omega
        have i1 : 4 * (t : Int) + 1 < 64 := by omega
        have i2 : 4 * (t : Int) + 2 < 64 := by omega
        have i3 : 4 * (t : Int) + 3 < 64 := by omega
        have it : (t : Int) < 64 := by omega
        have it2 : (t : Int) < 16 := by omega
        have ct := q2.cell (i := t) hlt
        have cf := q2.frozen t
        go_wp2
        refine wp_region_still_tail 35 (by kernel_rfl) (by kernel_rfl) ?_
        simp only [List.take_succ_cons, List.take_zero, List.drop_succ_cons, List.drop_zero]
        repeat (refine wpStill_step (fun K hK => ?_); go_simp; (try go_bits); refine hK _ ?_; clear hK K)
        refine wpStill_nil ?_
        go_wp2
        go_roundw
        case rel => exact ⟨t + 1, by omega, by go_num, q0.drew.setOther (by simp; omega) _, q1.drew.setOther (by simp) _, (q2.drew.set t _).congr fun i _ => cutT_set (wS l 48) t _ (by rw [wS_first l t h16, Hz.out]) i, (qB.setCell (p := ⟨w.heap.size + 1 + 1, t, none⟩) (by simp; omega) _).drew⟩
        case measure => simp [intOf]; omega
      · have c2 := q2.cell (i := t - 2) (by omega)
        have c7 := q2.cell (i := t - 7) (by omega)
        have c15 := q2.cell (i := t - 15) (by omega)
        have c16 := q2.cell (i := t - 16) (by omega)
        rw [vF_at, cutT_at _ _ _ (by omega)] at c2 c7 c15 c16
        have ct := q2.cell (i := t) hlt
        have cf := q2.frozen t
        have hz := wS_rec l t (by omega) hlt
        have Hz := Lib.hid hz
        clear hz
        generalize wS l 48 (t - 2) = y2 at c2 Hz
        generalize wS l 48 (t - 7) = y7 at c7 Hz
        generalize wS l 48 (t - 15) = y15 at c15 Hz
        generalize wS l 48 (t - 16) = y16 at c16 Hz
        have i2 : (2 : Int) ≤ t := by omega
        have j2 : (t : Int) - 2 < 64 := by omega
        have i7 : (7 : Int) ≤ t := by omega
        have j7 : (t : Int) - 7 < 64 := by omega
        have i15 : (15 : Int) ≤ t := by omega
        have j15 : (t : Int) - 15 < 64 := by omega
        have i16 : (16 : Int) ≤ t := by omega
        have j16 : (t : Int) - 16 < 64 := by omega
        have it : (t : Int) < 64 := by omega
        have it2 : ¬ (t : Int) < 16 := by omega
        go_wp2
        refine wp_region_still_lit (by kernel_rfl) (by kernel_rfl) ?_
        repeat (refine wpStill_step (fun K hK => ?_); go_simp; (try go_bits); refine hK _ ?_; clear hK K)
        refine wpStill_nil ?_
        go_wp2
        change Code.wp _ _ _ _ wr.drew
        replace q0 := q0.drew
        replace q1 := q1.drew
        replace q2 := q2.drew
        replace qB := qB.drew
        replace c2 := cell_drew c2
        replace c7 := cell_drew c7
        replace c15 := cell_drew c15
        replace c16 := cell_drew c16
        replace ct := cell_drew ct
        replace cf : wr.drew.frozen? ⟨w.heap.size + 1 + 1, t, none⟩ = false := cf
        generalize wr.drew = wr2 at q0 q1 q2 qB c2 c7 c15 c16 ct cf ⊢
        refine wp_region_still_tail 30 (by kernel_rfl) (by kernel_rfl) ?_
        simp only [List.take_succ_cons, List.take_zero, List.drop_succ_cons, List.drop_zero]
        repeat (refine wpStill_step (fun K hK => ?_); go_simp; (first
          | (refine ⟨_, ((right_any _ _ (by decide) (by decide) _).mono fun _ _ h => ⟨h.1, h.2.symm⟩), hK _ ?_⟩)
          | (refine ⟨_, ((shift_any _ _ (by decide) (by decide) _).mono fun _ _ h => ⟨h.1, h.2.symm⟩), hK _ ?_⟩)
          | ((try go_bits); refine hK _ ?_)); clear hK K)
        refine wpStill_nil ?_
        go_wp2
        go_roundw
        case rel => exact ⟨t + 1, by omega, by go_num, q0.drew.setOther (by simp; omega) _, q1.drew.setOther (by simp) _, (q2.drew.set t _).congr fun i _ => cutT_set (wS l 48) t _ (by rw [Hz.out]; rfl) i, (qB.setCell (p := ⟨w.heap.size + 1 + 1, t, none⟩) (by simp; omega) _).drew⟩
        case measure => simp [intOf]; omega
    · obtain rfl : t = 64 := by omega
      rw [show ((64 : Nat) : Int) = 64 from rfl]
      have hgB : w.heap.size + 1 + 1 < wr.heap.size := q2.lt
      have q3 := rowIs_zeros64 s wr 93 8
      replace q0 := q0.alloc (.cells (Array.replicate 8 (.int .u64 0)) 93)
      replace q1 := q1.alloc (.cells (Array.replicate 8 (.int .u64 0)) 93)
      replace q2 := q2.alloc (.cells (Array.replicate 8 (.int .u64 0)) 93)
      replace q2 := q2.congr (g := vF (wS l 48)) fun i hi => by rw [vF_at, vF_at, cutT_at _ _ _ hi]
      have qB2 := qB.alloc qB.size (.cells (Array.replicate 8 (.int .u64 0)) 93)
      go_wp2
      change Code.wp _ _ _ _ (wr.alloc (.cells (Array.replicate 8 (.int .u64 0)) 93))
      generalize wr.heap.size = g at hgB q3 ⊢
      generalize wr.alloc (.cells (Array.replicate 8 (.int .u64 0)) 93) = W1 at q0 q1 q2 q3 qB2 ⊢
      clear qB
      go_loopw [10] (fun i wr => ∃ t : Nat, t ≤ 8 ∧ i = .int .i64 t ∧ wr.rowIs w.heap.size 76 8 (uF s) ∧ wr.rowIs (w.heap.size + 1) 76 8 (fun _ => .int .u32 0) ∧ wr.rowIs (w.heap.size + 1 + 1) 91 64 (vF (wS l 48)) ∧ wr.rowIs g 93 8 (vF (cutT s t)) ∧ Below w.heap.size w wr) (fun i _ => 8 - (intOf i).toNat)
      case atStart => exact ⟨0, by omega, rfl, q0, q1, q2, q3, qB2⟩
      case round =>
        clear q0 q1 q2 q3 qB2
        obtain ⟨t, ht, rfl, q0, q1, q2, q3, qB⟩ := hrel
        by_cases hlt : t < 8
        · have c0 := q0.cell (i := t) hlt
          have c3 := q3.cell (i := t) hlt
          have f3 := q3.frozen t
          have it : (t : Int) < 8 := by omega
          go_wp2
          go_roundw
          case rel => exact ⟨t + 1, by omega, by go_num, q0.setOther (by simp; omega) _, q1.setOther (by simp; omega) _, q2.setOther (by simp; omega) _, (q3.set t _).congr fun i _ => cutT_set s t _ rfl i, (qB.setCell (p := ⟨g, t, none⟩) (by simp; omega) _)⟩
          case measure => simp [intOf]; omega
        · obtain rfl : t = 8 := by omega
          rw [show ((8 : Nat) : Int) = 8 from rfl]
          replace q3 := q3.congr (g := vF (St.of s).get) fun i hi => by
            rw [vF_at, vF_at, cutT_at _ _ _ hi]
            match i, hi with
            | 0, _ => rfl | 1, _ => rfl | 2, _ => rfl | 3, _ => rfl | 4, _ => rfl | 5, _ => rfl | 6, _ => rfl | 7, _ => rfl
          go_wp2
          rename_i wr1
          generalize wr = W2 at q0 q1 q2 q3 qB ⊢
          go_loopw [11] (fun i wr => ∃ (t : Nat) (x : St), t ≤ 64 ∧ i = .int .i64 t ∧ Hid (x = runTo K (wS l 48) (St.of s) t) ∧ wr.rowIs w.heap.size 76 8 (uF s) ∧ wr.rowIs (w.heap.size + 1) 76 8 (fun _ => .int .u32 0) ∧ wr.rowIs (w.heap.size + 1 + 1) 91 64 (vF (wS l 48)) ∧ wr.rowIs g 93 8 (vF x.get) ∧ Below w.heap.size w wr) (fun i _ => 64 - (intOf i).toNat)
          case atStart => exact ⟨0, St.of s, by omega, rfl, rfl, q0, q1, q2, q3, qB⟩
          case round =>
            clear q0 q1 q2 q3 qB
            obtain ⟨t, x, ht, rfl, hx, q0, q1, q2, q3, qB⟩ := hrel
            by_cases hlt : t < 64
            · have cK := (qB.cell (p := ⟨1, t, none⟩) h1).trans (HK.out t hlt)
              have cW := q2.cell (i := t) hlt
              rw [vF_at] at cW
              obtain ⟨Wt, HWt⟩ : ∃ Wt, Hid (wS l 48 t = Wt) := ⟨_, Lib.hid rfl⟩
              rw [HWt.out] at cW
              have it : (t : Int) < 64 := by omega
              have c0 : wr.cell? ⟨g, 0, none⟩ = some (.int .u64 (uN x.a)) := q3.cell (i := 0) (by omega)
              have c1 : wr.cell? ⟨g, 1, none⟩ = some (.int .u64 (uN x.b)) := q3.cell (i := 1) (by omega)
              have c2 : wr.cell? ⟨g, 2, none⟩ = some (.int .u64 (uN x.c)) := q3.cell (i := 2) (by omega)
              have c3 : wr.cell? ⟨g, 3, none⟩ = some (.int .u64 (uN x.d)) := q3.cell (i := 3) (by omega)
              have c4 : wr.cell? ⟨g, 4, none⟩ = some (.int .u64 (uN x.e)) := q3.cell (i := 4) (by omega)
              have c5 : wr.cell? ⟨g, 5, none⟩ = some (.int .u64 (uN x.f)) := q3.cell (i := 5) (by omega)
              have c6 : wr.cell? ⟨g, 6, none⟩ = some (.int .u64 (uN x.g)) := q3.cell (i := 6) (by omega)
              have c7 : wr.cell? ⟨g, 7, none⟩ = some (.int .u64 (uN x.h)) := q3.cell (i := 7) (by omega)
              go_wp2
              refine wp_region_still_lit (by kernel_rfl) (by kernel_rfl) ?_
              repeat (refine wpStill_step (fun K hK => ?_); go_simp; (try go_bits); refine hK _ ?_; clear hK K)
              refine wpStill_nil ?_
              go_wp2_with fail
              change Code.wp _ _ _ _ wr.drew
              replace q0 := q0.drew
              replace q1 := q1.drew
              replace q2 := q2.drew
              replace q3 := q3.drew
              replace qB := qB.drew
              replace cK := cell_drew cK
              replace cW := cell_drew cW
              replace c0 := cell_drew c0
              replace c1 := cell_drew c1
              replace c2 := cell_drew c2
              replace c3 := cell_drew c3
              replace c4 := cell_drew c4
              replace c5 := cell_drew c5
              replace c6 := cell_drew c6
              replace c7 := cell_drew c7
              generalize wr.drew = wr2 at q0 q1 q2 q3 qB cK cW c0 c1 c2 c3 c4 c5 c6 c7 ⊢
              refine wp_region_still_lit (by kernel_rfl) (by kernel_rfl) ?_
              repeat (refine wpStill_step (fun K hK => ?_); go_simp; (first
                | (refine ⟨_, ((right_any _ _ (by decide) (by decide) _).mono fun _ _ h => ⟨h.1, h.2.symm⟩), hK _ ?_⟩)
                | ((try go_bits); refine hK _ ?_)); clear hK K)
              refine wpStill_nil ?_
              change Exit.then _ _ _ _ wr2.drew
              replace q0 := q0.drew
              replace q1 := q1.drew
              replace q2 := q2.drew
              replace q3 := q3.drew
              replace qB := qB.drew
              replace c0 := cell_drew c0
              replace c1 := cell_drew c1
              replace c2 := cell_drew c2
              replace c3 := cell_drew c3
              replace c4 := cell_drew c4
              replace c5 := cell_drew c5
              replace c6 := cell_drew c6
              replace c7 := cell_drew c7
              clear cK cW
              generalize wr2.drew = wr3 at q0 q1 q2 q3 qB c0 c1 c2 c3 c4 c5 c6 c7 ⊢
              obtain ⟨o1, Ho1⟩ : ∃ o1, Hid (x.h + (x.e.rotateRight 6 ^^^ x.e.rotateRight 11 ^^^ x.e.rotateRight 25) + (x.e &&& x.f ^^^ ~~~x.e &&& x.g) + K t + Wt = o1) := ⟨_, Lib.hid rfl⟩
              obtain ⟨m1, Hm1⟩ : ∃ m1, Hid (x.a &&& x.b ^^^ x.a &&& x.c ^^^ x.b &&& x.c = m1) := ⟨_, Lib.hid rfl⟩
              rw [Ho1.out, Hm1.out]
              go_wp2_with fail
              refine (right_any _ _ (by decide) (by decide) _).mono ?_
              rintro e w' ⟨rfl, rfl⟩
              go_wp2_with fail
              refine (right_any _ _ (by decide) (by decide) _).mono ?_
              rintro e w' ⟨rfl, rfl⟩
              go_wp2_with fail
              refine (right_any _ _ (by decide) (by decide) _).mono ?_
              rintro e w' ⟨rfl, rfl⟩
              go_upto_region 24 with fail
              obtain ⟨o2, Ho2⟩ : ∃ o2, Hid ((x.a.rotateRight (2 : Int).toNat ^^^ x.a.rotateRight (13 : Int).toNat ^^^ x.a.rotateRight (22 : Int).toNat) + m1 = o2) := ⟨_, Lib.hid rfl⟩
              first | rw [Ho2.out] | (simp only [Int.reduceToNat] at Ho2; rw [Ho2.out])
              refine wp_region_lit ?_
              iterate 22 (refine wpList_plain rfl (fun K hK => ?_); go_simp; (try go_bits); refine hK _ _ ?_; clear hK K)
              have hth := there_row q3
              refine wpList_store_mid rfl 93 (.tmp 9) (.tmp 200) rfl g 0 #[.int .u64 (uN (o1 + o2)), .int .u64 (uN x.a), .int .u64 (uN x.b), .int .u64 (uN x.c), .int .u64 (uN (x.d + o1)), .int .u64 (uN x.e), .int .u64 (uN x.f), .int .u64 (uN x.g)] ?_ ?_ hth info47 ?_ ?_
              · go_simp
              · go_simp
              · simp [Value.oneCell']
              obtain ⟨nx, hnx⟩ : ∃ nx : St, nx = ⟨o1 + o2, x.a, x.b, x.c, x.d + o1, x.e, x.f, x.g⟩ := ⟨_, rfl⟩
              have hL : (#[.int .u64 (uN (o1 + o2)), .int .u64 (uN x.a), .int .u64 (uN x.b), .int .u64 (uN x.c), .int .u64 (uN (x.d + o1)), .int .u64 (uN x.e), .int .u64 (uN x.f), .int .u64 (uN x.g)] : Array Value).toList = (rowA 8 (vF nx.get)).toList := by rw [hnx]; rfl
              rw [hL]
              have Hnx : Hid (nx = runTo K (wS l 48) (St.of s) (t + 1)) := Lib.hid (by
                rw [runTo, ← hx.out, HWt.out, hnx, ← Ho1.out, ← Ho2.out, ← Hm1.out]; rfl)
              clear hL hnx Ho1 Ho2 Hm1 c0 c1 c2 c3 c4 c5 c6 c7 hth
              replace q0 := rowIs_setOther q0 (b' := g) (by omega) (rowA 8 (vF nx.get)).toList 0
              replace q1 := rowIs_setOther q1 (b' := g) (by omega) (rowA 8 (vF nx.get)).toList 0
              replace q2 := rowIs_setOther q2 (b' := g) (by omega) (rowA 8 (vF nx.get)).toList 0
              replace q3 := rowIs_setAll q3 (vF nx.get)
              replace qB := below_setCells g (by omega) (rowA 8 (vF nx.get)).toList 0 _ qB
              generalize wr3.setCells g 0 (rowA 8 (vF nx.get)).toList = wr4 at q0 q1 q2 q3 qB ⊢
              go_wp2
              go_roundw
              case rel => exact ⟨t + 1, nx, by omega, by go_num, Hnx, q0, q1, q2, q3, qB⟩
              case measure => simp [intOf]; omega
            · obtain rfl : t = 64 := by omega
              rw [show ((64 : Nat) : Int) = 64 from rfl]
              obtain ⟨T, HT2⟩ : ∃ T, Hid (x.get = T) := ⟨_, Lib.hid rfl⟩
              rw [HT2.out] at q3
              clear q2
              go_wp2
              generalize wr = W3 at q0 q1 q3 qB ⊢
              go_loopw [18] (fun i wr => ∃ k : Nat, k ≤ 8 ∧ i = .int .i64 k ∧ wr.rowIs w.heap.size 76 8 (uF (mixed s T k)) ∧ wr.rowIs (w.heap.size + 1) 76 8 (fun _ => .int .u32 0) ∧ wr.rowIs g 93 8 (vF T) ∧ Below w.heap.size w wr) (fun i _ => 8 - (intOf i).toNat)
              case atStart => exact ⟨0, by omega, rfl, q0, q1, q3, qB⟩
              case round =>
                clear q0 q1 q3 qB
                obtain ⟨k, hk, rfl, q0, q1, q3, qB⟩ := hrel
                by_cases hlt : k < 8
                · have c0 := q0.cell (i := k) (by omega)
                  rw [uF_at, show mixed s T k k = s k by simp [mixed]] at c0
                  have c3 := q3.cell (i := k) (by omega)
                  have f0 := q0.frozen k
                  have i8 : (k : Int) < 8 := by omega
                  go_wp2
                  refine wp_region_still_tail 12 (by kernel_rfl) (by kernel_rfl) ?_
                  simp only [List.take_succ_cons, List.take_zero, List.drop_succ_cons, List.drop_zero]
                  repeat (refine wpStill_step (fun K hK => ?_); go_simp; (try go_bits); refine hK _ ?_; clear hK K)
                  refine wpStill_nil ?_
                  go_wp2
                  go_roundw
                  case rel => exact ⟨k + 1, by omega, by go_num, ((q0.set k _).congr fun i _ => mixed_set s T k i), q1.setOther (by simp) _, q3.setOther (by simp; omega) _, (qB.setCell (p := ⟨w.heap.size, k, none⟩) (by simp) _).drew⟩
                  case measure => simp [intOf]; omega
                · obtain rfl : k = 8 := by omega
                  have hR := rangeAt_row q0
                  go_wp2_with (first
                    | (refine wpList_load_mid rfl 76 (.tmp 2) rfl w.heap.size 0 rfl (rowA 8 (uF (mixed s T 8))).toList _ hR Tryd.underlying76 rfl (by rw [rowA_toList]; simpa using info23) ?_)
                    | (refine wpList_store_mid rfl 76 (.tmp 4) (.tmp 217) rfl (w.heap.size + 1) 0 (rowA 8 (uF (mixed s T 8))) rfl rfl (by rw [rowA_size]; exact there_row q1) (by rw [rowA_size]; exact info23) (rowA_one _ _ fun _ => rfl) ?_))
                  refine bodyPost_ret (results_row rfl _ rfl (rowIs_setAll q1 (uF (mixed s T 8))) Tryd.underlying76 info23) rfl ⟨?_, below_setCells _ (by omega) _ _ _ qB⟩
                  rw [← hx.out, HT2.out]
                  exact congrArg (fun z => Ending.returned (.agg z)) (rowA_congr fun i hi => by simp [uF, mixed, hi])
end Go.Proofs.YthgblcpekhiphaaDoor
/- The reference's Fill and Bytes. -/
namespace Go.Proofs.YthgblcpekhiphaaDoor
open Go.RowKit
set_option maxRecDepth 8000
attribute [local go_sem] bF_at

theorem fillHead_pos (k : Nat) (h : 1 ≤ k) : bF fillHead k = .int .u8 0 := by
  simp [bF, fillHead, bN, show k ≠ 0 by omega]
theorem step_len (n k p : Nat) (hk : k < 8) (hn : n ≤ 1000000) (hp : p = 72057594037927936 / 256 ^ k) : ((n * 8 / p % 256 : Nat) : Int) = bN (lenByte n k) := by
  have e : 72057594037927936 / 256 ^ k = 2 ^ (56 - 8 * k) := by
    have : ∀ k : Fin 8, 72057594037927936 / 256 ^ k.val = 2 ^ (56 - 8 * k.val) := by decide
    exact this ⟨k, hk⟩
  rw [lenByte, bN, UInt8.toNat_ofNat', hp, e, Nat.mod_eq_of_lt (a := n * 8) (by omega)]

set_option maxHeartbeats 1000000 in
theorem RFill_r (n r : Nat) (hn : n ≤ 1000000) (hr1 : 1 ≤ r) (hr2 : r ≤ 64) (hr3 : (n + r) % 64 = 56) (hr4 : ∀ k, 1 ≤ k → k < r → (n + k) % 64 ≠ 56) (w : World) :
    Calls Tryd.prog 72 #[.int .i64 n] w (FillPost n r w) := by
  obtain ⟨i0, hi, hz0, hz1, hz2⟩ := info_parts info5
  have H4 := Lib.hid hr4
  have H3 := Lib.hid hr3
  clear hr4 hr3
  go_enter Tryd.func72, Tryd.ntmps72
  go_wp2
  have r0 : (w.alloc (.cells #[.int .u8 128] 5)).rowIs w.heap.size 5 1 (bF fillHead) := (rowIs_box w 5 1 fun _ => .int .u8 128).congr fun i hi => by
    obtain rfl : i = 0 := by omega
    rfl
  have hB : Below w.heap.size w (w.alloc (.cells #[.int .u8 128] 5)) := (Below.refl _ w).alloc (Nat.le_refl _) _
  have ho := ownsRow_row r0 w.heap.size 1 (by omega) (by unfold maxLen; omega) (Nat.le_refl _)
  generalize w.alloc (.cells #[.int .u8 128] 5) = W0 at ho hB ⊢
  clear r0
  go_loopw [3] (fun v wr => ∃ k : Nat, 1 ≤ k ∧ k ≤ r ∧ wr.ownsRow w.heap.size 5 1 v k ((List.range k).map (bF fillHead)) ∧ Below w.heap.size w wr) (fun v _ => match v with | .slice _ m _ => r - m | _ => 0)
  case atStart => exact ⟨1, by omega, by omega, ho, hB⟩
  case round =>
    obtain ⟨k, hk1, hk, hown, qB⟩ := hrel
    clear ho hB
    obtain ⟨g, c, rfl, _, _⟩ := hown.form (by omega)
    by_cases hlt : k < r
    · have t1 : (((n : Int) + (k : Int)) % 64 == 56) = false := by
        have := H4.out k hk1 hlt
        simp; omega
      go_wp2_with (at_builtin; refine wpList_append_own _ rfl (.tmp 16) (.tmp 17) 25 rfl w.heap.size 5 i0 _ 1 1 Tryd.underlying25 hi hz0 hz1 hz2 rfl (by omega) _ k _ rfl (hown.alloc _) ⟨wr.heap.size, 0, none⟩ 1 1 [.int .u8 0] rfl rfl (one_cell _ _ _) (by simp [Value.oneCell']) (by unfold maxLen; omega) (by omega) (by have := qB.size; simp; omega) ?_; intro v' w1 hown' hg1 _)
      go_roundw
      case rel =>
        refine ⟨k + 1, by omega, by omega, ?_, (qB.alloc qB.size _).grown hg1 (by have := qB.size; simp; omega) (fun g e => (hown.lt g e).1)⟩
        rw [List.range_succ, List.map_append]
        simp only [List.map_cons, List.map_nil]
        rw [fillHead_pos k hk1]
        exact hown'
      case measure =>
        obtain ⟨g', c', rfl, _, _⟩ := hown'.form (by omega)
        show r - (k + 1) < r - k
        omega
    · obtain rfl : k = r := by omega
      have t1 : (((n : Int) + (k : Int)) % 64 == 56) = true := by
        have := H3.out
        simp; omega
      have t2 : (((n : Int) + (k : Int)) % 64 != 56) = false := by
        have := H3.out
        simp; omega
      have Ht1 := Lib.hid t1
      go_wp2
      clear t1 t2
      go_loopw [3, 5, 6] (fun v st i wr => ∃ j p : Nat, j ≤ 8 ∧ i = .int .i64 j ∧ st = .int .u64 p ∧ Hid (p = 72057594037927936 / 256 ^ j) ∧ wr.ownsRow w.heap.size 5 1 v (k + j) ((List.range k).map (bF fillHead) ++ (List.range j).map (bF (lenByte n))) ∧ Below w.heap.size w wr) (fun _ _ i _ => 8 - (intOf i).toNat)
      case atStart => exact ⟨0, 72057594037927936, by omega, rfl, rfl, Lib.hid (by simp), by simpa using hown, qB⟩
      case round =>
        clear hown qB
        obtain ⟨j, p, hj, rfl, rfl, Hp, hown, qB⟩ := hrel
        by_cases hlt : j < 8
        · have hp0 : 0 < p := by
            have : ∀ k : Fin 8, 0 < 72057594037927936 / 256 ^ k.val := by decide
            rw [Hp.out]; exact this ⟨j, hlt⟩
          have hpz : ((p : Int) == 0) = false := by simp; omega
          have hsl := step_len n j p hlt hn Hp.out
          have Hsl := Lib.hid hsl
          clear hsl
          have hp1 : (p : Int) ≠ 0 := by omega
          have hpb : p ≤ 72057594037927936 := by rw [Hp.out]; exact Nat.div_le_self _ _
          have hpw : IntKind.u64.wrap ((p : Int) / 256) = ((p / 256 : Nat) : Int) := by rw [wrap_u64]; omega
          have hval : ((n : Int) * 8 / (p : Int)).tmod 256 % 256 = bN (lenByte n j) := by
            have h0 : (0 : Int) ≤ (n : Int) * 8 / p := Int.ediv_nonneg (by omega) (by omega)
            rw [Int.tmod_eq_emod_of_nonneg h0, ← Hsl.out]
            have : (n : Int) * 8 / (p : Int) = ((n * 8 / p : Nat) : Int) := by simp
            rw [this]; omega
          go_wp2_with (at_builtin; refine wpList_append_own _ rfl (.tmp 26) (.tmp 32) 25 rfl w.heap.size 5 i0 _ 1 1 Tryd.underlying25 hi hz0 hz1 hz2 rfl (by omega) u3 (k + j) _ rfl (hown.alloc _) ⟨wr.heap.size, 0, none⟩ 1 1 [bF (lenByte n) j] rfl rfl (one_cell _ _ _) (by simp [bF, Value.oneCell']) (by unfold maxLen; omega) (by omega) (by have := qB.size; simp; omega) ?_; intro v' w1 hown' hg1 _)
          go_roundw
          case rel =>
            refine ⟨j + 1, p / 256, by omega, by go_num, rfl, Lib.hid (by rw [Hp.out, Nat.div_div_eq_div_mul, Nat.pow_succ]), ?_, (qB.alloc qB.size _).grown hg1 (by have := qB.size; simp; omega) (fun g e => (hown.lt g e).1)⟩
            rw [List.range_succ, List.map_append, ← List.append_assoc]
            exact hown'
          case measure => simp [intOf]; omega
        · obtain rfl : j = 8 := by omega
          go_wp2
          go_ret
          exact ⟨_, rfl, hown, qB⟩
theorem RFill_any (n : Nat) (hn : n ≤ 1000000) (w : World) : Calls Tryd.prog 72 #[.int .i64 n] w (FillPost n (if n % 64 < 56 then 56 - n % 64 else 120 - n % 64) w) := by
  by_cases h : n % 64 < 56
  · rw [if_pos h]; exact RFill_r n _ hn (by omega) (by omega) (by omega) (fun k _ _ => by omega) w
  · rw [if_neg h]; exact RFill_r n _ hn (by omega) (by omega) (by omega) (fun k _ _ => by omega) w
end Go.Proofs.YthgblcpekhiphaaDoor
/- The reference's Sum. -/
namespace Go.Proofs.YthgblcpekhiphaaDoor
open Go.RowKit
set_option maxRecDepth 8000
attribute [local go_sem] uF_at bF_at run_storeU run_storeB

theorem ownsRow_belowW {W W' : World} {base : Nat} {e : TypeId} {size : Nat} {v : Value} {n : Nat} {xs : List Value} (h : W.ownsRow base e size v n xs) (hb : Below W.heap.size W W') : W'.ownsRow base e size v n xs :=
  h.kept (row := none) ⟨hb.os, hb.tape, hb.output, hb.size, fun k hk _ => hb.block k hk⟩ (by cases v.ownBlock with | none => exact .inl rfl | some k => exact .inr (by simp))
/-- The digest, written from behind: the numbers before i, and of number i the last j bytes. -/
def outF (S : Nat → BitVec 32) (i j p : Nat) : UInt8 := if p < 4 * i then dig S p else if 4 * i + 4 ≤ p + j ∧ p < 4 * i + 4 then dig S p else 0
theorem outF_set (S : Nat → BitVec 32) (i j : Nat) (hj : j < 4) (z : Int) (hz : z = bN (dig S (4 * i + (3 - j)))) (p : Nat) : (if p = 4 * i + (3 - j) then Value.int .u8 z else bF (outF S i j) p) = bF (outF S i (j + 1)) p := by
  subst hz
  simp only [bF, outF]
  by_cases h : p = 4 * i + (3 - j)
  · subst h; rw [if_pos rfl, if_neg (by omega), if_pos (by omega)]
  · rw [if_neg h]
    by_cases h2 : p < 4 * i
    · rw [if_pos h2, if_pos h2]
    · rw [if_neg h2, if_neg h2]
      by_cases h3 : 4 * i + 4 ≤ p + j ∧ p < 4 * i + 4
      · rw [if_pos h3, if_pos (by omega)]
      · rw [if_neg h3, if_neg (by omega)]
theorem outF_next (S : Nat → BitVec 32) (i p : Nat) : bF (outF S i 4) p = bF (outF S (i + 1) 0) p := by
  simp only [bF, outF]
  by_cases h : p < 4 * i
  · rw [if_pos h, if_pos (by omega)]
  · rw [if_neg h]
    by_cases h2 : p < 4 * i + 4
    · rw [if_pos ⟨by omega, h2⟩, if_pos (by omega)]
    · rw [if_neg (by omega), if_neg (by omega), if_neg (by omega)]
theorem outF_zero (S : Nat → BitVec 32) (p : Nat) : bF (fun _ => 0) p = bF (outF S 0 0) p := by
  simp only [bF, outF]
  rw [if_neg (by omega), if_neg (by omega)]
theorem dig_back (S : Nat → BitVec 32) (i j : Nat) (hj : j < 4) : (uN (S i >>> (8 * j))) % 256 = bN (dig S (4 * i + (3 - j))) := by
  rw [dig, show (4 * i + (3 - j)) / 4 = i by omega, show (4 * i + (3 - j)) % 4 = 3 - j by omega, show 24 - 8 * (3 - j) = 8 * j by omega, ← u32_u8, wrap_u8]
theorem dig_div (x : BitVec 32) (j : Nat) : uN (x >>> (8 * j)) / (256 : Int) = uN (x >>> (8 * (j + 1))) := by
  have := u32_shr (x >>> (8 * j)) 8
  rw [show ((2 : Int) ^ 8) = 256 from rfl] at this
  rw [this, ← BitVec.shiftRight_add]
  rfl
theorem fill_len (n : Nat) : (n + (fillB n).length) % 64 = 0 := by rw [fillB_length]; split <;> omega
theorem sha_all (l : List UInt8) (m : Nat) (h : (l ++ fillB l.length).length = 64 * m) : shaL Kc Fc l = dig (sB (l ++ fillB l.length) m) := by
  have : cks (l ++ fillB l.length) = (List.range m).map (blk (l ++ fillB l.length)) := by unfold cks; rw [h, show 64 * m / 64 = m by omega]; rfl
  rw [shaL, this, sB_fold]
set_option maxHeartbeats 4000000 in
theorem RSum_any (v : Value) (l : List UInt8) (w : World) (hT : Tables w) (hr : RdV w [] v l) (hl : l.length ≤ 900000) :
    Calls Tryd.prog 53 #[v] w fun e w' => e = .returned (.agg (rowA 32 (bF (shaL Kc Fc l)))) ∧ Below w.heap.size w w' := by
  have HT := Lib.hid hT
  have hsz := hT.size
  have Hr := Lib.hid hr
  obtain ⟨A, cap, rfl, _⟩ := hr
  clear hT
  obtain ⟨n, hn⟩ : ∃ n, l.length = n := ⟨_, rfl⟩
  rw [hn] at hl Hr ⊢
  obtain ⟨i0, hi, hz0, hz1, hz2⟩ := info_parts info5
  have hB1 : Below (w.heap.size) w ((w.alloc (.cells (rowA 32 (bF fun _ => 0)) 23)).alloc (.cells #[] 5)) := ((Below.refl _ w).alloc (Nat.le_refl _) _).alloc (by simp) _
  have rz : ((w.alloc (.cells (rowA 32 (bF fun _ => 0)) 23)).alloc (.cells #[] 5)).rowIs w.heap.size 23 32 (bF fun _ => 0) := (rowIs_box w 23 32 (bF fun _ => 0)).alloc _
  have hown0 : ((w.alloc (.cells (rowA 32 (bF fun _ => 0)) 23)).alloc (.cells #[] 5)).ownsRow (w.heap.size + 1) 5 1 (.slice (some ⟨w.heap.size + 1, 0, none⟩) 0 0) 0 [] := by
    have := rowIs_box (w.alloc (.cells (rowA 32 (bF fun _ => 0)) 23)) 5 0 (fun _ => undef)
    rw [World.size_alloc] at this
    exact ownsRow_row this (w.heap.size + 1) 0 (by omega) (by unfold maxLen; omega) (Nat.le_refl _)
  have Hr1 := Lib.hid (Hr.out.keep (KeepBut.below hB1))
  have hs1 : w.heap.size + 1 ≤ ((w.alloc (.cells (rowA 32 (bF fun _ => 0)) 23)).alloc (.cells #[] 5)).heap.size := by simp
  go_enter Tryd.func53, Tryd.ntmps53
  go_wp2_with (at_builtin; first
    | (refine wpList_append_rd rfl (.tmp 10) (.tmp 11) 25 rfl (base := w.heap.size + 1) Tryd.underlying25 hi hz0 hz1 hz2 rfl hown0 rfl Hr1.out (by omega) hs1 ?_; intro v2 w2 o2 grow2
       have b2 := (Below.refl (w.heap.size + 1) ((w.alloc (.cells (rowA 32 (bF fun _ => 0)) 23)).alloc (.cells #[] 5))).grown grow2 hs1 (fun k e => (hown0.lt k e).1)
       have hB2 := hB1.trans (b2.mono (Nat.le_succ _))
       replace rz := rowIs_below rz b2 (by omega)
       clear grow2 hown0 hs1 Hr1 hB1 b2))
  refine (RFill_any n (by omega) _).mono ?_
  rintro e w3 ⟨v3, rfl, ho3, hb3⟩
  have rd3 := Lib.hid (rdV_fill (L := []) (by simp) ho3)
  have o3 := ownsRow_belowW o2 hb3
  replace rz := rowIs_below rz hb3 rz.lt
  have hB3 := hB2.trans (hb3.mono hB2.size)
  clear o2 ho3 hb3 hB2
  have hfl := fill_len n
  have hf2 : (fillB n).length ≤ 72 := by rw [fillB_length]; split <;> omega
  have hf3 : 0 < (fillB n).length := by rw [fillB_length]; omega
  go_upto_region 2 with (at_builtin; refine wpList_append_rd rfl (.tmp 12) (.tmp 15) 25 rfl (base := w.heap.size + 1) Tryd.underlying25 hi hz0 hz1 hz2 rfl o3 rfl rd3.out (by omega) (by have := rz.lt; omega) ?_; intro v4 w4 o4 grow4)
  have hB4 := hB3.grown grow4 hB3.size (fun k e => by have := (o3.lt k e).1; omega)
  replace rz : w4.rowIs w.heap.size 23 32 (bF fun _ => 0) := rowIs_below rz ((Below.refl (w.heap.size + 1) w3).grown grow4 (by have := rz.lt; omega) (fun k e => (o3.lt k e).1)) (by omega)
  obtain ⟨c, hc⟩ : ∃ c, l ++ fillB n = c := ⟨_, rfl⟩
  have Rall : RdV w4 [] v4 c := by rw [← hc]; exact rdV_own (by simpa [List.map_append] using o4) (by simp) (by simp)
  obtain ⟨m, hm⟩ : ∃ m, m = c.length / 64 := ⟨_, rfl⟩
  have hcm : c.length = 64 * m := by rw [hm, ← hc]; simp only [List.length_append]; omega
  have hD : shaL Kc Fc l = dig (sB c m) := by rw [← hc, ← hn]; exact sha_all l m (by rw [hn, hc, hcm])
  have HD := Lib.hid hD
  obtain ⟨A4, c4, rfl, hcap4, hmax4, hA4⟩ := Rall
  obtain ⟨M, hM⟩ : ∃ M, c.length = M := ⟨_, rfl⟩
  rw [hM] at hcap4 hA4 hcm ⊢
  have hM2 : M ≤ 900072 := by rw [← hM, ← hc]; simp only [List.length_append]; omega
  have hM0 : 0 < M := by rw [← hM, ← hc]; simp only [List.length_append]; omega
  obtain ⟨b4, o4', rfl, _, hcell4⟩ := hA4 hM0
  have HC := Lib.hid hcell4
  have HM := Lib.hid hcm
  have hb4 : b4 < w4.heap.size := World.block_lt_of_cell? _ _ (hcell4 0 hM0)
  clear hD hcell4 hcm hM hc hm hA4 o4 o3 grow4 rd3 hfl hf2 hf3 hB3
  have T4 := HT.out.below hB4
  have f0 := T4.f 0 (by omega)
  have f1 := T4.f 1 (by omega)
  have f2 := T4.f 2 (by omega)
  have f3 := T4.f 3 (by omega)
  have f4 := T4.f 4 (by omega)
  have f5 := T4.f 5 (by omega)
  have f6 := T4.f 6 (by omega)
  have f7 := T4.f 7 (by omega)
  have h0 : 0 < w4.heap.size := by have := T4.size; omega
  clear T4
  go_wp2
  clear f0 f1 f2 f3 f4 f5 f6 f7
  have rs := rowIs_box w4 76 8 (uF Fc)
  have hB5 := (Below.refl _ w4).alloc (Nat.le_refl _) (.cells (rowA 8 (uF Fc)) 76)
  change Code.wp _ _ _ _ (w4.alloc (.cells (rowA 8 (uF Fc)) 76))
  generalize w4.alloc (.cells (rowA 8 (uF Fc)) 76) = w5 at rs hB5 ⊢
  go_loopw [5] (fun i wr => ∃ j k : Nat, j = 64 * k ∧ j ≤ M ∧ i = .int .i64 j ∧ wr.rowIs w4.heap.size 76 8 (uF (sB c k)) ∧ Below w4.heap.size w4 wr) (fun i _ => M - (intOf i).toNat)
  case atStart => exact ⟨0, 0, rfl, by omega, rfl, rs, hB5⟩
  case round =>
    obtain ⟨j, k, hjk, hjM, rfl, qs, qB⟩ := hrel
    clear rs hB5
    by_cases hlt : j < M
    · have HM2 := HM.out
      have hsl := slice_blk b4 o4' M c4 j (by omega)
      have hB6 : Below w.heap.size w wr := hB4.trans (qB.mono hB4.size)
      have HC2 : Hid (∀ i, i < 64 → wr.cell? ⟨b4, o4' + j + i, none⟩ = some (.int .u8 (bN (bAt (blk c k) i)))) := Lib.hid fun i hi => by
        rw [Nat.add_assoc]
        refine (qB.cell (p := ⟨b4, o4' + (j + i), none⟩) hb4).trans ?_
        rw [HC.out (j + i) (by omega), bAt_blk c k i hi, ← hjk]
      have HT2 := HT.out.below hB6
      have HTk := Lib.hid HT2.k
      have hs2 := HT2.size
      have hbr : b4 < wr.heap.size := Nat.lt_of_lt_of_le hb4 qB.size
      have d1 : decide ((j : Int) + 64 ≤ (M : Int)) = true := by simp; omega
      have d2 : (j : Int) + 64 ≤ (M : Int) := by omega
      have hcj : 64 ≤ c4 - j := by omega
      have hcj2 : c4 - j ≤ maxLen := by omega
      clear HT2
      have Hjk := Lib.hid hjk
      clear hjk HM2
      obtain ⟨s, Hs⟩ : ∃ s, Hid (sB c k = s) := ⟨_, Lib.hid rfl⟩
      rw [Hs.out] at qs
      have c0 := qs.cell (i := 0) (by omega)
      have c1 := qs.cell (i := 1) (by omega)
      have c2 := qs.cell (i := 2) (by omega)
      have c3 := qs.cell (i := 3) (by omega)
      have c4' := qs.cell (i := 4) (by omega)
      have c5 := qs.cell (i := 5) (by omega)
      have c6 := qs.cell (i := 6) (by omega)
      have c7 := qs.cell (i := 7) (by omega)
      go_wp2
      refine wp_region_still_tail 6 (by kernel_rfl) (by kernel_rfl) ?_
      simp only [List.take_succ_cons, List.take_zero, List.drop_succ_cons, List.drop_zero]
      iterate 6 (refine wpStill_step (fun K hK => ?_); go_simp; (try go_bits); refine hK _ ?_; clear hK K)
      refine wpStill_nil ?_
      go_wp2_with fail
      refine (RTurn_any Kc s (blk c k) b4 (o4' + j) (c4 - j) hcj hcj2 wr.drew hbr hs2 HTk.out HC2.out).mono ?_
      rintro e w6 ⟨rfl, hB7⟩
      replace qs := rowIs_below qs.drew hB7 qs.lt
      have hB8 : Below w4.heap.size w4 w6 := qB.drew.trans (hB7.mono qB.size)
      have rw2 : RowW w6 w4.heap.size 8 := ⟨_, _, qs⟩
      clear c0 c1 c2 c3 c4' c5 c6 c7 hB7 qB
      go_wp2
      go_roundw
      case rel =>
        refine ⟨j + 64, k + 1, by have := Hjk.out; omega, by omega, by go_num, ?_, below_setCells _ (Nat.le_refl _) _ _ _ hB8⟩
        have := rowIs_setAll qs (uF (turnF Kc s (blk c k)))
        rw [sB, Hs.out]
        exact this
      case measure => simp [intOf]; omega
    · obtain rfl : j = M := by omega
      obtain rfl : k = m := by have := HM.out; omega
      obtain ⟨S, HS⟩ : ∃ S, Hid (sB c k = S) := ⟨_, Lib.hid rfl⟩
      rw [HS.out] at qs
      have Hjk := Lib.hid hjk
      clear hjk
      have hg4 : w4.heap.size < wr.heap.size := qs.lt
      have ro := rowIs_box wr 23 32 (bF fun _ => 0)
      replace qs := qs.alloc (.cells (rowA 32 (bF fun _ => 0)) 23)
      have rz2 := (rowIs_below rz qB rz.lt).alloc (.cells (rowA 32 (bF fun _ => 0)) 23)
      have hgw : w.heap.size < wr.heap.size := (rowIs_below rz qB rz.lt).lt
      have qB6 := (hB4.trans (qB.mono hB4.size)).alloc (by omega) (.cells (rowA 32 (bF fun _ => 0)) 23)
      go_wp2
      change Code.wp _ _ _ _ (wr.alloc (.cells (rowA 32 (bF fun _ => 0)) 23))
      generalize wr.heap.size = g at hgw hg4 ro ⊢
      generalize wr.alloc (.cells (rowA 32 (bF fun _ => 0)) 23) = W6 at ro qs rz2 qB6 ⊢
      clear rz qB
      go_loopw [7] (fun i wr => ∃ t : Nat, t ≤ 8 ∧ i = .int .i64 t ∧ wr.rowIs w4.heap.size 76 8 (uF S) ∧ wr.rowIs w.heap.size 23 32 (bF fun _ => 0) ∧ wr.rowIs g 23 32 (bF (outF S t 0)) ∧ Below w.heap.size w wr) (fun i _ => 8 - (intOf i).toNat)
      case atStart => exact ⟨0, by omega, rfl, qs, rz2, ro.congr fun p _ => outF_zero S p, qB6⟩
      case round =>
        clear qs rz2 ro qB6
        obtain ⟨t, ht, rfl, qs, qz, qo, qB⟩ := hrel
        by_cases hlt : t < 8
        · have cs := qs.cell (i := t) hlt
          have it : (t : Int) < 8 := by omega
          go_wp2
          clear cs
          go_loopw [8, 9] (fun x k wr => ∃ j : Nat, j ≤ 4 ∧ k = .int .i64 (3 - (j : Int)) ∧ x = .int .u32 (uN (S t >>> (8 * j))) ∧ wr.rowIs w4.heap.size 76 8 (uF S) ∧ wr.rowIs w.heap.size 23 32 (bF fun _ => 0) ∧ wr.rowIs g 23 32 (bF (outF S t j)) ∧ Below w.heap.size w wr) (fun _ k _ => (intOf k + 1).toNat)
          case atStart => exact ⟨0, by omega, rfl, rfl, qs, qz, qo, qB⟩
          case round =>
            clear qs qz qo qB
            obtain ⟨j, hj, rfl, rfl, qs, qz, qo, qB⟩ := hrel
            by_cases hj4 : j < 4
            · obtain ⟨q, hq⟩ : ∃ q, 3 - j = q := ⟨_, rfl⟩
              have hz := dig_back S t j hj4
              have hd := dig_div (S t) j
              rw [hq] at hz
              obtain ⟨X, hX, hX2⟩ : ∃ X : Nat, X < 4294967296 ∧ uN (S t >>> (8 * j)) = (X : Int) := ⟨(S t >>> (8 * j)).toNat, (S t >>> (8 * j)).isLt, rfl⟩
              rw [hX2] at hz hd ⊢
              have hqi : (3 : Int) - (j : Int) = (q : Int) := by omega
              rw [hqi]
              have Hz := Lib.hid hz
              have Hd := Lib.hid hd
              have Hq := Lib.hid hq
              have Hqi := Lib.hid hqi
              have hq3 : q ≤ 3 := by omega
              clear hz hd hX2 hq hqi
              have co := qo.cell (i := 4 * t + q) (by omega)
              have fo := qo.frozen (4 * t + q)
              have i1 : 4 * (t : Int) + (q : Int) < 32 := by omega
              have i2 : (0 : Int) ≤ 4 * (t : Int) + (q : Int) := by omega
              go_wp2
              go_roundw
              case rel =>
                refine ⟨j + 1, by omega, ?_, by rw [← Hd.out], qs.setOther (by simp; omega) _, qz.setOther (by simp; omega) _, (qo.set (4 * t + q) _).congr fun p _ => ?_, qB.setCell (p := ⟨g, 4 * t + q, none⟩) (by simp; omega) _⟩
                · congr 1
                  have := Hqi.out
                  omega
                · have := outF_set S t j hj4 ((X : Int) % 256) (by rw [Hq.out]; exact Hz.out) p
                  rwa [Hq.out] at this
              case measure => simp only [intOf]; omega
            · obtain rfl : j = 4 := by omega
              go_wp2
              go_roundw
              case rel => exact ⟨t + 1, by omega, by go_num, qs, qz, qo.congr fun p _ => outF_next S t p, qB⟩
              case measure => simp [intOf]; omega
        · obtain rfl : t = 8 := by omega
          have hR := rangeAt_row qo
          go_wp2_with (first
            | (refine wpList_load_mid rfl 23 (.tmp 6) rfl g 0 rfl (rowA 32 (bF (outF S 8 0))).toList _ hR Tryd.underlying23 rfl (by rw [rowA_toList]; simpa using info31) ?_)
            | (refine wpList_store_mid rfl 23 (.tmp 2) (.tmp 53) rfl w.heap.size 0 (rowA 32 (bF (outF S 8 0))) rfl rfl (by rw [rowA_size]; exact there_row qz) (by rw [rowA_size]; exact info31) (rowA_one _ _ fun _ => rfl) ?_))
          refine bodyPost_ret (results_row rfl _ rfl (rowIs_setAll qz (bF (outF S 8 0))) Tryd.underlying23 info31) rfl ⟨?_, below_setCells _ (Nat.le_refl _) _ _ _ qB⟩
          rw [HD.out, HS.out]
          exact congrArg (fun z => Ending.returned (.agg z)) (rowA_congr fun i hi => by simp only [bF, outF]; rw [if_pos (by omega)])
end Go.Proofs.YthgblcpekhiphaaDoor
/- The reference's Of. -/
namespace Go.Proofs.YthgblcpekhiphaaDoor
open Go Go.RowKit
set_option maxRecDepth 8000
theorem RSumB_cv (v : Value) (l : List UInt8) (D : Nat → UInt8) (w : World) (hT : Tables w) (hr : RdV w [] v l) (hl : l.length ≤ 900000) (hD : shaL Kc Fc l = D) : Cv 53 #[v] w (.eq (.agg (rowA 32 (bF D)))) := by
  rw [← hD]; exact Cv.of_eq (RSum_any v l w hT hr hl)
set_option maxHeartbeats 1000000 in
theorem ROf_cv (n : Int) (pv : Value) (ls : List (List UInt8)) (D : Nat → UInt8) (w : World) (hT : Tables w) (hp : Parts w pv ls) (hlen : ls.length ≤ 1000) (htot : ls.flatten.length ≤ 1000) (hD : shaL Kc Fc (ofL n ls) = D) :
    Cv 32 #[.int .i64 n, pv] w (.eq (.agg (rowA 32 (bF D)))) := by
  unfold Cv
  have HD := Lib.hid hD
  have HT := Lib.hid hT
  have Hp := Lib.hid hp
  have Hol := Lib.hid (ofL_length n ls)
  clear hT hp hD
  go_enter Tryd.func32, Tryd.ntmps32
  go_upto_region 1 with fail
  have r0 := rowIs_box w 23 32 (bF fun _ => 0)
  have hB0 := NewT.alloc w (.cells (rowA 32 (bF fun _ => 0)) 23)
  change Code.wp _ _ _ _ (w.alloc (.cells (rowA 32 (bF fun _ => 0)) 23))
  generalize w.alloc (.cells (rowA 32 (bF fun _ => 0)) 23) = W0 at r0 hB0 ⊢
  replace HT := Lib.hid (hB0.tables HT.out)
  replace Hp := Lib.hid (hB0.partsL Hp.out)
  refine wp_region_seq NewT [SV.eq (.int .i64 n), svParts ls, svRd (ofL n ls), SV.eq (.agg (rowA 32 (bF D)))] [([(0, none)], none), ([(1, none)], none), ([(5, some 0), (6, some 1)], none), ([(7, some 2)], none)] 9 rfl rfl (by kernel_rfl) rfl NewT.trans (NewT.refl _) (Nat.le_of_ble_eq_true rfl) ⟨?_, ?_, ?_, ?_, trivial⟩ ?_
  · -- 0: Op.move t0
    intro a wx hT hF K hK
    obtain ⟨f0, _⟩ := hF
    have f0 : a.tmps.getD 0 undef = .int .i64 n := f0
    refine rely_wp rfl ?_
    exact opr_move (.inl rfl) (hK _ _ (NewT.refl _) f0)
  · -- 1: Op.move t1
    intro a wx hT hF K hK
    obtain ⟨f1, _⟩ := hF
    have f1 : a.tmps.getD 1 undef = pv := f1
    refine rely_wp rfl ?_
    exact opr_move (.inl rfl) (hK _ _ (NewT.refl _) (by rw [eval_tmp, f1]; exact hT.partsL Hp.out))
  · -- 2: Op.call ( value (Operand.func 54), args := #[t5, t6], argTyp
    intro a wx hT hF K hK
    obtain ⟨f5, f6, _⟩ := hF
    have f5 : a.tmps.getD 5 undef = .int .i64 n := f5
    replace f6 := show (svParts ls).pred (a.tmps.getD 6 undef) wx from f6
    refine rely_wp rfl ?_
    exact opr_cv (RText_cv n _ ls wx f6 hlen htot) rfl Tryd.func54 (by kernel_rfl) (by kernel_rfl) (by simp only [List.map_toArray, List.map_cons, List.map_nil, eval_tmp, f5]) hK
  · -- 3: Op.call ( value (Operand.func 53), args := #[t7], argTypes :
    intro a wx hT hF K hK
    obtain ⟨f7, _⟩ := hF
    replace f7 := show (svRd (ofL n ls)).pred (a.tmps.getD 7 undef) wx from f7
    refine rely_wp rfl ?_
    exact opr_cv (RSumB_cv _ (ofL n ls) D wx (hT.tables HT.out) f7 (by have := Hol.out; omega) HD.out) rfl Tryd.func53 (by kernel_rfl) (by kernel_rfl) (by simp only [List.map_toArray, List.map_cons, List.map_nil, eval_tmp]) hK
  · intro wx hT
    intro u h; obtain rfl := h (by simp); clear h
    intro u6 h; have g6 := h (by simp); clear h; replace g6 := show (svParts ls).pred u6 wx from g6
    intro u7 h; have g7 := h (by simp); clear h; replace g7 := show (svRd (ofL n ls)).pred u7 wx from g7
    intro u h; obtain rfl := h (by simp); clear h
    refine relyEnd_nil rfl ?_
    simp only [Act.put, List.setIfInBounds_toArray, List.set_cons_zero, List.set_cons_succ]
    refine opr_store_new (B := w.heap.size) (W := w) info31 rfl rfl rfl (hT.row r0) (NewT.trans _ _ _ hB0 hT) (Nat.le_refl _) ?_
    intro w9 hB9 r9
    go_simp
    go_wp2
    exact bodyPost_ret (results_row rfl _ rfl r9 Tryd.underlying23 info31) rfl ⟨_, rfl, hB9, rfl⟩
end Go.Proofs.YthgblcpekhiphaaDoor
/- The reference's Com and Redact. -/
namespace Go.Proofs.YthgblcpekhiphaaDoor
open Go Go.RowKit
set_option maxRecDepth 8000
set_option linter.all false
set_option maxHeartbeats 2000000 in
theorem RCom_cv (v : Value) (x : Rc) (w : World) (h : RecV w v x) (hT : Tables w) : Cv 14 #[v] w (.eq (.agg (rowA 32 (bF (comB x))))) := by
  obtain ⟨sv, dv, rfl, hs, hd⟩ := h
  unfold Cv
  have HX : Hid (RecV w (.agg (rowA 109 (recF x sv dv))) x) := Lib.hid ⟨sv, dv, rfl, hs, hd⟩
  have HS := Lib.hid hs
  have HD := Lib.hid hd
  clear hs hd
  have HT := Lib.hid hT
  clear hT
  go_enter Tryd.func14, Tryd.ntmps14
  go_upto_region 1 with fail
  have r1 := (rowIs_box w 27 109 (recF x sv dv)).alloc (.cells (rowA 32 (bF fun _ => 0)) 23)
  have r2 := rowIs_box (w.alloc (.cells (rowA 109 (recF x sv dv)) 27)) 23 32 (bF fun _ => 0)
  have hN : NewT w ((w.alloc (.cells (rowA 109 (recF x sv dv)) 27)).alloc (.cells (rowA 32 (bF fun _ => 0)) 23)) := NewT.trans _ _ _ (NewT.alloc _ _) (NewT.alloc _ _)
  rw [World.size_alloc] at r2
  change Code.wp _ _ _ _ ((w.alloc (.cells (rowA 109 (recF x sv dv)) 27)).alloc (.cells (rowA 32 (bF fun _ => 0)) 23))
  generalize hW0 : (w.alloc (.cells (rowA 109 (recF x sv dv)) 27)).alloc (.cells (rowA 32 (bF fun _ => 0)) 23) = W0 at r1 r2 hN ⊢
  have R1 := Lib.hid r1
  have R2 := Lib.hid r2
  have HN := Lib.hid hN
  have Hsz : Hid (W0.heap.size = w.heap.size + 2) := Lib.hid (by rw [← hW0]; simp)
  replace HX := Lib.hid (hN.recV HX.out)
  replace HS := Lib.hid (hN.pairs HS.out)
  replace HD := Lib.hid (hN.rd HD.out)
  replace HT := Lib.hid (hN.tables HT.out)
  clear r1 r2 hN hW0
  refine wp_region_steps0 NewT [SV.eq (.agg (rowA 109 (recF x sv dv))), SV.eq (.bool (rightB x)), SV.eq (.bool (!(rightB x))), SV.eq (.bool (!(rightB x))), svIf ((!(!(rightB x)))) (SV.eq (.pointer (some ⟨w.heap.size, 0, none⟩))), svIf ((!(!(rightB x)))) (SV.eq (.int .i64 (x.kind))), svIf ((!(!(rightB x)))) (SV.eq (.bool (x.kind != 1))), SV.eq (.bool ((!(rightB x)) || (x.kind != 1)))] [([(1, none)], none), ([(3, some 0)], none), ([(4, some 1)], none), ([(5, some 2)], none), ([(1, none), (6, some 3)], some (6, false)), ([(7, some 4), (6, some 3)], some (6, false)), ([(8, some 5), (6, some 3)], some (6, false)), ([(6, some 3), (9, some 6)], none)] 22 8 rfl rfl (by kernel_rfl) NewT.trans (NewT.refl _) (Nat.le_of_ble_eq_true rfl) ⟨?_, ?_, ?_, ?_, ?_, ?_, ?_, ?_, trivial⟩ ?_
  · intro a wx hT hF K hK
    obtain ⟨f1, _⟩ := hF
    have f1 : a.tmps.getD 1 undef = .pointer (some ⟨w.heap.size, 0, none⟩) := f1
    refine rely_wp rfl ?_
    exact opr_ldR (hT.row R1.out) rfl f1 (hK _ _ (NewT.refl _) rfl)
  · intro a wx hT hF K hK
    obtain ⟨f3, _⟩ := hF
    have f3 : a.tmps.getD 3 undef = .agg (rowA 109 (recF x sv dv)) := f3
    refine rely_wp rfl ?_
    exact opr_cv (RRight_cv _ x wx (hT.recV HX.out)) rfl Tryd.func12 (by kernel_rfl) (by kernel_rfl) (by simp only [List.map_toArray, List.map_cons, List.map_nil, eval_tmp, f3]) hK
  · intro a wx hT hF K hK
    obtain ⟨f4, _⟩ := hF
    have f4 : a.tmps.getD 4 undef = .bool (rightB x) := f4
    refine rely_wp rfl ?_
    exact opr_not rfl f4 (hK _ _ (NewT.refl _) rfl)
  · intro a wx hT hF K hK
    obtain ⟨f5, _⟩ := hF
    have f5 : a.tmps.getD 5 undef = .bool (!(rightB x)) := f5
    refine rely_wp rfl ?_
    exact opr_move (.inl rfl) (hK _ _ (NewT.refl _) f5)
  · intro a wx hT hF K hK
    obtain ⟨f1, f6, _⟩ := hF
    have f1 : a.tmps.getD 1 undef = .pointer (some ⟨w.heap.size, 0, none⟩) := f1
    have f6 : a.tmps.getD 6 undef = .bool (!(rightB x)) := f6
    refine rely_if (rely_gf f6) (NewT.refl _) hK (fun hE hK => ?_)
    exact opr_fldR (by decide) rfl f1 (hK _ _ (NewT.refl _) rfl)
  · intro a wx hT hF K hK
    obtain ⟨f7, f6, _⟩ := hF
    have f7 : ((!(!(rightB x)))) = true → a.tmps.getD 7 undef = .pointer (some ⟨w.heap.size, 0, none⟩) := f7
    have f6 : a.tmps.getD 6 undef = .bool (!(rightB x)) := f6
    refine rely_if (rely_gf f6) (NewT.refl _) hK (fun hE hK => ?_)
    exact opr_ldI (hT.row R1.out) (by decide) rfl rfl (f7 hE) (hK _ _ (NewT.refl _) rfl)
  · intro a wx hT hF K hK
    obtain ⟨f8, f6, _⟩ := hF
    have f8 : ((!(!(rightB x)))) = true → a.tmps.getD 8 undef = .int .i64 (x.kind) := f8
    have f6 : a.tmps.getD 6 undef = .bool (!(rightB x)) := f6
    refine rely_if (rely_gf f6) (NewT.refl _) hK (fun hE hK => ?_)
    exact opr_cmp (b := x.kind != 1) (.inr (.inl ⟨rfl, rfl⟩)) Tryd.underlying3 rfl (f8 hE) rfl (hK _ _ (NewT.refl _) rfl)
  · intro a wx hT hF K hK
    obtain ⟨f6, f9, _⟩ := hF
    have f6 : a.tmps.getD 6 undef = .bool (!(rightB x)) := f6
    have f9 : ((!(!(rightB x)))) = true → a.tmps.getD 9 undef = .bool (x.kind != 1) := f9
    refine rely_wp rfl ?_
    exact opr_pick_b rfl f6 (fun hb => hK _ _ (NewT.refl _) (pk_or1 hb)) (fun hb => hK _ _ (NewT.refl _) (pk_or0 (f9 (bnot hb)) hb))
  · intro w1 k1
    intro u h; obtain rfl := Eq.symm (h (by simp)); clear h
    intro u h; obtain rfl := Eq.symm (h (by simp)); clear h
    intro u h; obtain rfl := Eq.symm (h (by simp)); clear h
    intro u h; obtain rfl := Eq.symm (h (by simp)); clear h
    intro _ _
    intro _ _
    intro _ _
    intro u h; obtain rfl := Eq.symm (h (by simp)); clear h
    refine relyEnd_nil rfl ?_
    refine wpList_end rfl ?_
    simp only [Act.put, List.setIfInBounds_toArray, List.set_cons_zero, List.set_cons_succ]
    go_simp
    replace R1 := Lib.hid (k1.row R1.out)
    replace R2 := Lib.hid (k1.row R2.out)
    replace HX := Lib.hid (k1.recV HX.out)
    replace HS := Lib.hid (k1.pairs HS.out)
    replace HD := Lib.hid (k1.rd HD.out)
    replace HT := Lib.hid (k1.tables HT.out)
    replace HN := Lib.hid (NewT.trans _ _ _ HN.out k1)
    clear k1 Hsz
    cases hb : ((!(rightB x)) || (x.kind != 1))
    · have hk : rightB x = true ∧ x.kind = 1 := by simpa using hb
      have hd60 := right_data x hk.1
      have HC0 : Hid (comB x = comC x) := Lib.hid (by unfold comB; rw [if_pos (by simp [hk.1, hk.2])])
      clear hk hb
      have c76 : w1.cell? ⟨w.heap.size, 76, none⟩ = some (.bool x.gone) := R1.out.cell (i := 76) (by omega)
      cases hg : x.gone
      · rw [hg] at c76
        have HC : Hid (comB x = cmC x.salt x.data) := Lib.hid (by rw [HC0.out]; unfold comC comR; rw [hg, if_neg (by simp)])
        clear hg
        go_upto_region 5 with fail
        clear c76
        refine wp_region_rely NewT [SV.eq (.pointer (some ⟨w.heap.size, 44, none⟩)), svRd (digL (x.salt)), SV.eq (.pointer (some ⟨w.heap.size, 43, none⟩)), SV.eq (dv), svParts [digL (x.salt), x.data], SV.eq (.agg (rowA 32 (bF (cmC x.salt x.data))))] [([(1, none)], none), ([(16, some 0)], none), ([(1, none)], none), ([(18, some 2)], none), ([(17, some 1), (19, some 3)], none), ([(20, some 4)], none)] 22 rfl (by kernel_rfl) rfl (by kernel_rfl) (by kernel_rfl) rfl NewT.trans (NewT.drew _) (Nat.le_of_ble_eq_true rfl) ⟨?_, ?_, ?_, ?_, ?_, ?_, trivial⟩ ?_
        · intro a wx hT hF K hK
          obtain ⟨f1, _⟩ := hF
          have f1 : a.tmps.getD 1 undef = .pointer (some ⟨w.heap.size, 0, none⟩) := f1
          refine rely_wp rfl ?_
          exact opr_fldR (by decide) rfl f1 (hK _ _ (NewT.refl _) rfl)
        · intro a wx hT hF K hK
          obtain ⟨f16, _⟩ := hF
          have f16 : a.tmps.getD 16 undef = .pointer (some ⟨w.heap.size, 44, none⟩) := f16
          refine rely_wp rfl ?_
          exact opr_sliceH rfl f16 (hK _ _ (NewT.refl _) (rd_rowH (hT.row R1.out) (by decide) (recF_salt x _ _)))
        · intro a wx hT hF K hK
          obtain ⟨f1, _⟩ := hF
          have f1 : a.tmps.getD 1 undef = .pointer (some ⟨w.heap.size, 0, none⟩) := f1
          refine rely_wp rfl ?_
          exact opr_fldR (by decide) rfl f1 (hK _ _ (NewT.refl _) rfl)
        · intro a wx hT hF K hK
          obtain ⟨f18, _⟩ := hF
          have f18 : a.tmps.getD 18 undef = .pointer (some ⟨w.heap.size, 43, none⟩) := f18
          refine rely_wp rfl ?_
          exact opr_ldB (hT.row R1.out) (by decide) rfl rfl f18 (hK _ _ (NewT.refl _) rfl)
        · intro a wx hT hF K hK
          obtain ⟨f17, f19, _⟩ := hF
          replace f17 := show (svRd (digL (x.salt))).pred (a.tmps.getD 17 undef) wx from f17
          have f19 : a.tmps.getD 19 undef = dv := f19
          refine rely_wp rfl ?_
          exact opr_bs2 rfl f17 (by rw [eval_tmp, f19]; exact (hT.rd HD.out)) hK
        · intro a wx hT hF K hK
          obtain ⟨f20, _⟩ := hF
          replace f20 := show (svParts [digL (x.salt), x.data]).pred (a.tmps.getD 20 undef) wx from f20
          refine rely_wp rfl ?_
          exact opr_cv (ROf_cv 4 _ [digL x.salt, x.data] (cmC x.salt x.data) wx (hT.tables HT.out) f20 (by simp) (by simp [digL_length]; have := hd60; omega) (cmC_eq _ _)) rfl Tryd.func32 (by kernel_rfl) (by kernel_rfl) (by simp only [List.map_toArray, List.map_cons, List.map_nil, eval_tmp, eval_const]) hK
        · intro wx hT
          intro u h; obtain rfl := Eq.symm (h (by simp)); clear h
          intro _ _
          intro u h; obtain rfl := Eq.symm (h (by simp)); clear h
          intro u h; obtain rfl := Eq.symm (h (by simp)); clear h
          intro _ _
          intro u h; obtain rfl := Eq.symm (h (by simp)); clear h
          refine relyEnd_nil rfl ?_
          simp only [Act.put, List.setIfInBounds_toArray, List.set_cons_zero, List.set_cons_succ]
          refine opr_store_new (B := w.heap.size) (W := w) info31 rfl rfl rfl (hT.row R2.out) (NewT.trans _ _ _ HN.out hT) (Nat.le_succ _) ?_
          intro w9 hB9 r9
          go_simp
          go_wp2
          exact bodyPost_ret (results_row rfl _ rfl r9 Tryd.underlying23 info31) rfl ⟨_, rfl, hB9, by rw [HC.out]; rfl⟩
      · rw [hg] at c76
        have HC : Hid (comB x = x.com) := Lib.hid (by rw [HC0.out]; unfold comC comR; rw [hg, if_pos rfl])
        clear hg
        go_upto_region 4 with fail
        clear c76
        refine wp_region_steps0 NewT [SV.eq (.pointer (some ⟨w.heap.size, 77, none⟩)), SV.eq (.agg (rowA 32 (bF (x.com))))] [([(1, none)], none), ([(14, some 0)], none)] 22 2 rfl rfl (by kernel_rfl) NewT.trans (NewT.refl _) (Nat.le_of_ble_eq_true rfl) ⟨?_, ?_, trivial⟩ ?_
        · intro a wx hT hF K hK
          obtain ⟨f1, _⟩ := hF
          have f1 : a.tmps.getD 1 undef = .pointer (some ⟨w.heap.size, 0, none⟩) := f1
          refine rely_wp rfl ?_
          exact opr_fldR (by decide) rfl f1 (hK _ _ (NewT.refl _) rfl)
        · intro a wx hT hF K hK
          obtain ⟨f14, _⟩ := hF
          have f14 : a.tmps.getD 14 undef = .pointer (some ⟨w.heap.size, 77, none⟩) := f14
          refine rely_wp rfl ?_
          exact opr_ldH (hT.row R1.out) (by decide) (recF_com x _ _) rfl f14 (hK _ _ (NewT.refl _) rfl)
        · intro wx hT
          intro u h; obtain rfl := Eq.symm (h (by simp)); clear h
          intro u h; obtain rfl := Eq.symm (h (by simp)); clear h
          refine relyEnd_nil rfl ?_
          simp only [Act.put, List.setIfInBounds_toArray, List.set_cons_zero, List.set_cons_succ]
          refine wpList_plain rfl (fun K hK => ?_)
          refine opr_store_new (B := w.heap.size) (W := w) info31 rfl rfl rfl (hT.row R2.out) (NewT.trans _ _ _ HN.out hT) (Nat.le_succ _) ?_
          intro w9 hB9 r9
          refine hK _ _ ?_
          refine wpList_end rfl ?_
          go_simp
          go_wp2
          exact bodyPost_ret (results_row rfl _ rfl r9 Tryd.underlying23 info31) rfl ⟨_, rfl, hB9, by rw [HC.out]; rfl⟩
    · have HC : Hid (comB x = fun _ => 0) := Lib.hid (by unfold comB; rw [if_neg (by intro h; rw [Bool.and_eq_true, beq_iff_eq] at h; simp [h.1, h.2] at hb)])
      clear hb
      go_upto_region 2 with fail
      refine wp_region_steps0 NewT [SV.eq (.agg (rowA 32 (bF (fun _ => 0))))] [([], none)] 22 1 rfl rfl (by kernel_rfl) NewT.trans (NewT.refl _) (Nat.le_of_ble_eq_true rfl) ⟨?_, trivial⟩ ?_
      · intro a wx hT hF K hK
        refine rely_wp rfl ?_
        exact opr_build (pv := #[]) rfl (by simp) (build_hash0 wx) (hK _ _ (NewT.refl _) rfl)
      · intro wx hT
        intro u h; obtain rfl := Eq.symm (h (by simp)); clear h
        refine relyEnd_nil rfl ?_
        simp only [Act.put, List.setIfInBounds_toArray, List.set_cons_zero, List.set_cons_succ]
        refine wpList_plain rfl (fun K hK => ?_)
        refine opr_store_new (B := w.heap.size) (W := w) info31 rfl rfl rfl (hT.row R2.out) (NewT.trans _ _ _ HN.out hT) (Nat.le_succ _) ?_
        intro w9 hB9 r9
        refine hK _ _ ?_
        refine wpList_end rfl ?_
        go_simp
        go_wp2
        exact bodyPost_ret (results_row rfl _ rfl r9 Tryd.underlying23 info31) rfl ⟨_, rfl, hB9, by rw [HC.out]; rfl⟩
set_option maxHeartbeats 2000000 in
theorem RRedact_cv (v : Value) (x : Rc) (w : World) (h : RecV w v x) (hT : Tables w) : Cv 17 #[v] w (svRec (redactB x)) := by
  obtain ⟨sv, dv, rfl, hs, hd⟩ := h
  unfold Cv
  have HX : Hid (RecV w (.agg (rowA 109 (recF x sv dv))) x) := Lib.hid ⟨sv, dv, rfl, hs, hd⟩
  have HS := Lib.hid hs
  have HD := Lib.hid hd
  have HT := Lib.hid hT
  have oneS := oneP hs
  have oneD := oneR hd
  clear hT
  go_enter Tryd.func17, Tryd.ntmps17
  go_upto_region 1 with fail
  have r1 := (rowIs_box w 27 109 (recF x sv dv)).alloc (.cells (rowA 109 (recF zR (.slice none 0 0) (.slice none 0 0))) 27)
  have r2 := rowIs_box (w.alloc (.cells (rowA 109 (recF x sv dv)) 27)) 27 109 (recF zR (.slice none 0 0) (.slice none 0 0))
  have hN : NewT w ((w.alloc (.cells (rowA 109 (recF x sv dv)) 27)).alloc (.cells (rowA 109 (recF zR (.slice none 0 0) (.slice none 0 0))) 27)) := NewT.trans _ _ _ (NewT.alloc _ _) (NewT.alloc _ _)
  rw [World.size_alloc] at r2
  change Code.wp _ _ _ _ ((w.alloc (.cells (rowA 109 (recF x sv dv)) 27)).alloc (.cells (rowA 109 (recF zR (.slice none 0 0) (.slice none 0 0))) 27))
  generalize hW0 : (w.alloc (.cells (rowA 109 (recF x sv dv)) 27)).alloc (.cells (rowA 109 (recF zR (.slice none 0 0) (.slice none 0 0))) 27) = W0 at r1 r2 hN ⊢
  have R1 := Lib.hid r1
  have R2 := Lib.hid r2
  have HN := Lib.hid hN
  have Hsz : Hid (W0.heap.size = w.heap.size + 2) := Lib.hid (by rw [← hW0]; simp)
  replace HX := Lib.hid (hN.recV HX.out)
  replace HS := Lib.hid (hN.pairs HS.out)
  replace HD := Lib.hid (hN.rd HD.out)
  replace HT := Lib.hid (hN.tables HT.out)
  clear r1 r2 hN hW0
  refine wp_region_steps0 NewT [SV.eq (.agg (rowA 109 (recF x sv dv))), SV.eq (.bool (rightB x)), SV.eq (.bool (rightB x)), svIf (rightB x) (SV.eq (.pointer (some ⟨w.heap.size, 0, none⟩))), svIf (rightB x) (SV.eq (.int .i64 (x.kind))), svIf (rightB x) (SV.eq (.bool (x.kind == 1))), SV.eq (.bool ((rightB x) && (x.kind == 1)))] [([(1, none)], none), ([(3, some 0)], none), ([(4, some 1)], none), ([(1, none), (5, some 2)], some (5, true)), ([(6, some 3), (5, some 2)], some (5, true)), ([(7, some 4), (5, some 2)], some (5, true)), ([(5, some 2), (8, some 5)], none)] 18 7 rfl rfl (by kernel_rfl) NewT.trans (NewT.refl _) (Nat.le_of_ble_eq_true rfl) ⟨?_, ?_, ?_, ?_, ?_, ?_, ?_, trivial⟩ ?_
  · intro a wx hT hF K hK
    obtain ⟨f1, _⟩ := hF
    have f1 : a.tmps.getD 1 undef = .pointer (some ⟨w.heap.size, 0, none⟩) := f1
    refine rely_wp rfl ?_
    exact opr_ldR (hT.row R1.out) rfl f1 (hK _ _ (NewT.refl _) rfl)
  · intro a wx hT hF K hK
    obtain ⟨f3, _⟩ := hF
    have f3 : a.tmps.getD 3 undef = .agg (rowA 109 (recF x sv dv)) := f3
    refine rely_wp rfl ?_
    exact opr_cv (RRight_cv _ x wx (hT.recV HX.out)) rfl Tryd.func12 (by kernel_rfl) (by kernel_rfl) (by simp only [List.map_toArray, List.map_cons, List.map_nil, eval_tmp, f3]) hK
  · intro a wx hT hF K hK
    obtain ⟨f4, _⟩ := hF
    have f4 : a.tmps.getD 4 undef = .bool (rightB x) := f4
    refine rely_wp rfl ?_
    exact opr_move (.inl rfl) (hK _ _ (NewT.refl _) f4)
  · intro a wx hT hF K hK
    obtain ⟨f1, f5, _⟩ := hF
    have f1 : a.tmps.getD 1 undef = .pointer (some ⟨w.heap.size, 0, none⟩) := f1
    have f5 : a.tmps.getD 5 undef = .bool (rightB x) := f5
    refine rely_if (rely_gt f5) (NewT.refl _) hK (fun hE hK => ?_)
    exact opr_fldR (by decide) rfl f1 (hK _ _ (NewT.refl _) rfl)
  · intro a wx hT hF K hK
    obtain ⟨f6, f5, _⟩ := hF
    have f6 : (rightB x) = true → a.tmps.getD 6 undef = .pointer (some ⟨w.heap.size, 0, none⟩) := f6
    have f5 : a.tmps.getD 5 undef = .bool (rightB x) := f5
    refine rely_if (rely_gt f5) (NewT.refl _) hK (fun hE hK => ?_)
    exact opr_ldI (hT.row R1.out) (by decide) rfl rfl (f6 hE) (hK _ _ (NewT.refl _) rfl)
  · intro a wx hT hF K hK
    obtain ⟨f7, f5, _⟩ := hF
    have f7 : (rightB x) = true → a.tmps.getD 7 undef = .int .i64 (x.kind) := f7
    have f5 : a.tmps.getD 5 undef = .bool (rightB x) := f5
    refine rely_if (rely_gt f5) (NewT.refl _) hK (fun hE hK => ?_)
    exact opr_cmp (b := x.kind == 1) (.inl ⟨rfl, rfl⟩) Tryd.underlying3 rfl (f7 hE) rfl (hK _ _ (NewT.refl _) rfl)
  · intro a wx hT hF K hK
    obtain ⟨f5, f8, _⟩ := hF
    have f5 : a.tmps.getD 5 undef = .bool (rightB x) := f5
    have f8 : (rightB x) = true → a.tmps.getD 8 undef = .bool (x.kind == 1) := f8
    refine rely_wp rfl ?_
    exact opr_pick_b rfl f5 (fun hb => hK _ _ (NewT.refl _) (pk_and1 (f8 hb) hb)) (fun hb => hK _ _ (NewT.refl _) (pk_and0 hb))
  · intro w1 k1
    intro u h; obtain rfl := Eq.symm (h (by simp)); clear h
    intro u h; obtain rfl := Eq.symm (h (by simp)); clear h
    intro u h; obtain rfl := Eq.symm (h (by simp)); clear h
    intro _ _
    intro _ _
    intro _ _
    intro u h; obtain rfl := Eq.symm (h (by simp)); clear h
    refine relyEnd_nil rfl ?_
    refine wpList_end rfl ?_
    simp only [Act.put, List.setIfInBounds_toArray, List.set_cons_zero, List.set_cons_succ]
    go_simp
    replace R1 := Lib.hid (k1.row R1.out)
    replace R2 := Lib.hid (k1.row R2.out)
    replace HX := Lib.hid (k1.recV HX.out)
    replace HS := Lib.hid (k1.pairs HS.out)
    replace HD := Lib.hid (k1.rd HD.out)
    replace HT := Lib.hid (k1.tables HT.out)
    replace HN := Lib.hid (NewT.trans _ _ _ HN.out k1)
    clear k1 Hsz
    cases hb : ((rightB x) && (x.kind == 1))
    · have HO : Hid (redactB x = x) := Lib.hid (by unfold redactB; rw [Bool.and_comm, hb, if_neg (by simp)])
      clear hb
      go_upto_region 6 with fail
      refine wp_region_steps0 NewT [SV.eq (.agg (rowA 109 (recF x sv dv)))] [([(1, none)], none)] 18 1 rfl rfl (by kernel_rfl) NewT.trans (NewT.refl _) (Nat.le_of_ble_eq_true rfl) ⟨?_, trivial⟩ ?_
      · intro a wx hT hF K hK
        obtain ⟨f1, _⟩ := hF
        have f1 : a.tmps.getD 1 undef = .pointer (some ⟨w.heap.size, 0, none⟩) := f1
        refine rely_wp rfl ?_
        exact opr_ldR (hT.row R1.out) rfl f1 (hK _ _ (NewT.refl _) rfl)
      · intro wf hf
        intro u h; obtain rfl := Eq.symm (h (by simp)); clear h
        refine relyEnd_nil rfl ?_
        simp only [Act.put, List.setIfInBounds_toArray, List.set_cons_zero, List.set_cons_succ]
        refine wpList_plain rfl (fun K hK => ?_)
        refine opr_putm rfl rfl rfl (hf.row R2.out) (by decide) info_rec (recF_one _ _ _ oneS oneD) (put_all _ _) ?_
        intro wq hTq rq
        refine hK _ _ ?_
        refine wpList_end rfl ?_
        go_simp
        go_wp2
        have hNq : NewT w wq := (NewT.trans _ _ _ (HN.out) hf).rt hTq (by omega)
        refine bodyPost_ret (results_agg rfl _ rfl rq Tryd.underlying27 rfl info_rec) rfl ⟨_, rfl, hNq, ?_⟩
        rw [HO.out]
        exact ⟨sv, dv, rfl, hNq.pairs hs, hNq.rd hd⟩
    · have hb2 : (x.kind == 1 && rightB x) = true := by rw [Bool.and_comm]; exact hb
      have HO : Hid (redactB x = { x with gone := true, com := comB x, data := [], salt := fun _ => 0 }) := Lib.hid (by unfold redactB comB; rw [if_pos hb2, if_pos hb2])
      clear hb hb2
      go_upto_region 2 with fail
      refine wp_region_steps0 NewT [SV.eq (.agg (rowA 109 (recF x sv dv))), SV.eq (.agg (rowA 32 (bF (comB x))))] [([(1, none)], none), ([(10, some 0)], none)] 18 2 rfl rfl (by kernel_rfl) NewT.trans (NewT.refl _) (Nat.le_of_ble_eq_true rfl) ⟨?_, ?_, trivial⟩ ?_
      · intro a wx hT hF K hK
        obtain ⟨f1, _⟩ := hF
        have f1 : a.tmps.getD 1 undef = .pointer (some ⟨w.heap.size, 0, none⟩) := f1
        refine rely_wp rfl ?_
        exact opr_ldR (hT.row R1.out) rfl f1 (hK _ _ (NewT.refl _) rfl)
      · intro a wx hT hF K hK
        obtain ⟨f10, _⟩ := hF
        have f10 : a.tmps.getD 10 undef = .agg (rowA 109 (recF x sv dv)) := f10
        refine rely_wp rfl ?_
        exact opr_cv (RCom_cv _ x wx (hT.recV HX.out) (hT.tables HT.out)) rfl Tryd.func14 (by kernel_rfl) (by kernel_rfl) (by simp only [List.map_toArray, List.map_cons, List.map_nil, eval_tmp, f10]) hK
      · intro e2 k2
        intro u h; obtain rfl := Eq.symm (h (by simp)); clear h
        intro u h; obtain rfl := Eq.symm (h (by simp)); clear h
        refine relyEnd_nil rfl ?_
        simp only [Act.put, List.setIfInBounds_toArray, List.set_cons_zero, List.set_cons_succ]
        refine wpList_plain rfl (fun K hK => ?_)
        refine opr_fldR (by decide) rfl rfl (hK _ _ ?_)
        clear hK K
        refine wpList_plain rfl (fun K hK => ?_)
        refine opr_putm rfl rfl rfl (k2.row R1.out) (by decide) info31 (fun _ => rfl) (fun i hi => rs_com x sv dv i _ hi) ?_
        intro w2 t2 r2
        refine hK _ _ ?_
        clear hK K
        refine wpList_end rfl ?_
        go_simp
        go_upto_region 3 with fail
        refine wp_region_steps0 NewT [] [] 18 0 rfl rfl (by kernel_rfl) NewT.trans (NewT.refl _) (Nat.le_of_ble_eq_true rfl) trivial ?_
        · intro e3 k3
          refine relyEnd_nil rfl ?_
          simp only [Act.put, List.setIfInBounds_toArray, List.set_cons_zero, List.set_cons_succ]
          refine wpList_plain rfl (fun K hK => ?_)
          refine opr_fldR (by decide) rfl rfl (hK _ _ ?_)
          clear hK K
          refine wpList_plain rfl (fun K hK => ?_)
          refine opr_put1 rfl rfl rfl (k3.row r2) (by decide) info_b1 rfl (fun i _ => rs_gone ({ x with com := comB x }) sv dv i _) ?_
          intro w3 t3 r3
          refine hK _ _ ?_
          clear hK K
          refine wpList_end rfl ?_
          go_simp
          go_upto_region 4 with fail
          refine wp_region_steps0 NewT [] [] 18 0 rfl rfl (by kernel_rfl) NewT.trans (NewT.refl _) (Nat.le_of_ble_eq_true rfl) trivial ?_
          · intro e4 k4
            refine relyEnd_nil rfl ?_
            simp only [Act.put, List.setIfInBounds_toArray, List.set_cons_zero, List.set_cons_succ]
            refine wpList_plain rfl (fun K hK => ?_)
            refine opr_fldR (by decide) rfl rfl (hK _ _ ?_)
            clear hK K
            refine wpList_plain rfl (fun K hK => ?_)
            refine opr_put1 rfl rfl rfl (k4.row r3) (by decide) info_d1 rfl (fun i _ => rs_data ({ x with com := comB x, gone := true }) sv dv i _) ?_
            intro w4 t4 r4
            refine hK _ _ ?_
            clear hK K
            refine wpList_end rfl ?_
            go_simp
            go_upto_region 5 with fail
            refine wp_region_steps0 NewT [SV.eq (.agg (rowA 32 (bF (fun _ => 0))))] [([], none)] 18 1 rfl rfl (by kernel_rfl) NewT.trans (NewT.refl _) (Nat.le_of_ble_eq_true rfl) ⟨?_, trivial⟩ ?_
            · intro a wx hT hF K hK
              refine rely_wp rfl ?_
              exact opr_build (pv := #[]) rfl (by simp) (build_hash0 wx) (hK _ _ (NewT.refl _) rfl)
            · intro e5 k5
              intro u h; obtain rfl := Eq.symm (h (by simp)); clear h
              refine relyEnd_nil rfl ?_
              simp only [Act.put, List.setIfInBounds_toArray, List.set_cons_zero, List.set_cons_succ]
              refine wpList_plain rfl (fun K hK => ?_)
              refine opr_fldR (by decide) rfl rfl (hK _ _ ?_)
              clear hK K
              refine wpList_plain rfl (fun K hK => ?_)
              refine opr_putm rfl rfl rfl (k5.row r4) (by decide) info31 (fun _ => rfl) (fun i hi => rs_salt ({ x with com := comB x, gone := true }) sv (.slice none 0 0) i _ hi) ?_
              intro w5 t5 r5
              refine hK _ _ ?_
              clear hK K
              refine wpList_end rfl ?_
              go_simp
              have HN5 := Lib.hid ((NewT.trans _ _ _ ((NewT.trans _ _ _ ((NewT.trans _ _ _ ((NewT.trans _ _ _ HN.out k2).rt t2 (Nat.le_refl _)) k3).rt t3 (Nat.le_refl _)) k4).rt t4 (Nat.le_refl _)) k5).rt t5 (Nat.le_refl _))
              have Y2 := Lib.hid (t5.row (by omega) (k5.row (t4.row (by omega) (k4.row (t3.row (by omega) (k3.row (t2.row (by omega) (k2.row R2.out))))))))
              go_upto_region 6 with fail
              refine wp_region_steps0 NewT [SV.eq (.agg (rowA 109 (recF ({ x with com := comB x, gone := true, salt := fun _ => 0 }) sv (.slice none 0 0))))] [([(1, none)], none)] 18 1 rfl rfl (by kernel_rfl) NewT.trans (NewT.refl _) (Nat.le_of_ble_eq_true rfl) ⟨?_, trivial⟩ ?_
              · intro a wx hT hF K hK
                obtain ⟨f1, _⟩ := hF
                have f1 : a.tmps.getD 1 undef = .pointer (some ⟨w.heap.size, 0, none⟩) := f1
                refine rely_wp rfl ?_
                exact opr_ldR (hT.row r5) rfl f1 (hK _ _ (NewT.refl _) rfl)
              · intro wf hf
                intro u h; obtain rfl := Eq.symm (h (by simp)); clear h
                refine relyEnd_nil rfl ?_
                simp only [Act.put, List.setIfInBounds_toArray, List.set_cons_zero, List.set_cons_succ]
                refine wpList_plain rfl (fun K hK => ?_)
                refine opr_putm rfl rfl rfl (hf.row Y2.out) (by decide) info_rec (recF_one _ _ _ oneS rfl) (put_all _ _) ?_
                intro wq hTq rq
                refine hK _ _ ?_
                refine wpList_end rfl ?_
                go_simp
                go_wp2
                have hNq : NewT w wq := (NewT.trans _ _ _ (HN5.out) hf).rt hTq (by omega)
                refine bodyPost_ret (results_agg rfl _ rfl rq Tryd.underlying27 rfl info_rec) rfl ⟨_, rfl, hNq, ?_⟩
                rw [HO.out]
                exact ⟨sv, (.slice none 0 0), rfl, hNq.pairs hs, rdV_nil _ _⟩
end Go.Proofs.YthgblcpekhiphaaDoor
/- RecRight, walked: whether every record is right, its commitment, what it is redacted, and which records are the same, are the document's. -/
namespace Go.Proofs.YthgblcpekhiphaaDoor
open Go Go.RowKit
set_option maxRecDepth 8000
set_option linter.all false
theorem same_refl (x : Rc) : sameB x x = true := (sameB_iff _ _).2 ⟨rfl, rfl, rfl, rfl, rfl, rfl, rfl, rfl, rfl, rfl, rfl, rfl, rfl, rfl, rfl, rfl⟩
theorem red_len (x : Rc) (h : x.data.length ≤ 1000000) : (redactB x).data.length ≤ 1000000 := by unfold redactB; split; simp; exact h
set_option maxHeartbeats 4000000 in
theorem RecRight_walk (v1 v2 : Value) (x y : Rc) (w : World) (hT : Tables w) (h1 : RecV w v1 x) (h2 : RecV w v2 y) :
    Calls Tryd.prog 3 #[v1, v2] w fun e w' => e = .returned (.bool true) ∧ Below w.heap.size w w' := by
  obtain ⟨sv, dv, rfl, hs, hd⟩ := h1
  obtain ⟨su, du, rfl, hu, he⟩ := h2
  go_enter Tryd.func3, Tryd.ntmps3
  go_upto_region 1 with fail
  have r1 := (rowIs_box w 27 109 (recF x sv dv)).alloc (.cells (rowA 109 (recF y su du)) 27)
  have r2 := rowIs_box (w.alloc (.cells (rowA 109 (recF x sv dv)) 27)) 27 109 (recF y su du)
  have hN : NewT w ((w.alloc (.cells (rowA 109 (recF x sv dv)) 27)).alloc (.cells (rowA 109 (recF y su du)) 27)) := NewT.trans _ _ _ (NewT.alloc _ _) (NewT.alloc _ _)
  rw [World.size_alloc] at r2
  change Code.wp _ _ _ _ ((w.alloc (.cells (rowA 109 (recF x sv dv)) 27)).alloc (.cells (rowA 109 (recF y su du)) 27))
  generalize (w.alloc (.cells (rowA 109 (recF x sv dv)) 27)).alloc (.cells (rowA 109 (recF y su du)) 27) = W0 at r1 r2 hN ⊢
  have HX : Hid (RecV W0 (.agg (rowA 109 (recF x sv dv))) x) := Lib.hid ⟨sv, dv, rfl, hN.pairs hs, hN.rd hd⟩
  have HY : Hid (RecV W0 (.agg (rowA 109 (recF y su du))) y) := Lib.hid ⟨su, du, rfl, hN.pairs hu, hN.rd he⟩
  have R1 := Lib.hid r1
  have R2 := Lib.hid r2
  have HN := Lib.hid hN
  have HT := Lib.hid (hN.tables hT)
  clear hs hd hu he r1 r2 hN hT
  refine wp_region_steps0 NewT [SV.eq (.bool true), SV.eq (.bool false)] [([], none), ([(5, some 0)], none)] 41 2 rfl rfl (by kernel_rfl) NewT.trans (NewT.refl _) (Nat.le_of_ble_eq_true rfl) ⟨?_, ?_, trivial⟩ ?_
  · intro a wx hT hF K hK
    refine rely_wp rfl ?_
    exact opr_cv (alive4_cv wx (hT.tables HT.out)) rfl Tryd.func9 (by kernel_rfl) (by kernel_rfl) (by simp only [List.map_toArray, List.map_nil]) hK
  · intro a wx hT hF K hK
    obtain ⟨f5, _⟩ := hF
    have f5 : a.tmps.getD 5 undef = .bool true := f5
    refine rely_wp rfl ?_
    exact opr_not rfl f5 (hK _ _ (NewT.refl _) rfl)
  · intro w1 k1
    intro u h; obtain rfl := Eq.symm (h (by simp)); clear h
    intro u h; obtain rfl := Eq.symm (h (by simp)); clear h
    refine relyEnd_nil rfl ?_
    refine wpList_end rfl ?_
    simp only [Act.put, List.setIfInBounds_toArray, List.set_cons_zero, List.set_cons_succ]
    go_simp
    replace R1 := Lib.hid (k1.row R1.out)
    replace R2 := Lib.hid (k1.row R2.out)
    replace HX := Lib.hid (k1.recV HX.out)
    replace HY := Lib.hid (k1.recV HY.out)
    replace HT := Lib.hid (k1.tables HT.out)
    replace HN := Lib.hid (NewT.trans _ _ _ HN.out k1)
    clear k1
    go_upto_region 3 with fail
    refine wp_region_steps0 NewT [SV.eq (.agg (rowA 109 (recF x sv dv))), SV.eq (.bool (greatB x)), SV.eq (.bool (greatB x)), svIf ((!(greatB x))) (SV.eq (.agg (rowA 109 (recF y su du)))), svIf ((!(greatB x))) (SV.eq (.bool (greatB y))), SV.eq (.bool ((greatB x) || (greatB y)))] [([(2, none)], none), ([(7, some 0)], none), ([(8, some 1)], none), ([(3, none), (9, some 2)], some (9, false)), ([(10, some 3), (9, some 2)], some (9, false)), ([(9, some 2), (11, some 4)], none)] 41 6 rfl rfl (by kernel_rfl) NewT.trans (NewT.refl _) (Nat.le_of_ble_eq_true rfl) ⟨?_, ?_, ?_, ?_, ?_, ?_, trivial⟩ ?_
    · intro a wx hT hF K hK
      obtain ⟨f2, _⟩ := hF
      have f2 : a.tmps.getD 2 undef = .pointer (some ⟨w.heap.size, 0, none⟩) := f2
      refine rely_wp rfl ?_
      exact opr_ldR (hT.row R1.out) rfl f2 (hK _ _ (NewT.refl _) rfl)
    · intro a wx hT hF K hK
      obtain ⟨f7, _⟩ := hF
      have f7 : a.tmps.getD 7 undef = .agg (rowA 109 (recF x sv dv)) := f7
      refine rely_wp rfl ?_
      exact opr_cv (Great_cv _ x wx (hT.recV HX.out)) rfl Tryd.func10 (by kernel_rfl) (by kernel_rfl) (by simp only [List.map_toArray, List.map_cons, List.map_nil, eval_tmp, f7]) hK
    · intro a wx hT hF K hK
      obtain ⟨f8, _⟩ := hF
      have f8 : a.tmps.getD 8 undef = .bool (greatB x) := f8
      refine rely_wp rfl ?_
      exact opr_move (.inl rfl) (hK _ _ (NewT.refl _) f8)
    · intro a wx hT hF K hK
      obtain ⟨f3, f9, _⟩ := hF
      have f3 : a.tmps.getD 3 undef = .pointer (some ⟨w.heap.size + 1, 0, none⟩) := f3
      have f9 : a.tmps.getD 9 undef = .bool (greatB x) := f9
      refine rely_if (rely_gf f9) (NewT.refl _) hK (fun hE hK => ?_)
      exact opr_ldR (hT.row R2.out) rfl f3 (hK _ _ (NewT.refl _) rfl)
    · intro a wx hT hF K hK
      obtain ⟨f10, f9, _⟩ := hF
      have f10 : ((!(greatB x))) = true → a.tmps.getD 10 undef = .agg (rowA 109 (recF y su du)) := f10
      have f9 : a.tmps.getD 9 undef = .bool (greatB x) := f9
      refine rely_if (rely_gf f9) (NewT.refl _) hK (fun hE hK => ?_)
      exact opr_cv (Great_cv _ y wx (hT.recV HY.out)) rfl Tryd.func10 (by kernel_rfl) (by kernel_rfl) (by simp only [List.map_toArray, List.map_cons, List.map_nil, eval_tmp, (f10 hE)]) hK
    · intro a wx hT hF K hK
      obtain ⟨f9, f11, _⟩ := hF
      have f9 : a.tmps.getD 9 undef = .bool (greatB x) := f9
      have f11 : ((!(greatB x))) = true → a.tmps.getD 11 undef = .bool (greatB y) := f11
      refine rely_wp rfl ?_
      exact opr_pick_b rfl f9 (fun hb => hK _ _ (NewT.refl _) (pk_or1 hb)) (fun hb => hK _ _ (NewT.refl _) (pk_or0 (f11 (bnot hb)) hb))
    · intro w3 k3
      intro u h; obtain rfl := Eq.symm (h (by simp)); clear h
      intro u h; obtain rfl := Eq.symm (h (by simp)); clear h
      intro u h; obtain rfl := Eq.symm (h (by simp)); clear h
      intro _ _
      intro _ _
      intro u h; obtain rfl := Eq.symm (h (by simp)); clear h
      refine relyEnd_nil rfl ?_
      refine wpList_end rfl ?_
      simp only [Act.put, List.setIfInBounds_toArray, List.set_cons_zero, List.set_cons_succ]
      go_simp
      replace R1 := Lib.hid (k3.row R1.out)
      replace R2 := Lib.hid (k3.row R2.out)
      replace HX := Lib.hid (k3.recV HX.out)
      replace HY := Lib.hid (k3.recV HY.out)
      replace HT := Lib.hid (k3.tables HT.out)
      replace HN := Lib.hid (NewT.trans _ _ _ HN.out k3)
      clear k3
      cases hb : (greatB x || greatB y)
      · simp only [Bool.or_eq_false_iff] at hb
        have g1 := not_great x hb.1
        have g2 := not_great y hb.2
        have HLx : Hid (x.data.length ≤ 900000 ∧ x.steps.length ≤ 900000) := Lib.hid (by omega)
        have HLy : Hid (y.data.length ≤ 900000 ∧ y.steps.length ≤ 900000) := Lib.hid (by omega)
        have HLx2 : Hid (x.data.length ≤ 1000000) := Lib.hid (by omega)
        have HLy2 : Hid (y.data.length ≤ 1000000) := Lib.hid (by omega)
        have HLr := Lib.hid (red_len x HLx2.out)
        have HSR := Lib.hid (same_refl (redactB x))
        clear hb g1 g2
        go_upto_region 5 with fail
        refine wp_region_rely NewT [SV.eq (.agg (rowA 109 (recF x sv dv))), SV.eq (.bool (rightB x)), SV.eq (.agg (rowA 109 (recF x sv dv))), SV.eq (.bool (rightB x)), SV.eq (.bool true), SV.eq (.bool true), SV.eq (.agg (rowA 109 (recF x sv dv))), SV.eq (.agg (rowA 32 (bF (comB x)))), SV.eq (.agg (rowA 109 (recF x sv dv))), SV.eq (.agg (rowA 32 (bF (comB x)))), SV.eq (.bool true), SV.eq (.bool true), SV.eq (.bool true), SV.eq (.agg (rowA 109 (recF x sv dv))), svRec (redactB x), SV.eq (.agg (rowA 109 (recF x sv dv))), svRec (redactB x), SV.eq (.bool true), SV.eq (.bool true), SV.eq (.bool true), SV.eq (.agg (rowA 109 (recF x sv dv))), SV.eq (.agg (rowA 109 (recF y su du))), SV.eq (.bool (sameB x y)), SV.eq (.agg (rowA 109 (recF x sv dv))), SV.eq (.agg (rowA 109 (recF y su du))), SV.eq (.bool (sameB x y)), SV.eq (.bool true), SV.eq (.bool true)] [([(2, none)], none), ([(13, some 0)], none), ([(2, none)], none), ([(15, some 2)], none), ([(14, some 1), (16, some 3)], none), ([(17, some 4)], none), ([(2, none), (18, some 5)], some (18, true)), ([(19, some 6), (18, some 5)], some (18, true)), ([(2, none), (18, some 5)], some (18, true)), ([(21, some 8), (18, some 5)], some (18, true)), ([(20, some 7), (22, some 9), (18, some 5)], some (18, true)), ([(18, some 5), (23, some 10)], none), ([(24, some 11)], none), ([(2, none), (25, some 12)], some (25, true)), ([(26, some 13), (25, some 12)], some (25, true)), ([(2, none), (25, some 12)], some (25, true)), ([(28, some 15), (25, some 12)], some (25, true)), ([(27, some 14), (29, some 16), (25, some 12)], some (25, true)), ([(25, some 12), (30, some 17)], none), ([(31, some 18)], none), ([(2, none), (32, some 19)], some (32, true)), ([(3, none), (32, some 19)], some (32, true)), ([(33, some 20), (34, some 21), (32, some 19)], some (32, true)), ([(2, none), (32, some 19)], some (32, true)), ([(3, none), (32, some 19)], some (32, true)), ([(36, some 23), (37, some 24), (32, some 19)], some (32, true)), ([(35, some 22), (38, some 25), (32, some 19)], some (32, true)), ([(32, some 19), (39, some 26)], none)] 41 rfl (by kernel_rfl) rfl (by kernel_rfl) (by kernel_rfl) rfl NewT.trans (NewT.drew _) (Nat.le_of_ble_eq_true rfl) ⟨?_, ?_, ?_, ?_, ?_, ?_, ?_, ?_, ?_, ?_, ?_, ?_, ?_, ?_, ?_, ?_, ?_, ?_, ?_, ?_, ?_, ?_, ?_, ?_, ?_, ?_, ?_, ?_, trivial⟩ ?_
        · intro a wx hT hF K hK
          obtain ⟨f2, _⟩ := hF
          have f2 : a.tmps.getD 2 undef = .pointer (some ⟨w.heap.size, 0, none⟩) := f2
          refine rely_wp rfl ?_
          exact opr_ldR (hT.row R1.out) rfl f2 (hK _ _ (NewT.refl _) rfl)
        · intro a wx hT hF K hK
          obtain ⟨f13, _⟩ := hF
          have f13 : a.tmps.getD 13 undef = .agg (rowA 109 (recF x sv dv)) := f13
          refine rely_wp rfl ?_
          exact opr_cv (Right_cv _ x wx (hT.recV HX.out)) rfl Tryd.func11 (by kernel_rfl) (by kernel_rfl) (by simp only [List.map_toArray, List.map_cons, List.map_nil, eval_tmp, f13]) hK
        · intro a wx hT hF K hK
          obtain ⟨f2, _⟩ := hF
          have f2 : a.tmps.getD 2 undef = .pointer (some ⟨w.heap.size, 0, none⟩) := f2
          refine rely_wp rfl ?_
          exact opr_ldR (hT.row R1.out) rfl f2 (hK _ _ (NewT.refl _) rfl)
        · intro a wx hT hF K hK
          obtain ⟨f15, _⟩ := hF
          have f15 : a.tmps.getD 15 undef = .agg (rowA 109 (recF x sv dv)) := f15
          refine rely_wp rfl ?_
          exact opr_cv (RRight_cv _ x wx (hT.recV HX.out)) rfl Tryd.func12 (by kernel_rfl) (by kernel_rfl) (by simp only [List.map_toArray, List.map_cons, List.map_nil, eval_tmp, f15]) hK
        · intro a wx hT hF K hK
          obtain ⟨f14, f16, _⟩ := hF
          have f14 : a.tmps.getD 14 undef = .bool (rightB x) := f14
          have f16 : a.tmps.getD 16 undef = .bool (rightB x) := f16
          refine rely_wp rfl ?_
          exact opr_eqlQ (b := true) (by cases rightB x <;> rfl) rfl f14 f16 (hK _ _ (NewT.refl _) rfl)
        · intro a wx hT hF K hK
          obtain ⟨f17, _⟩ := hF
          have f17 : a.tmps.getD 17 undef = .bool true := f17
          refine rely_wp rfl ?_
          exact opr_move (.inl rfl) (hK _ _ (NewT.refl _) f17)
        · intro a wx hT hF K hK
          obtain ⟨f2, f18, _⟩ := hF
          have f2 : a.tmps.getD 2 undef = .pointer (some ⟨w.heap.size, 0, none⟩) := f2
          have f18 : a.tmps.getD 18 undef = .bool true := f18
          refine rely_wp (rely_guard f18) ?_
          exact opr_ldR (hT.row R1.out) rfl f2 (hK _ _ (NewT.refl _) rfl)
        · intro a wx hT hF K hK
          obtain ⟨f19, f18, _⟩ := hF
          have f19 : a.tmps.getD 19 undef = .agg (rowA 109 (recF x sv dv)) := f19
          have f18 : a.tmps.getD 18 undef = .bool true := f18
          refine rely_wp (rely_guard f18) ?_
          exact opr_cv (Com_cv _ x wx (hT.recV HX.out) (hT.tables HT.out)) rfl Tryd.func13 (by kernel_rfl) (by kernel_rfl) (by simp only [List.map_toArray, List.map_cons, List.map_nil, eval_tmp, f19]) hK
        · intro a wx hT hF K hK
          obtain ⟨f2, f18, _⟩ := hF
          have f2 : a.tmps.getD 2 undef = .pointer (some ⟨w.heap.size, 0, none⟩) := f2
          have f18 : a.tmps.getD 18 undef = .bool true := f18
          refine rely_wp (rely_guard f18) ?_
          exact opr_ldR (hT.row R1.out) rfl f2 (hK _ _ (NewT.refl _) rfl)
        · intro a wx hT hF K hK
          obtain ⟨f21, f18, _⟩ := hF
          have f21 : a.tmps.getD 21 undef = .agg (rowA 109 (recF x sv dv)) := f21
          have f18 : a.tmps.getD 18 undef = .bool true := f18
          refine rely_wp (rely_guard f18) ?_
          exact opr_cv (RCom_cv _ x wx (hT.recV HX.out) (hT.tables HT.out)) rfl Tryd.func14 (by kernel_rfl) (by kernel_rfl) (by simp only [List.map_toArray, List.map_cons, List.map_nil, eval_tmp, f21]) hK
        · intro a wx hT hF K hK
          obtain ⟨f20, f22, f18, _⟩ := hF
          have f20 : a.tmps.getD 20 undef = .agg (rowA 32 (bF (comB x))) := f20
          have f22 : a.tmps.getD 22 undef = .agg (rowA 32 (bF (comB x))) := f22
          have f18 : a.tmps.getD 18 undef = .bool true := f18
          refine rely_wp (rely_guard f18) ?_
          exact opr_eql_hash (b := true) rfl f20 f22 (eqH_same _) (hK _ _ (NewT.refl _) rfl)
        · intro a wx hT hF K hK
          obtain ⟨f18, f23, _⟩ := hF
          have f18 : a.tmps.getD 18 undef = .bool true := f18
          have f23 : a.tmps.getD 23 undef = .bool true := f23
          refine rely_wp rfl ?_
          exact opr_pick_true rfl f18 (hK _ _ (NewT.refl _) f23)
        · intro a wx hT hF K hK
          obtain ⟨f24, _⟩ := hF
          have f24 : a.tmps.getD 24 undef = .bool true := f24
          refine rely_wp rfl ?_
          exact opr_move (.inl rfl) (hK _ _ (NewT.refl _) f24)
        · intro a wx hT hF K hK
          obtain ⟨f2, f25, _⟩ := hF
          have f2 : a.tmps.getD 2 undef = .pointer (some ⟨w.heap.size, 0, none⟩) := f2
          have f25 : a.tmps.getD 25 undef = .bool true := f25
          refine rely_wp (rely_guard f25) ?_
          exact opr_ldR (hT.row R1.out) rfl f2 (hK _ _ (NewT.refl _) rfl)
        · intro a wx hT hF K hK
          obtain ⟨f26, f25, _⟩ := hF
          have f26 : a.tmps.getD 26 undef = .agg (rowA 109 (recF x sv dv)) := f26
          have f25 : a.tmps.getD 25 undef = .bool true := f25
          refine rely_wp (rely_guard f25) ?_
          exact opr_cv (Redact_cv _ x wx (hT.recV HX.out) (hT.tables HT.out) HLx.out) rfl Tryd.func16 (by kernel_rfl) (by kernel_rfl) (by simp only [List.map_toArray, List.map_cons, List.map_nil, eval_tmp, f26]) hK
        · intro a wx hT hF K hK
          obtain ⟨f2, f25, _⟩ := hF
          have f2 : a.tmps.getD 2 undef = .pointer (some ⟨w.heap.size, 0, none⟩) := f2
          have f25 : a.tmps.getD 25 undef = .bool true := f25
          refine rely_wp (rely_guard f25) ?_
          exact opr_ldR (hT.row R1.out) rfl f2 (hK _ _ (NewT.refl _) rfl)
        · intro a wx hT hF K hK
          obtain ⟨f28, f25, _⟩ := hF
          have f28 : a.tmps.getD 28 undef = .agg (rowA 109 (recF x sv dv)) := f28
          have f25 : a.tmps.getD 25 undef = .bool true := f25
          refine rely_wp (rely_guard f25) ?_
          exact opr_cv (RRedact_cv _ x wx (hT.recV HX.out) (hT.tables HT.out)) rfl Tryd.func17 (by kernel_rfl) (by kernel_rfl) (by simp only [List.map_toArray, List.map_cons, List.map_nil, eval_tmp, f28]) hK
        · intro a wx hT hF K hK
          obtain ⟨f27, f29, f25, _⟩ := hF
          replace f27 := show (svRec (redactB x)).pred (a.tmps.getD 27 undef) wx from f27
          replace f29 := show (svRec (redactB x)).pred (a.tmps.getD 29 undef) wx from f29
          have f25 : a.tmps.getD 25 undef = .bool true := f25
          refine rely_wp (rely_guard f25) ?_
          exact opr_cv ((HSR.out ▸ RSame_cv _ _ (redactB x) (redactB x) wx f27 f29 HLr.out HLr.out)) rfl Tryd.func15 (by kernel_rfl) (by kernel_rfl) (by simp only [List.map_toArray, List.map_cons, List.map_nil, eval_tmp]) hK
        · intro a wx hT hF K hK
          obtain ⟨f25, f30, _⟩ := hF
          have f25 : a.tmps.getD 25 undef = .bool true := f25
          have f30 : a.tmps.getD 30 undef = .bool true := f30
          refine rely_wp rfl ?_
          exact opr_pick_true rfl f25 (hK _ _ (NewT.refl _) f30)
        · intro a wx hT hF K hK
          obtain ⟨f31, _⟩ := hF
          have f31 : a.tmps.getD 31 undef = .bool true := f31
          refine rely_wp rfl ?_
          exact opr_move (.inl rfl) (hK _ _ (NewT.refl _) f31)
        · intro a wx hT hF K hK
          obtain ⟨f2, f32, _⟩ := hF
          have f2 : a.tmps.getD 2 undef = .pointer (some ⟨w.heap.size, 0, none⟩) := f2
          have f32 : a.tmps.getD 32 undef = .bool true := f32
          refine rely_wp (rely_guard f32) ?_
          exact opr_ldR (hT.row R1.out) rfl f2 (hK _ _ (NewT.refl _) rfl)
        · intro a wx hT hF K hK
          obtain ⟨f3, f32, _⟩ := hF
          have f3 : a.tmps.getD 3 undef = .pointer (some ⟨w.heap.size + 1, 0, none⟩) := f3
          have f32 : a.tmps.getD 32 undef = .bool true := f32
          refine rely_wp (rely_guard f32) ?_
          exact opr_ldR (hT.row R2.out) rfl f3 (hK _ _ (NewT.refl _) rfl)
        · intro a wx hT hF K hK
          obtain ⟨f33, f34, f32, _⟩ := hF
          have f33 : a.tmps.getD 33 undef = .agg (rowA 109 (recF x sv dv)) := f33
          have f34 : a.tmps.getD 34 undef = .agg (rowA 109 (recF y su du)) := f34
          have f32 : a.tmps.getD 32 undef = .bool true := f32
          refine rely_wp (rely_guard f32) ?_
          exact opr_cv (Same_cv _ _ x y wx (hT.recV HX.out) (hT.recV HY.out)) rfl Tryd.func18 (by kernel_rfl) (by kernel_rfl) (by simp only [List.map_toArray, List.map_cons, List.map_nil, eval_tmp, f33, f34]) hK
        · intro a wx hT hF K hK
          obtain ⟨f2, f32, _⟩ := hF
          have f2 : a.tmps.getD 2 undef = .pointer (some ⟨w.heap.size, 0, none⟩) := f2
          have f32 : a.tmps.getD 32 undef = .bool true := f32
          refine rely_wp (rely_guard f32) ?_
          exact opr_ldR (hT.row R1.out) rfl f2 (hK _ _ (NewT.refl _) rfl)
        · intro a wx hT hF K hK
          obtain ⟨f3, f32, _⟩ := hF
          have f3 : a.tmps.getD 3 undef = .pointer (some ⟨w.heap.size + 1, 0, none⟩) := f3
          have f32 : a.tmps.getD 32 undef = .bool true := f32
          refine rely_wp (rely_guard f32) ?_
          exact opr_ldR (hT.row R2.out) rfl f3 (hK _ _ (NewT.refl _) rfl)
        · intro a wx hT hF K hK
          obtain ⟨f36, f37, f32, _⟩ := hF
          have f36 : a.tmps.getD 36 undef = .agg (rowA 109 (recF x sv dv)) := f36
          have f37 : a.tmps.getD 37 undef = .agg (rowA 109 (recF y su du)) := f37
          have f32 : a.tmps.getD 32 undef = .bool true := f32
          refine rely_wp (rely_guard f32) ?_
          exact opr_cv (RSame_cv _ _ x y wx (hT.recV HX.out) (hT.recV HY.out) HLx2.out HLy2.out) rfl Tryd.func15 (by kernel_rfl) (by kernel_rfl) (by simp only [List.map_toArray, List.map_cons, List.map_nil, eval_tmp, f36, f37]) hK
        · intro a wx hT hF K hK
          obtain ⟨f35, f38, f32, _⟩ := hF
          have f35 : a.tmps.getD 35 undef = .bool (sameB x y) := f35
          have f38 : a.tmps.getD 38 undef = .bool (sameB x y) := f38
          have f32 : a.tmps.getD 32 undef = .bool true := f32
          refine rely_wp (rely_guard f32) ?_
          exact opr_eqlQ (b := true) (by cases sameB x y <;> rfl) rfl f35 f38 (hK _ _ (NewT.refl _) rfl)
        · intro a wx hT hF K hK
          obtain ⟨f32, f39, _⟩ := hF
          have f32 : a.tmps.getD 32 undef = .bool true := f32
          have f39 : a.tmps.getD 39 undef = .bool true := f39
          refine rely_wp rfl ?_
          exact opr_pick_true rfl f32 (hK _ _ (NewT.refl _) f39)
        · intro w5 k5
          intro u h; obtain rfl := Eq.symm (h (by simp)); clear h
          intro u h; obtain rfl := Eq.symm (h (by simp)); clear h
          intro u h; obtain rfl := Eq.symm (h (by simp)); clear h
          intro u h; obtain rfl := Eq.symm (h (by simp)); clear h
          intro u h; obtain rfl := Eq.symm (h (by simp)); clear h
          intro u h; obtain rfl := Eq.symm (h (by simp)); clear h
          intro u h; obtain rfl := Eq.symm (h (by simp)); clear h
          intro u h; obtain rfl := Eq.symm (h (by simp)); clear h
          intro u h; obtain rfl := Eq.symm (h (by simp)); clear h
          intro u h; obtain rfl := Eq.symm (h (by simp)); clear h
          intro u h; obtain rfl := Eq.symm (h (by simp)); clear h
          intro u h; obtain rfl := Eq.symm (h (by simp)); clear h
          intro u h; obtain rfl := Eq.symm (h (by simp)); clear h
          intro u h; obtain rfl := Eq.symm (h (by simp)); clear h
          intro _ _
          intro u h; obtain rfl := Eq.symm (h (by simp)); clear h
          intro _ _
          intro u h; obtain rfl := Eq.symm (h (by simp)); clear h
          intro u h; obtain rfl := Eq.symm (h (by simp)); clear h
          intro u h; obtain rfl := Eq.symm (h (by simp)); clear h
          intro u h; obtain rfl := Eq.symm (h (by simp)); clear h
          intro u h; obtain rfl := Eq.symm (h (by simp)); clear h
          intro u h; obtain rfl := Eq.symm (h (by simp)); clear h
          intro u h; obtain rfl := Eq.symm (h (by simp)); clear h
          intro u h; obtain rfl := Eq.symm (h (by simp)); clear h
          intro u h; obtain rfl := Eq.symm (h (by simp)); clear h
          intro u h; obtain rfl := Eq.symm (h (by simp)); clear h
          intro u h; obtain rfl := Eq.symm (h (by simp)); clear h
          refine relyEnd_nil rfl ?_
          simp only [Act.put, List.setIfInBounds_toArray, List.set_cons_zero, List.set_cons_succ]
          refine opr_move (.inr rfl) ?_
          go_simp
          go_wp2
          go_ret
          exact ⟨rfl, (NewT.trans _ _ _ HN.out k5).out⟩
      · go_wp2
        go_ret
        exact ⟨rfl, HN.out.out⟩
end Go.Proofs.YthgblcpekhiphaaDoor
/- The two tables, out of the rows' own condition; the row's last step where the world has new blocks alone; the shapes of the arguments. -/
namespace Go.Proofs.YthgblcpekhiphaaDoor
open Go.ChangeShapes Go.WideShapes Go.ChangeAt Go.WideMaps Go.WideElems Go.RowKit
set_option maxRecDepth 8000

theorem gK : Tryd.prog.globalNamed "inspeximus/api.K" = some 1 := by kernel_rfl
theorem gF : Tryd.prog.globalNamed "inspeximus/api.First" = some 0 := by kernel_rfl
theorem tK : (Tryd.prog.globals[1]?).map (·.type) = some 94 := by kernel_rfl
theorem tF : (Tryd.prog.globals[0]?).map (·.type) = some 76 := by kernel_rfl
def laid2 : List (String × DataW Unit) := [("inspeximus/api.K", Rows.laid_inspeximus_api_K), ("inspeximus/api.First", Rows.laid_inspeximus_api_First)]
def kInts : List Int := kTab.map fun (n : Nat) => (n : Int)
def fInts : List Int := fTab.map fun (n : Nat) => (n : Int)
theorem tables_of_laid {W : World} (h : laidMetH Tryd.prog laid2 W) : Tables W := by
  rw [MakeChecks.laidMetH_plain _ _ _ (by kernel_rfl)] at h
  have hK : Lib.TabIs Tryd.prog W "inspeximus/api.K" .u32 kInts := Lib.tabIs_of_head gK tK Tryd.underlying94 Tryd.underlying75 (by kernel_rfl) (by kernel_rfl) h
  have hF : Lib.TabIs Tryd.prog W "inspeximus/api.First" .u32 fInts := Lib.tabIs_of_head gF tF Tryd.underlying76 Tryd.underlying75 (by kernel_rfl) (by kernel_rfl) (laidMet.tail h)
  have hs : 1 < W.heap.size := World.block_lt_of_cell? _ _ (hK.cell gK 0 (by decide))
  refine ⟨hs, fun i hi => ?_, fun i hi => ?_⟩
  · rw [hK.cell gK i (by simpa [kInts, kTab] using hi)]
    have h : ∀ i : Fin 64, kInts.getD i.val 0 = uN (Kc i.val) := by decide +kernel
    rw [h ⟨i, hi⟩]
  · rw [hF.cell gF i (by simpa [fInts, fTab] using hi)]
    have h : ∀ i : Fin 8, fInts.getD i.val 0 = uN (Fc i.val) := by decide +kernel
    rw [h ⟨i, hi⟩]
/-- The door's own heap meets the condition. -/
theorem door_met (os : Os) (args : Array Value) : laidMetH Tryd.prog laid2 ((World.doorLaid Tryd.prog 400 os).forCall (fun _ _ => 0) ⟨#[], args, []⟩).memory :=
  laidMetH_of_parts3 (fuel := 8) (laidMet_of_run' 8 (by kernel_rfl) (by kernel_rfl)) (by kernel_rfl) (by kernel_rfl)
end Go.Proofs.YthgblcpekhiphaaDoor
/- (all of it lies in EP now) -/
/- The laws' arguments, opened: arrays of numbers by value, slices of bytes. -/
namespace Go.Proofs.YthgblcpekhiphaaDoor
open Go.ChangeShapes Go.WideShapes Go.ChangeAt Go.WideMaps Go.WideElems Go.RowKit
set_option maxRecDepth 8000

end Go.Proofs.YthgblcpekhiphaaDoor
