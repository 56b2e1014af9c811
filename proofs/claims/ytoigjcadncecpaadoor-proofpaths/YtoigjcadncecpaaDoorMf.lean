/- Package sha, more: blocks of a text, one by one. -/
import Derived.Test.YtoigjcadncecpaaDoorMa
import Derived.Test.YtoigjcadncecpaaDoorMd
import Derived.Test.YtoigjcadncecpaaDoorMb
import Derived.Test.YtoigjcadncecpaaDoorMe
set_option linter.all false
namespace Go.Proofs.YtoigjcadncecpaaDoor
open Go.RowKit
set_option maxRecDepth 8000
set_option linter.all false
attribute [local go_sem] uF_at
set_option maxHeartbeats 1000000 in
/-- A block that hasn't 64 bytes turns nothing. -/
theorem Turn_no (s : Nat → BitVec 32) (A : Option Addr) (n cap : Nat) (hn : n ≠ 64) (w : World) :
    Calls Tryd.prog 52 #[.agg (rowA 8 (uF s)), .slice A n cap] w fun e w' => e = .returned (.agg (rowA 8 (uF s))) ∧ Below w.heap.size w w' := by
  have hn2 : ((n : Int) == 64) = false := by simp; omega
  have r0 := (rowIs_box w 65 8 (uF s)).alloc (.cells (rowA 8 fun _ => .int .u32 0) 65)
  have r1 := rowIs_box (w.alloc (.cells (rowA 8 (uF s)) 65)) 65 8 fun _ => .int .u32 0
  have hB : Below w.heap.size w ((w.alloc (.cells (rowA 8 (uF s)) 65)).alloc (.cells (rowA 8 fun _ => .int .u32 0) 65)) :=
    ((Below.refl _ w).alloc (Nat.le_refl _) _).alloc (by simp) _
  rw [World.size_alloc] at r1
  have hR := rangeAt_row r0
  go_enter Tryd.func52, Tryd.ntmps52
  go_wp2_with (first
    | (refine wpList_load_mid rfl 65 (.tmp 2) rfl w.heap.size 0 rfl (rowA 8 (uF s)).toList _ hR Tryd.underlying65 rfl (by rw [rowA_toList]; simpa using info23) ?_)
    | (refine wpList_store_mid rfl 65 (.tmp 4) (.tmp 10) rfl (w.heap.size + 1) 0 (rowA 8 (uF s)) rfl rfl (by rw [rowA_size]; exact there_row r1) (by rw [rowA_size]; exact info23) (rowA_one _ _ fun _ => rfl) ?_))
  exact bodyPost_ret (results_row rfl _ rfl (rowIs_setAll r1 (uF s)) Tryd.underlying65 info23) rfl ⟨rfl, below_setCells _ (by omega) _ _ _ hB⟩
theorem word_back (x : BitVec 32) : (((((x >>> 24).setWidth 8).setWidth 32 <<< 24) ||| (((x >>> 16).setWidth 8).setWidth 32 <<< 16)) ||| (((x >>> 8).setWidth 8).setWidth 32 <<< 8)) ||| ((x >>> 0).setWidth 8).setWidth 32 = x := by
  apply BitVec.eq_of_getLsbD_eq
  intro i hi
  simp only [BitVec.getLsbD_or, BitVec.getLsbD_shiftLeft, BitVec.getLsbD_setWidth, BitVec.getLsbD_ushiftRight]
  by_cases h1 : i < 8
  · simp [h1, show i < 16 by omega, show i < 24 by omega, hi]
  · by_cases h2 : i < 16
    · simp [h1, h2, show i < 24 by omega, hi, show i - 8 < 8 by omega, show i - 8 < 32 by omega, show 8 + (i - 8) = i by omega]
    · by_cases h3 : i < 24
      · simp [h1, h2, h3, hi, show i - 16 < 8 by omega, show ¬ i - 8 < 8 by omega, show i - 16 < 32 by omega, show 16 + (i - 16) = i by omega]
      · simp [h1, h2, h3, hi, show i - 24 < 8 by omega, show ¬ i - 8 < 8 by omega, show ¬ i - 16 < 8 by omega, show i - 24 < 32 by omega, show 24 + (i - 24) = i by omega]
theorem dig_word (S : Nat → BitVec 32) (i : Nat) :
    ((((dig S (4 * i)).toBitVec.setWidth 32 <<< 24) ||| ((dig S (4 * i + 1)).toBitVec.setWidth 32 <<< 16)) ||| ((dig S (4 * i + 2)).toBitVec.setWidth 32 <<< 8)) ||| (dig S (4 * i + 3)).toBitVec.setWidth 32 = S i := by
  unfold dig
  rw [show 4 * i / 4 = i by omega, show (4 * i + 1) / 4 = i by omega, show (4 * i + 2) / 4 = i by omega, show (4 * i + 3) / 4 = i by omega,
    show 4 * i % 4 = 0 by omega, show (4 * i + 1) % 4 = 1 by omega, show (4 * i + 2) % 4 = 2 by omega, show (4 * i + 3) % 4 = 3 by omega]
  exact word_back (S i)
theorem slice_blk (b o n cap j : Nat) (h : j + 64 ≤ cap) (w : World) : (Instr.slice 59 (.slice (some ⟨b, o, none⟩) n cap) (some (.int .i64 (j : Int))) (some (.int .i64 ((j : Int) + 64))) none).run Tryd.prog w = .ok (.slice (some ⟨b, o + j, none⟩) 64 (cap - j)) w := by
  have hsz : (sizeOf 5).run Tryd.prog w = .ok 1 w := by
    obtain ⟨i0, hi, _, hz1, _⟩ := info_parts info5
    simp [sizeOf, typeInfo, hi, hz1]
  have h3 : (0 : Int) ≤ (j : Int) + 64 ∧ (j : Int) + 64 ≤ (cap : Int) := by omega
  have h4 : j ≤ ((j : Int) + 64).toNat := by omega
  have h6 : ((j : Int) + 64).toNat - j = 64 := by omega
  have h5 : cap ≠ j := by omega
  simp [Instr.slice, run_underlying Tryd.underlying59, Instr.sliceBounds, Instr.sliceBound, asIntOf, hsz, h3, h4, h5, h6, Addr.add_mid]
/-- A text's block. -/
def blk (c : List UInt8) (i : Nat) : List UInt8 := (c.drop (64 * i)).take 64
/-- The state behind the first blocks. -/
def sB (c : List UInt8) : Nat → Nat → BitVec 32
  | 0 => Fc
  | k + 1 => turnF Kc (sB c k) (blk c k)
theorem bAt_blk (c : List UInt8) (k i : Nat) (h : i < 64) : bAt (blk c k) i = bAt c (64 * k + i) := by
  simp [bAt, blk, h, List.getElem?_drop]
theorem sB_fold (c : List UInt8) (k : Nat) : ((List.range k).map (blk c)).foldl (turnF Kc) Fc = sB c k := by
  induction k with
  | zero => rfl
  | succ k ih => rw [List.range_succ, List.map_append, List.foldl_append, ih]; rfl
theorem sha_blocks (c : List UInt8) (m : Nat) (h : c.length = 64 * m) : shaL Kc Fc c = dig (turnF Kc (sB c m) (fillB c.length)) := by
  have hf : (fillB c.length).length = 64 := by rw [fillB_length, h]; simp
  obtain ⟨_, h2⟩ := rem_full c (fillB c.length) (by rw [hf]; omega)
  have hr : rem c = [] := by unfold rem; rw [show 64 * (c.length / 64) = c.length by omega]; simp
  rw [shaL, h2, hr, List.nil_append, List.foldl_append]
  have : cks c = (List.range m).map (blk c) := by unfold cks; rw [h, show 64 * m / 64 = m by omega]; rfl
  rw [this, sB_fold]; rfl
theorem info22s : (Tryd.prog.info? 64).map (·.size) = some 1 := by kernel_rfl
theorem equal_state (w : World) (d : Nat → BitVec 32) : (Op.equalIn 10000 65 (.agg (rowA 8 (uF d))) (.agg (rowA 8 (uF d)))).run Tryd.prog w = .ok true w :=
  equalIn_same w 9998 65 64 8 .u32 Tryd.underlying65 Tryd.underlying64 info22s (fun i => uN (d i))
theorem equal_state2 (w : World) (d : Nat → BitVec 32) : (Op.equalIn 10000 65 (.agg (rowA 8 (uF d))) (.agg #[.int .u32 (uN (d 0)), .int .u32 (uN (d 1)), .int .u32 (uN (d 2)), .int .u32 (uN (d 3)), .int .u32 (uN (d 4)), .int .u32 (uN (d 5)), .int .u32 (uN (d 6)), .int .u32 (uN (d 7))])).run Tryd.prog w = .ok true w := equal_state w d
theorem u32_mul16m (x : BitVec 32) : IntKind.u32.wrap (uN x * (16777216 : Int)) = uN (x <<< 24) := u32_shl x 24
theorem u32_mul65k (x : BitVec 32) : IntKind.u32.wrap (uN x * (65536 : Int)) = uN (x <<< 16) := u32_shl x 16
theorem Sum_new1 (v : Value) (l : List UInt8) (D : Nat → UInt8) (W : World) (hT : Tables W) (h : RdV W [] v l) (ht : l.length ≤ 4611686018427387904) (hD : shaL Kc Fc l = D) :
    Calls Tryd.prog 39 #[.slice (some ⟨W.heap.size, 0, none⟩) 1 1] (W.alloc (.cells #[v] 59)) fun e w' => e = .returned (.agg (rowA 32 (bF D))) ∧ Below W.heap.size W w' := by
  have hB := (Below.refl _ W).alloc (Nat.le_refl _) (.cells #[v] 59)
  refine (Sum_c _ [(v, l)] _ (hT.below hB) (parts_new [(v, l)] 59 (by simp) (by simp) (by simpa using h)) (by simpa [total] using ht)).mono ?_
  rintro e w' ⟨rfl, hb⟩
  rw [show flat [(v, l)] = l by simp [flat], hD]
  exact ⟨rfl, hB.trans (hb.mono hB.size)⟩
end Go.Proofs.YtoigjcadncecpaaDoor
/- The reference's Turn. -/
namespace Go.Proofs.YtoigjcadncecpaaDoor
open Go.RowKit
set_option maxRecDepth 8000
set_option linter.all false
/-- Numbers of 32 bits in cells of 64. -/
def vF (s : Nat → BitVec 32) : Nat → Value := fun i => .int .u64 (uN (s i))
theorem vF_at (s : Nat → BitVec 32) (i : Nat) : vF s i = .int .u64 (uN (s i)) := rfl
theorem wS_final (l : List UInt8) (n i : Nat) (h : i < 16 + n) (hn : n ≤ 48) : wS l 48 i = wS l n i := by
  obtain ⟨k, hk⟩ : ∃ k, 48 = n + k := ⟨48 - n, by omega⟩
  rw [hk]
  clear hk hn
  induction k with
  | zero => rfl
  | succ k ih => rw [← Nat.add_assoc, wS_old l (n + k) i (by omega), ih]
theorem wS_first (l : List UInt8) (i : Nat) (h : i < 16) : wS l 48 i = wordTo l i 4 := by
  rw [wS_final l 0 i (by omega) (by omega)]; simp [wS, schedL, h]
theorem wS_rec (l : List UInt8) (t : Nat) (h1 : 16 ≤ t) (h2 : t < 64) : wS l 48 t = ss1 (wS l 48 (t - 2)) + wS l 48 (t - 7) + ss0 (wS l 48 (t - 15)) + wS l 48 (t - 16) := by
  obtain ⟨n, rfl⟩ : ∃ n, t = 16 + n := ⟨t - 16, by omega⟩
  rw [wS_final l (n + 1) (16 + n) (by omega) (by omega), wS_new, show 16 + n - 2 = n + 14 by omega, show 16 + n - 7 = n + 9 by omega, show 16 + n - 15 = n + 1 by omega, show 16 + n - 16 = n by omega,
    wS_final l n (n + 14) (by omega) (by omega), wS_final l n (n + 9) (by omega) (by omega), wS_final l n (n + 1) (by omega) (by omega), wS_final l n n (by omega) (by omega)]
theorem word_step (x : BitVec 32) (b : UInt8) (hx : x.toNat < 16777216) : (x <<< 8 ||| b.toBitVec.setWidth 32).toNat = x.toNat * 256 + b.toNat := by
  have hb := b.toNat_lt
  have e1 : (x <<< 8).toNat = x.toNat <<< 8 := by rw [BitVec.toNat_shiftLeft, Nat.mod_eq_of_lt]; rw [Nat.shiftLeft_eq]; omega
  have e2 : (b.toBitVec.setWidth 32).toNat = b.toNat := by rw [BitVec.toNat_setWidth]; show b.toNat % _ = _; omega
  rw [BitVec.toNat_or, e1, e2, ← Nat.shiftLeft_add_eq_or_of_lt (by omega), Nat.shiftLeft_eq]
theorem word_num (l : List UInt8) (t : Nat) : uN (wordTo l t 4) = ((bN (bAt l (4 * t)) * 256 + bN (bAt l (4 * t + 1))) * 256 + bN (bAt l (4 * t + 2))) * 256 + bN (bAt l (4 * t + 3)) := by
  have h0 := (bAt l (4 * t)).toNat_lt
  have h1 := (bAt l (4 * t + 1)).toNat_lt
  have h2 := (bAt l (4 * t + 2)).toNat_lt
  have h3 := (bAt l (4 * t + 3)).toNat_lt
  have e1 : (wordTo l t 1).toNat = (bAt l (4 * t)).toNat := by simp [wordTo]
  have e2 : (wordTo l t 2).toNat = (wordTo l t 1).toNat * 256 + (bAt l (4 * t + 1)).toNat := word_step (wordTo l t 1) _ (by omega)
  have e3 : (wordTo l t 3).toNat = (wordTo l t 2).toNat * 256 + (bAt l (4 * t + 2)).toNat := word_step (wordTo l t 2) _ (by omega)
  have e4 : (wordTo l t 4).toNat = (wordTo l t 3).toNat * 256 + (bAt l (4 * t + 3)).toNat := word_step (wordTo l t 3) _ (by omega)
  unfold uN bN
  omega
/-- The first t numbers of a list, the others 0. -/
def cutT (s : Nat → BitVec 32) (t : Nat) : Nat → BitVec 32 := fun i => if i < t then s i else 0
theorem cutT_at (s : Nat → BitVec 32) (t i : Nat) (h : i < t) : cutT s t i = s i := if_pos h
theorem cutT_set (s : Nat → BitVec 32) (t : Nat) (z : Int) (hz : z = uN (s t)) (i : Nat) : (if i = t then Value.int .u64 z else vF (cutT s t) i) = vF (cutT s (t + 1)) i := by
  subst hz
  simp only [vF, cutT]
  by_cases h : i = t
  · subst h; simp
  · by_cases h2 : i < t
    · rw [if_neg h, if_pos h2, if_pos (by omega)]
    · rw [if_neg h, if_neg h2, if_neg (by omega)]
theorem rowIs_zeros64 (s : Nat → BitVec 32) (w : World) (t : TypeId) (n : Nat) : (w.alloc (.cells (Array.replicate n (.int .u64 0)) t)).rowIs w.heap.size t n (vF (cutT s 0)) := by
  have := World.rowIs_alloc w (Array.replicate n (.int .u64 0)) t (vF (cutT s 0)) (fun i hi => by simp at hi; simp [vF, cutT, hi, uN])
  simpa using this
theorem info47 : (Tryd.prog.info? 77).map (·.size) = some 8 := by kernel_rfl
theorem wrap32_uN (x : BitVec 32) : IntKind.u32.wrap (uN x) = uN x := wrap_uN x

attribute [local go_sem] uF_at
set_option maxRecDepth 20000 in
set_option maxHeartbeats 1000000 in
theorem RTurn_no (s : Nat → BitVec 32) (A : Option Addr) (n cap : Nat) (hn : n ≠ 64) (w : World) :
    Calls Tryd.prog 50 #[.agg (rowA 8 (uF s)), .slice A n cap] w fun e w' => e = .returned (.agg (rowA 8 (uF s))) ∧ Below w.heap.size w w' := by
  have hn2 : ((n : Int) == 64) = false := by simp; omega
  have r0 := (rowIs_box w 65 8 (uF s)).alloc (.cells (rowA 8 fun _ => .int .u32 0) 65)
  have r1 := rowIs_box (w.alloc (.cells (rowA 8 (uF s)) 65)) 65 8 fun _ => .int .u32 0
  have hB : Below w.heap.size w ((w.alloc (.cells (rowA 8 (uF s)) 65)).alloc (.cells (rowA 8 fun _ => .int .u32 0) 65)) :=
    ((Below.refl _ w).alloc (Nat.le_refl _) _).alloc (by simp) _
  rw [World.size_alloc] at r1
  have hR := rangeAt_row r0
  go_enter Tryd.func50, Tryd.ntmps50
  go_wp2_with (first
    | (refine wpList_load_mid rfl 65 (.tmp 2) rfl w.heap.size 0 rfl (rowA 8 (uF s)).toList _ hR Tryd.underlying65 rfl (by rw [rowA_toList]; simpa using info23) ?_)
    | (refine wpList_store_mid rfl 65 (.tmp 4) (.tmp 22) rfl (w.heap.size + 1) 0 (rowA 8 (uF s)) rfl rfl (by rw [rowA_size]; exact there_row r1) (by rw [rowA_size]; exact info23) (rowA_one _ _ fun _ => rfl) ?_))
  exact bodyPost_ret (results_row rfl _ rfl (rowIs_setAll r1 (uF s)) Tryd.underlying65 info23) rfl ⟨rfl, below_setCells _ (by omega) _ _ _ hB⟩
attribute [local go_sem] vF_at wrap64_uN wrap32_uN u64_xor u64_and u64_not u64_add2 u64_add3 u64_add4 u64_add5 mod_t2 mod_t4 mod_t5 tmod_t2 tmod_t4 tmod_t5
def RT1 (s : Nat → BitVec 32) (l : List UInt8) (w : World) (t : Nat) (wr : World) : Prop :=
  wr.rowIs w.heap.size 65 8 (uF s) ∧ wr.rowIs (w.heap.size + 1) 65 8 (fun _ => .int .u32 0) ∧ wr.rowIs (w.heap.size + 1 + 1) 75 64 (vF (cutT (wS l 48) t)) ∧ Below w.heap.size w wr
set_option maxRecDepth 20000 in
set_option maxHeartbeats 4000000 in
theorem RTurn_any (K s : Nat → BitVec 32) (l : List UInt8) (b o cap : Nat) (_ : 64 ≤ cap) (_ : cap ≤ maxLen) (w : World) (hb : b < w.heap.size) (h1 : 1 < w.heap.size)
    (hK : ∀ i, i < 64 → w.cell? ⟨1, i, none⟩ = some (.int .u32 (uN (K i))))
    (hc : ∀ i, i < 64 → w.cell? ⟨b, o + i, none⟩ = some (.int .u8 (bN (bAt l i)))) :
    Calls Tryd.prog 50 #[.agg (rowA 8 (uF s)), .slice (some ⟨b, o, none⟩) 64 cap] w fun e w' => e = .returned (.agg (rowA 8 (uF fun i => s i + (runTo K (wS l 48) (St.of s) 64).get i))) ∧ Below w.heap.size w w' := by
  have HK := Lib.hid hK
  have HC := Lib.hid hc
  clear hK hc
  go_enter Tryd.func50, Tryd.ntmps50
  go_wp2
  have r0 := ((rowIs_box w 65 8 (uF s)).alloc (.cells (rowA 8 fun _ => .int .u32 0) 65)).alloc (.cells (Array.replicate 64 (.int .u64 0)) 75)
  have r1 := (rowIs_box (w.alloc (.cells (rowA 8 (uF s)) 65)) 65 8 fun _ => .int .u32 0).alloc (.cells (Array.replicate 64 (.int .u64 0)) 75)
  have r2 := rowIs_zeros64 (wS l 48) ((w.alloc (.cells (rowA 8 (uF s)) 65)).alloc (.cells (rowA 8 fun _ => .int .u32 0) 65)) 75 64
  have hB : Below w.heap.size w (((w.alloc (.cells (rowA 8 (uF s)) 65)).alloc (.cells (rowA 8 fun _ => .int .u32 0) 65)).alloc (.cells (Array.replicate 64 (.int .u64 0)) 75)) :=
    (((Below.refl _ w).alloc (Nat.le_refl _) _).alloc (by simp) _).alloc (by simp; omega) _
  rw [World.size_alloc] at r1 r2
  rw [World.size_alloc] at r2
  change Code.wp _ _ _ _ (((w.alloc (.cells (rowA 8 (uF s)) 65)).alloc (.cells (rowA 8 fun _ => .int .u32 0) 65)).alloc (.cells (Array.replicate 64 (.int .u64 0)) 75))
  generalize (((w.alloc (.cells (rowA 8 (uF s)) 65)).alloc (.cells (rowA 8 fun _ => .int .u32 0) 65)).alloc (.cells (Array.replicate 64 (.int .u64 0)) 75)) = W0 at r0 r1 r2 hB ⊢
  go_loopw [6] (fun i wr => ∃ t : Nat, t ≤ 64 ∧ i = .int .i64 t ∧ RT1 s l w t wr) (fun i _ => 64 - (intOf i).toNat)
  case atStart => exact ⟨0, by omega, rfl, r0, r1, r2, hB⟩
  case round =>
    obtain ⟨t, ht, rfl, q0, q1, q2, qB⟩ := hrel
    clear r0 r1 r2 hB
    by_cases hlt : t < 64
    · by_cases h16 : t < 16
      · have e0 : wr.cell? ⟨b, o + 4 * t, none⟩ = _ := (qB.cell (p := ⟨b, o + (4 * t), none⟩) hb).trans (HC.out (4 * t) (by omega))
        have e1 : wr.cell? ⟨b, o + (4 * t + 1), none⟩ = _ := (qB.cell (p := ⟨b, o + (4 * t + 1), none⟩) hb).trans (HC.out (4 * t + 1) (by omega))
        have e2 : wr.cell? ⟨b, o + (4 * t + 2), none⟩ = _ := (qB.cell (p := ⟨b, o + (4 * t + 2), none⟩) hb).trans (HC.out (4 * t + 2) (by omega))
        have e3 : wr.cell? ⟨b, o + (4 * t + 3), none⟩ = _ := (qB.cell (p := ⟨b, o + (4 * t + 3), none⟩) hb).trans (HC.out (4 * t + 3) (by omega))
        have hz := word_num l t
        obtain ⟨z0, y0, x0⟩ : ∃ z : Nat, z < 256 ∧ bN (bAt l (4 * t)) = (z : Int) := ⟨(bAt l (4 * t)).toNat, UInt8.toNat_lt _, rfl⟩
        obtain ⟨z1, y1, x1⟩ : ∃ z : Nat, z < 256 ∧ bN (bAt l (4 * t + 1)) = (z : Int) := ⟨(bAt l (4 * t + 1)).toNat, UInt8.toNat_lt _, rfl⟩
        obtain ⟨z2, y2, x2⟩ : ∃ z : Nat, z < 256 ∧ bN (bAt l (4 * t + 2)) = (z : Int) := ⟨(bAt l (4 * t + 2)).toNat, UInt8.toNat_lt _, rfl⟩
        obtain ⟨z3, y3, x3⟩ : ∃ z : Nat, z < 256 ∧ bN (bAt l (4 * t + 3)) = (z : Int) := ⟨(bAt l (4 * t + 3)).toNat, UInt8.toNat_lt _, rfl⟩
        rw [x0] at e0 hz
        rw [x1] at e1 hz
        rw [x2] at e2 hz
        rw [x3] at e3 hz
        clear x0 x1 x2 x3
        have Hz := Lib.hid hz
        clear hz
        have j0 : (0 : Int) ≤ 4 * (t : Int) := by omega
        have j1 : (0 : Int) ≤ 4 * (t : Int) + 1 := by omega
        have j2 : (0 : Int) ≤ 4 * (t : Int) + 2 := by omega
        have j3 : (0 : Int) ≤ 4 * (t : Int) + 3 := by omega
        have i0 : 4 * (t : Int) < 64 := by omega
        have i1 : 4 * (t : Int) + 1 < 64 := by omega
        have i2 : 4 * (t : Int) + 2 < 64 := by omega
        have i3 : 4 * (t : Int) + 3 < 64 := by omega
        have it : (t : Int) < 64 := by omega
        have it2 : (t : Int) < 16 := by omega
        have ct := q2.cell (i := t) hlt
        have cf := q2.frozen t
        go_wp2
        refine wp_region_still_tail 35 (by kernel_rfl) (by kernel_rfl) ?_
        simp only [List.take_succ_cons, List.take_zero, List.drop_succ_cons, List.drop_zero]
        repeat (refine wpStill_step (fun K hK => ?_); go_simp; (try go_bits); refine hK _ ?_; clear hK K)
        refine wpStill_nil ?_
        go_wp2
        go_roundw
        case rel => exact ⟨t + 1, by omega, by go_num, q0.drew.setOther (by simp; omega) _, q1.drew.setOther (by simp) _, (q2.drew.set t _).congr fun i _ => cutT_set (wS l 48) t _ (by rw [wS_first l t h16, Hz.out]) i, (qB.setCell (p := ⟨w.heap.size + 1 + 1, t, none⟩) (by simp; omega) _).drew⟩
        case measure => simp [intOf]; omega
      · have c2 := q2.cell (i := t - 2) (by omega)
        have c7 := q2.cell (i := t - 7) (by omega)
        have c15 := q2.cell (i := t - 15) (by omega)
        have c16 := q2.cell (i := t - 16) (by omega)
        rw [vF_at, cutT_at _ _ _ (by omega)] at c2 c7 c15 c16
        have ct := q2.cell (i := t) hlt
        have cf := q2.frozen t
        have hz := wS_rec l t (by omega) hlt
        have Hz := Lib.hid hz
        clear hz
        generalize wS l 48 (t - 2) = y2 at c2 Hz
        generalize wS l 48 (t - 7) = y7 at c7 Hz
        generalize wS l 48 (t - 15) = y15 at c15 Hz
        generalize wS l 48 (t - 16) = y16 at c16 Hz
        have i2 : (2 : Int) ≤ t := by omega
        have j2 : (t : Int) - 2 < 64 := by omega
        have i7 : (7 : Int) ≤ t := by omega
        have j7 : (t : Int) - 7 < 64 := by omega
        have i15 : (15 : Int) ≤ t := by omega
        have j15 : (t : Int) - 15 < 64 := by omega
        have i16 : (16 : Int) ≤ t := by omega
        have j16 : (t : Int) - 16 < 64 := by omega
        have it : (t : Int) < 64 := by omega
        have it2 : ¬ (t : Int) < 16 := by omega
        go_wp2
        refine wp_region_still_lit (by kernel_rfl) (by kernel_rfl) ?_
        repeat (refine wpStill_step (fun K hK => ?_); go_simp; (try go_bits); refine hK _ ?_; clear hK K)
        refine wpStill_nil ?_
        go_wp2
        change Code.wp _ _ _ _ wr.drew
        replace q0 := q0.drew
        replace q1 := q1.drew
        replace q2 := q2.drew
        replace qB := qB.drew
        replace c2 := cell_drew c2
        replace c7 := cell_drew c7
        replace c15 := cell_drew c15
        replace c16 := cell_drew c16
        replace ct := cell_drew ct
        replace cf : wr.drew.frozen? ⟨w.heap.size + 1 + 1, t, none⟩ = false := cf
        generalize wr.drew = wr2 at q0 q1 q2 qB c2 c7 c15 c16 ct cf ⊢
        refine wp_region_still_tail 30 (by kernel_rfl) (by kernel_rfl) ?_
        simp only [List.take_succ_cons, List.take_zero, List.drop_succ_cons, List.drop_zero]
        repeat (refine wpStill_step (fun K hK => ?_); go_simp; (first
          | (refine ⟨_, ((right_any _ _ (by decide) (by decide) _).mono fun _ _ h => ⟨h.1, h.2.symm⟩), hK _ ?_⟩)
          | (refine ⟨_, ((shift_any _ _ (by decide) (by decide) _).mono fun _ _ h => ⟨h.1, h.2.symm⟩), hK _ ?_⟩)
          | ((try go_bits); refine hK _ ?_)); clear hK K)
        refine wpStill_nil ?_
        go_wp2
        go_roundw
        case rel => exact ⟨t + 1, by omega, by go_num, q0.drew.setOther (by simp; omega) _, q1.drew.setOther (by simp) _, (q2.drew.set t _).congr fun i _ => cutT_set (wS l 48) t _ (by rw [Hz.out]; rfl) i, (qB.setCell (p := ⟨w.heap.size + 1 + 1, t, none⟩) (by simp; omega) _).drew⟩
        case measure => simp [intOf]; omega
    · obtain rfl : t = 64 := by omega
      rw [show ((64 : Nat) : Int) = 64 from rfl]
      have hgB : w.heap.size + 1 + 1 < wr.heap.size := q2.lt
      have q3 := rowIs_zeros64 s wr 77 8
      replace q0 := q0.alloc (.cells (Array.replicate 8 (.int .u64 0)) 77)
      replace q1 := q1.alloc (.cells (Array.replicate 8 (.int .u64 0)) 77)
      replace q2 := q2.alloc (.cells (Array.replicate 8 (.int .u64 0)) 77)
      replace q2 := q2.congr (g := vF (wS l 48)) fun i hi => by rw [vF_at, vF_at, cutT_at _ _ _ hi]
      have qB2 := qB.alloc qB.size (.cells (Array.replicate 8 (.int .u64 0)) 77)
      go_wp2
      change Code.wp _ _ _ _ (wr.alloc (.cells (Array.replicate 8 (.int .u64 0)) 77))
      generalize wr.heap.size = g at hgB q3 ⊢
      generalize wr.alloc (.cells (Array.replicate 8 (.int .u64 0)) 77) = W1 at q0 q1 q2 q3 qB2 ⊢
      clear qB
      go_loopw [10] (fun i wr => ∃ t : Nat, t ≤ 8 ∧ i = .int .i64 t ∧ wr.rowIs w.heap.size 65 8 (uF s) ∧ wr.rowIs (w.heap.size + 1) 65 8 (fun _ => .int .u32 0) ∧ wr.rowIs (w.heap.size + 1 + 1) 75 64 (vF (wS l 48)) ∧ wr.rowIs g 77 8 (vF (cutT s t)) ∧ Below w.heap.size w wr) (fun i _ => 8 - (intOf i).toNat)
      case atStart => exact ⟨0, by omega, rfl, q0, q1, q2, q3, qB2⟩
      case round =>
        clear q0 q1 q2 q3 qB2
        obtain ⟨t, ht, rfl, q0, q1, q2, q3, qB⟩ := hrel
        by_cases hlt : t < 8
        · have c0 := q0.cell (i := t) hlt
          have c3 := q3.cell (i := t) hlt
          have f3 := q3.frozen t
          have it : (t : Int) < 8 := by omega
          go_wp2
          go_roundw
          case rel => exact ⟨t + 1, by omega, by go_num, q0.setOther (by simp; omega) _, q1.setOther (by simp; omega) _, q2.setOther (by simp; omega) _, (q3.set t _).congr fun i _ => cutT_set s t _ rfl i, (qB.setCell (p := ⟨g, t, none⟩) (by simp; omega) _)⟩
          case measure => simp [intOf]; omega
        · obtain rfl : t = 8 := by omega
          rw [show ((8 : Nat) : Int) = 8 from rfl]
          replace q3 := q3.congr (g := vF (St.of s).get) fun i hi => by
            rw [vF_at, vF_at, cutT_at _ _ _ hi]
            match i, hi with
            | 0, _ => rfl | 1, _ => rfl | 2, _ => rfl | 3, _ => rfl | 4, _ => rfl | 5, _ => rfl | 6, _ => rfl | 7, _ => rfl
          go_wp2
          rename_i wr1
          generalize wr = W2 at q0 q1 q2 q3 qB ⊢
          go_loopw [11] (fun i wr => ∃ (t : Nat) (x : St), t ≤ 64 ∧ i = .int .i64 t ∧ Hid (x = runTo K (wS l 48) (St.of s) t) ∧ wr.rowIs w.heap.size 65 8 (uF s) ∧ wr.rowIs (w.heap.size + 1) 65 8 (fun _ => .int .u32 0) ∧ wr.rowIs (w.heap.size + 1 + 1) 75 64 (vF (wS l 48)) ∧ wr.rowIs g 77 8 (vF x.get) ∧ Below w.heap.size w wr) (fun i _ => 64 - (intOf i).toNat)
          case atStart => exact ⟨0, St.of s, by omega, rfl, rfl, q0, q1, q2, q3, qB⟩
          case round =>
            clear q0 q1 q2 q3 qB
            obtain ⟨t, x, ht, rfl, hx, q0, q1, q2, q3, qB⟩ := hrel
            by_cases hlt : t < 64
            · have cK := (qB.cell (p := ⟨1, t, none⟩) h1).trans (HK.out t hlt)
              have cW := q2.cell (i := t) hlt
              rw [vF_at] at cW
              obtain ⟨Wt, HWt⟩ : ∃ Wt, Hid (wS l 48 t = Wt) := ⟨_, Lib.hid rfl⟩
              rw [HWt.out] at cW
              have it : (t : Int) < 64 := by omega
              have c0 : wr.cell? ⟨g, 0, none⟩ = some (.int .u64 (uN x.a)) := q3.cell (i := 0) (by omega)
              have c1 : wr.cell? ⟨g, 1, none⟩ = some (.int .u64 (uN x.b)) := q3.cell (i := 1) (by omega)
              have c2 : wr.cell? ⟨g, 2, none⟩ = some (.int .u64 (uN x.c)) := q3.cell (i := 2) (by omega)
              have c3 : wr.cell? ⟨g, 3, none⟩ = some (.int .u64 (uN x.d)) := q3.cell (i := 3) (by omega)
              have c4 : wr.cell? ⟨g, 4, none⟩ = some (.int .u64 (uN x.e)) := q3.cell (i := 4) (by omega)
              have c5 : wr.cell? ⟨g, 5, none⟩ = some (.int .u64 (uN x.f)) := q3.cell (i := 5) (by omega)
              have c6 : wr.cell? ⟨g, 6, none⟩ = some (.int .u64 (uN x.g)) := q3.cell (i := 6) (by omega)
              have c7 : wr.cell? ⟨g, 7, none⟩ = some (.int .u64 (uN x.h)) := q3.cell (i := 7) (by omega)
              go_wp2
              refine wp_region_still_lit (by kernel_rfl) (by kernel_rfl) ?_
              repeat (refine wpStill_step (fun K hK => ?_); go_simp; (try go_bits); refine hK _ ?_; clear hK K)
              refine wpStill_nil ?_
              go_wp2_with fail
              change Code.wp _ _ _ _ wr.drew
              replace q0 := q0.drew
              replace q1 := q1.drew
              replace q2 := q2.drew
              replace q3 := q3.drew
              replace qB := qB.drew
              replace cK := cell_drew cK
              replace cW := cell_drew cW
              replace c0 := cell_drew c0
              replace c1 := cell_drew c1
              replace c2 := cell_drew c2
              replace c3 := cell_drew c3
              replace c4 := cell_drew c4
              replace c5 := cell_drew c5
              replace c6 := cell_drew c6
              replace c7 := cell_drew c7
              generalize wr.drew = wr2 at q0 q1 q2 q3 qB cK cW c0 c1 c2 c3 c4 c5 c6 c7 ⊢
              refine wp_region_still_lit (by kernel_rfl) (by kernel_rfl) ?_
              repeat (refine wpStill_step (fun K hK => ?_); go_simp; (first
                | (refine ⟨_, ((right_any _ _ (by decide) (by decide) _).mono fun _ _ h => ⟨h.1, h.2.symm⟩), hK _ ?_⟩)
                | ((try go_bits); refine hK _ ?_)); clear hK K)
              refine wpStill_nil ?_
              change Exit.then _ _ _ _ wr2.drew
              replace q0 := q0.drew
              replace q1 := q1.drew
              replace q2 := q2.drew
              replace q3 := q3.drew
              replace qB := qB.drew
              replace c0 := cell_drew c0
              replace c1 := cell_drew c1
              replace c2 := cell_drew c2
              replace c3 := cell_drew c3
              replace c4 := cell_drew c4
              replace c5 := cell_drew c5
              replace c6 := cell_drew c6
              replace c7 := cell_drew c7
              clear cK cW
              generalize wr2.drew = wr3 at q0 q1 q2 q3 qB c0 c1 c2 c3 c4 c5 c6 c7 ⊢
              obtain ⟨o1, Ho1⟩ : ∃ o1, Hid (x.h + (x.e.rotateRight 6 ^^^ x.e.rotateRight 11 ^^^ x.e.rotateRight 25) + (x.e &&& x.f ^^^ ~~~x.e &&& x.g) + K t + Wt = o1) := ⟨_, Lib.hid rfl⟩
              obtain ⟨m1, Hm1⟩ : ∃ m1, Hid (x.a &&& x.b ^^^ x.a &&& x.c ^^^ x.b &&& x.c = m1) := ⟨_, Lib.hid rfl⟩
              rw [Ho1.out, Hm1.out]
              go_wp2_with fail
              refine (right_any _ _ (by decide) (by decide) _).mono ?_
              rintro e w' ⟨rfl, rfl⟩
              go_wp2_with fail
              refine (right_any _ _ (by decide) (by decide) _).mono ?_
              rintro e w' ⟨rfl, rfl⟩
              go_wp2_with fail
              refine (right_any _ _ (by decide) (by decide) _).mono ?_
              rintro e w' ⟨rfl, rfl⟩
              go_upto_region 24 with fail
              obtain ⟨o2, Ho2⟩ : ∃ o2, Hid ((x.a.rotateRight (2 : Int).toNat ^^^ x.a.rotateRight (13 : Int).toNat ^^^ x.a.rotateRight (22 : Int).toNat) + m1 = o2) := ⟨_, Lib.hid rfl⟩
              first | rw [Ho2.out] | (simp only [Int.reduceToNat] at Ho2; rw [Ho2.out])
              refine wp_region_lit ?_
              iterate 22 (refine wpList_plain rfl (fun K hK => ?_); go_simp; (try go_bits); refine hK _ _ ?_; clear hK K)
              have hth := there_row q3
              refine wpList_store_mid rfl 77 (.tmp 9) (.tmp 200) rfl g 0 #[.int .u64 (uN (o1 + o2)), .int .u64 (uN x.a), .int .u64 (uN x.b), .int .u64 (uN x.c), .int .u64 (uN (x.d + o1)), .int .u64 (uN x.e), .int .u64 (uN x.f), .int .u64 (uN x.g)] ?_ ?_ hth info47 ?_ ?_
              · go_simp
              · go_simp
              · simp [Value.oneCell']
              obtain ⟨nx, hnx⟩ : ∃ nx : St, nx = ⟨o1 + o2, x.a, x.b, x.c, x.d + o1, x.e, x.f, x.g⟩ := ⟨_, rfl⟩
              have hL : (#[.int .u64 (uN (o1 + o2)), .int .u64 (uN x.a), .int .u64 (uN x.b), .int .u64 (uN x.c), .int .u64 (uN (x.d + o1)), .int .u64 (uN x.e), .int .u64 (uN x.f), .int .u64 (uN x.g)] : Array Value).toList = (rowA 8 (vF nx.get)).toList := by rw [hnx]; rfl
              rw [hL]
              have Hnx : Hid (nx = runTo K (wS l 48) (St.of s) (t + 1)) := Lib.hid (by
                rw [runTo, ← hx.out, HWt.out, hnx, ← Ho1.out, ← Ho2.out, ← Hm1.out]; rfl)
              clear hL hnx Ho1 Ho2 Hm1 c0 c1 c2 c3 c4 c5 c6 c7 hth
              replace q0 := rowIs_setOther q0 (b' := g) (by omega) (rowA 8 (vF nx.get)).toList 0
              replace q1 := rowIs_setOther q1 (b' := g) (by omega) (rowA 8 (vF nx.get)).toList 0
              replace q2 := rowIs_setOther q2 (b' := g) (by omega) (rowA 8 (vF nx.get)).toList 0
              replace q3 := rowIs_setAll q3 (vF nx.get)
              replace qB := below_setCells g (by omega) (rowA 8 (vF nx.get)).toList 0 _ qB
              generalize wr3.setCells g 0 (rowA 8 (vF nx.get)).toList = wr4 at q0 q1 q2 q3 qB ⊢
              go_wp2
              go_roundw
              case rel => exact ⟨t + 1, nx, by omega, by go_num, Hnx, q0, q1, q2, q3, qB⟩
              case measure => simp [intOf]; omega
            · obtain rfl : t = 64 := by omega
              rw [show ((64 : Nat) : Int) = 64 from rfl]
              obtain ⟨T, HT2⟩ : ∃ T, Hid (x.get = T) := ⟨_, Lib.hid rfl⟩
              rw [HT2.out] at q3
              clear q2
              go_wp2
              generalize wr = W3 at q0 q1 q3 qB ⊢
              go_loopw [18] (fun i wr => ∃ k : Nat, k ≤ 8 ∧ i = .int .i64 k ∧ wr.rowIs w.heap.size 65 8 (uF (mixed s T k)) ∧ wr.rowIs (w.heap.size + 1) 65 8 (fun _ => .int .u32 0) ∧ wr.rowIs g 77 8 (vF T) ∧ Below w.heap.size w wr) (fun i _ => 8 - (intOf i).toNat)
              case atStart => exact ⟨0, by omega, rfl, q0, q1, q3, qB⟩
              case round =>
                clear q0 q1 q3 qB
                obtain ⟨k, hk, rfl, q0, q1, q3, qB⟩ := hrel
                by_cases hlt : k < 8
                · have c0 := q0.cell (i := k) (by omega)
                  rw [uF_at, show mixed s T k k = s k by simp [mixed]] at c0
                  have c3 := q3.cell (i := k) (by omega)
                  have f0 := q0.frozen k
                  have i8 : (k : Int) < 8 := by omega
                  go_wp2
                  refine wp_region_still_tail 12 (by kernel_rfl) (by kernel_rfl) ?_
                  simp only [List.take_succ_cons, List.take_zero, List.drop_succ_cons, List.drop_zero]
                  repeat (refine wpStill_step (fun K hK => ?_); go_simp; (try go_bits); refine hK _ ?_; clear hK K)
                  refine wpStill_nil ?_
                  go_wp2
                  go_roundw
                  case rel => exact ⟨k + 1, by omega, by go_num, ((q0.set k _).congr fun i _ => mixed_set s T k i), q1.setOther (by simp) _, q3.setOther (by simp; omega) _, (qB.setCell (p := ⟨w.heap.size, k, none⟩) (by simp) _).drew⟩
                  case measure => simp [intOf]; omega
                · obtain rfl : k = 8 := by omega
                  have hR := rangeAt_row q0
                  go_wp2_with (first
                    | (refine wpList_load_mid rfl 65 (.tmp 2) rfl w.heap.size 0 rfl (rowA 8 (uF (mixed s T 8))).toList _ hR Tryd.underlying65 rfl (by rw [rowA_toList]; simpa using info23) ?_)
                    | (refine wpList_store_mid rfl 65 (.tmp 4) (.tmp 217) rfl (w.heap.size + 1) 0 (rowA 8 (uF (mixed s T 8))) rfl rfl (by rw [rowA_size]; exact there_row q1) (by rw [rowA_size]; exact info23) (rowA_one _ _ fun _ => rfl) ?_))
                  refine bodyPost_ret (results_row rfl _ rfl (rowIs_setAll q1 (uF (mixed s T 8))) Tryd.underlying65 info23) rfl ⟨?_, below_setCells _ (by omega) _ _ _ qB⟩
                  rw [← hx.out, HT2.out]
                  exact congrArg (fun z => Ending.returned (.agg z)) (rowA_congr fun i hi => by simp [uF, mixed, hi])
end Go.Proofs.YtoigjcadncecpaaDoor
/- The reference's Fill. -/
namespace Go.Proofs.YtoigjcadncecpaaDoor
open Go.RowKit
set_option maxRecDepth 8000
set_option linter.all false
attribute [local go_sem] bF_at

theorem fillHead_pos (k : Nat) (h : 1 ≤ k) : bF fillHead k = .int .u8 0 := by
  simp [bF, fillHead, bN, show k ≠ 0 by omega]
theorem step_len (n k p : Nat) (hk : k < 8) (hn : n ≤ 1000000) (hp : p = 72057594037927936 / 256 ^ k) : ((n * 8 / p % 256 : Nat) : Int) = bN (lenByte n k) := by
  have e : 72057594037927936 / 256 ^ k = 2 ^ (56 - 8 * k) := by
    have : ∀ k : Fin 8, 72057594037927936 / 256 ^ k.val = 2 ^ (56 - 8 * k.val) := by decide
    exact this ⟨k, hk⟩
  rw [lenByte, bN, UInt8.toNat_ofNat', hp, e, Nat.mod_eq_of_lt (a := n * 8) (by omega)]

set_option maxHeartbeats 1000000 in
theorem RFill_r (n r : Nat) (hn : n ≤ 1000000) (hr1 : 1 ≤ r) (hr2 : r ≤ 64) (hr3 : (n + r) % 64 = 56) (hr4 : ∀ k, 1 ≤ k → k < r → (n + k) % 64 ≠ 56) (w : World) :
    Calls Tryd.prog 49 #[.int .i64 n] w (FillPost n r w) := by
  obtain ⟨i0, hi, hz0, hz1, hz2⟩ := info_parts info5
  have H4 := Lib.hid hr4
  have H3 := Lib.hid hr3
  clear hr4 hr3
  go_enter Tryd.func49, Tryd.ntmps49
  go_wp2
  have r0 : (w.alloc (.cells #[.int .u8 128] 5)).rowIs w.heap.size 5 1 (bF fillHead) := (rowIs_box w 5 1 fun _ => .int .u8 128).congr fun i hi => by
    obtain rfl : i = 0 := by omega
    rfl
  have hB : Below w.heap.size w (w.alloc (.cells #[.int .u8 128] 5)) := (Below.refl _ w).alloc (Nat.le_refl _) _
  have ho := ownsRow_row r0 w.heap.size 1 (by omega) (by unfold maxLen; omega) (Nat.le_refl _)
  generalize w.alloc (.cells #[.int .u8 128] 5) = W0 at ho hB ⊢
  clear r0
  go_loopw [3] (fun v wr => ∃ k : Nat, 1 ≤ k ∧ k ≤ r ∧ wr.ownsRow w.heap.size 5 1 v k ((List.range k).map (bF fillHead)) ∧ Below w.heap.size w wr) (fun v _ => match v with | .slice _ m _ => r - m | _ => 0)
  case atStart => exact ⟨1, by omega, by omega, ho, hB⟩
  case round =>
    obtain ⟨k, hk1, hk, hown, qB⟩ := hrel
    clear ho hB
    obtain ⟨g, c, rfl, _, _⟩ := hown.form (by omega)
    by_cases hlt : k < r
    · have t1 : (((n : Int) + (k : Int)) % 64 == 56) = false := by
        have := H4.out k hk1 hlt
        simp; omega
      go_wp2_with (at_builtin; refine wpList_append_own _ rfl (.tmp 16) (.tmp 17) 59 rfl w.heap.size 5 i0 _ 1 1 Tryd.underlying59 hi hz0 hz1 hz2 rfl (by omega) _ k _ rfl (hown.alloc _) ⟨wr.heap.size, 0, none⟩ 1 1 [.int .u8 0] rfl rfl (one_cell _ _ _) (by simp [Value.oneCell']) (by unfold maxLen; omega) (by omega) (by have := qB.size; simp; omega) ?_; intro v' w1 hown' hg1 _)
      go_roundw
      case rel =>
        refine ⟨k + 1, by omega, by omega, ?_, (qB.alloc qB.size _).grown hg1 (by have := qB.size; simp; omega) (fun g e => (hown.lt g e).1)⟩
        rw [List.range_succ, List.map_append]
        simp only [List.map_cons, List.map_nil]
        rw [fillHead_pos k hk1]
        exact hown'
      case measure =>
        obtain ⟨g', c', rfl, _, _⟩ := hown'.form (by omega)
        show r - (k + 1) < r - k
        omega
    · obtain rfl : k = r := by omega
      have t1 : (((n : Int) + (k : Int)) % 64 == 56) = true := by
        have := H3.out
        simp; omega
      have t2 : (((n : Int) + (k : Int)) % 64 != 56) = false := by
        have := H3.out
        simp; omega
      have Ht1 := Lib.hid t1
      go_wp2
      clear t1 t2
      go_loopw [3, 5, 6] (fun v st i wr => ∃ j p : Nat, j ≤ 8 ∧ i = .int .i64 j ∧ st = .int .u64 p ∧ Hid (p = 72057594037927936 / 256 ^ j) ∧ wr.ownsRow w.heap.size 5 1 v (k + j) ((List.range k).map (bF fillHead) ++ (List.range j).map (bF (lenByte n))) ∧ Below w.heap.size w wr) (fun _ _ i _ => 8 - (intOf i).toNat)
      case atStart => exact ⟨0, 72057594037927936, by omega, rfl, rfl, Lib.hid (by simp), by simpa using hown, qB⟩
      case round =>
        clear hown qB
        obtain ⟨j, p, hj, rfl, rfl, Hp, hown, qB⟩ := hrel
        by_cases hlt : j < 8
        · have hp0 : 0 < p := by
            have : ∀ k : Fin 8, 0 < 72057594037927936 / 256 ^ k.val := by decide
            rw [Hp.out]; exact this ⟨j, hlt⟩
          have hpz : ((p : Int) == 0) = false := by simp; omega
          have hsl := step_len n j p hlt hn Hp.out
          have Hsl := Lib.hid hsl
          clear hsl
          have hp1 : (p : Int) ≠ 0 := by omega
          have hpb : p ≤ 72057594037927936 := by rw [Hp.out]; exact Nat.div_le_self _ _
          have hpw : IntKind.u64.wrap ((p : Int) / 256) = ((p / 256 : Nat) : Int) := by rw [wrap_u64]; omega
          have hval : ((n : Int) * 8 / (p : Int)).tmod 256 % 256 = bN (lenByte n j) := by
            have h0 : (0 : Int) ≤ (n : Int) * 8 / p := Int.ediv_nonneg (by omega) (by omega)
            rw [Int.tmod_eq_emod_of_nonneg h0, ← Hsl.out]
            have : (n : Int) * 8 / (p : Int) = ((n * 8 / p : Nat) : Int) := by simp
            rw [this]; omega
          go_wp2_with (at_builtin; refine wpList_append_own _ rfl (.tmp 26) (.tmp 32) 59 rfl w.heap.size 5 i0 _ 1 1 Tryd.underlying59 hi hz0 hz1 hz2 rfl (by omega) u3 (k + j) _ rfl (hown.alloc _) ⟨wr.heap.size, 0, none⟩ 1 1 [bF (lenByte n) j] rfl rfl (one_cell _ _ _) (by simp [bF, Value.oneCell']) (by unfold maxLen; omega) (by omega) (by have := qB.size; simp; omega) ?_; intro v' w1 hown' hg1 _)
          go_roundw
          case rel =>
            refine ⟨j + 1, p / 256, by omega, by go_num, rfl, Lib.hid (by rw [Hp.out, Nat.div_div_eq_div_mul, Nat.pow_succ]), ?_, (qB.alloc qB.size _).grown hg1 (by have := qB.size; simp; omega) (fun g e => (hown.lt g e).1)⟩
            rw [List.range_succ, List.map_append, ← List.append_assoc]
            exact hown'
          case measure => simp [intOf]; omega
        · obtain rfl : j = 8 := by omega
          go_wp2
          go_ret
          exact ⟨_, rfl, hown, qB⟩
theorem RFill_any (n : Nat) (hn : n ≤ 1000000) (w : World) : Calls Tryd.prog 49 #[.int .i64 n] w (FillPost n (if n % 64 < 56 then 56 - n % 64 else 120 - n % 64) w) := by
  by_cases h : n % 64 < 56
  · rw [if_pos h]; exact RFill_r n _ hn (by omega) (by omega) (by omega) (fun k _ _ => by omega) w
  · rw [if_neg h]; exact RFill_r n _ hn (by omega) (by omega) (by omega) (fun k _ _ => by omega) w
set_option maxHeartbeats 400000 in
theorem RFill_neg (n : Int) (hn : n < 0) (w : World) : Calls Tryd.prog 49 #[.int .i64 n] w fun e w' => e = .returned (.slice none 0 0) ∧ w = w' := by
  go_enter Tryd.func49, Tryd.ntmps49
  go_wp2
  go_ret
  exact ⟨rfl, rfl⟩
end Go.Proofs.YtoigjcadncecpaaDoor
/- The reference's Sum. -/
namespace Go.Proofs.YtoigjcadncecpaaDoor
open Go.RowKit
set_option maxRecDepth 8000
set_option linter.all false
attribute [local go_sem] uF_at bF_at run_storeU run_storeB

theorem ownsRow_belowW {W W' : World} {base : Nat} {e : TypeId} {size : Nat} {v : Value} {n : Nat} {xs : List Value} (h : W.ownsRow base e size v n xs) (hb : Below W.heap.size W W') : W'.ownsRow base e size v n xs :=
  h.kept (row := none) ⟨hb.os, hb.tape, hb.output, hb.size, fun k hk _ => hb.block k hk⟩ (by cases v.ownBlock with | none => exact .inl rfl | some k => exact .inr (by simp))
/-- The digest, written from behind: the numbers before i, and of number i the last j bytes. -/
def outF (S : Nat → BitVec 32) (i j p : Nat) : UInt8 := if p < 4 * i then dig S p else if 4 * i + 4 ≤ p + j ∧ p < 4 * i + 4 then dig S p else 0
theorem outF_set (S : Nat → BitVec 32) (i j : Nat) (hj : j < 4) (z : Int) (hz : z = bN (dig S (4 * i + (3 - j)))) (p : Nat) : (if p = 4 * i + (3 - j) then Value.int .u8 z else bF (outF S i j) p) = bF (outF S i (j + 1)) p := by
  subst hz
  simp only [bF, outF]
  by_cases h : p = 4 * i + (3 - j)
  · subst h; rw [if_pos rfl, if_neg (by omega), if_pos (by omega)]
  · rw [if_neg h]
    by_cases h2 : p < 4 * i
    · rw [if_pos h2, if_pos h2]
    · rw [if_neg h2, if_neg h2]
      by_cases h3 : 4 * i + 4 ≤ p + j ∧ p < 4 * i + 4
      · rw [if_pos h3, if_pos (by omega)]
      · rw [if_neg h3, if_neg (by omega)]
theorem outF_next (S : Nat → BitVec 32) (i p : Nat) : bF (outF S i 4) p = bF (outF S (i + 1) 0) p := by
  simp only [bF, outF]
  by_cases h : p < 4 * i
  · rw [if_pos h, if_pos (by omega)]
  · rw [if_neg h]
    by_cases h2 : p < 4 * i + 4
    · rw [if_pos ⟨by omega, h2⟩, if_pos (by omega)]
    · rw [if_neg (by omega), if_neg (by omega), if_neg (by omega)]
theorem outF_zero (S : Nat → BitVec 32) (p : Nat) : bF (fun _ => 0) p = bF (outF S 0 0) p := by
  simp only [bF, outF]
  rw [if_neg (by omega), if_neg (by omega)]
theorem dig_back (S : Nat → BitVec 32) (i j : Nat) (hj : j < 4) : (uN (S i >>> (8 * j))) % 256 = bN (dig S (4 * i + (3 - j))) := by
  rw [dig, show (4 * i + (3 - j)) / 4 = i by omega, show (4 * i + (3 - j)) % 4 = 3 - j by omega, show 24 - 8 * (3 - j) = 8 * j by omega, ← u32_u8, wrap_u8]
theorem dig_div (x : BitVec 32) (j : Nat) : uN (x >>> (8 * j)) / (256 : Int) = uN (x >>> (8 * (j + 1))) := by
  have := u32_shr (x >>> (8 * j)) 8
  rw [show ((2 : Int) ^ 8) = 256 from rfl] at this
  rw [this, ← BitVec.shiftRight_add]
  rfl
theorem fill_len (n : Nat) : (n + (fillB n).length) % 64 = 0 := by rw [fillB_length]; split <;> omega
theorem sha_all (l : List UInt8) (m : Nat) (h : (l ++ fillB l.length).length = 64 * m) : shaL Kc Fc l = dig (sB (l ++ fillB l.length) m) := by
  have : cks (l ++ fillB l.length) = (List.range m).map (blk (l ++ fillB l.length)) := by unfold cks; rw [h, show 64 * m / 64 = m by omega]; rfl
  rw [shaL, this, sB_fold]
set_option maxHeartbeats 4000000 in
theorem RSum_any (v : Value) (l : List UInt8) (w : World) (hT : Tables w) (hr : RdV w [] v l) (hl : l.length ≤ 900000) :
    Calls Tryd.prog 38 #[v] w fun e w' => e = .returned (.agg (rowA 32 (bF (shaL Kc Fc l)))) ∧ Below w.heap.size w w' := by
  have HT := Lib.hid hT
  have hsz := hT.size
  have Hr := Lib.hid hr
  obtain ⟨A, cap, rfl, _⟩ := hr
  clear hT
  obtain ⟨n, hn⟩ : ∃ n, l.length = n := ⟨_, rfl⟩
  rw [hn] at hl Hr ⊢
  obtain ⟨i0, hi, hz0, hz1, hz2⟩ := info_parts info5
  have hB1 : Below (w.heap.size) w ((w.alloc (.cells (rowA 32 (bF fun _ => 0)) 29)).alloc (.cells #[] 5)) := ((Below.refl _ w).alloc (Nat.le_refl _) _).alloc (by simp) _
  have rz : ((w.alloc (.cells (rowA 32 (bF fun _ => 0)) 29)).alloc (.cells #[] 5)).rowIs w.heap.size 29 32 (bF fun _ => 0) := (rowIs_box w 29 32 (bF fun _ => 0)).alloc _
  have hown0 : ((w.alloc (.cells (rowA 32 (bF fun _ => 0)) 29)).alloc (.cells #[] 5)).ownsRow (w.heap.size + 1) 5 1 (.slice (some ⟨w.heap.size + 1, 0, none⟩) 0 0) 0 [] := by
    have := rowIs_box (w.alloc (.cells (rowA 32 (bF fun _ => 0)) 29)) 5 0 (fun _ => undef)
    rw [World.size_alloc] at this
    exact ownsRow_row this (w.heap.size + 1) 0 (by omega) (by unfold maxLen; omega) (Nat.le_refl _)
  have Hr1 := Lib.hid (Hr.out.keep (KeepBut.below hB1))
  have hs1 : w.heap.size + 1 ≤ ((w.alloc (.cells (rowA 32 (bF fun _ => 0)) 29)).alloc (.cells #[] 5)).heap.size := by simp
  go_enter Tryd.func38, Tryd.ntmps38
  go_wp2_with (at_builtin; first
    | (refine wpList_append_rd rfl (.tmp 10) (.tmp 11) 59 rfl (base := w.heap.size + 1) Tryd.underlying59 hi hz0 hz1 hz2 rfl hown0 rfl Hr1.out (by omega) hs1 ?_; intro v2 w2 o2 grow2
       have b2 := (Below.refl (w.heap.size + 1) ((w.alloc (.cells (rowA 32 (bF fun _ => 0)) 29)).alloc (.cells #[] 5))).grown grow2 hs1 (fun k e => (hown0.lt k e).1)
       have hB2 := hB1.trans (b2.mono (Nat.le_succ _))
       replace rz := rowIs_below rz b2 (by omega)
       clear grow2 hown0 hs1 Hr1 hB1 b2))
  refine (RFill_any n (by omega) _).mono ?_
  rintro e w3 ⟨v3, rfl, ho3, hb3⟩
  have rd3 := Lib.hid (rdV_fill (L := []) (by simp) ho3)
  have o3 := ownsRow_belowW o2 hb3
  replace rz := rowIs_below rz hb3 rz.lt
  have hB3 := hB2.trans (hb3.mono hB2.size)
  clear o2 ho3 hb3 hB2
  have hfl := fill_len n
  have hf2 : (fillB n).length ≤ 72 := by rw [fillB_length]; split <;> omega
  have hf3 : 0 < (fillB n).length := by rw [fillB_length]; omega
  go_upto_region 2 with (at_builtin; refine wpList_append_rd rfl (.tmp 12) (.tmp 15) 59 rfl (base := w.heap.size + 1) Tryd.underlying59 hi hz0 hz1 hz2 rfl o3 rfl rd3.out (by omega) (by have := rz.lt; omega) ?_; intro v4 w4 o4 grow4)
  have hB4 := hB3.grown grow4 hB3.size (fun k e => by have := (o3.lt k e).1; omega)
  replace rz : w4.rowIs w.heap.size 29 32 (bF fun _ => 0) := rowIs_below rz ((Below.refl (w.heap.size + 1) w3).grown grow4 (by have := rz.lt; omega) (fun k e => (o3.lt k e).1)) (by omega)
  obtain ⟨c, hc⟩ : ∃ c, l ++ fillB n = c := ⟨_, rfl⟩
  have Rall : RdV w4 [] v4 c := by rw [← hc]; exact rdV_own (by simpa [List.map_append] using o4) (by simp) (by simp)
  obtain ⟨m, hm⟩ : ∃ m, m = c.length / 64 := ⟨_, rfl⟩
  have hcm : c.length = 64 * m := by rw [hm, ← hc]; simp only [List.length_append]; omega
  have hD : shaL Kc Fc l = dig (sB c m) := by rw [← hc, ← hn]; exact sha_all l m (by rw [hn, hc, hcm])
  have HD := Lib.hid hD
  obtain ⟨A4, c4, rfl, hcap4, hmax4, hA4⟩ := Rall
  obtain ⟨M, hM⟩ : ∃ M, c.length = M := ⟨_, rfl⟩
  rw [hM] at hcap4 hA4 hcm ⊢
  have hM2 : M ≤ 900072 := by rw [← hM, ← hc]; simp only [List.length_append]; omega
  have hM0 : 0 < M := by rw [← hM, ← hc]; simp only [List.length_append]; omega
  obtain ⟨b4, o4', rfl, _, hcell4⟩ := hA4 hM0
  have HC := Lib.hid hcell4
  have HM := Lib.hid hcm
  have hb4 : b4 < w4.heap.size := World.block_lt_of_cell? _ _ (hcell4 0 hM0)
  clear hD hcell4 hcm hM hc hm hA4 o4 o3 grow4 rd3 hfl hf2 hf3 hB3
  have T4 := HT.out.below hB4
  have f0 := T4.f 0 (by omega)
  have f1 := T4.f 1 (by omega)
  have f2 := T4.f 2 (by omega)
  have f3 := T4.f 3 (by omega)
  have f4 := T4.f 4 (by omega)
  have f5 := T4.f 5 (by omega)
  have f6 := T4.f 6 (by omega)
  have f7 := T4.f 7 (by omega)
  have h0 : 0 < w4.heap.size := by have := T4.size; omega
  clear T4
  go_wp2
  clear f0 f1 f2 f3 f4 f5 f6 f7
  have rs := rowIs_box w4 65 8 (uF Fc)
  have hB5 := (Below.refl _ w4).alloc (Nat.le_refl _) (.cells (rowA 8 (uF Fc)) 65)
  change Code.wp _ _ _ _ (w4.alloc (.cells (rowA 8 (uF Fc)) 65))
  generalize w4.alloc (.cells (rowA 8 (uF Fc)) 65) = w5 at rs hB5 ⊢
  go_loopw [5] (fun i wr => ∃ j k : Nat, j = 64 * k ∧ j ≤ M ∧ i = .int .i64 j ∧ wr.rowIs w4.heap.size 65 8 (uF (sB c k)) ∧ Below w4.heap.size w4 wr) (fun i _ => M - (intOf i).toNat)
  case atStart => exact ⟨0, 0, rfl, by omega, rfl, rs, hB5⟩
  case round =>
    obtain ⟨j, k, hjk, hjM, rfl, qs, qB⟩ := hrel
    clear rs hB5
    by_cases hlt : j < M
    · have HM2 := HM.out
      have hsl := slice_blk b4 o4' M c4 j (by omega)
      have hB6 : Below w.heap.size w wr := hB4.trans (qB.mono hB4.size)
      have HC2 : Hid (∀ i, i < 64 → wr.cell? ⟨b4, o4' + j + i, none⟩ = some (.int .u8 (bN (bAt (blk c k) i)))) := Lib.hid fun i hi => by
        rw [Nat.add_assoc]
        refine (qB.cell (p := ⟨b4, o4' + (j + i), none⟩) hb4).trans ?_
        rw [HC.out (j + i) (by omega), bAt_blk c k i hi, ← hjk]
      have HT2 := HT.out.below hB6
      have HTk := Lib.hid HT2.k
      have hs2 := HT2.size
      have hbr : b4 < wr.heap.size := Nat.lt_of_lt_of_le hb4 qB.size
      have d1 : decide ((j : Int) + 64 ≤ (M : Int)) = true := by simp; omega
      have d2 : (j : Int) + 64 ≤ (M : Int) := by omega
      have hcj : 64 ≤ c4 - j := by omega
      have hcj2 : c4 - j ≤ maxLen := by omega
      clear HT2
      have Hjk := Lib.hid hjk
      clear hjk HM2
      obtain ⟨s, Hs⟩ : ∃ s, Hid (sB c k = s) := ⟨_, Lib.hid rfl⟩
      rw [Hs.out] at qs
      have c0 := qs.cell (i := 0) (by omega)
      have c1 := qs.cell (i := 1) (by omega)
      have c2 := qs.cell (i := 2) (by omega)
      have c3 := qs.cell (i := 3) (by omega)
      have c4' := qs.cell (i := 4) (by omega)
      have c5 := qs.cell (i := 5) (by omega)
      have c6 := qs.cell (i := 6) (by omega)
      have c7 := qs.cell (i := 7) (by omega)
      go_wp2
      refine wp_region_still_tail 6 (by kernel_rfl) (by kernel_rfl) ?_
      simp only [List.take_succ_cons, List.take_zero, List.drop_succ_cons, List.drop_zero]
      iterate 6 (refine wpStill_step (fun K hK => ?_); go_simp; (try go_bits); refine hK _ ?_; clear hK K)
      refine wpStill_nil ?_
      go_wp2_with fail
      refine (RTurn_any Kc s (blk c k) b4 (o4' + j) (c4 - j) hcj hcj2 wr.drew hbr hs2 HTk.out HC2.out).mono ?_
      rintro e w6 ⟨rfl, hB7⟩
      replace qs := rowIs_below qs.drew hB7 qs.lt
      have hB8 : Below w4.heap.size w4 w6 := qB.drew.trans (hB7.mono qB.size)
      have rw2 : RowW w6 w4.heap.size 8 := ⟨_, _, qs⟩
      clear c0 c1 c2 c3 c4' c5 c6 c7 hB7 qB
      go_wp2
      go_roundw
      case rel =>
        refine ⟨j + 64, k + 1, by have := Hjk.out; omega, by omega, by go_num, ?_, below_setCells _ (Nat.le_refl _) _ _ _ hB8⟩
        have := rowIs_setAll qs (uF (turnF Kc s (blk c k)))
        rw [sB, Hs.out]
        exact this
      case measure => simp [intOf]; omega
    · obtain rfl : j = M := by omega
      obtain rfl : k = m := by have := HM.out; omega
      obtain ⟨S, HS⟩ : ∃ S, Hid (sB c k = S) := ⟨_, Lib.hid rfl⟩
      rw [HS.out] at qs
      have Hjk := Lib.hid hjk
      clear hjk
      have hg4 : w4.heap.size < wr.heap.size := qs.lt
      have ro := rowIs_box wr 29 32 (bF fun _ => 0)
      replace qs := qs.alloc (.cells (rowA 32 (bF fun _ => 0)) 29)
      have rz2 := (rowIs_below rz qB rz.lt).alloc (.cells (rowA 32 (bF fun _ => 0)) 29)
      have hgw : w.heap.size < wr.heap.size := (rowIs_below rz qB rz.lt).lt
      have qB6 := (hB4.trans (qB.mono hB4.size)).alloc (by omega) (.cells (rowA 32 (bF fun _ => 0)) 29)
      go_wp2
      change Code.wp _ _ _ _ (wr.alloc (.cells (rowA 32 (bF fun _ => 0)) 29))
      generalize wr.heap.size = g at hgw hg4 ro ⊢
      generalize wr.alloc (.cells (rowA 32 (bF fun _ => 0)) 29) = W6 at ro qs rz2 qB6 ⊢
      clear rz qB
      go_loopw [7] (fun i wr => ∃ t : Nat, t ≤ 8 ∧ i = .int .i64 t ∧ wr.rowIs w4.heap.size 65 8 (uF S) ∧ wr.rowIs w.heap.size 29 32 (bF fun _ => 0) ∧ wr.rowIs g 29 32 (bF (outF S t 0)) ∧ Below w.heap.size w wr) (fun i _ => 8 - (intOf i).toNat)
      case atStart => exact ⟨0, by omega, rfl, qs, rz2, ro.congr fun p _ => outF_zero S p, qB6⟩
      case round =>
        clear qs rz2 ro qB6
        obtain ⟨t, ht, rfl, qs, qz, qo, qB⟩ := hrel
        by_cases hlt : t < 8
        · have cs := qs.cell (i := t) hlt
          have it : (t : Int) < 8 := by omega
          go_wp2
          clear cs
          go_loopw [8, 9] (fun x k wr => ∃ j : Nat, j ≤ 4 ∧ k = .int .i64 (3 - (j : Int)) ∧ x = .int .u32 (uN (S t >>> (8 * j))) ∧ wr.rowIs w4.heap.size 65 8 (uF S) ∧ wr.rowIs w.heap.size 29 32 (bF fun _ => 0) ∧ wr.rowIs g 29 32 (bF (outF S t j)) ∧ Below w.heap.size w wr) (fun _ k _ => (intOf k + 1).toNat)
          case atStart => exact ⟨0, by omega, rfl, rfl, qs, qz, qo, qB⟩
          case round =>
            clear qs qz qo qB
            obtain ⟨j, hj, rfl, rfl, qs, qz, qo, qB⟩ := hrel
            by_cases hj4 : j < 4
            · obtain ⟨q, hq⟩ : ∃ q, 3 - j = q := ⟨_, rfl⟩
              have hz := dig_back S t j hj4
              have hd := dig_div (S t) j
              rw [hq] at hz
              obtain ⟨X, hX, hX2⟩ : ∃ X : Nat, X < 4294967296 ∧ uN (S t >>> (8 * j)) = (X : Int) := ⟨(S t >>> (8 * j)).toNat, (S t >>> (8 * j)).isLt, rfl⟩
              rw [hX2] at hz hd ⊢
              have hqi : (3 : Int) - (j : Int) = (q : Int) := by omega
              rw [hqi]
              have Hz := Lib.hid hz
              have Hd := Lib.hid hd
              have Hq := Lib.hid hq
              have Hqi := Lib.hid hqi
              have hq3 : q ≤ 3 := by omega
              clear hz hd hX2 hq hqi
              have co := qo.cell (i := 4 * t + q) (by omega)
              have fo := qo.frozen (4 * t + q)
              have i1 : 4 * (t : Int) + (q : Int) < 32 := by omega
              have i2 : (0 : Int) ≤ 4 * (t : Int) + (q : Int) := by omega
              go_wp2
              go_roundw
              case rel =>
                refine ⟨j + 1, by omega, ?_, by rw [← Hd.out], qs.setOther (by simp; omega) _, qz.setOther (by simp; omega) _, (qo.set (4 * t + q) _).congr fun p _ => ?_, qB.setCell (p := ⟨g, 4 * t + q, none⟩) (by simp; omega) _⟩
                · congr 1
                  have := Hqi.out
                  omega
                · have := outF_set S t j hj4 ((X : Int) % 256) (by rw [Hq.out]; exact Hz.out) p
                  rwa [Hq.out] at this
              case measure => simp only [intOf]; omega
            · obtain rfl : j = 4 := by omega
              go_wp2
              go_roundw
              case rel => exact ⟨t + 1, by omega, by go_num, qs, qz, qo.congr fun p _ => outF_next S t p, qB⟩
              case measure => simp [intOf]; omega
        · obtain rfl : t = 8 := by omega
          have hR := rangeAt_row qo
          go_wp2_with (first
            | (refine wpList_load_mid rfl 29 (.tmp 6) rfl g 0 rfl (rowA 32 (bF (outF S 8 0))).toList _ hR Tryd.underlying29 rfl (by rw [rowA_toList]; simpa using info31) ?_)
            | (refine wpList_store_mid rfl 29 (.tmp 2) (.tmp 53) rfl w.heap.size 0 (rowA 32 (bF (outF S 8 0))) rfl rfl (by rw [rowA_size]; exact there_row qz) (by rw [rowA_size]; exact info31) (rowA_one _ _ fun _ => rfl) ?_))
          refine bodyPost_ret (results_row rfl _ rfl (rowIs_setAll qz (bF (outF S 8 0))) Tryd.underlying29 info31) rfl ⟨?_, below_setCells _ (Nat.le_refl _) _ _ _ qB⟩
          rw [HD.out, HS.out]
          exact congrArg (fun z => Ending.returned (.agg z)) (rowA_congr fun i hi => by simp only [bF, outF]; rw [if_pos (by omega)])
end Go.Proofs.YtoigjcadncecpaaDoor
/- The document's answers for layer 5: Leaf, Pair, Split and Root, walked. -/
namespace Go.Proofs.YtoigjcadncecpaaDoor
open Go Go.RowKit
set_option maxRecDepth 8000
set_option linter.all false
theorem RSumB_cv (v : Value) (l : List UInt8) (D : Hs) (w : World) (hT : Tables w) (hr : RdV w [] v l) (hl : l.length ≤ 900000) (hD : shaL Kc Fc l = D) : Cv 38 #[v] w (.eq (.agg (rowA 32 (bF D)))) := by
  rw [← hD]; exact Cv.of_eq (RSum_any v l w hT hr hl)
theorem rdV_nil0 (w : World) : RdV w [] (.slice none 0 0) [] := ⟨none, 0, rfl, Nat.le_refl _, by unfold maxLen; omega, fun h => absurd h (by simp)⟩
theorem split_pow (n e : Nat) (h1 : 2 ^ e < n) (h2 : n ≤ 2 ^ (e + 1)) : splitN n = 2 ^ e := by
  obtain ⟨m, rfl⟩ : ∃ m, n = 2 ^ e + m := ⟨n - 2 ^ e, by omega⟩
  rw [Nat.pow_succ] at h2
  exact splitN_eq e m (by omega) (by omega)
set_option maxHeartbeats 1000000 in
theorem RSplit_cv (n : Int) (hn : n ≤ 1099511627776) (w : World) : Cv 26 #[.int .i64 n] w (.eq (.int .i64 (splitN n.toNat : Int))) := by
  unfold Cv
  go_enter Tryd.func26, Tryd.ntmps26
  go_wp2
  go_loopw [3, 4] (fun k p wr => ∃ (a e : Nat), p = .int .i64 (a : Int) ∧ Hid (a = 2 ^ e) ∧ k = .int .i64 (if e = 0 then 0 else ((a / 2 : Nat) : Int)) ∧ (e = 0 ∨ Hid ((a / 2 : Nat) < n ∧ a = 2 * (a / 2))) ∧ a ≤ 2199023255552 ∧ 1 ≤ a ∧ w = wr) (fun _ p _ => (n - intOf p).toNat)
  case atStart => exact ⟨1, 0, rfl, Lib.hid rfl, rfl, .inl rfl, by omega, by omega, rfl⟩
  case round =>
    obtain ⟨a, e, rfl, HE, rfl, hor, ha, ha1, rfl⟩ := hrel
    have HOR := Lib.hid hor
    clear hor
    obtain ⟨kk, hkk⟩ : ∃ kk : Int, (if e = 0 then 0 else ((a / 2 : Nat) : Int)) = kk := ⟨_, rfl⟩
    have HKK := Lib.hid hkk
    rw [hkk]
    clear hkk
    by_cases hlt : (a : Int) < n
    · go_wp2
      go_roundw
      case rel => exact ⟨2 * a, e + 1, by go_num, Lib.hid (by rw [HE.out, Nat.pow_succ]; omega), by rw [if_neg (by omega), show 2 * a / 2 = a by omega], .inr (Lib.hid ⟨by rw [show 2 * a / 2 = a by omega]; exact hlt, by omega⟩), by omega, by omega, by first | rfl | trivial⟩
      case measure => simp [intOf]; omega
    · go_wp2
      go_ret
      refine ⟨_, rfl, NewT.refl _, ?_⟩
      show Value.int .i64 kk = .int .i64 _
      congr 1
      rw [← HKK.out]
      by_cases he : e = 0
      · rw [if_pos he]
        have h1 := HE.out
        rw [he] at h1
        unfold splitN
        rw [if_pos (by omega)]
        rfl
      · rw [if_neg he]
        obtain ⟨q1, q2⟩ : (a / 2 : Nat) < n ∧ a = 2 * (a / 2) := (HOR.out.resolve_left he).out
        obtain ⟨e', rfl⟩ : ∃ e', e = e' + 1 := ⟨e - 1, by omega⟩
        have h1 := HE.out
        have h2 : a / 2 = 2 ^ e' := by rw [Nat.pow_succ] at h1; omega
        rw [h2]
        rw [split_pow n.toNat e' (by omega) (by omega)]
end Go.Proofs.YtoigjcadncecpaaDoor
/- The document's answers for layer 5: Leaf, Pair and Root, walked. -/
namespace Go.Proofs.YtoigjcadncecpaaDoor
open Go Go.RowKit
set_option maxRecDepth 8000
set_option linter.all false
/-- A row of bytes of the call's own, from block B on. -/
def OwnB (W : World) (B : Nat) (v : Value) (l : List UInt8) : Prop := W.ownsRow B 5 1 v l.length (l.map (fun b : UInt8 => Value.int .u8 (bN b)))
theorem OwnB.keep {W W' : World} {B : Nat} {v : Value} {l : List UInt8} (h : OwnB W B v l) (hN : NewT W W') : OwnB W' B v l := by
  obtain ⟨h1, h2⟩ := h
  refine ⟨h1, ?_⟩
  rcases h2 with h2 | ⟨g, cap, cur, hv, hb, hg, r⟩
  · exact .inl h2
  · exact .inr ⟨g, cap, cur, hv, hb, (hN.out.block g (Array.getElem?_eq_some_iff.1 hg).1).trans hg, r⟩
theorem OwnB.rd {W : World} {B : Nat} {v : Value} {l : List UInt8} (h : OwnB W B v l) : RdV W [] v l := rdV_own h rfl (by simp)
def svOB (B : Nat) (l : List UInt8) : SV NewT := ⟨fun v w => OwnB w B v l, fun _ _ _ h hT => h.keep hT⟩
/-- A new slice of one byte, with no room more. -/
def svB1 (B : Nat) (b : UInt8) : SV NewT := ⟨fun v w => ∃ g, v = .slice (some ⟨g, 0, none⟩) 1 1 ∧ OwnB w B v [b], fun _ _ _ ⟨g, h1, h2⟩ hT => ⟨g, h1, h2.keep hT⟩⟩
theorem opr_bsB1 {a : Act} {w : World} {o : Oper} {K : Act → World → Prop} {Q : Exit → Act → World → Prop} {x : Operand} {B : Nat} {b : UInt8} (ho : o.op = .buildSlice 59 1 #[(0, x)]) (hx : a.eval x = .int .u8 (bN b)) (hB : B ≤ w.heap.size) (h : ∀ v w', NewT w w' → (svB1 B b).pred v w' → K (a.put o.dst v) w') : o.wp Tryd.prog a w K Q := by
  obtain ⟨dst, op, type, pos, after, guard⟩ := o
  simp only at ho
  subst ho
  refine opr_val (s := Instr.buildSlice 59 1 #[(0, a.eval x)]) (by simp [execOp]) (by rw [hx]; exact run_bsb1 _ w) (h _ _ (NewT.alloc _ _) ⟨w.heap.size, rfl, by simp, .inr ⟨w.heap.size, 1, _, rfl, hB, World.alloc_heap_new w _, by simp, by unfold maxLen; omega, by simp, by simp⟩⟩)
theorem run_appB {W : World} {B : Nat} {v u : Value} {l m : List UInt8} (h : OwnB W B v l) (hr : RdV W [] u m) (hn : l.length + m.length ≤ 1000000) (hB : B ≤ W.heap.size) (ty : TypeId) :
    ∃ v' w', (Builtin.append_ #[59, 59] ty #[v, u]).run Tryd.prog W = .ok v' w' ∧ OwnB w' B v' (l ++ m) ∧ Below B W w' := by
  obtain ⟨i0, hi, hz0, hz1, hz2⟩ := info_parts info5
  obtain ⟨v', w', h1, h2, h3⟩ := run_append_rd (P := Tryd.prog) (ty := ty) Tryd.underlying59 hi hz0 hz1 hz2 h hr hn hB
  refine ⟨v', w', h1, ?_, (Below.refl _ W).grown h3 hB (fun k hk => (World.ownsRow.lt h k hk).1)⟩
  unfold OwnB
  rw [List.length_append, List.map_append]
  exact h2
/-- Bytes behind one byte with no room: a new row. -/
theorem run_appB1 {W : World} {B : Nat} {b : UInt8} {v u : Value} {m : List UInt8} (h : (svB1 B b).pred v W) (hr : RdV W [] u m) (hm : 0 < m.length) (hn : 1 + m.length ≤ 1000000) (hB : B ≤ W.heap.size) (ty : TypeId) :
    ∃ v' w', (Builtin.append_ #[59, 59] ty #[v, u]).run Tryd.prog W = .ok v' w' ∧ OwnB w' B v' (b :: m) ∧ NewT W w' := by
  obtain ⟨g, hv, ho⟩ := h
  obtain ⟨v', w', h1, h2, _⟩ := run_appB ho hr (by simpa using hn) hB ty
  refine ⟨v', w', h1, h2, ?_⟩
  obtain ⟨i0, hi, hz0, hz1, hz2⟩ := info_parts info5
  obtain ⟨A, c, rfl, k1, k2, k3⟩ := hr
  obtain ⟨b2, o2, rfl, _, hc⟩ := k3 hm
  have ho2 := ho
  rw [hv] at h1 ho2
  have hrun := run_append_grow (P := Tryd.prog) W 59 ty 5 i0 _ Tryd.underlying59 hi hz0 ⟨g, 0, none⟩ 1 1 ([b].map (fun b : UInt8 => Value.int .u8 (bN b))) (by rw [hz1]; rfl) (World.ownsRow.cells ho2 (g := g) rfl) ⟨b2, o2, none⟩ m.length c (m.map (fun b : UInt8 => Value.int .u8 (bN b))) (by rw [hz1]; simp) (fun j u hj => by
      have hjl : j < m.length := by have := (List.getElem?_eq_some_iff.1 hj).1; simpa using this
      rw [Addr.add_mid, hc j hjl, ← map_at m j hjl, hj]) (by omega) (by omega) (growslice_fits (by omega) (by rw [hz2]; omega))
  rw [h1] at hrun
  injection hrun with _ e
  subst e
  exact NewT.trans _ _ _ (NewT.drew W) (NewT.alloc _ _)
set_option maxHeartbeats 1000000 in
theorem RPair_cv (p q : Hs) (w : World) : Cv 42 #[.agg (rowA 32 (bF p)), .agg (rowA 32 (bF q))] w (svRd ((1 :: digL p) ++ digL q)) := by
  unfold Cv
  go_enter Tryd.func42, Tryd.ntmps42
  go_upto_region 1 with fail
  have r1 := (rowIs_box w 29 32 (bF p)).alloc (.cells (rowA 32 (bF q)) 29)
  have r2 := rowIs_box (w.alloc (.cells (rowA 32 (bF p)) 29)) 29 32 (bF q)
  rw [World.size_alloc] at r2
  have hN : NewT w ((w.alloc (.cells (rowA 32 (bF p)) 29)).alloc (.cells (rowA 32 (bF q)) 29)) := NewT.trans _ _ _ (NewT.alloc _ _) (NewT.alloc _ _)
  change Code.wp _ _ _ _ ((w.alloc (.cells (rowA 32 (bF p)) 29)).alloc (.cells (rowA 32 (bF q)) 29))
  generalize ((w.alloc (.cells (rowA 32 (bF p)) 29)).alloc (.cells (rowA 32 (bF q)) 29)) = W0 at r1 r2 hN ⊢
  have R1 := Lib.hid r1
  have R2 := Lib.hid r2
  have HN := Lib.hid hN
  clear r1 r2 hN
  refine wp_region_rely_tail (NewT) [svB1 W0.heap.size 1, svRd (digL (p)), svOB W0.heap.size (1 :: digL p), svRd (digL (q))] [([], none), ([(2, none)], none), ([(5, some 0), (6, some 1)], none), ([(3, none)], none)] 10 4 (by kernel_rfl) rfl rfl (Nat.zero_lt_succ _) (by kernel_rfl) (by kernel_rfl) (by kernel_rfl) NewT.trans (NewT.drew _) (Nat.le_of_ble_eq_true rfl) ⟨?_, ?_, ?_, ?_, trivial⟩ ?_
  · intro a wx hT hF K hK
    refine rely_wp rfl ?_
    exact opr_bsB1 (B := W0.heap.size) (b := 1) rfl rfl hT.out.size hK
  · intro a wx hT hF K hK
    obtain ⟨f2, _⟩ := hF
    have f2 : a.tmps.getD 2 undef = .pointer (some ⟨w.heap.size, 0, none⟩) := f2
    refine rely_wp rfl ?_
    exact opr_sliceH rfl f2 (hK _ _ (NewT.refl _) (rd_rowH (hT.row R1.out) (by decide) (fun j _ => by rw [Nat.zero_add])))
  · intro a wx hT hF K hK
    obtain ⟨f5, f6, _⟩ := hF
    replace f5 := show (svB1 W0.heap.size 1).pred (a.tmps.getD 5 undef) wx from f5
    replace f6 := show (svRd (digL (p))).pred (a.tmps.getD 6 undef) wx from f6
    refine rely_wp rfl ?_
    obtain ⟨v', w', hrun, h2, h3⟩ := run_appB1 f5 f6 (by simp [digL_length]) (by simp [digL_length]) hT.out.size _
    exact opr_append rfl rfl rfl hrun (hK _ _ h3 h2)
  · intro a wx hT hF K hK
    obtain ⟨f3, _⟩ := hF
    have f3 : a.tmps.getD 3 undef = .pointer (some ⟨w.heap.size + 1, 0, none⟩) := f3
    refine rely_wp rfl ?_
    exact opr_sliceH rfl f3 (hK _ _ (NewT.refl _) (rd_rowH (hT.row R2.out) (by decide) (fun j _ => by rw [Nat.zero_add])))
  · intro wa ka
    intro _ _
    intro _ _
    intro u7 h; have g7 := h (by simp); clear h; replace g7 := show (svOB W0.heap.size (1 :: digL p)).pred u7 wa from g7
    intro u8 h; have g8 := h (by simp); clear h; replace g8 := show (svRd (digL (q))).pred u8 wa from g8
    refine relyEnd_nil rfl ?_
    simp only [Act.put, List.setIfInBounds_toArray, List.set_cons_zero, List.set_cons_succ]
    refine wpList_plain rfl (fun K hK => ?_)
    have hO : OwnB wa W0.heap.size u7 (1 :: digL p) := g7
    have hR : RdV wa [] u8 (digL q) := g8
    obtain ⟨v', w', hrun, h2, h3⟩ := run_appB hO hR (by simp [digL_length]) ka.out.size 59
    refine opr_append rfl rfl rfl hrun (hK _ _ ?_)
    refine wpList_plain rfl (fun K hK => ?_)
    refine opr_move (.inr rfl) (hK _ _ ?_)
    refine wpList_end rfl ?_
    simp only [Act.put, List.setIfInBounds_toArray, List.set_cons_zero, List.set_cons_succ]
    go_simp
    go_wp2
    go_ret
    exact ⟨_, rfl, NewT.trans _ _ _ HN.out (NewT.of (ka.out.trans h3)), h2.rd⟩
end Go.Proofs.YtoigjcadncecpaaDoor
/- The document's answers for layer 5: Root, Trees and Same, walked. -/
namespace Go.Proofs.YtoigjcadncecpaaDoor
open Go Go.RowKit
set_option maxRecDepth 8000
set_option linter.all false
set_option maxHeartbeats 1000000 in
theorem RRoot_0 {node : Hs → Hs → Hs} {z : Hs} (hX : TreeH node z) (A : Option Addr) (c : Nat) (w : World) (hT : Tables w) : Cv 27 #[.slice A 0 c] w (.eq (.agg (rowA 32 (bF z)))) := by
  unfold Cv
  have HT := Lib.hid hT
  clear hT
  go_enter Tryd.func27, Tryd.ntmps27
  go_upto_region 2 with fail
  have r0 := rowIs_box w 29 32 (bF fun _ => 0)
  have hN := NewT.alloc w (.cells (rowA 32 (bF fun _ => 0)) 29)
  change Code.wp _ _ _ _ (w.alloc (.cells (rowA 32 (bF fun _ => 0)) 29))
  generalize w.alloc (.cells (rowA 32 (bF fun _ => 0)) 29) = W0 at r0 hN ⊢
  have R0 := Lib.hid r0
  have HN := Lib.hid hN
  replace HT := Lib.hid (hN.tables HT.out)
  clear r0 hN
  refine wp_region_steps0 NewT [SV.eq (.agg (rowA 32 (bF (z))))] [([], none)] 27 1 rfl rfl (by kernel_rfl) NewT.trans (NewT.refl _) (Nat.le_of_ble_eq_true rfl) ⟨?_, trivial⟩ ?_
  · intro a wx hT hF K hK
    refine rely_wp rfl ?_
    exact opr_cv (RSumB_cv _ [] z wx (hT.tables HT.out) (rdV_nil0 wx) (by simp) hX.zero) rfl Tryd.func38 (by kernel_rfl) (by kernel_rfl) (by simp only [List.map_toArray, List.map_cons, List.map_nil, eval_const]) hK
  · intro wx hT
    intro u h; obtain rfl := Eq.symm (h (by simp)); clear h
    refine relyEnd_nil rfl ?_
    simp only [Act.put, List.setIfInBounds_toArray, List.set_cons_zero, List.set_cons_succ]
    refine wpList_plain rfl (fun K hK => ?_)
    refine opr_store_new (B := w.heap.size) (W := w) info31 rfl rfl rfl (hT.row R0.out) (NewT.trans _ _ _ HN.out hT) (Nat.le_refl _) ?_
    intro w9 hB9 r9
    refine hK _ _ ?_
    refine wpList_end rfl ?_
    simp only [Act.put]
    go_simp
    go_wp2
    exact bodyPost_ret (results_row rfl _ rfl r9 Tryd.underlying29 info31) rfl ⟨_, rfl, hB9, rfl⟩
set_option maxHeartbeats 1000000 in
theorem RRoot_1 {node : Hs → Hs → Hs} {z : Hs} (hX : TreeH node z) (v : Value) (d : Hs) (w : World) (hT : Tables w) (hl : RdH w v [d]) : Cv 27 #[v] w (.eq (.agg (rowA 32 (bF d)))) := by
  unfold Cv
  have HT := Lib.hid hT
  have HL := Lib.hid hl
  obtain ⟨A, c, hv⟩ := rdH_form hl
  have hv : v = .slice A 1 c := hv
  subst hv
  clear hT hl
  go_enter Tryd.func27, Tryd.ntmps27
  go_upto_region 4 with fail
  obtain ⟨v, ev⟩ : ∃ v, Value.slice A 1 c = v := ⟨_, rfl⟩
  rw [ev] at HL ⊢
  clear ev
  have r0 := rowIs_box w 29 32 (bF fun _ => 0)
  have hN := NewT.alloc w (.cells (rowA 32 (bF fun _ => 0)) 29)
  change Code.wp _ _ _ _ (w.alloc (.cells (rowA 32 (bF fun _ => 0)) 29))
  generalize w.alloc (.cells (rowA 32 (bF fun _ => 0)) 29) = W0 at r0 hN ⊢
  have R0 := Lib.hid r0
  have HN := Lib.hid hN
  replace HT := Lib.hid (hN.tables HT.out)
  replace HL := Lib.hid (hN.hs HL.out)
  clear r0 hN
  refine wp_region_steps0 NewT [SV.eq (v), svP (d), SV.eq (.agg (rowA 32 (bF (d))))] [([(0, none)], none), ([(11, some 0)], none), ([(12, some 1)], none)] 27 3 rfl rfl (by kernel_rfl) NewT.trans (NewT.refl _) (Nat.le_of_ble_eq_true rfl) ⟨?_, ?_, ?_, trivial⟩ ?_
  · intro a wx hT hF K hK
    obtain ⟨f0, _⟩ := hF
    have f0 : a.tmps.getD 0 undef = v := f0
    refine rely_wp rfl ?_
    exact opr_move (.inl rfl) (hK _ _ (NewT.refl _) f0)
  · intro a wx hT hF K hK
    obtain ⟨f11, _⟩ := hF
    have f11 : a.tmps.getD 11 undef = v := f11
    refine rely_wp rfl ?_
    exact opr_idxH (i := 0) (d := d) (rfl) (rfl) rfl (by rw [eval_tmp, f11]; exact (hT.hs HL.out)) rfl (fun v hv => hK v _ (NewT.refl _) hv)
  · intro a wx hT hF K hK
    obtain ⟨f12, _⟩ := hF
    replace f12 := show (svP (d)).pred (a.tmps.getD 12 undef) wx from f12
    refine rely_wp rfl ?_
    exact opr_ldP rfl f12 (hK _ _ (NewT.refl _) rfl)
  · intro wx hT
    intro u h; obtain rfl := Eq.symm (h (by simp)); clear h
    intro _ _
    intro u h; obtain rfl := Eq.symm (h (by simp)); clear h
    refine relyEnd_nil rfl ?_
    simp only [Act.put, List.setIfInBounds_toArray, List.set_cons_zero, List.set_cons_succ]
    refine wpList_plain rfl (fun K hK => ?_)
    refine opr_store_new (B := w.heap.size) (W := w) info31 rfl rfl rfl (hT.row R0.out) (NewT.trans _ _ _ HN.out hT) (Nat.le_refl _) ?_
    intro w9 hB9 r9
    refine hK _ _ ?_
    refine wpList_end rfl ?_
    simp only [Act.put]
    go_simp
    go_wp2
    exact bodyPost_ret (results_row rfl _ rfl r9 Tryd.underlying29 info31) rfl ⟨_, rfl, hB9, rfl⟩
set_option maxRecDepth 20000 in
set_option maxHeartbeats 1000000 in
theorem RRoot_2 {node : Hs → Hs → Hs} {z : Hs} (hX : TreeH node z) (v : Value) (l : List Hs) (k : Nat) (w : World) (hT : Tables w) (hl : RdH w v l) (hn : 2 ≤ l.length) (hk : k < l.length) (hk0 : 0 < k) (hs : ∀ w, Cv 26 #[.int .i64 (l.length : Int)] w (.eq (.int .i64 (k : Int))))
    (ih : ∀ (v : Value) (m : List Hs) (w : World), Tables w → RdH w v m → m.length < l.length → Cv 27 #[v] w (.eq (.agg (rowA 32 (bF (rootM node z m)))))) : Cv 27 #[v] w (.eq (.agg (rowA 32 (bF (node (rootM node z (l.take k)) (rootM node z (l.drop k))))))) := by
  unfold Cv
  have HT := Lib.hid hT
  have HL := Lib.hid hl
  have HK := Lib.hid hs
  obtain ⟨A, c, hv⟩ := rdH_form hl
  have t0 : ((l.length : Int) == 0) = false := beq_eq_false_iff_ne.2 (by omega)
  have t1 : ((l.length : Int) == 1) = false := beq_eq_false_iff_ne.2 (by omega)
  subst hv
  clear hT hl hs
  go_enter Tryd.func27, Tryd.ntmps27
  go_upto_region 5 with fail
  obtain ⟨v, ev⟩ : ∃ v, Value.slice A l.length c = v := ⟨_, rfl⟩
  rw [ev] at HL ⊢
  clear ev
  have r0 := rowIs_box w 29 32 (bF fun _ => 0)
  have hN := NewT.alloc w (.cells (rowA 32 (bF fun _ => 0)) 29)
  change Code.wp _ _ _ _ (w.alloc (.cells (rowA 32 (bF fun _ => 0)) 29))
  generalize w.alloc (.cells (rowA 32 (bF fun _ => 0)) 29) = W0 at r0 hN ⊢
  have R0 := Lib.hid r0
  have HN := Lib.hid hN
  replace HT := Lib.hid (hN.tables HT.out)
  replace HL := Lib.hid (hN.hs HL.out)
  clear r0 hN
  clear t0 t1
  refine wp_region_steps0 NewT [SV.eq (v), SV.eq (.int .i64 ((List.length (l) : Int))), SV.eq (.int .i64 ((k : Int))), SV.eq (.int .i64 ((k : Int)))] [([(0, none)], none), ([(14, some 0)], none), ([(15, some 1)], none), ([(16, some 2)], none)] 27 4 rfl rfl (by kernel_rfl) NewT.trans (NewT.refl _) (Nat.le_of_ble_eq_true rfl) ⟨?_, ?_, ?_, ?_, trivial⟩ ?_
  · intro a wx hT hF K hK
    obtain ⟨f0, _⟩ := hF
    have f0 : a.tmps.getD 0 undef = v := f0
    refine rely_wp rfl ?_
    exact opr_move (.inl rfl) (hK _ _ (NewT.refl _) f0)
  · intro a wx hT hF K hK
    obtain ⟨f14, _⟩ := hF
    have f14 : a.tmps.getD 14 undef = v := f14
    refine rely_wp rfl ?_
    exact opr_len_h rfl (by rw [eval_tmp, f14]; exact (hT.hs HL.out)) (hK _ _ (NewT.refl _) rfl)
  · intro a wx hT hF K hK
    obtain ⟨f15, _⟩ := hF
    have f15 : a.tmps.getD 15 undef = .int .i64 ((List.length (l) : Int)) := f15
    refine rely_wp rfl ?_
    exact opr_cv (HK.out wx) rfl Tryd.func26 (by kernel_rfl) (by kernel_rfl) (by simp only [List.map_toArray, List.map_cons, List.map_nil, eval_tmp, f15]) hK
  · intro a wx hT hF K hK
    obtain ⟨f16, _⟩ := hF
    have f16 : a.tmps.getD 16 undef = .int .i64 ((k : Int)) := f16
    refine rely_wp rfl ?_
    exact opr_move (.inr rfl) (hK _ _ (NewT.refl _) f16)
  · intro w6 k6
    intro u h; obtain rfl := Eq.symm (h (by simp)); clear h
    intro u h; obtain rfl := Eq.symm (h (by simp)); clear h
    intro u h; obtain rfl := Eq.symm (h (by simp)); clear h
    intro u h; obtain rfl := Eq.symm (h (by simp)); clear h
    refine relyEnd_nil rfl ?_
    refine wpList_end rfl ?_
    simp only [Act.put, List.setIfInBounds_toArray, List.set_cons_zero, List.set_cons_succ]
    go_simp
    replace R0 := Lib.hid (k6.row R0.out)
    replace HT := Lib.hid (k6.tables HT.out)
    replace HL := Lib.hid (k6.hs HL.out)
    replace HN := Lib.hid (NewT.trans _ _ _ HN.out k6)
    clear HK k6
    go_upto_region 6 with fail
    refine wp_region_rely (NewT) [SV.eq (v), SV.eq (.int .i64 ((k : Int))), svH (List.take k l), SV.eq (.agg (rowA 32 (bF (rootM node z (List.take k l))))), SV.eq (v), SV.eq (.int .i64 ((k : Int))), svH (List.drop k l), SV.eq (.agg (rowA 32 (bF (rootM node z (List.drop k l))))), svRd ((1 :: digL (rootM node z (List.take k l))) ++ digL (rootM node z (List.drop k l))), SV.eq (.agg (rowA 32 (bF (node (rootM node z (List.take k l)) (rootM node z (List.drop k l))))))] [([(0, none)], none), ([(3, none)], none), ([(17, some 0), (18, some 1)], none), ([(19, some 2)], none), ([(0, none)], none), ([(3, none)], none), ([(21, some 4), (22, some 5)], none), ([(23, some 6)], none), ([(20, some 3), (24, some 7)], none), ([(25, some 8)], none)] 27 rfl (by kernel_rfl) rfl (by kernel_rfl) (by kernel_rfl) rfl NewT.trans (NewT.drew _) (Nat.le_of_ble_eq_true rfl) ⟨?_, ?_, ?_, ?_, ?_, ?_, ?_, ?_, ?_, ?_, trivial⟩ ?_
    · intro a wx hT hF K hK
      obtain ⟨f0, _⟩ := hF
      have f0 : a.tmps.getD 0 undef = v := f0
      refine rely_wp rfl ?_
      exact opr_move (.inl rfl) (hK _ _ (NewT.refl _) f0)
    · intro a wx hT hF K hK
      obtain ⟨f3, _⟩ := hF
      have f3 : a.tmps.getD 3 undef = .int .i64 ((k : Int)) := f3
      refine rely_wp rfl ?_
      exact opr_move (.inl rfl) (hK _ _ (NewT.refl _) f3)
    · intro a wx hT hF K hK
      obtain ⟨f17, f18, _⟩ := hF
      have f17 : a.tmps.getD 17 undef = v := f17
      have f18 : a.tmps.getD 18 undef = .int .i64 ((k : Int)) := f18
      refine rely_wp rfl ?_
      exact opr_toH (k := k) (by omega) (rfl) rfl (by rw [eval_tmp, f17]; exact (hT.hs HL.out)) f18 (fun v hv => hK v _ (NewT.refl _) hv)
    · intro a wx hT hF K hK
      obtain ⟨f19, _⟩ := hF
      replace f19 := show (svH (List.take k l)).pred (a.tmps.getD 19 undef) wx from f19
      refine rely_wp rfl ?_
      exact opr_cv (ih _ (List.take k l) wx (hT.tables HT.out) f19 (by rw [List.length_take]; omega)) rfl Tryd.func27 (by kernel_rfl) (by kernel_rfl) (by simp only [List.map_toArray, List.map_cons, List.map_nil, eval_tmp]) hK
    · intro a wx hT hF K hK
      obtain ⟨f0, _⟩ := hF
      have f0 : a.tmps.getD 0 undef = v := f0
      refine rely_wp rfl ?_
      exact opr_move (.inl rfl) (hK _ _ (NewT.refl _) f0)
    · intro a wx hT hF K hK
      obtain ⟨f3, _⟩ := hF
      have f3 : a.tmps.getD 3 undef = .int .i64 ((k : Int)) := f3
      refine rely_wp rfl ?_
      exact opr_move (.inl rfl) (hK _ _ (NewT.refl _) f3)
    · intro a wx hT hF K hK
      obtain ⟨f21, f22, _⟩ := hF
      have f21 : a.tmps.getD 21 undef = v := f21
      have f22 : a.tmps.getD 22 undef = .int .i64 ((k : Int)) := f22
      refine rely_wp rfl ?_
      exact opr_fromH (k := k) (by omega) (rfl) rfl (by rw [eval_tmp, f21]; exact (hT.hs HL.out)) f22 (fun v hv => hK v _ (NewT.refl _) hv)
    · intro a wx hT hF K hK
      obtain ⟨f23, _⟩ := hF
      replace f23 := show (svH (List.drop k l)).pred (a.tmps.getD 23 undef) wx from f23
      refine rely_wp rfl ?_
      exact opr_cv (ih _ (List.drop k l) wx (hT.tables HT.out) f23 (by rw [List.length_drop]; omega)) rfl Tryd.func27 (by kernel_rfl) (by kernel_rfl) (by simp only [List.map_toArray, List.map_cons, List.map_nil, eval_tmp]) hK
    · intro a wx hT hF K hK
      obtain ⟨f20, f24, _⟩ := hF
      have f20 : a.tmps.getD 20 undef = .agg (rowA 32 (bF (rootM node z (List.take k l)))) := f20
      have f24 : a.tmps.getD 24 undef = .agg (rowA 32 (bF (rootM node z (List.drop k l)))) := f24
      refine rely_wp rfl ?_
      exact opr_cv (RPair_cv (rootM node z (List.take k l)) (rootM node z (List.drop k l)) wx) rfl Tryd.func42 (by kernel_rfl) (by kernel_rfl) (by simp only [List.map_toArray, List.map_cons, List.map_nil, eval_tmp, f20, f24]) hK
    · intro a wx hT hF K hK
      obtain ⟨f25, _⟩ := hF
      replace f25 := show (svRd ((1 :: digL (rootM node z (List.take k l))) ++ digL (rootM node z (List.drop k l)))).pred (a.tmps.getD 25 undef) wx from f25
      refine rely_wp rfl ?_
      exact opr_cv (RSumB_cv _ ((1 :: digL (rootM node z (List.take k l))) ++ digL (rootM node z (List.drop k l))) (node (rootM node z (List.take k l)) (rootM node z (List.drop k l))) wx (hT.tables HT.out) f25 (by simp [digL_length]) (by simpa using hX.node (rootM node z (List.take k l)) (rootM node z (List.drop k l)))) rfl Tryd.func38 (by kernel_rfl) (by kernel_rfl) (by simp only [List.map_toArray, List.map_cons, List.map_nil, eval_tmp]) hK
    · intro wx hT
      intro u h; obtain rfl := Eq.symm (h (by simp)); clear h
      intro u h; obtain rfl := Eq.symm (h (by simp)); clear h
      intro _ _
      intro u h; obtain rfl := Eq.symm (h (by simp)); clear h
      intro u h; obtain rfl := Eq.symm (h (by simp)); clear h
      intro u h; obtain rfl := Eq.symm (h (by simp)); clear h
      intro _ _
      intro u h; obtain rfl := Eq.symm (h (by simp)); clear h
      intro _ _
      intro u h; obtain rfl := Eq.symm (h (by simp)); clear h
      refine relyEnd_nil rfl ?_
      simp only [Act.put, List.setIfInBounds_toArray, List.set_cons_zero, List.set_cons_succ]
      refine opr_store_new (B := w.heap.size) (W := w) info31 rfl rfl rfl (hT.row R0.out) (NewT.trans _ _ _ HN.out hT) (Nat.le_refl _) ?_
      intro w9 hB9 r9
      go_simp
      go_wp2
      exact bodyPost_ret (results_row rfl _ rfl r9 Tryd.underlying29 info31) rfl ⟨_, rfl, hB9, rfl⟩
theorem RRoot_cv {node : Hs → Hs → Hs} {z : Hs} (hX : TreeH node z) : ∀ (n : Nat) (v : Value) (l : List Hs) (w : World), Tables w → RdH w v l → l.length ≤ n → n ≤ 1000000 → Cv 27 #[v] w (.eq (.agg (rowA 32 (bF (rootM node z l))))) := by
  intro n
  induction n with
  | zero =>
    intro v l w hT hl hn _
    obtain rfl : l = [] := List.eq_nil_of_length_eq_zero (by omega)
    obtain ⟨A, c, rfl⟩ := rdH_form hl
    rw [rootM_nil]; exact RRoot_0 hX A c w hT
  | succ n ih =>
    intro v l w hT hl hn hb
    match l, hl, hn with
    | [], hl, _ => obtain ⟨A, c, rfl⟩ := rdH_form hl
                   rw [rootM_nil]; exact RRoot_0 hX A c w hT
    | [d], hl, _ => rw [rootM_one]; exact RRoot_1 hX v d w hT hl
    | d :: e :: l, hl, hn =>
      have h2 : 2 ≤ (d :: e :: l).length := by simp
      generalize d :: e :: l = m at hl hn h2 ⊢
      obtain ⟨s1, s2, _⟩ := splitN_lt m.length h2
      rw [rootM_split node z m h2]
      refine RRoot_2 hX v m _ w hT hl h2 s1 s2 (fun w => ?_) (fun v m' w hT' hl' hm => ih v m' w hT' hl' (by omega) (by omega))
      exact RSplit_cv (m.length : Int) (by omega) w
set_option maxHeartbeats 1000000 in
theorem RSame_cv (va vb : Value) (l : List Hs) (w : World) (ha : RdH w va l) (hb : RdH w vb l) (hl : l.length ≤ 100000) : Cv 15 #[va, vb] w (.eq (.bool true)) := by
  unfold Cv
  have HA0 := Lib.hid ha
  have HB0 := Lib.hid hb
  obtain ⟨A, c, hv⟩ := rdH_form ha
  obtain ⟨A2, c2, hv2⟩ := rdH_form hb
  subst hv hv2
  clear ha hb
  go_enter Tryd.func15, Tryd.ntmps15
  go_wp2
  go_loopw [5] (fun i wr => ∃ m : Nat, m ≤ l.length ∧ i = .int .i64 (m : Int) ∧ NewT w wr) (fun i _ => l.length - (intOf i).toNat)
  case atStart => exact ⟨0, by omega, rfl, NewT.refl _⟩
  case round =>
    obtain ⟨m, hm, rfl, hN⟩ := hrel
    have HN := Lib.hid hN
    have HA := Lib.hid (hN.hs HA0.out)
    have HB := Lib.hid (hN.hs HB0.out)
    clear hN
    by_cases hlt : m < l.length
    · have it : (m : Int) < (l.length : Int) := by omega
      obtain ⟨d, hd⟩ : ∃ d, l[m]? = some d := ⟨_, List.getElem?_eq_getElem (by omega)⟩
      have HD := Lib.hid hd
      clear hd
      go_upto_region 6 with fail
      obtain ⟨va, ea⟩ : ∃ v, Value.slice A l.length c = v := ⟨_, rfl⟩
      obtain ⟨vb, eb⟩ : ∃ v, Value.slice A2 l.length c2 = v := ⟨_, rfl⟩
      rw [ea] at HA
      rw [eb] at HB
      rw [ea, eb]
      refine wp_region_rely (NewT) [SV.eq (va), SV.eq (.int .i64 ((m : Int))), svP (d), SV.eq (.agg (rowA 32 (bF (d)))), SV.eq (vb), SV.eq (.int .i64 ((m : Int))), svP (d), SV.eq (.agg (rowA 32 (bF (d))))] [([(0, none)], none), ([(5, none)], none), ([(17, some 0), (18, some 1)], none), ([(19, some 2)], none), ([(1, none)], none), ([(5, none)], none), ([(21, some 4), (22, some 5)], none), ([(23, some 6)], none)] 26 rfl (by kernel_rfl) rfl (by kernel_rfl) (by kernel_rfl) rfl NewT.trans (NewT.drew _) (Nat.le_of_ble_eq_true rfl) ⟨?_, ?_, ?_, ?_, ?_, ?_, ?_, ?_, trivial⟩ ?_
      · intro a wx hT hF K hK
        obtain ⟨f0, _⟩ := hF
        have f0 : a.tmps.getD 0 undef = va := f0
        refine rely_wp rfl ?_
        exact opr_move (.inl rfl) (hK _ _ (NewT.refl _) f0)
      · intro a wx hT hF K hK
        obtain ⟨f5, _⟩ := hF
        have f5 : a.tmps.getD 5 undef = .int .i64 ((m : Int)) := f5
        refine rely_wp rfl ?_
        exact opr_move (.inl rfl) (hK _ _ (NewT.refl _) f5)
      · intro a wx hT hF K hK
        obtain ⟨f17, f18, _⟩ := hF
        have f17 : a.tmps.getD 17 undef = va := f17
        have f18 : a.tmps.getD 18 undef = .int .i64 ((m : Int)) := f18
        refine rely_wp rfl ?_
        exact opr_idxH (i := m) (d := d) (HD.out) (rfl) rfl (by rw [eval_tmp, f17]; exact (hT.hs HA.out)) f18 (fun v hv => hK v _ (NewT.refl _) hv)
      · intro a wx hT hF K hK
        obtain ⟨f19, _⟩ := hF
        replace f19 := show (svP (d)).pred (a.tmps.getD 19 undef) wx from f19
        refine rely_wp rfl ?_
        exact opr_ldP rfl f19 (hK _ _ (NewT.refl _) rfl)
      · intro a wx hT hF K hK
        obtain ⟨f1, _⟩ := hF
        have f1 : a.tmps.getD 1 undef = vb := f1
        refine rely_wp rfl ?_
        exact opr_move (.inl rfl) (hK _ _ (NewT.refl _) f1)
      · intro a wx hT hF K hK
        obtain ⟨f5, _⟩ := hF
        have f5 : a.tmps.getD 5 undef = .int .i64 ((m : Int)) := f5
        refine rely_wp rfl ?_
        exact opr_move (.inl rfl) (hK _ _ (NewT.refl _) f5)
      · intro a wx hT hF K hK
        obtain ⟨f21, f22, _⟩ := hF
        have f21 : a.tmps.getD 21 undef = vb := f21
        have f22 : a.tmps.getD 22 undef = .int .i64 ((m : Int)) := f22
        refine rely_wp rfl ?_
        exact opr_idxH (i := m) (d := d) (HD.out) (rfl) rfl (by rw [eval_tmp, f21]; exact (hT.hs HB.out)) f22 (fun v hv => hK v _ (NewT.refl _) hv)
      · intro a wx hT hF K hK
        obtain ⟨f23, _⟩ := hF
        replace f23 := show (svP (d)).pred (a.tmps.getD 23 undef) wx from f23
        refine rely_wp rfl ?_
        exact opr_ldP rfl f23 (hK _ _ (NewT.refl _) rfl)
      · intro wa ka
        intro u h; obtain rfl := Eq.symm (h (by simp)); clear h
        intro u h; obtain rfl := Eq.symm (h (by simp)); clear h
        intro _ _
        intro u h; obtain rfl := Eq.symm (h (by simp)); clear h
        intro u h; obtain rfl := Eq.symm (h (by simp)); clear h
        intro u h; obtain rfl := Eq.symm (h (by simp)); clear h
        intro _ _
        intro u h; obtain rfl := Eq.symm (h (by simp)); clear h
        refine relyEnd_nil rfl ?_
        simp only [Act.put, List.setIfInBounds_toArray, List.set_cons_zero, List.set_cons_succ]
        refine opr_neq_hash (b := false) rfl rfl rfl (by rw [eqH_same]; rfl) ?_
        go_simp
        go_wp2
        go_roundw
        case rel => exact ⟨m + 1, by omega, by go_num, NewT.trans _ _ _ HN.out ka⟩
        case measure => simp [intOf]; omega
    · obtain rfl : m = l.length := by omega
      go_wp2
      go_ret
      exact ⟨_, rfl, HN.out, rfl⟩
end Go.Proofs.YtoigjcadncecpaaDoor
/- The document's answer for layer 6: Path, walked. -/
namespace Go.Proofs.YtoigjcadncecpaaDoor
open Go Go.RowKit
set_option maxRecDepth 8000
set_option linter.all false
/-- How long a slice is. -/
def lenV : Value → Nat
  | .slice _ n _ => n
  | _ => 0
set_option maxHeartbeats 1000000 in
theorem RPath_bad (v : Value) (l : List Hs) (i : Int) (w : World) (hl : RdH w v l) (h : i < 0 ∨ (l.length : Int) ≤ i) : Cv 12 #[v, .int .i64 i] w (svPq [] false) := by
  unfold Cv
  obtain ⟨A, c, hv⟩ := rdH_form hl
  subst hv
  clear hl
  by_cases h1 : i < 0
  · clear h
    go_enter Tryd.func12, Tryd.ntmps12
    go_wp2
    refine bodyPost_ret (results_tmp2 rfl _ _ _) rfl ⟨_, rfl, NewT.refl _, _, rfl, rdH_nil _⟩
  · have h2 : (l.length : Int) ≤ i := by omega
    clear h
    go_enter Tryd.func12, Tryd.ntmps12
    go_wp2
    refine bodyPost_ret (results_tmp2 rfl _ _ _) rfl ⟨_, rfl, NewT.refl _, _, rfl, rdH_nil _⟩
set_option maxHeartbeats 8000000 in
theorem RPath_good {node : Hs → Hs → Hs} {z : Hs} (hX : TreeH node z) (v : Value) (l : List Hs) (i0 : Nat) (w : World) (hT : Tables w) (hl : RdH w v l) (hi : i0 < l.length) (hll : l.length ≤ 1000) : Cv 12 #[v, .int .i64 (i0 : Int)] w (svPq (pathM node z l i0) true) := by
  unfold Cv
  have HT := Lib.hid hT
  have HL := Lib.hid hl
  have HI := Lib.hid hi
  have HLL := Lib.hid hll
  have HPS : Hid ((pathM node z l i0).length ≤ 20) := Lib.hid (pathM_short _ _ (by omega))
  obtain ⟨A, c, hv⟩ := rdH_form hl
  subst hv
  have t1 : ¬ (i0 : Int) < 0 := by omega
  have t2 : ¬ (l.length : Int) ≤ (i0 : Int) := by omega
  clear hT hl hi hll
  go_enter Tryd.func12, Tryd.ntmps12
  go_wp2
  clear t1 t2
  go_loopw [0, 1, 6] (fun a b o wr => ∃ (vm : Value) (ml acc : List Hs) (i : Nat), a = vm ∧ b = .int .i64 (i : Int) ∧ NewT w wr ∧ RdH wr vm ml ∧ RdH wr o acc ∧ i < ml.length ∧ ml.length ≤ 1000 ∧ pathM node z l i0 = pathM node z ml i ++ acc) (fun a _ _ _ => lenV a)
  case atStart => exact ⟨_, l, [], i0, rfl, rfl, NewT.refl _, HL.out, rdH_nil _, HI.out, HLL.out, by simp⟩
  case round =>
    obtain ⟨vm, ml, acc, i, rfl, rfl, hN, hm, ho, hi, hml, heq⟩ := hrel
    have HN := Lib.hid hN
    have HTr := Lib.hid (hN.tables HT.out)
    have HM := Lib.hid hm
    have HU6 := Lib.hid ho
    have HACC : Hid (acc.length ≤ 20) := Lib.hid (by have := HPS.out; rw [heq, List.length_append] at this; omega)
    have HML := Lib.hid hml
    have HEQ := Lib.hid heq
    obtain ⟨A1, c1, hv⟩ := rdH_form hm
    clear hN hm ho heq
    by_cases h2 : 2 ≤ ml.length
    · obtain ⟨s1, s2, _⟩ := splitN_lt ml.length h2
      obtain ⟨k, hk⟩ : ∃ k, splitN ml.length = k := ⟨_, rfl⟩
      have HK : Hid (∀ w, Cv 26 #[.int .i64 (ml.length : Int)] w (.eq (.int .i64 (k : Int)))) := Lib.hid fun w => by
        have := RSplit_cv (ml.length : Int) (by omega) w
        rwa [Int.toNat_natCast, hk] at this
      rw [hk] at s1 s2
      have HKL : Hid (k < ml.length) := Lib.hid s1
      have it : (1 : Int) < (ml.length : Int) := by omega
      subst hv
      go_upto_region 5 with fail
      obtain ⟨vm, ev⟩ : ∃ v, Value.slice A1 ml.length c1 = v := ⟨_, rfl⟩
      rw [ev] at HM ⊢
      refine wp_region_steps0 NewT [SV.eq (vm), SV.eq (.int .i64 ((List.length (ml) : Int))), SV.eq (.int .i64 ((k : Int))), SV.eq (.int .i64 ((k : Int)))] [([(0, none)], none), ([(19, some 0)], none), ([(20, some 1)], none), ([(21, some 2)], none)] 49 4 rfl rfl (by kernel_rfl) NewT.trans (NewT.refl _) (Nat.le_of_ble_eq_true rfl) ⟨?_, ?_, ?_, ?_, trivial⟩ ?_
      · intro a wx hT hF K hK
        obtain ⟨f0, _⟩ := hF
        have f0 : a.tmps.getD 0 undef = vm := f0
        refine rely_wp rfl ?_
        exact opr_move (.inl rfl) (hK _ _ (NewT.refl _) f0)
      · intro a wx hT hF K hK
        obtain ⟨f19, _⟩ := hF
        have f19 : a.tmps.getD 19 undef = vm := f19
        refine rely_wp rfl ?_
        exact opr_len_h rfl (by rw [eval_tmp, f19]; exact (hT.hs HM.out)) (hK _ _ (NewT.refl _) rfl)
      · intro a wx hT hF K hK
        obtain ⟨f20, _⟩ := hF
        have f20 : a.tmps.getD 20 undef = .int .i64 ((List.length (ml) : Int)) := f20
        refine rely_wp rfl ?_
        exact opr_cv (HK.out wx) rfl Tryd.func26 (by kernel_rfl) (by kernel_rfl) (by simp only [List.map_toArray, List.map_cons, List.map_nil, eval_tmp, f20]) hK
      · intro a wx hT hF K hK
        obtain ⟨f21, _⟩ := hF
        have f21 : a.tmps.getD 21 undef = .int .i64 ((k : Int)) := f21
        refine rely_wp rfl ?_
        exact opr_move (.inr rfl) (hK _ _ (NewT.refl _) f21)
      · intro w3 k3
        intro u h; obtain rfl := Eq.symm (h (by simp)); clear h
        intro u h; obtain rfl := Eq.symm (h (by simp)); clear h
        intro u h; obtain rfl := Eq.symm (h (by simp)); clear h
        intro u h; obtain rfl := Eq.symm (h (by simp)); clear h
        refine relyEnd_nil rfl ?_
        refine wpList_end rfl ?_
        simp only [Act.put, List.setIfInBounds_toArray, List.set_cons_zero, List.set_cons_succ]
        go_simp
        replace HM := Lib.hid (k3.hs HM.out)
        replace HU6 := Lib.hid (k3.hs HU6.out)
        replace HTr := Lib.hid (k3.tables HTr.out)
        replace HN := Lib.hid (NewT.trans _ _ _ HN.out k3)
        clear k3 HK
        by_cases hil : i < k
        · have t6 : (i : Int) < (k : Int) := by omega
          go_upto_region 7 with fail
          refine wp_region_steps0 NewT [SV.eq (vm), SV.eq (.int .i64 ((k : Int))), svH (List.drop k ml), SV.eq (.agg (rowA 32 (bF (rootM node z (List.drop k ml)))))] [([(0, none)], none), ([(7, none)], none), ([(25, some 0), (26, some 1)], none), ([(27, some 2)], none)] 49 4 rfl rfl (by kernel_rfl) NewT.trans (NewT.refl _) (Nat.le_of_ble_eq_true rfl) ⟨?_, ?_, ?_, ?_, trivial⟩ ?_
          · intro a wx hT hF K hK
            obtain ⟨f0, _⟩ := hF
            have f0 : a.tmps.getD 0 undef = vm := f0
            refine rely_wp rfl ?_
            exact opr_move (.inl rfl) (hK _ _ (NewT.refl _) f0)
          · intro a wx hT hF K hK
            obtain ⟨f7, _⟩ := hF
            have f7 : a.tmps.getD 7 undef = .int .i64 ((k : Int)) := f7
            refine rely_wp rfl ?_
            exact opr_move (.inl rfl) (hK _ _ (NewT.refl _) f7)
          · intro a wx hT hF K hK
            obtain ⟨f25, f26, _⟩ := hF
            have f25 : a.tmps.getD 25 undef = vm := f25
            have f26 : a.tmps.getD 26 undef = .int .i64 ((k : Int)) := f26
            refine rely_wp rfl ?_
            exact opr_fromH (k := k) (by have := HKL.out; omega) (rfl) rfl (by rw [eval_tmp, f25]; exact (hT.hs HM.out)) f26 (fun v hv => hK v _ (NewT.refl _) hv)
          · intro a wx hT hF K hK
            obtain ⟨f27, _⟩ := hF
            replace f27 := show (svH (List.drop k ml)).pred (a.tmps.getD 27 undef) wx from f27
            refine rely_wp rfl ?_
            exact opr_cv (RRoot_cv hX _ _ (List.drop k ml) wx (hT.tables HTr.out) (f27) (Nat.le_refl _) (by have := HML.out; simp; omega)) rfl Tryd.func27 (by kernel_rfl) (by kernel_rfl) (by simp only [List.map_toArray, List.map_cons, List.map_nil, eval_tmp]) hK
          · intro wa ka
            intro u h; obtain rfl := Eq.symm (h (by simp)); clear h
            intro u h; obtain rfl := Eq.symm (h (by simp)); clear h
            intro _ _
            intro u h; obtain rfl := Eq.symm (h (by simp)); clear h
            refine relyEnd_nil rfl ?_
            simp only [Act.put, List.setIfInBounds_toArray, List.set_cons_zero, List.set_cons_succ]
            refine wpList_plain rfl (fun K hK => ?_)
            refine opr_val (s := Instr.buildSlice 22 1 #[(0, .agg (rowA 32 (bF (rootM node z (List.drop k ml)))))]) (by simp [execOp]; rfl) (run_bsH1 _ _) (hK _ _ ?_)
            clear hK K
            have ho := ownH_one wa wa.heap.size (rootM node z (List.drop k ml)) (Nat.le_refl _)
            have hn := NewT.alloc wa (.cells (rowA 32 (bF (rootM node z (List.drop k ml)))) 29)
            generalize wa.alloc (.cells (rowA 32 (bF (rootM node z (List.drop k ml)))) 29) = wb at ho hn ⊢
            obtain ⟨vs, evs⟩ : ∃ v, Value.slice (some ⟨wa.heap.size, 0, none⟩) 1 1 = v := ⟨_, rfl⟩
            rw [evs] at ho ⊢
            refine wpList_plain rfl (fun K hK => ?_)
            refine opr_move (.inl rfl) (hK _ _ ?_)
            clear hK K
            simp only [Act.put, List.setIfInBounds_toArray, List.set_cons_zero, List.set_cons_succ]
            refine wpList_plain rfl (fun K hK => ?_)
            obtain ⟨v', w', hrun, h2, h3⟩ := run_appH ho (hn.hs (ka.hs HU6.out)) (by have := HACC.out; simp; omega) hn.out.size 22
            refine opr_append rfl rfl rfl hrun (hK _ _ ?_)
            clear hK K
            refine wpList_plain rfl (fun K hK => ?_)
            refine opr_move (.inr rfl) (hK _ _ ?_)
            refine wpList_end rfl ?_
            simp only [Act.put, List.setIfInBounds_toArray, List.set_cons_zero, List.set_cons_succ]
            go_simp
            have hend := NewT.trans _ _ _ ka (app_below hn rfl ho h3)
            have HU := Lib.hid (show RdH w' v' ((rootM node z (List.drop k ml)) :: acc) from h2.rd)
            clear hrun h2 h3 ho hn ka evs
            replace HM := Lib.hid (hend.hs HM.out)
            replace HTr := Lib.hid (hend.tables HTr.out)
            replace HN := Lib.hid (NewT.trans _ _ _ HN.out hend)
            clear hend HU6
            go_upto_region 8 with fail
            refine wp_region_steps0 NewT [SV.eq (vm), SV.eq (.int .i64 ((k : Int))), svH (List.take k ml), svH (List.take k ml)] [([(0, none)], none), ([(7, none)], none), ([(32, some 0), (33, some 1)], none), ([(34, some 2)], none)] 49 4 rfl rfl (by kernel_rfl) NewT.trans (NewT.refl _) (Nat.le_of_ble_eq_true rfl) ⟨?_, ?_, ?_, ?_, trivial⟩ ?_
            · intro a wx hT hF K hK
              obtain ⟨f0, _⟩ := hF
              have f0 : a.tmps.getD 0 undef = vm := f0
              refine rely_wp rfl ?_
              exact opr_move (.inl rfl) (hK _ _ (NewT.refl _) f0)
            · intro a wx hT hF K hK
              obtain ⟨f7, _⟩ := hF
              have f7 : a.tmps.getD 7 undef = .int .i64 ((k : Int)) := f7
              refine rely_wp rfl ?_
              exact opr_move (.inl rfl) (hK _ _ (NewT.refl _) f7)
            · intro a wx hT hF K hK
              obtain ⟨f32, f33, _⟩ := hF
              have f32 : a.tmps.getD 32 undef = vm := f32
              have f33 : a.tmps.getD 33 undef = .int .i64 ((k : Int)) := f33
              refine rely_wp rfl ?_
              exact opr_toH (k := k) (by have := HKL.out; omega) (rfl) rfl (by rw [eval_tmp, f32]; exact (hT.hs HM.out)) f33 (fun v hv => hK v _ (NewT.refl _) hv)
            · intro a wx hT hF K hK
              obtain ⟨f34, _⟩ := hF
              replace f34 := show (svH (List.take k ml)).pred (a.tmps.getD 34 undef) wx from f34
              refine rely_wp rfl ?_
              exact opr_move (.inr rfl) (hK _ _ (NewT.refl _) f34)
            · intro wc kc
              intro u h; obtain rfl := Eq.symm (h (by simp)); clear h
              intro u h; obtain rfl := Eq.symm (h (by simp)); clear h
              intro _ _
              intro u0 h; have g0 := h (by simp); clear h; replace g0 := show (svH (List.take k ml)).pred u0 wc from g0
              refine relyEnd_nil rfl ?_
              refine wpList_end rfl ?_
              simp only [Act.put, List.setIfInBounds_toArray, List.set_cons_zero, List.set_cons_succ]
              go_simp
              go_wp2
              go_roundw
              case rel => exact ⟨_, List.take k ml, _, i, rfl, by first | rfl | go_num, NewT.trans _ _ _ HN.out kc, g0, kc.hs HU.out, by rw [List.length_take]; omega, by rw [List.length_take]; omega, by rw [HEQ.out, pathM_l _ _ _ _ h2 (by rw [hk]; exact hil), hk]; simp⟩
              case measure =>
                obtain ⟨A5, c5, h5⟩ := rdH_form (show RdH wc u0 (List.take k ml) from g0)
                rw [h5]
                simp [lenV]; omega
        · have t6 : ¬ (i : Int) < (k : Int) := by omega
          go_upto_region 9 with fail
          refine wp_region_steps0 NewT [SV.eq (vm), SV.eq (.int .i64 ((k : Int))), svH (List.take k ml), SV.eq (.agg (rowA 32 (bF (rootM node z (List.take k ml)))))] [([(0, none)], none), ([(7, none)], none), ([(35, some 0), (36, some 1)], none), ([(37, some 2)], none)] 49 4 rfl rfl (by kernel_rfl) NewT.trans (NewT.refl _) (Nat.le_of_ble_eq_true rfl) ⟨?_, ?_, ?_, ?_, trivial⟩ ?_
          · intro a wx hT hF K hK
            obtain ⟨f0, _⟩ := hF
            have f0 : a.tmps.getD 0 undef = vm := f0
            refine rely_wp rfl ?_
            exact opr_move (.inl rfl) (hK _ _ (NewT.refl _) f0)
          · intro a wx hT hF K hK
            obtain ⟨f7, _⟩ := hF
            have f7 : a.tmps.getD 7 undef = .int .i64 ((k : Int)) := f7
            refine rely_wp rfl ?_
            exact opr_move (.inl rfl) (hK _ _ (NewT.refl _) f7)
          · intro a wx hT hF K hK
            obtain ⟨f35, f36, _⟩ := hF
            have f35 : a.tmps.getD 35 undef = vm := f35
            have f36 : a.tmps.getD 36 undef = .int .i64 ((k : Int)) := f36
            refine rely_wp rfl ?_
            exact opr_toH (k := k) (by have := HKL.out; omega) (rfl) rfl (by rw [eval_tmp, f35]; exact (hT.hs HM.out)) f36 (fun v hv => hK v _ (NewT.refl _) hv)
          · intro a wx hT hF K hK
            obtain ⟨f37, _⟩ := hF
            replace f37 := show (svH (List.take k ml)).pred (a.tmps.getD 37 undef) wx from f37
            refine rely_wp rfl ?_
            exact opr_cv (RRoot_cv hX _ _ (List.take k ml) wx (hT.tables HTr.out) (f37) (Nat.le_refl _) (by have := HML.out; simp; omega)) rfl Tryd.func27 (by kernel_rfl) (by kernel_rfl) (by simp only [List.map_toArray, List.map_cons, List.map_nil, eval_tmp]) hK
          · intro wa ka
            intro u h; obtain rfl := Eq.symm (h (by simp)); clear h
            intro u h; obtain rfl := Eq.symm (h (by simp)); clear h
            intro _ _
            intro u h; obtain rfl := Eq.symm (h (by simp)); clear h
            refine relyEnd_nil rfl ?_
            simp only [Act.put, List.setIfInBounds_toArray, List.set_cons_zero, List.set_cons_succ]
            refine wpList_plain rfl (fun K hK => ?_)
            refine opr_val (s := Instr.buildSlice 22 1 #[(0, .agg (rowA 32 (bF (rootM node z (List.take k ml)))))]) (by simp [execOp]; rfl) (run_bsH1 _ _) (hK _ _ ?_)
            clear hK K
            have ho := ownH_one wa wa.heap.size (rootM node z (List.take k ml)) (Nat.le_refl _)
            have hn := NewT.alloc wa (.cells (rowA 32 (bF (rootM node z (List.take k ml)))) 29)
            generalize wa.alloc (.cells (rowA 32 (bF (rootM node z (List.take k ml)))) 29) = wb at ho hn ⊢
            obtain ⟨vs, evs⟩ : ∃ v, Value.slice (some ⟨wa.heap.size, 0, none⟩) 1 1 = v := ⟨_, rfl⟩
            rw [evs] at ho ⊢
            refine wpList_plain rfl (fun K hK => ?_)
            refine opr_move (.inl rfl) (hK _ _ ?_)
            clear hK K
            simp only [Act.put, List.setIfInBounds_toArray, List.set_cons_zero, List.set_cons_succ]
            refine wpList_plain rfl (fun K hK => ?_)
            obtain ⟨v', w', hrun, h2, h3⟩ := run_appH ho (hn.hs (ka.hs HU6.out)) (by have := HACC.out; simp; omega) hn.out.size 22
            refine opr_append rfl rfl rfl hrun (hK _ _ ?_)
            clear hK K
            refine wpList_plain rfl (fun K hK => ?_)
            refine opr_move (.inr rfl) (hK _ _ ?_)
            refine wpList_end rfl ?_
            simp only [Act.put, List.setIfInBounds_toArray, List.set_cons_zero, List.set_cons_succ]
            go_simp
            have hend := NewT.trans _ _ _ ka (app_below hn rfl ho h3)
            have HU := Lib.hid (show RdH w' v' ((rootM node z (List.take k ml)) :: acc) from h2.rd)
            clear hrun h2 h3 ho hn ka evs
            replace HM := Lib.hid (hend.hs HM.out)
            replace HTr := Lib.hid (hend.tables HTr.out)
            replace HN := Lib.hid (NewT.trans _ _ _ HN.out hend)
            clear hend HU6
            go_upto_region 10 with fail
            refine wp_region_steps0 NewT [SV.eq (vm), SV.eq (.int .i64 ((k : Int))), svH (List.drop k ml), svH (List.drop k ml)] [([(0, none)], none), ([(7, none)], none), ([(42, some 0), (43, some 1)], none), ([(44, some 2)], none)] 49 4 rfl rfl (by kernel_rfl) NewT.trans (NewT.refl _) (Nat.le_of_ble_eq_true rfl) ⟨?_, ?_, ?_, ?_, trivial⟩ ?_
            · intro a wx hT hF K hK
              obtain ⟨f0, _⟩ := hF
              have f0 : a.tmps.getD 0 undef = vm := f0
              refine rely_wp rfl ?_
              exact opr_move (.inl rfl) (hK _ _ (NewT.refl _) f0)
            · intro a wx hT hF K hK
              obtain ⟨f7, _⟩ := hF
              have f7 : a.tmps.getD 7 undef = .int .i64 ((k : Int)) := f7
              refine rely_wp rfl ?_
              exact opr_move (.inl rfl) (hK _ _ (NewT.refl _) f7)
            · intro a wx hT hF K hK
              obtain ⟨f42, f43, _⟩ := hF
              have f42 : a.tmps.getD 42 undef = vm := f42
              have f43 : a.tmps.getD 43 undef = .int .i64 ((k : Int)) := f43
              refine rely_wp rfl ?_
              exact opr_fromH (k := k) (by have := HKL.out; omega) (rfl) rfl (by rw [eval_tmp, f42]; exact (hT.hs HM.out)) f43 (fun v hv => hK v _ (NewT.refl _) hv)
            · intro a wx hT hF K hK
              obtain ⟨f44, _⟩ := hF
              replace f44 := show (svH (List.drop k ml)).pred (a.tmps.getD 44 undef) wx from f44
              refine rely_wp rfl ?_
              exact opr_move (.inr rfl) (hK _ _ (NewT.refl _) f44)
            · intro wc kc
              intro u h; obtain rfl := Eq.symm (h (by simp)); clear h
              intro u h; obtain rfl := Eq.symm (h (by simp)); clear h
              intro _ _
              intro u0 h; have g0 := h (by simp); clear h; replace g0 := show (svH (List.drop k ml)).pred u0 wc from g0
              refine relyEnd_nil rfl ?_
              refine wpList_end rfl ?_
              simp only [Act.put, List.setIfInBounds_toArray, List.set_cons_zero, List.set_cons_succ]
              go_simp
              go_wp2
              go_roundw
              case rel => exact ⟨_, List.drop k ml, _, i - k, rfl, by first | rfl | go_num, NewT.trans _ _ _ HN.out kc, g0, kc.hs HU.out, by rw [List.length_drop]; omega, by rw [List.length_drop]; omega, by rw [HEQ.out, pathM_r _ _ _ _ h2 (by rw [hk]; exact hil), hk]; simp⟩
              case measure =>
                obtain ⟨A5, c5, h5⟩ := rdH_form (show RdH wc u0 (List.drop k ml) from g0)
                rw [h5]
                simp [lenV]; omega
    · have it : ¬ (1 : Int) < (ml.length : Int) := by omega
      subst hv
      go_wp2
      rw [HEQ.out, pathM_few node z ml i (by omega), List.nil_append]
      exact bodyPost_ret (results_tmp2 rfl _ _ _) rfl ⟨_, rfl, HN.out, _, rfl, HU6.out⟩
theorem RPath_cv {node : Hs → Hs → Hs} {z : Hs} (hX : TreeH node z) (v : Value) (l : List Hs) (i : Int) (w : World) (hT : Tables w) (hl : RdH w v l) (hll : l.length ≤ 1000) : Cv 12 #[v, .int .i64 i] w (svPq (if okI i l.length then pathM node z l i.toNat else []) (okI i l.length)) := by
  by_cases h : i < 0 ∨ (l.length : Int) ≤ i
  · have e : okI i l.length = false := by
      unfold okI
      rcases h with h | h
      · simp [show ¬ 0 ≤ i by omega]
      · simp [show ¬ i < (l.length : Int) by omega]
    rw [e, if_neg (by decide)]
    exact RPath_bad v l i w hl h
  · obtain ⟨i, rfl⟩ : ∃ k : Nat, i = (k : Int) := ⟨i.toNat, by omega⟩
    have e : okI (i : Int) l.length = true := by unfold okI; simp; omega
    rw [e, if_pos rfl, Int.toNat_natCast]
    exact RPath_good hX v l i w hT hl (by omega) hll
end Go.Proofs.YtoigjcadncecpaaDoor
/- The document's answer for layer 6: Prove, walked. -/
namespace Go.Proofs.YtoigjcadncecpaaDoor
open Go Go.RowKit
set_option maxRecDepth 8000
set_option linter.all false
set_option maxHeartbeats 1000000 in
theorem RProve_bad (v : Value) (l : List Hs) (m : Int) (w : World) (hl : RdH w v l) (h : m < 1 ∨ (l.length : Int) < m) : Cv 14 #[v, .int .i64 m] w (svPq [] false) := by
  unfold Cv
  obtain ⟨A, c, hv⟩ := rdH_form hl
  subst hv
  clear hl
  by_cases h1 : m < 1
  · clear h
    go_enter Tryd.func14, Tryd.ntmps14
    go_wp2
    refine bodyPost_ret (results_tmp2 rfl _ _ _) rfl ⟨_, rfl, NewT.refl _, _, rfl, rdH_nil _⟩
  · have h2 : (l.length : Int) < m := by omega
    clear h
    go_enter Tryd.func14, Tryd.ntmps14
    go_wp2
    refine bodyPost_ret (results_tmp2 rfl _ _ _) rfl ⟨_, rfl, NewT.refl _, _, rfl, rdH_nil _⟩
set_option maxHeartbeats 8000000 in
theorem RProve_good {node : Hs → Hs → Hs} {z : Hs} (hX : TreeH node z) (v : Value) (l : List Hs) (m0 : Nat) (w : World) (hT : Tables w) (hl : RdH w v l) (h1 : 1 ≤ m0) (hm0 : m0 ≤ l.length) (hll : l.length ≤ 1000) : Cv 14 #[v, .int .i64 (m0 : Int)] w (svPq (subM node z m0 l true) true) := by
  unfold Cv
  have HT := Lib.hid hT
  have HL := Lib.hid hl
  have H1 := Lib.hid h1
  have HM0 := Lib.hid hm0
  have HLL := Lib.hid hll
  have HPS : Hid ((subM node z m0 l true).length ≤ 21) := Lib.hid (subM_short _ _ _ (by omega))
  obtain ⟨A, c, hv⟩ := rdH_form hl
  subst hv
  have t1 : ¬ (m0 : Int) < 1 := by omega
  have t2 : ¬ (l.length : Int) < (m0 : Int) := by omega
  clear hT hl h1 hm0 hll
  go_enter Tryd.func14, Tryd.ntmps14
  go_wp2
  clear t1 t2
  go_loopw [0, 1, 6, 7] (fun a b o q wr => ∃ (vm : Value) (ml acc : List Hs) (m : Nat) (bw : Bool), a = vm ∧ b = .int .i64 (m : Int) ∧ q = .bool bw ∧ NewT w wr ∧ RdH wr vm ml ∧ RdH wr o acc ∧ 1 ≤ m ∧ m ≤ ml.length ∧ ml.length ≤ 1000 ∧ subM node z m0 l true = subM node z m ml bw ++ acc) (fun a _ _ _ _ => lenV a)
  case atStart => exact ⟨_, l, [], m0, true, rfl, rfl, rfl, NewT.refl _, HL.out, rdH_nil _, H1.out, HM0.out, HLL.out, by simp⟩
  case round =>
    obtain ⟨vm, ml, acc, m, bw, rfl, rfl, rfl, hN, hm, ho, h1, hml2, hml, heq⟩ := hrel
    have HN := Lib.hid hN
    have HTr := Lib.hid (hN.tables HT.out)
    have HM := Lib.hid hm
    have HU6 := Lib.hid ho
    have HACC : Hid (acc.length ≤ 21) := Lib.hid (by have := HPS.out; rw [heq, List.length_append] at this; omega)
    have HML := Lib.hid hml
    have HEQ := Lib.hid heq
    obtain ⟨A1, c1, hv⟩ := rdH_form hm
    clear hN hm ho heq
    by_cases hlt : m < ml.length
    · have h2 : 2 ≤ ml.length := by omega
      obtain ⟨s1, s2, _⟩ := splitN_lt ml.length h2
      obtain ⟨k, hk⟩ : ∃ k, splitN ml.length = k := ⟨_, rfl⟩
      have HK : Hid (∀ w, Cv 26 #[.int .i64 (ml.length : Int)] w (.eq (.int .i64 (k : Int)))) := Lib.hid fun w => by
        have := RSplit_cv (ml.length : Int) (by omega) w
        rwa [Int.toNat_natCast, hk] at this
      rw [hk] at s1 s2
      have HKL : Hid (k < ml.length) := Lib.hid s1
      have it : (m : Int) < (ml.length : Int) := by omega
      subst hv
      go_upto_region 6 with fail
      obtain ⟨vm, ev⟩ : ∃ v, Value.slice A1 ml.length c1 = v := ⟨_, rfl⟩
      rw [ev] at HM ⊢
      refine wp_region_steps0 NewT [SV.eq (vm), SV.eq (.int .i64 ((List.length (ml) : Int))), SV.eq (.int .i64 ((k : Int))), SV.eq (.int .i64 ((k : Int)))] [([(0, none)], none), ([(21, some 0)], none), ([(22, some 1)], none), ([(23, some 2)], none)] 58 4 rfl rfl (by kernel_rfl) NewT.trans (NewT.refl _) (Nat.le_of_ble_eq_true rfl) ⟨?_, ?_, ?_, ?_, trivial⟩ ?_
      · intro a wx hT hF K hK
        obtain ⟨f0, _⟩ := hF
        have f0 : a.tmps.getD 0 undef = vm := f0
        refine rely_wp rfl ?_
        exact opr_move (.inl rfl) (hK _ _ (NewT.refl _) f0)
      · intro a wx hT hF K hK
        obtain ⟨f21, _⟩ := hF
        have f21 : a.tmps.getD 21 undef = vm := f21
        refine rely_wp rfl ?_
        exact opr_len_h rfl (by rw [eval_tmp, f21]; exact (hT.hs HM.out)) (hK _ _ (NewT.refl _) rfl)
      · intro a wx hT hF K hK
        obtain ⟨f22, _⟩ := hF
        have f22 : a.tmps.getD 22 undef = .int .i64 ((List.length (ml) : Int)) := f22
        refine rely_wp rfl ?_
        exact opr_cv (HK.out wx) rfl Tryd.func26 (by kernel_rfl) (by kernel_rfl) (by simp only [List.map_toArray, List.map_cons, List.map_nil, eval_tmp, f22]) hK
      · intro a wx hT hF K hK
        obtain ⟨f23, _⟩ := hF
        have f23 : a.tmps.getD 23 undef = .int .i64 ((k : Int)) := f23
        refine rely_wp rfl ?_
        exact opr_move (.inr rfl) (hK _ _ (NewT.refl _) f23)
      · intro w3 k3
        intro u h; obtain rfl := Eq.symm (h (by simp)); clear h
        intro u h; obtain rfl := Eq.symm (h (by simp)); clear h
        intro u h; obtain rfl := Eq.symm (h (by simp)); clear h
        intro u h; obtain rfl := Eq.symm (h (by simp)); clear h
        refine relyEnd_nil rfl ?_
        refine wpList_end rfl ?_
        simp only [Act.put, List.setIfInBounds_toArray, List.set_cons_zero, List.set_cons_succ]
        go_simp
        replace HM := Lib.hid (k3.hs HM.out)
        replace HU6 := Lib.hid (k3.hs HU6.out)
        replace HTr := Lib.hid (k3.tables HTr.out)
        replace HN := Lib.hid (NewT.trans _ _ _ HN.out k3)
        clear k3 HK
        by_cases hil : m ≤ k
        · have t6 : (m : Int) ≤ (k : Int) := by omega
          go_upto_region 8 with fail
          refine wp_region_steps0 NewT [SV.eq (vm), SV.eq (.int .i64 ((k : Int))), svH (List.drop k ml), SV.eq (.agg (rowA 32 (bF (rootM node z (List.drop k ml)))))] [([(0, none)], none), ([(8, none)], none), ([(27, some 0), (28, some 1)], none), ([(29, some 2)], none)] 58 4 rfl rfl (by kernel_rfl) NewT.trans (NewT.refl _) (Nat.le_of_ble_eq_true rfl) ⟨?_, ?_, ?_, ?_, trivial⟩ ?_
          · intro a wx hT hF K hK
            obtain ⟨f0, _⟩ := hF
            have f0 : a.tmps.getD 0 undef = vm := f0
            refine rely_wp rfl ?_
            exact opr_move (.inl rfl) (hK _ _ (NewT.refl _) f0)
          · intro a wx hT hF K hK
            obtain ⟨f8, _⟩ := hF
            have f8 : a.tmps.getD 8 undef = .int .i64 ((k : Int)) := f8
            refine rely_wp rfl ?_
            exact opr_move (.inl rfl) (hK _ _ (NewT.refl _) f8)
          · intro a wx hT hF K hK
            obtain ⟨f27, f28, _⟩ := hF
            have f27 : a.tmps.getD 27 undef = vm := f27
            have f28 : a.tmps.getD 28 undef = .int .i64 ((k : Int)) := f28
            refine rely_wp rfl ?_
            exact opr_fromH (k := k) (by have := HKL.out; omega) (rfl) rfl (by rw [eval_tmp, f27]; exact (hT.hs HM.out)) f28 (fun v hv => hK v _ (NewT.refl _) hv)
          · intro a wx hT hF K hK
            obtain ⟨f29, _⟩ := hF
            replace f29 := show (svH (List.drop k ml)).pred (a.tmps.getD 29 undef) wx from f29
            refine rely_wp rfl ?_
            exact opr_cv (RRoot_cv hX _ _ (List.drop k ml) wx (hT.tables HTr.out) (f29) (Nat.le_refl _) (by have := HML.out; simp; omega)) rfl Tryd.func27 (by kernel_rfl) (by kernel_rfl) (by simp only [List.map_toArray, List.map_cons, List.map_nil, eval_tmp]) hK
          · intro wa ka
            intro u h; obtain rfl := Eq.symm (h (by simp)); clear h
            intro u h; obtain rfl := Eq.symm (h (by simp)); clear h
            intro _ _
            intro u h; obtain rfl := Eq.symm (h (by simp)); clear h
            refine relyEnd_nil rfl ?_
            simp only [Act.put, List.setIfInBounds_toArray, List.set_cons_zero, List.set_cons_succ]
            refine wpList_plain rfl (fun K hK => ?_)
            refine opr_val (s := Instr.buildSlice 22 1 #[(0, .agg (rowA 32 (bF (rootM node z (List.drop k ml)))))]) (by simp [execOp]; rfl) (run_bsH1 _ _) (hK _ _ ?_)
            clear hK K
            have ho := ownH_one wa wa.heap.size (rootM node z (List.drop k ml)) (Nat.le_refl _)
            have hn := NewT.alloc wa (.cells (rowA 32 (bF (rootM node z (List.drop k ml)))) 29)
            generalize wa.alloc (.cells (rowA 32 (bF (rootM node z (List.drop k ml)))) 29) = wb at ho hn ⊢
            obtain ⟨vs, evs⟩ : ∃ v, Value.slice (some ⟨wa.heap.size, 0, none⟩) 1 1 = v := ⟨_, rfl⟩
            rw [evs] at ho ⊢
            refine wpList_plain rfl (fun K hK => ?_)
            refine opr_move (.inl rfl) (hK _ _ ?_)
            clear hK K
            simp only [Act.put, List.setIfInBounds_toArray, List.set_cons_zero, List.set_cons_succ]
            refine wpList_plain rfl (fun K hK => ?_)
            obtain ⟨v', w', hrun, h2, h3⟩ := run_appH ho (hn.hs (ka.hs HU6.out)) (by have := HACC.out; simp; omega) hn.out.size 22
            refine opr_append rfl rfl rfl hrun (hK _ _ ?_)
            clear hK K
            refine wpList_plain rfl (fun K hK => ?_)
            refine opr_move (.inr rfl) (hK _ _ ?_)
            refine wpList_end rfl ?_
            simp only [Act.put, List.setIfInBounds_toArray, List.set_cons_zero, List.set_cons_succ]
            go_simp
            have hend := NewT.trans _ _ _ ka (app_below hn rfl ho h3)
            have HU := Lib.hid (show RdH w' v' ((rootM node z (List.drop k ml)) :: acc) from h2.rd)
            clear hrun h2 h3 ho hn ka evs
            replace HM := Lib.hid (hend.hs HM.out)
            replace HTr := Lib.hid (hend.tables HTr.out)
            replace HN := Lib.hid (NewT.trans _ _ _ HN.out hend)
            clear hend HU6
            go_upto_region 9 with fail
            refine wp_region_steps0 NewT [SV.eq (vm), SV.eq (.int .i64 ((k : Int))), svH (List.take k ml), svH (List.take k ml)] [([(0, none)], none), ([(8, none)], none), ([(34, some 0), (35, some 1)], none), ([(36, some 2)], none)] 58 4 rfl rfl (by kernel_rfl) NewT.trans (NewT.refl _) (Nat.le_of_ble_eq_true rfl) ⟨?_, ?_, ?_, ?_, trivial⟩ ?_
            · intro a wx hT hF K hK
              obtain ⟨f0, _⟩ := hF
              have f0 : a.tmps.getD 0 undef = vm := f0
              refine rely_wp rfl ?_
              exact opr_move (.inl rfl) (hK _ _ (NewT.refl _) f0)
            · intro a wx hT hF K hK
              obtain ⟨f8, _⟩ := hF
              have f8 : a.tmps.getD 8 undef = .int .i64 ((k : Int)) := f8
              refine rely_wp rfl ?_
              exact opr_move (.inl rfl) (hK _ _ (NewT.refl _) f8)
            · intro a wx hT hF K hK
              obtain ⟨f34, f35, _⟩ := hF
              have f34 : a.tmps.getD 34 undef = vm := f34
              have f35 : a.tmps.getD 35 undef = .int .i64 ((k : Int)) := f35
              refine rely_wp rfl ?_
              exact opr_toH (k := k) (by have := HKL.out; omega) (rfl) rfl (by rw [eval_tmp, f34]; exact (hT.hs HM.out)) f35 (fun v hv => hK v _ (NewT.refl _) hv)
            · intro a wx hT hF K hK
              obtain ⟨f36, _⟩ := hF
              replace f36 := show (svH (List.take k ml)).pred (a.tmps.getD 36 undef) wx from f36
              refine rely_wp rfl ?_
              exact opr_move (.inr rfl) (hK _ _ (NewT.refl _) f36)
            · intro wc kc
              intro u h; obtain rfl := Eq.symm (h (by simp)); clear h
              intro u h; obtain rfl := Eq.symm (h (by simp)); clear h
              intro _ _
              intro u0 h; have g0 := h (by simp); clear h; replace g0 := show (svH (List.take k ml)).pred u0 wc from g0
              refine relyEnd_nil rfl ?_
              refine wpList_end rfl ?_
              simp only [Act.put, List.setIfInBounds_toArray, List.set_cons_zero, List.set_cons_succ]
              go_simp
              go_wp2
              go_roundw
              case rel => exact ⟨_, List.take k ml, _, m, bw, rfl, by first | rfl | go_num, rfl, NewT.trans _ _ _ HN.out kc, g0, kc.hs HU.out, h1, by rw [List.length_take]; omega, by rw [List.length_take]; omega, by rw [HEQ.out, subM_l _ _ _ _ _ hlt h2 (by rw [hk]; exact hil), hk]; simp⟩
              case measure =>
                obtain ⟨A5, c5, h5⟩ := rdH_form (show RdH wc u0 (List.take k ml) from g0)
                rw [h5]
                simp [lenV]; omega
        · have t6 : ¬ (m : Int) ≤ (k : Int) := by omega
          go_upto_region 10 with fail
          refine wp_region_steps0 NewT [SV.eq (vm), SV.eq (.int .i64 ((k : Int))), svH (List.take k ml), SV.eq (.agg (rowA 32 (bF (rootM node z (List.take k ml)))))] [([(0, none)], none), ([(8, none)], none), ([(37, some 0), (38, some 1)], none), ([(39, some 2)], none)] 58 4 rfl rfl (by kernel_rfl) NewT.trans (NewT.refl _) (Nat.le_of_ble_eq_true rfl) ⟨?_, ?_, ?_, ?_, trivial⟩ ?_
          · intro a wx hT hF K hK
            obtain ⟨f0, _⟩ := hF
            have f0 : a.tmps.getD 0 undef = vm := f0
            refine rely_wp rfl ?_
            exact opr_move (.inl rfl) (hK _ _ (NewT.refl _) f0)
          · intro a wx hT hF K hK
            obtain ⟨f8, _⟩ := hF
            have f8 : a.tmps.getD 8 undef = .int .i64 ((k : Int)) := f8
            refine rely_wp rfl ?_
            exact opr_move (.inl rfl) (hK _ _ (NewT.refl _) f8)
          · intro a wx hT hF K hK
            obtain ⟨f37, f38, _⟩ := hF
            have f37 : a.tmps.getD 37 undef = vm := f37
            have f38 : a.tmps.getD 38 undef = .int .i64 ((k : Int)) := f38
            refine rely_wp rfl ?_
            exact opr_toH (k := k) (by have := HKL.out; omega) (rfl) rfl (by rw [eval_tmp, f37]; exact (hT.hs HM.out)) f38 (fun v hv => hK v _ (NewT.refl _) hv)
          · intro a wx hT hF K hK
            obtain ⟨f39, _⟩ := hF
            replace f39 := show (svH (List.take k ml)).pred (a.tmps.getD 39 undef) wx from f39
            refine rely_wp rfl ?_
            exact opr_cv (RRoot_cv hX _ _ (List.take k ml) wx (hT.tables HTr.out) (f39) (Nat.le_refl _) (by have := HML.out; simp; omega)) rfl Tryd.func27 (by kernel_rfl) (by kernel_rfl) (by simp only [List.map_toArray, List.map_cons, List.map_nil, eval_tmp]) hK
          · intro wa ka
            intro u h; obtain rfl := Eq.symm (h (by simp)); clear h
            intro u h; obtain rfl := Eq.symm (h (by simp)); clear h
            intro _ _
            intro u h; obtain rfl := Eq.symm (h (by simp)); clear h
            refine relyEnd_nil rfl ?_
            simp only [Act.put, List.setIfInBounds_toArray, List.set_cons_zero, List.set_cons_succ]
            refine wpList_plain rfl (fun K hK => ?_)
            refine opr_val (s := Instr.buildSlice 22 1 #[(0, .agg (rowA 32 (bF (rootM node z (List.take k ml)))))]) (by simp [execOp]; rfl) (run_bsH1 _ _) (hK _ _ ?_)
            clear hK K
            have ho := ownH_one wa wa.heap.size (rootM node z (List.take k ml)) (Nat.le_refl _)
            have hn := NewT.alloc wa (.cells (rowA 32 (bF (rootM node z (List.take k ml)))) 29)
            generalize wa.alloc (.cells (rowA 32 (bF (rootM node z (List.take k ml)))) 29) = wb at ho hn ⊢
            obtain ⟨vs, evs⟩ : ∃ v, Value.slice (some ⟨wa.heap.size, 0, none⟩) 1 1 = v := ⟨_, rfl⟩
            rw [evs] at ho ⊢
            refine wpList_plain rfl (fun K hK => ?_)
            refine opr_move (.inl rfl) (hK _ _ ?_)
            clear hK K
            simp only [Act.put, List.setIfInBounds_toArray, List.set_cons_zero, List.set_cons_succ]
            refine wpList_plain rfl (fun K hK => ?_)
            obtain ⟨v', w', hrun, h2, h3⟩ := run_appH ho (hn.hs (ka.hs HU6.out)) (by have := HACC.out; simp; omega) hn.out.size 22
            refine opr_append rfl rfl rfl hrun (hK _ _ ?_)
            clear hK K
            refine wpList_plain rfl (fun K hK => ?_)
            refine opr_move (.inr rfl) (hK _ _ ?_)
            refine wpList_end rfl ?_
            simp only [Act.put, List.setIfInBounds_toArray, List.set_cons_zero, List.set_cons_succ]
            go_simp
            have hend := NewT.trans _ _ _ ka (app_below hn rfl ho h3)
            have HU := Lib.hid (show RdH w' v' ((rootM node z (List.take k ml)) :: acc) from h2.rd)
            clear hrun h2 h3 ho hn ka evs
            replace HM := Lib.hid (hend.hs HM.out)
            replace HTr := Lib.hid (hend.tables HTr.out)
            replace HN := Lib.hid (NewT.trans _ _ _ HN.out hend)
            clear hend HU6
            go_upto_region 11 with fail
            refine wp_region_steps0 NewT [SV.eq (vm), SV.eq (.int .i64 ((k : Int))), svH (List.drop k ml), svH (List.drop k ml)] [([(0, none)], none), ([(8, none)], none), ([(44, some 0), (45, some 1)], none), ([(46, some 2)], none)] 58 4 rfl rfl (by kernel_rfl) NewT.trans (NewT.refl _) (Nat.le_of_ble_eq_true rfl) ⟨?_, ?_, ?_, ?_, trivial⟩ ?_
            · intro a wx hT hF K hK
              obtain ⟨f0, _⟩ := hF
              have f0 : a.tmps.getD 0 undef = vm := f0
              refine rely_wp rfl ?_
              exact opr_move (.inl rfl) (hK _ _ (NewT.refl _) f0)
            · intro a wx hT hF K hK
              obtain ⟨f8, _⟩ := hF
              have f8 : a.tmps.getD 8 undef = .int .i64 ((k : Int)) := f8
              refine rely_wp rfl ?_
              exact opr_move (.inl rfl) (hK _ _ (NewT.refl _) f8)
            · intro a wx hT hF K hK
              obtain ⟨f44, f45, _⟩ := hF
              have f44 : a.tmps.getD 44 undef = vm := f44
              have f45 : a.tmps.getD 45 undef = .int .i64 ((k : Int)) := f45
              refine rely_wp rfl ?_
              exact opr_fromH (k := k) (by have := HKL.out; omega) (rfl) rfl (by rw [eval_tmp, f44]; exact (hT.hs HM.out)) f45 (fun v hv => hK v _ (NewT.refl _) hv)
            · intro a wx hT hF K hK
              obtain ⟨f46, _⟩ := hF
              replace f46 := show (svH (List.drop k ml)).pred (a.tmps.getD 46 undef) wx from f46
              refine rely_wp rfl ?_
              exact opr_move (.inr rfl) (hK _ _ (NewT.refl _) f46)
            · intro wc kc
              intro u h; obtain rfl := Eq.symm (h (by simp)); clear h
              intro u h; obtain rfl := Eq.symm (h (by simp)); clear h
              intro _ _
              intro u0 h; have g0 := h (by simp); clear h; replace g0 := show (svH (List.drop k ml)).pred u0 wc from g0
              refine relyEnd_nil rfl ?_
              refine wpList_end rfl ?_
              simp only [Act.put, List.setIfInBounds_toArray, List.set_cons_zero, List.set_cons_succ]
              go_simp
              go_wp2
              go_roundw
              case rel => exact ⟨_, List.drop k ml, _, m - k, false, rfl, by first | rfl | go_num, rfl, NewT.trans _ _ _ HN.out kc, g0, kc.hs HU.out, by omega, by rw [List.length_drop]; omega, by rw [List.length_drop]; omega, by rw [HEQ.out, subM_r _ _ _ _ _ hlt h2 (by rw [hk]; exact hil), hk]; simp⟩
              case measure =>
                obtain ⟨A5, c5, h5⟩ := rdH_form (show RdH wc u0 (List.drop k ml) from g0)
                rw [h5]
                simp [lenV]; omega
    · obtain rfl : m = ml.length := by omega
      have it : ¬ (ml.length : Int) < (ml.length : Int) := by omega
      cases bw
      · subst hv
        go_upto_region 15 with fail
        obtain ⟨vm, ev⟩ : ∃ v, Value.slice A1 ml.length c1 = v := ⟨_, rfl⟩
        rw [ev] at HM ⊢
        refine wp_region_steps0 NewT [SV.eq (vm), SV.eq (.agg (rowA 32 (bF (rootM node z (ml)))))] [([(0, none)], none), ([(52, some 0)], none)] 58 2 rfl rfl (by kernel_rfl) NewT.trans (NewT.refl _) (Nat.le_of_ble_eq_true rfl) ⟨?_, ?_, trivial⟩ ?_
        · intro a wx hT hF K hK
          obtain ⟨f0, _⟩ := hF
          have f0 : a.tmps.getD 0 undef = vm := f0
          refine rely_wp rfl ?_
          exact opr_move (.inl rfl) (hK _ _ (NewT.refl _) f0)
        · intro a wx hT hF K hK
          obtain ⟨f52, _⟩ := hF
          have f52 : a.tmps.getD 52 undef = vm := f52
          refine rely_wp rfl ?_
          exact opr_cv (RRoot_cv hX _ _ (ml) wx (hT.tables HTr.out) ((hT.hs HM.out)) (Nat.le_refl _) (by have := HML.out; omega)) rfl Tryd.func27 (by kernel_rfl) (by kernel_rfl) (by simp only [List.map_toArray, List.map_cons, List.map_nil, eval_tmp, f52]) hK
        · intro wa ka
          intro u h; obtain rfl := Eq.symm (h (by simp)); clear h
          intro u h; obtain rfl := Eq.symm (h (by simp)); clear h
          refine relyEnd_nil rfl ?_
          simp only [Act.put, List.setIfInBounds_toArray, List.set_cons_zero, List.set_cons_succ]
          refine wpList_plain rfl (fun K hK => ?_)
          refine opr_val (s := Instr.buildSlice 22 1 #[(0, .agg (rowA 32 (bF (rootM node z ml))))]) (by simp [execOp]; rfl) (run_bsH1 _ _) (hK _ _ ?_)
          clear hK K
          have ho := ownH_one wa wa.heap.size (rootM node z ml) (Nat.le_refl _)
          have hn := NewT.alloc wa (.cells (rowA 32 (bF (rootM node z ml))) 29)
          generalize wa.alloc (.cells (rowA 32 (bF (rootM node z ml))) 29) = wb at ho hn ⊢
          obtain ⟨vs, evs⟩ : ∃ v, Value.slice (some ⟨wa.heap.size, 0, none⟩) 1 1 = v := ⟨_, rfl⟩
          rw [evs] at ho ⊢
          refine wpList_plain rfl (fun K hK => ?_)
          refine opr_move (.inl rfl) (hK _ _ ?_)
          clear hK K
          simp only [Act.put, List.setIfInBounds_toArray, List.set_cons_zero, List.set_cons_succ]
          refine wpList_plain rfl (fun K hK => ?_)
          obtain ⟨v', w', hrun, h2, h3⟩ := run_appH ho (hn.hs (ka.hs HU6.out)) (by have := HACC.out; simp; omega) hn.out.size 22
          refine opr_append rfl rfl rfl hrun (hK _ _ ?_)
          clear hK K
          refine wpList_plain rfl (fun K hK => ?_)
          refine opr_move (.inr rfl) (hK _ _ ?_)
          refine wpList_end rfl ?_
          simp only [Act.put, List.setIfInBounds_toArray, List.set_cons_zero, List.set_cons_succ]
          go_simp
          have hend := NewT.trans _ _ _ ka (app_below hn rfl ho h3)
          have HU := Lib.hid (show RdH w' v' ((rootM node z ml) :: acc) from h2.rd)
          clear hrun h2 h3 ho hn ka evs
          go_wp2
          rw [HEQ.out, subM_all _ _ _ _ _ (.inl (Nat.le_refl _)), if_neg (by decide)]
          exact bodyPost_ret (results_tmp2 rfl _ _ _) rfl ⟨_, rfl, NewT.trans _ _ _ HN.out hend, _, rfl, HU.out⟩
      · subst hv
        go_wp2
        rw [HEQ.out, subM_all _ _ _ _ _ (.inl (Nat.le_refl _)), if_pos rfl, List.nil_append]
        exact bodyPost_ret (results_tmp2 rfl _ _ _) rfl ⟨_, rfl, HN.out, _, rfl, HU6.out⟩
theorem RProve_cv {node : Hs → Hs → Hs} {z : Hs} (hX : TreeH node z) (v : Value) (l : List Hs) (m : Int) (w : World) (hT : Tables w) (hl : RdH w v l) (hll : l.length ≤ 1000) : Cv 14 #[v, .int .i64 m] w (svPq (if okM m l.length then subM node z m.toNat l true else []) (okM m l.length)) := by
  by_cases h : m < 1 ∨ (l.length : Int) < m
  · have e : okM m l.length = false := by
      unfold okM
      rcases h with h | h
      · simp [show ¬ 1 ≤ m by omega]
      · simp [show ¬ m ≤ (l.length : Int) by omega]
    rw [e, if_neg (by decide)]
    exact RProve_bad v l m w hl h
  · obtain ⟨m, rfl⟩ : ∃ k : Nat, m = (k : Int) := ⟨m.toNat, by omega⟩
    have e : okM (m : Int) l.length = true := by unfold okM; simp; omega
    rw [e, if_pos rfl, Int.toNat_natCast]
    exact RProve_good hX v l m w hT hl (by omega) (by omega) hll
end Go.Proofs.YtoigjcadncecpaaDoor
/- The law ProofPaths, walked: a leaf's path and a beginning's proof are the document's. -/
namespace Go.Proofs.YtoigjcadncecpaaDoor
open Go Go.RowKit
set_option maxRecDepth 8000
set_option linter.all false
set_option maxHeartbeats 8000000 in
theorem ProofPaths_walk (v : Value) (l : List Hs) (i0 m0 : Int) (w : World) (hT : Tables w) (hl : RdH w v l) : Calls Tryd.prog 3 #[v, .int .i64 i0, .int .i64 m0] w fun e w' => e = .returned (.bool true) ∧ Below w.heap.size w w' := by
  by_cases h70 : 70 < l.length
  · have t1 : decide ((70 : Int) < (l.length : Int)) = true := by simp; omega
    obtain ⟨node, z, hX⟩ := tree_ex
    have HT := Lib.hid hT
    have HL := Lib.hid hl
    obtain ⟨A, c, hv⟩ := rdH_form hl
    subst hv
    clear hT hl
    go_enter Tryd.func3, Tryd.ntmps3
    have HN := Lib.hid (NewT.refl w)
    go_upto_region 4 with (go_at_call 10; refine (alive6_any _ HT.out).mono ?_; rintro _ w1 ⟨rfl, hA1⟩)
    go_wp2
    go_ret
    exact ⟨rfl, (NewT.trans _ _ _ HN.out (NewT.of hA1)).out⟩
  have t1 : decide ((70 : Int) < (l.length : Int)) = false := by simp; omega
  obtain ⟨node, z, hX⟩ := tree_ex
  have HT := Lib.hid hT
  have HL := Lib.hid hl
  obtain ⟨A, c, hv⟩ := rdH_form hl
  subst hv
  clear hT hl
  go_enter Tryd.func3, Tryd.ntmps3
  have HN := Lib.hid (NewT.refl w)
  go_upto_region 5 with (go_at_call 10; refine (alive6_any _ HT.out).mono ?_; rintro _ w1 ⟨rfl, hA1⟩)
  have hn1 := NewT.of hA1
  replace HT := Lib.hid (hn1.tables HT.out)
  replace HL := Lib.hid (hn1.hs HL.out)
  replace HN := Lib.hid (NewT.trans _ _ _ HN.out hn1)
  obtain ⟨v, ev⟩ : ∃ v, Value.slice A l.length c = v := ⟨_, rfl⟩
  rw [ev] at HL ⊢
  clear ev hA1
  clear t1 hn1
  have hp : ∀ (v : Value) (w : World), Tables w → RdH w v l → Cv 11 #[v, .int .i64 i0] w (svPq (if okI i0 l.length then pathM node z l i0.toNat else []) (okI i0 l.length)) := fun v w hT hl => Path_cv hX v l i0 w hT hl (by omega)
  have hq : ∀ (v : Value) (w : World), Tables w → RdH w v l → Cv 12 #[v, .int .i64 i0] w (svPq (if okI i0 l.length then pathM node z l i0.toNat else []) (okI i0 l.length)) := fun v w hT hl => RPath_cv hX v l i0 w hT hl (by omega)
  have hpl : (if okI i0 l.length then pathM node z l i0.toNat else []).length ≤ 20 := by
    split
    · exact pathM_short _ _ (by omega)
    · simp
  obtain ⟨P, eP⟩ : ∃ P, (if okI i0 l.length then pathM node z l i0.toNat else []) = P := ⟨_, rfl⟩
  obtain ⟨bi, ebi⟩ : ∃ b, okI i0 l.length = b := ⟨_, rfl⟩
  rw [eP] at hp hq hpl
  rw [ebi] at hp hq
  have HP := Lib.hid hp
  have HQ := Lib.hid hq
  have HPL := Lib.hid hpl
  have hr : ∀ (v : Value) (w : World), Tables w → RdH w v l → Cv 13 #[v, .int .i64 m0] w (svPq (if okM m0 l.length then subM node z m0.toNat l true else []) (okM m0 l.length)) := fun v w hT hl => Prove_cv hX v l m0 w hT hl (by omega)
  have hs : ∀ (v : Value) (w : World), Tables w → RdH w v l → Cv 14 #[v, .int .i64 m0] w (svPq (if okM m0 l.length then subM node z m0.toNat l true else []) (okM m0 l.length)) := fun v w hT hl => RProve_cv hX v l m0 w hT hl (by omega)
  have hsl : (if okM m0 l.length then subM node z m0.toNat l true else []).length ≤ 21 := by
    split
    · exact subM_short _ _ _ (by omega)
    · simp
  obtain ⟨S, eS⟩ : ∃ S, (if okM m0 l.length then subM node z m0.toNat l true else []) = S := ⟨_, rfl⟩
  obtain ⟨bm, ebm⟩ : ∃ b, okM m0 l.length = b := ⟨_, rfl⟩
  rw [eS] at hr hs hsl
  rw [ebm] at hr hs
  have HR := Lib.hid hr
  have HS := Lib.hid hs
  have HSL := Lib.hid hsl
  clear hp hq hpl hr hs hsl eP ebi eS ebm h70
  refine wp_region_steps0 NewT [SV.eq (v), SV.eq (.int .i64 (i0)), svPq (P) bi, svPq (P) bi, svH (P), SV.eq (.bool (bi)), svH (P), SV.eq (.bool (bi))] [([(0, none)], none), ([(1, none)], none), ([(21, some 0), (22, some 1)], none), ([(23, some 2)], none), ([(20, some 3)], none), ([(20, some 3)], none), ([(24, some 4)], none), ([(25, some 5)], none)] 62 8 rfl rfl (by kernel_rfl) NewT.trans (NewT.refl _) (Nat.le_of_ble_eq_true rfl) ⟨?_, ?_, ?_, ?_, ?_, ?_, ?_, ?_, trivial⟩ ?_
  · intro a wx hT hF K hK
    obtain ⟨f0, _⟩ := hF
    have f0 : a.tmps.getD 0 undef = v := f0
    refine rely_wp rfl ?_
    exact opr_move (.inl rfl) (hK _ _ (NewT.refl _) f0)
  · intro a wx hT hF K hK
    obtain ⟨f1, _⟩ := hF
    have f1 : a.tmps.getD 1 undef = .int .i64 (i0) := f1
    refine rely_wp rfl ?_
    exact opr_move (.inl rfl) (hK _ _ (NewT.refl _) f1)
  · intro a wx hT hF K hK
    obtain ⟨f21, f22, _⟩ := hF
    have f21 : a.tmps.getD 21 undef = v := f21
    have f22 : a.tmps.getD 22 undef = .int .i64 (i0) := f22
    refine rely_wp rfl ?_
    exact opr_cv (HP.out _ wx (hT.tables HT.out) (hT.hs HL.out)) rfl Tryd.func11 (by kernel_rfl) (by kernel_rfl) (by simp only [List.map_toArray, List.map_cons, List.map_nil, eval_tmp, f21, f22]) hK
  · intro a wx hT hF K hK
    obtain ⟨f23, _⟩ := hF
    replace f23 := show (svPq (P) bi).pred (a.tmps.getD 23 undef) wx from f23
    refine rely_wp rfl ?_
    exact opr_move (.inl rfl) (hK _ _ (NewT.refl _) f23)
  · intro a wx hT hF K hK
    obtain ⟨f20, _⟩ := hF
    replace f20 := show (svPq (P) bi).pred (a.tmps.getD 20 undef) wx from f20
    refine rely_wp rfl ?_
    exact opr_extP0 rfl f20 (fun u hu => hK u _ (NewT.refl _) hu)
  · intro a wx hT hF K hK
    obtain ⟨f20, _⟩ := hF
    replace f20 := show (svPq (P) bi).pred (a.tmps.getD 20 undef) wx from f20
    refine rely_wp rfl ?_
    exact opr_extP1 rfl f20 (hK _ _ (NewT.refl _) rfl)
  · intro a wx hT hF K hK
    obtain ⟨f24, _⟩ := hF
    replace f24 := show (svH (P)).pred (a.tmps.getD 24 undef) wx from f24
    refine rely_wp rfl ?_
    exact opr_move (.inr rfl) (hK _ _ (NewT.refl _) f24)
  · intro a wx hT hF K hK
    obtain ⟨f25, _⟩ := hF
    have f25 : a.tmps.getD 25 undef = .bool (bi) := f25
    refine rely_wp rfl ?_
    exact opr_move (.inr rfl) (hK _ _ (NewT.refl _) f25)
  · intro w2 k2
    intro u h; obtain rfl := Eq.symm (h (by simp)); clear h
    intro u h; obtain rfl := Eq.symm (h (by simp)); clear h
    intro _ _
    intro _ _
    intro _ _
    intro u h; obtain rfl := Eq.symm (h (by simp)); clear h
    intro u7 h; have g7 := h (by simp); clear h; replace g7 := show (svH (P)).pred u7 w2 from g7
    intro u h; obtain rfl := Eq.symm (h (by simp)); clear h
    refine relyEnd_nil rfl ?_
    refine wpList_end rfl ?_
    simp only [Act.put, List.setIfInBounds_toArray, List.set_cons_zero, List.set_cons_succ]
    go_simp
    have HU7 := Lib.hid (show RdH w2 u7 P from g7)
    clear g7
    replace HL := Lib.hid (k2.hs HL.out)
    replace HT := Lib.hid (k2.tables HT.out)
    replace HN := Lib.hid (NewT.trans _ _ _ HN.out k2)
    clear k2
    go_upto_region 6 with fail
    refine wp_region_steps0 NewT [SV.eq (v), SV.eq (.int .i64 (i0)), svPq (P) bi, svPq (P) bi, svH (P), SV.eq (.bool (bi)), svH (P), SV.eq (.bool (bi))] [([(0, none)], none), ([(1, none)], none), ([(27, some 0), (28, some 1)], none), ([(29, some 2)], none), ([(26, some 3)], none), ([(26, some 3)], none), ([(30, some 4)], none), ([(31, some 5)], none)] 62 8 rfl rfl (by kernel_rfl) NewT.trans (NewT.refl _) (Nat.le_of_ble_eq_true rfl) ⟨?_, ?_, ?_, ?_, ?_, ?_, ?_, ?_, trivial⟩ ?_
    · intro a wx hT hF K hK
      obtain ⟨f0, _⟩ := hF
      have f0 : a.tmps.getD 0 undef = v := f0
      refine rely_wp rfl ?_
      exact opr_move (.inl rfl) (hK _ _ (NewT.refl _) f0)
    · intro a wx hT hF K hK
      obtain ⟨f1, _⟩ := hF
      have f1 : a.tmps.getD 1 undef = .int .i64 (i0) := f1
      refine rely_wp rfl ?_
      exact opr_move (.inl rfl) (hK _ _ (NewT.refl _) f1)
    · intro a wx hT hF K hK
      obtain ⟨f27, f28, _⟩ := hF
      have f27 : a.tmps.getD 27 undef = v := f27
      have f28 : a.tmps.getD 28 undef = .int .i64 (i0) := f28
      refine rely_wp rfl ?_
      exact opr_cv (HQ.out _ wx (hT.tables HT.out) (hT.hs HL.out)) rfl Tryd.func12 (by kernel_rfl) (by kernel_rfl) (by simp only [List.map_toArray, List.map_cons, List.map_nil, eval_tmp, f27, f28]) hK
    · intro a wx hT hF K hK
      obtain ⟨f29, _⟩ := hF
      replace f29 := show (svPq (P) bi).pred (a.tmps.getD 29 undef) wx from f29
      refine rely_wp rfl ?_
      exact opr_move (.inl rfl) (hK _ _ (NewT.refl _) f29)
    · intro a wx hT hF K hK
      obtain ⟨f26, _⟩ := hF
      replace f26 := show (svPq (P) bi).pred (a.tmps.getD 26 undef) wx from f26
      refine rely_wp rfl ?_
      exact opr_extP0 rfl f26 (fun u hu => hK u _ (NewT.refl _) hu)
    · intro a wx hT hF K hK
      obtain ⟨f26, _⟩ := hF
      replace f26 := show (svPq (P) bi).pred (a.tmps.getD 26 undef) wx from f26
      refine rely_wp rfl ?_
      exact opr_extP1 rfl f26 (hK _ _ (NewT.refl _) rfl)
    · intro a wx hT hF K hK
      obtain ⟨f30, _⟩ := hF
      replace f30 := show (svH (P)).pred (a.tmps.getD 30 undef) wx from f30
      refine rely_wp rfl ?_
      exact opr_move (.inr rfl) (hK _ _ (NewT.refl _) f30)
    · intro a wx hT hF K hK
      obtain ⟨f31, _⟩ := hF
      have f31 : a.tmps.getD 31 undef = .bool (bi) := f31
      refine rely_wp rfl ?_
      exact opr_move (.inr rfl) (hK _ _ (NewT.refl _) f31)
    · intro w3 k3
      intro u h; obtain rfl := Eq.symm (h (by simp)); clear h
      intro u h; obtain rfl := Eq.symm (h (by simp)); clear h
      intro _ _
      intro _ _
      intro _ _
      intro u h; obtain rfl := Eq.symm (h (by simp)); clear h
      intro u9 h; have g9 := h (by simp); clear h; replace g9 := show (svH (P)).pred u9 w3 from g9
      intro u h; obtain rfl := Eq.symm (h (by simp)); clear h
      refine relyEnd_nil rfl ?_
      refine wpList_end rfl ?_
      simp only [Act.put, List.setIfInBounds_toArray, List.set_cons_zero, List.set_cons_succ]
      go_simp
      have HU9 := Lib.hid (show RdH w3 u9 P from g9)
      clear g9
      replace HL := Lib.hid (k3.hs HL.out)
      replace HU7 := Lib.hid (k3.hs HU7.out)
      replace HT := Lib.hid (k3.tables HT.out)
      replace HN := Lib.hid (NewT.trans _ _ _ HN.out k3)
      clear k3
      go_upto_region 7 with fail
      refine wp_region_steps0 NewT [SV.eq (v), SV.eq (.int .i64 (m0)), svPq (S) bm, svPq (S) bm, svH (S), SV.eq (.bool (bm)), svH (S), SV.eq (.bool (bm))] [([(0, none)], none), ([(2, none)], none), ([(33, some 0), (34, some 1)], none), ([(35, some 2)], none), ([(32, some 3)], none), ([(32, some 3)], none), ([(36, some 4)], none), ([(37, some 5)], none)] 62 8 rfl rfl (by kernel_rfl) NewT.trans (NewT.refl _) (Nat.le_of_ble_eq_true rfl) ⟨?_, ?_, ?_, ?_, ?_, ?_, ?_, ?_, trivial⟩ ?_
      · intro a wx hT hF K hK
        obtain ⟨f0, _⟩ := hF
        have f0 : a.tmps.getD 0 undef = v := f0
        refine rely_wp rfl ?_
        exact opr_move (.inl rfl) (hK _ _ (NewT.refl _) f0)
      · intro a wx hT hF K hK
        obtain ⟨f2, _⟩ := hF
        have f2 : a.tmps.getD 2 undef = .int .i64 (m0) := f2
        refine rely_wp rfl ?_
        exact opr_move (.inl rfl) (hK _ _ (NewT.refl _) f2)
      · intro a wx hT hF K hK
        obtain ⟨f33, f34, _⟩ := hF
        have f33 : a.tmps.getD 33 undef = v := f33
        have f34 : a.tmps.getD 34 undef = .int .i64 (m0) := f34
        refine rely_wp rfl ?_
        exact opr_cv (HR.out _ wx (hT.tables HT.out) (hT.hs HL.out)) rfl Tryd.func13 (by kernel_rfl) (by kernel_rfl) (by simp only [List.map_toArray, List.map_cons, List.map_nil, eval_tmp, f33, f34]) hK
      · intro a wx hT hF K hK
        obtain ⟨f35, _⟩ := hF
        replace f35 := show (svPq (S) bm).pred (a.tmps.getD 35 undef) wx from f35
        refine rely_wp rfl ?_
        exact opr_move (.inl rfl) (hK _ _ (NewT.refl _) f35)
      · intro a wx hT hF K hK
        obtain ⟨f32, _⟩ := hF
        replace f32 := show (svPq (S) bm).pred (a.tmps.getD 32 undef) wx from f32
        refine rely_wp rfl ?_
        exact opr_extP0 rfl f32 (fun u hu => hK u _ (NewT.refl _) hu)
      · intro a wx hT hF K hK
        obtain ⟨f32, _⟩ := hF
        replace f32 := show (svPq (S) bm).pred (a.tmps.getD 32 undef) wx from f32
        refine rely_wp rfl ?_
        exact opr_extP1 rfl f32 (hK _ _ (NewT.refl _) rfl)
      · intro a wx hT hF K hK
        obtain ⟨f36, _⟩ := hF
        replace f36 := show (svH (S)).pred (a.tmps.getD 36 undef) wx from f36
        refine rely_wp rfl ?_
        exact opr_move (.inr rfl) (hK _ _ (NewT.refl _) f36)
      · intro a wx hT hF K hK
        obtain ⟨f37, _⟩ := hF
        have f37 : a.tmps.getD 37 undef = .bool (bm) := f37
        refine rely_wp rfl ?_
        exact opr_move (.inr rfl) (hK _ _ (NewT.refl _) f37)
      · intro w4 k4
        intro u h; obtain rfl := Eq.symm (h (by simp)); clear h
        intro u h; obtain rfl := Eq.symm (h (by simp)); clear h
        intro _ _
        intro _ _
        intro _ _
        intro u h; obtain rfl := Eq.symm (h (by simp)); clear h
        intro u11 h; have g11 := h (by simp); clear h; replace g11 := show (svH (S)).pred u11 w4 from g11
        intro u h; obtain rfl := Eq.symm (h (by simp)); clear h
        refine relyEnd_nil rfl ?_
        refine wpList_end rfl ?_
        simp only [Act.put, List.setIfInBounds_toArray, List.set_cons_zero, List.set_cons_succ]
        go_simp
        have HU11 := Lib.hid (show RdH w4 u11 S from g11)
        clear g11
        replace HL := Lib.hid (k4.hs HL.out)
        replace HU7 := Lib.hid (k4.hs HU7.out)
        replace HU9 := Lib.hid (k4.hs HU9.out)
        replace HT := Lib.hid (k4.tables HT.out)
        replace HN := Lib.hid (NewT.trans _ _ _ HN.out k4)
        clear k4
        go_upto_region 8 with fail
        refine wp_region_steps0 NewT [SV.eq (v), SV.eq (.int .i64 (m0)), svPq (S) bm, svPq (S) bm, svH (S), SV.eq (.bool (bm)), svH (S), SV.eq (.bool (bm))] [([(0, none)], none), ([(2, none)], none), ([(39, some 0), (40, some 1)], none), ([(41, some 2)], none), ([(38, some 3)], none), ([(38, some 3)], none), ([(42, some 4)], none), ([(43, some 5)], none)] 62 8 rfl rfl (by kernel_rfl) NewT.trans (NewT.refl _) (Nat.le_of_ble_eq_true rfl) ⟨?_, ?_, ?_, ?_, ?_, ?_, ?_, ?_, trivial⟩ ?_
        · intro a wx hT hF K hK
          obtain ⟨f0, _⟩ := hF
          have f0 : a.tmps.getD 0 undef = v := f0
          refine rely_wp rfl ?_
          exact opr_move (.inl rfl) (hK _ _ (NewT.refl _) f0)
        · intro a wx hT hF K hK
          obtain ⟨f2, _⟩ := hF
          have f2 : a.tmps.getD 2 undef = .int .i64 (m0) := f2
          refine rely_wp rfl ?_
          exact opr_move (.inl rfl) (hK _ _ (NewT.refl _) f2)
        · intro a wx hT hF K hK
          obtain ⟨f39, f40, _⟩ := hF
          have f39 : a.tmps.getD 39 undef = v := f39
          have f40 : a.tmps.getD 40 undef = .int .i64 (m0) := f40
          refine rely_wp rfl ?_
          exact opr_cv (HS.out _ wx (hT.tables HT.out) (hT.hs HL.out)) rfl Tryd.func14 (by kernel_rfl) (by kernel_rfl) (by simp only [List.map_toArray, List.map_cons, List.map_nil, eval_tmp, f39, f40]) hK
        · intro a wx hT hF K hK
          obtain ⟨f41, _⟩ := hF
          replace f41 := show (svPq (S) bm).pred (a.tmps.getD 41 undef) wx from f41
          refine rely_wp rfl ?_
          exact opr_move (.inl rfl) (hK _ _ (NewT.refl _) f41)
        · intro a wx hT hF K hK
          obtain ⟨f38, _⟩ := hF
          replace f38 := show (svPq (S) bm).pred (a.tmps.getD 38 undef) wx from f38
          refine rely_wp rfl ?_
          exact opr_extP0 rfl f38 (fun u hu => hK u _ (NewT.refl _) hu)
        · intro a wx hT hF K hK
          obtain ⟨f38, _⟩ := hF
          replace f38 := show (svPq (S) bm).pred (a.tmps.getD 38 undef) wx from f38
          refine rely_wp rfl ?_
          exact opr_extP1 rfl f38 (hK _ _ (NewT.refl _) rfl)
        · intro a wx hT hF K hK
          obtain ⟨f42, _⟩ := hF
          replace f42 := show (svH (S)).pred (a.tmps.getD 42 undef) wx from f42
          refine rely_wp rfl ?_
          exact opr_move (.inr rfl) (hK _ _ (NewT.refl _) f42)
        · intro a wx hT hF K hK
          obtain ⟨f43, _⟩ := hF
          have f43 : a.tmps.getD 43 undef = .bool (bm) := f43
          refine rely_wp rfl ?_
          exact opr_move (.inr rfl) (hK _ _ (NewT.refl _) f43)
        · intro w5 k5
          intro u h; obtain rfl := Eq.symm (h (by simp)); clear h
          intro u h; obtain rfl := Eq.symm (h (by simp)); clear h
          intro _ _
          intro _ _
          intro _ _
          intro u h; obtain rfl := Eq.symm (h (by simp)); clear h
          intro u13 h; have g13 := h (by simp); clear h; replace g13 := show (svH (S)).pred u13 w5 from g13
          intro u h; obtain rfl := Eq.symm (h (by simp)); clear h
          refine relyEnd_nil rfl ?_
          refine wpList_end rfl ?_
          simp only [Act.put, List.setIfInBounds_toArray, List.set_cons_zero, List.set_cons_succ]
          go_simp
          have HU13 := Lib.hid (show RdH w5 u13 S from g13)
          clear g13
          replace HL := Lib.hid (k5.hs HL.out)
          replace HU7 := Lib.hid (k5.hs HU7.out)
          replace HU9 := Lib.hid (k5.hs HU9.out)
          replace HU11 := Lib.hid (k5.hs HU11.out)
          replace HT := Lib.hid (k5.tables HT.out)
          replace HN := Lib.hid (NewT.trans _ _ _ HN.out k5)
          clear k5
          go_upto_region 9 with fail
          refine wp_region_steps0 NewT [SV.eq (.bool (bi)), SV.eq (.bool (bi)), SV.eq (.bool true), SV.eq (.bool true), SV.eq (.bool (bm)), SV.eq (.bool (bm)), SV.eq (.bool true), SV.eq (.bool true), SV.eq (.bool true), SV.eq (u7), SV.eq (u9), SV.eq (.bool true), SV.eq (.bool true), SV.eq (.bool true), SV.eq (u11), SV.eq (u13), SV.eq (.bool true), SV.eq (.bool true), SV.eq (.bool true)] [([(8, none)], none), ([(10, none)], none), ([(44, some 0), (45, some 1)], none), ([(46, some 2)], none), ([(12, none), (47, some 3)], some (47, true)), ([(14, none), (47, some 3)], some (47, true)), ([(48, some 4), (49, some 5), (47, some 3)], some (47, true)), ([(47, some 3), (50, some 6)], none), ([(51, some 7)], none), ([(7, none), (52, some 8)], some (52, true)), ([(9, none), (52, some 8)], some (52, true)), ([(53, some 9), (54, some 10), (52, some 8)], some (52, true)), ([(52, some 8), (55, some 11)], none), ([(56, some 12)], none), ([(11, none), (57, some 13)], some (57, true)), ([(13, none), (57, some 13)], some (57, true)), ([(58, some 14), (59, some 15), (57, some 13)], some (57, true)), ([(57, some 13), (60, some 16)], none), ([(61, some 17)], none)] 62 19 rfl rfl (by kernel_rfl) NewT.trans (NewT.refl _) (Nat.le_of_ble_eq_true rfl) ⟨?_, ?_, ?_, ?_, ?_, ?_, ?_, ?_, ?_, ?_, ?_, ?_, ?_, ?_, ?_, ?_, ?_, ?_, ?_, trivial⟩ ?_
          · intro a wx hT hF K hK
            obtain ⟨f8, _⟩ := hF
            have f8 : a.tmps.getD 8 undef = .bool (bi) := f8
            refine rely_wp rfl ?_
            exact opr_move (.inl rfl) (hK _ _ (NewT.refl _) f8)
          · intro a wx hT hF K hK
            obtain ⟨f10, _⟩ := hF
            have f10 : a.tmps.getD 10 undef = .bool (bi) := f10
            refine rely_wp rfl ?_
            exact opr_move (.inl rfl) (hK _ _ (NewT.refl _) f10)
          · intro a wx hT hF K hK
            obtain ⟨f44, f45, _⟩ := hF
            have f44 : a.tmps.getD 44 undef = .bool (bi) := f44
            have f45 : a.tmps.getD 45 undef = .bool (bi) := f45
            refine rely_wp rfl ?_
            exact opr_eqlQ (b := true) (beq_self_eq_true _) rfl f44 f45 (hK _ _ (NewT.refl _) rfl)
          · intro a wx hT hF K hK
            obtain ⟨f46, _⟩ := hF
            have f46 : a.tmps.getD 46 undef = .bool true := f46
            refine rely_wp rfl ?_
            exact opr_move (.inl rfl) (hK _ _ (NewT.refl _) f46)
          · intro a wx hT hF K hK
            obtain ⟨f12, f47, _⟩ := hF
            have f12 : a.tmps.getD 12 undef = .bool (bm) := f12
            have f47 : a.tmps.getD 47 undef = .bool true := f47
            refine rely_wp (rely_guard f47) ?_
            exact opr_move (.inl rfl) (hK _ _ (NewT.refl _) f12)
          · intro a wx hT hF K hK
            obtain ⟨f14, f47, _⟩ := hF
            have f14 : a.tmps.getD 14 undef = .bool (bm) := f14
            have f47 : a.tmps.getD 47 undef = .bool true := f47
            refine rely_wp (rely_guard f47) ?_
            exact opr_move (.inl rfl) (hK _ _ (NewT.refl _) f14)
          · intro a wx hT hF K hK
            obtain ⟨f48, f49, f47, _⟩ := hF
            have f48 : a.tmps.getD 48 undef = .bool (bm) := f48
            have f49 : a.tmps.getD 49 undef = .bool (bm) := f49
            have f47 : a.tmps.getD 47 undef = .bool true := f47
            refine rely_wp (rely_guard f47) ?_
            exact opr_eqlQ (b := true) (beq_self_eq_true _) rfl f48 f49 (hK _ _ (NewT.refl _) rfl)
          · intro a wx hT hF K hK
            obtain ⟨f47, f50, _⟩ := hF
            have f47 : a.tmps.getD 47 undef = .bool true := f47
            have f50 : a.tmps.getD 50 undef = .bool true := f50
            refine rely_wp rfl ?_
            exact opr_pick_true rfl f47 (hK _ _ (NewT.refl _) f50)
          · intro a wx hT hF K hK
            obtain ⟨f51, _⟩ := hF
            have f51 : a.tmps.getD 51 undef = .bool true := f51
            refine rely_wp rfl ?_
            exact opr_move (.inl rfl) (hK _ _ (NewT.refl _) f51)
          · intro a wx hT hF K hK
            obtain ⟨f7, f52, _⟩ := hF
            have f7 : a.tmps.getD 7 undef = u7 := f7
            have f52 : a.tmps.getD 52 undef = .bool true := f52
            refine rely_wp (rely_guard f52) ?_
            exact opr_move (.inl rfl) (hK _ _ (NewT.refl _) f7)
          · intro a wx hT hF K hK
            obtain ⟨f9, f52, _⟩ := hF
            have f9 : a.tmps.getD 9 undef = u9 := f9
            have f52 : a.tmps.getD 52 undef = .bool true := f52
            refine rely_wp (rely_guard f52) ?_
            exact opr_move (.inl rfl) (hK _ _ (NewT.refl _) f9)
          · intro a wx hT hF K hK
            obtain ⟨f53, f54, f52, _⟩ := hF
            have f53 : a.tmps.getD 53 undef = u7 := f53
            have f54 : a.tmps.getD 54 undef = u9 := f54
            have f52 : a.tmps.getD 52 undef = .bool true := f52
            refine rely_wp (rely_guard f52) ?_
            exact opr_cv (RSame_cv _ _ (P) wx ((hT.hs HU7.out)) ((hT.hs HU9.out)) (by have := HPL.out; omega)) rfl Tryd.func15 (by kernel_rfl) (by kernel_rfl) (by simp only [List.map_toArray, List.map_cons, List.map_nil, eval_tmp, f53, f54]) hK
          · intro a wx hT hF K hK
            obtain ⟨f52, f55, _⟩ := hF
            have f52 : a.tmps.getD 52 undef = .bool true := f52
            have f55 : a.tmps.getD 55 undef = .bool true := f55
            refine rely_wp rfl ?_
            exact opr_pick_true rfl f52 (hK _ _ (NewT.refl _) f55)
          · intro a wx hT hF K hK
            obtain ⟨f56, _⟩ := hF
            have f56 : a.tmps.getD 56 undef = .bool true := f56
            refine rely_wp rfl ?_
            exact opr_move (.inl rfl) (hK _ _ (NewT.refl _) f56)
          · intro a wx hT hF K hK
            obtain ⟨f11, f57, _⟩ := hF
            have f11 : a.tmps.getD 11 undef = u11 := f11
            have f57 : a.tmps.getD 57 undef = .bool true := f57
            refine rely_wp (rely_guard f57) ?_
            exact opr_move (.inl rfl) (hK _ _ (NewT.refl _) f11)
          · intro a wx hT hF K hK
            obtain ⟨f13, f57, _⟩ := hF
            have f13 : a.tmps.getD 13 undef = u13 := f13
            have f57 : a.tmps.getD 57 undef = .bool true := f57
            refine rely_wp (rely_guard f57) ?_
            exact opr_move (.inl rfl) (hK _ _ (NewT.refl _) f13)
          · intro a wx hT hF K hK
            obtain ⟨f58, f59, f57, _⟩ := hF
            have f58 : a.tmps.getD 58 undef = u11 := f58
            have f59 : a.tmps.getD 59 undef = u13 := f59
            have f57 : a.tmps.getD 57 undef = .bool true := f57
            refine rely_wp (rely_guard f57) ?_
            exact opr_cv (RSame_cv _ _ (S) wx ((hT.hs HU11.out)) ((hT.hs HU13.out)) (by have := HSL.out; omega)) rfl Tryd.func15 (by kernel_rfl) (by kernel_rfl) (by simp only [List.map_toArray, List.map_cons, List.map_nil, eval_tmp, f58, f59]) hK
          · intro a wx hT hF K hK
            obtain ⟨f57, f60, _⟩ := hF
            have f57 : a.tmps.getD 57 undef = .bool true := f57
            have f60 : a.tmps.getD 60 undef = .bool true := f60
            refine rely_wp rfl ?_
            exact opr_pick_true rfl f57 (hK _ _ (NewT.refl _) f60)
          · intro a wx hT hF K hK
            obtain ⟨f61, _⟩ := hF
            have f61 : a.tmps.getD 61 undef = .bool true := f61
            refine rely_wp rfl ?_
            exact opr_move (.inr rfl) (hK _ _ (NewT.refl _) f61)
          · intro we ke
            intro u h; obtain rfl := Eq.symm (h (by simp)); clear h
            intro u h; obtain rfl := Eq.symm (h (by simp)); clear h
            intro u h; obtain rfl := Eq.symm (h (by simp)); clear h
            intro u h; obtain rfl := Eq.symm (h (by simp)); clear h
            intro u h; obtain rfl := Eq.symm (h (by simp)); clear h
            intro u h; obtain rfl := Eq.symm (h (by simp)); clear h
            intro u h; obtain rfl := Eq.symm (h (by simp)); clear h
            intro u h; obtain rfl := Eq.symm (h (by simp)); clear h
            intro u h; obtain rfl := Eq.symm (h (by simp)); clear h
            intro u h; obtain rfl := Eq.symm (h (by simp)); clear h
            intro u h; obtain rfl := Eq.symm (h (by simp)); clear h
            intro u h; obtain rfl := Eq.symm (h (by simp)); clear h
            intro u h; obtain rfl := Eq.symm (h (by simp)); clear h
            intro u h; obtain rfl := Eq.symm (h (by simp)); clear h
            intro u h; obtain rfl := Eq.symm (h (by simp)); clear h
            intro u h; obtain rfl := Eq.symm (h (by simp)); clear h
            intro u h; obtain rfl := Eq.symm (h (by simp)); clear h
            intro u h; obtain rfl := Eq.symm (h (by simp)); clear h
            intro u h; obtain rfl := Eq.symm (h (by simp)); clear h
            refine relyEnd_nil rfl ?_
            refine wpList_end rfl ?_
            simp only [Act.put, List.setIfInBounds_toArray, List.set_cons_zero, List.set_cons_succ]
            go_simp
            go_wp2
            go_ret
            exact ⟨rfl, (NewT.trans _ _ _ HN.out ke).out⟩
end Go.Proofs.YtoigjcadncecpaaDoor
