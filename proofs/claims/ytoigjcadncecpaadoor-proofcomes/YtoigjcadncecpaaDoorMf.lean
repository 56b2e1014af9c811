/- Package sha, more: blocks of a text, one by one. -/
import Derived.Test.YtoigjcadncecpaaDoorMa
import Derived.Test.YtoigjcadncecpaaDoorMd
import Derived.Test.YtoigjcadncecpaaDoorMb
import Derived.Test.YtoigjcadncecpaaDoorMc
set_option linter.all false
namespace Go.Proofs.YtoigjcadncecpaaDoor
open Go.RowKit
set_option maxRecDepth 8000
set_option linter.all false
attribute [local go_sem] uF_at
set_option maxHeartbeats 1000000 in
/-- A block that hasn't 64 bytes turns nothing. -/
theorem Turn_no (s : Nat → BitVec 32) (A : Option Addr) (n cap : Nat) (hn : n ≠ 64) (w : World) :
    Calls Tryd.prog 52 #[.agg (rowA 8 (uF s)), .slice A n cap] w fun e w' => e = .returned (.agg (rowA 8 (uF s))) ∧ Below w.heap.size w w' := by
  have hn2 : ((n : Int) == 64) = false := by simp; omega
  have r0 := (rowIs_box w 65 8 (uF s)).alloc (.cells (rowA 8 fun _ => .int .u32 0) 65)
  have r1 := rowIs_box (w.alloc (.cells (rowA 8 (uF s)) 65)) 65 8 fun _ => .int .u32 0
  have hB : Below w.heap.size w ((w.alloc (.cells (rowA 8 (uF s)) 65)).alloc (.cells (rowA 8 fun _ => .int .u32 0) 65)) :=
    ((Below.refl _ w).alloc (Nat.le_refl _) _).alloc (by simp) _
  rw [World.size_alloc] at r1
  have hR := rangeAt_row r0
  go_enter Tryd.func52, Tryd.ntmps52
  go_wp2_with (first
    | (refine wpList_load_mid rfl 65 (.tmp 2) rfl w.heap.size 0 rfl (rowA 8 (uF s)).toList _ hR Tryd.underlying65 rfl (by rw [rowA_toList]; simpa using info23) ?_)
    | (refine wpList_store_mid rfl 65 (.tmp 4) (.tmp 10) rfl (w.heap.size + 1) 0 (rowA 8 (uF s)) rfl rfl (by rw [rowA_size]; exact there_row r1) (by rw [rowA_size]; exact info23) (rowA_one _ _ fun _ => rfl) ?_))
  exact bodyPost_ret (results_row rfl _ rfl (rowIs_setAll r1 (uF s)) Tryd.underlying65 info23) rfl ⟨rfl, below_setCells _ (by omega) _ _ _ hB⟩
theorem word_back (x : BitVec 32) : (((((x >>> 24).setWidth 8).setWidth 32 <<< 24) ||| (((x >>> 16).setWidth 8).setWidth 32 <<< 16)) ||| (((x >>> 8).setWidth 8).setWidth 32 <<< 8)) ||| ((x >>> 0).setWidth 8).setWidth 32 = x := by
  apply BitVec.eq_of_getLsbD_eq
  intro i hi
  simp only [BitVec.getLsbD_or, BitVec.getLsbD_shiftLeft, BitVec.getLsbD_setWidth, BitVec.getLsbD_ushiftRight]
  by_cases h1 : i < 8
  · simp [h1, show i < 16 by omega, show i < 24 by omega, hi]
  · by_cases h2 : i < 16
    · simp [h1, h2, show i < 24 by omega, hi, show i - 8 < 8 by omega, show i - 8 < 32 by omega, show 8 + (i - 8) = i by omega]
    · by_cases h3 : i < 24
      · simp [h1, h2, h3, hi, show i - 16 < 8 by omega, show ¬ i - 8 < 8 by omega, show i - 16 < 32 by omega, show 16 + (i - 16) = i by omega]
      · simp [h1, h2, h3, hi, show i - 24 < 8 by omega, show ¬ i - 8 < 8 by omega, show ¬ i - 16 < 8 by omega, show i - 24 < 32 by omega, show 24 + (i - 24) = i by omega]
theorem dig_word (S : Nat → BitVec 32) (i : Nat) :
    ((((dig S (4 * i)).toBitVec.setWidth 32 <<< 24) ||| ((dig S (4 * i + 1)).toBitVec.setWidth 32 <<< 16)) ||| ((dig S (4 * i + 2)).toBitVec.setWidth 32 <<< 8)) ||| (dig S (4 * i + 3)).toBitVec.setWidth 32 = S i := by
  unfold dig
  rw [show 4 * i / 4 = i by omega, show (4 * i + 1) / 4 = i by omega, show (4 * i + 2) / 4 = i by omega, show (4 * i + 3) / 4 = i by omega,
    show 4 * i % 4 = 0 by omega, show (4 * i + 1) % 4 = 1 by omega, show (4 * i + 2) % 4 = 2 by omega, show (4 * i + 3) % 4 = 3 by omega]
  exact word_back (S i)
theorem slice_blk (b o n cap j : Nat) (h : j + 64 ≤ cap) (w : World) : (Instr.slice 59 (.slice (some ⟨b, o, none⟩) n cap) (some (.int .i64 (j : Int))) (some (.int .i64 ((j : Int) + 64))) none).run Tryd.prog w = .ok (.slice (some ⟨b, o + j, none⟩) 64 (cap - j)) w := by
  have hsz : (sizeOf 5).run Tryd.prog w = .ok 1 w := by
    obtain ⟨i0, hi, _, hz1, _⟩ := info_parts info5
    simp [sizeOf, typeInfo, hi, hz1]
  have h3 : (0 : Int) ≤ (j : Int) + 64 ∧ (j : Int) + 64 ≤ (cap : Int) := by omega
  have h4 : j ≤ ((j : Int) + 64).toNat := by omega
  have h6 : ((j : Int) + 64).toNat - j = 64 := by omega
  have h5 : cap ≠ j := by omega
  simp [Instr.slice, run_underlying Tryd.underlying59, Instr.sliceBounds, Instr.sliceBound, asIntOf, hsz, h3, h4, h5, h6, Addr.add_mid]
/-- A text's block. -/
def blk (c : List UInt8) (i : Nat) : List UInt8 := (c.drop (64 * i)).take 64
/-- The state behind the first blocks. -/
def sB (c : List UInt8) : Nat → Nat → BitVec 32
  | 0 => Fc
  | k + 1 => turnF Kc (sB c k) (blk c k)
theorem bAt_blk (c : List UInt8) (k i : Nat) (h : i < 64) : bAt (blk c k) i = bAt c (64 * k + i) := by
  simp [bAt, blk, h, List.getElem?_drop]
theorem sB_fold (c : List UInt8) (k : Nat) : ((List.range k).map (blk c)).foldl (turnF Kc) Fc = sB c k := by
  induction k with
  | zero => rfl
  | succ k ih => rw [List.range_succ, List.map_append, List.foldl_append, ih]; rfl
theorem sha_blocks (c : List UInt8) (m : Nat) (h : c.length = 64 * m) : shaL Kc Fc c = dig (turnF Kc (sB c m) (fillB c.length)) := by
  have hf : (fillB c.length).length = 64 := by rw [fillB_length, h]; simp
  obtain ⟨_, h2⟩ := rem_full c (fillB c.length) (by rw [hf]; omega)
  have hr : rem c = [] := by unfold rem; rw [show 64 * (c.length / 64) = c.length by omega]; simp
  rw [shaL, h2, hr, List.nil_append, List.foldl_append]
  have : cks c = (List.range m).map (blk c) := by unfold cks; rw [h, show 64 * m / 64 = m by omega]; rfl
  rw [this, sB_fold]; rfl
theorem info22s : (Tryd.prog.info? 64).map (·.size) = some 1 := by kernel_rfl
theorem equal_state (w : World) (d : Nat → BitVec 32) : (Op.equalIn 10000 65 (.agg (rowA 8 (uF d))) (.agg (rowA 8 (uF d)))).run Tryd.prog w = .ok true w :=
  equalIn_same w 9998 65 64 8 .u32 Tryd.underlying65 Tryd.underlying64 info22s (fun i => uN (d i))
theorem equal_state2 (w : World) (d : Nat → BitVec 32) : (Op.equalIn 10000 65 (.agg (rowA 8 (uF d))) (.agg #[.int .u32 (uN (d 0)), .int .u32 (uN (d 1)), .int .u32 (uN (d 2)), .int .u32 (uN (d 3)), .int .u32 (uN (d 4)), .int .u32 (uN (d 5)), .int .u32 (uN (d 6)), .int .u32 (uN (d 7))])).run Tryd.prog w = .ok true w := equal_state w d
theorem u32_mul16m (x : BitVec 32) : IntKind.u32.wrap (uN x * (16777216 : Int)) = uN (x <<< 24) := u32_shl x 24
theorem u32_mul65k (x : BitVec 32) : IntKind.u32.wrap (uN x * (65536 : Int)) = uN (x <<< 16) := u32_shl x 16
theorem Sum_new1 (v : Value) (l : List UInt8) (D : Nat → UInt8) (W : World) (hT : Tables W) (h : RdV W [] v l) (ht : l.length ≤ 4611686018427387904) (hD : shaL Kc Fc l = D) :
    Calls Tryd.prog 39 #[.slice (some ⟨W.heap.size, 0, none⟩) 1 1] (W.alloc (.cells #[v] 59)) fun e w' => e = .returned (.agg (rowA 32 (bF D))) ∧ Below W.heap.size W w' := by
  have hB := (Below.refl _ W).alloc (Nat.le_refl _) (.cells #[v] 59)
  refine (Sum_c _ [(v, l)] _ (hT.below hB) (parts_new [(v, l)] 59 (by simp) (by simp) (by simpa using h)) (by simpa [total] using ht)).mono ?_
  rintro e w' ⟨rfl, hb⟩
  rw [show flat [(v, l)] = l by simp [flat], hD]
  exact ⟨rfl, hB.trans (hb.mono hB.size)⟩
end Go.Proofs.YtoigjcadncecpaaDoor
/- The reference's Turn. -/
namespace Go.Proofs.YtoigjcadncecpaaDoor
open Go.RowKit
set_option maxRecDepth 8000
set_option linter.all false
/-- Numbers of 32 bits in cells of 64. -/
def vF (s : Nat → BitVec 32) : Nat → Value := fun i => .int .u64 (uN (s i))
theorem vF_at (s : Nat → BitVec 32) (i : Nat) : vF s i = .int .u64 (uN (s i)) := rfl
theorem wS_final (l : List UInt8) (n i : Nat) (h : i < 16 + n) (hn : n ≤ 48) : wS l 48 i = wS l n i := by
  obtain ⟨k, hk⟩ : ∃ k, 48 = n + k := ⟨48 - n, by omega⟩
  rw [hk]
  clear hk hn
  induction k with
  | zero => rfl
  | succ k ih => rw [← Nat.add_assoc, wS_old l (n + k) i (by omega), ih]
theorem wS_first (l : List UInt8) (i : Nat) (h : i < 16) : wS l 48 i = wordTo l i 4 := by
  rw [wS_final l 0 i (by omega) (by omega)]; simp [wS, schedL, h]
theorem wS_rec (l : List UInt8) (t : Nat) (h1 : 16 ≤ t) (h2 : t < 64) : wS l 48 t = ss1 (wS l 48 (t - 2)) + wS l 48 (t - 7) + ss0 (wS l 48 (t - 15)) + wS l 48 (t - 16) := by
  obtain ⟨n, rfl⟩ : ∃ n, t = 16 + n := ⟨t - 16, by omega⟩
  rw [wS_final l (n + 1) (16 + n) (by omega) (by omega), wS_new, show 16 + n - 2 = n + 14 by omega, show 16 + n - 7 = n + 9 by omega, show 16 + n - 15 = n + 1 by omega, show 16 + n - 16 = n by omega,
    wS_final l n (n + 14) (by omega) (by omega), wS_final l n (n + 9) (by omega) (by omega), wS_final l n (n + 1) (by omega) (by omega), wS_final l n n (by omega) (by omega)]
theorem word_step (x : BitVec 32) (b : UInt8) (hx : x.toNat < 16777216) : (x <<< 8 ||| b.toBitVec.setWidth 32).toNat = x.toNat * 256 + b.toNat := by
  have hb := b.toNat_lt
  have e1 : (x <<< 8).toNat = x.toNat <<< 8 := by rw [BitVec.toNat_shiftLeft, Nat.mod_eq_of_lt]; rw [Nat.shiftLeft_eq]; omega
  have e2 : (b.toBitVec.setWidth 32).toNat = b.toNat := by rw [BitVec.toNat_setWidth]; show b.toNat % _ = _; omega
  rw [BitVec.toNat_or, e1, e2, ← Nat.shiftLeft_add_eq_or_of_lt (by omega), Nat.shiftLeft_eq]
theorem word_num (l : List UInt8) (t : Nat) : uN (wordTo l t 4) = ((bN (bAt l (4 * t)) * 256 + bN (bAt l (4 * t + 1))) * 256 + bN (bAt l (4 * t + 2))) * 256 + bN (bAt l (4 * t + 3)) := by
  have h0 := (bAt l (4 * t)).toNat_lt
  have h1 := (bAt l (4 * t + 1)).toNat_lt
  have h2 := (bAt l (4 * t + 2)).toNat_lt
  have h3 := (bAt l (4 * t + 3)).toNat_lt
  have e1 : (wordTo l t 1).toNat = (bAt l (4 * t)).toNat := by simp [wordTo]
  have e2 : (wordTo l t 2).toNat = (wordTo l t 1).toNat * 256 + (bAt l (4 * t + 1)).toNat := word_step (wordTo l t 1) _ (by omega)
  have e3 : (wordTo l t 3).toNat = (wordTo l t 2).toNat * 256 + (bAt l (4 * t + 2)).toNat := word_step (wordTo l t 2) _ (by omega)
  have e4 : (wordTo l t 4).toNat = (wordTo l t 3).toNat * 256 + (bAt l (4 * t + 3)).toNat := word_step (wordTo l t 3) _ (by omega)
  unfold uN bN
  omega
/-- The first t numbers of a list, the others 0. -/
def cutT (s : Nat → BitVec 32) (t : Nat) : Nat → BitVec 32 := fun i => if i < t then s i else 0
theorem cutT_at (s : Nat → BitVec 32) (t i : Nat) (h : i < t) : cutT s t i = s i := if_pos h
theorem cutT_set (s : Nat → BitVec 32) (t : Nat) (z : Int) (hz : z = uN (s t)) (i : Nat) : (if i = t then Value.int .u64 z else vF (cutT s t) i) = vF (cutT s (t + 1)) i := by
  subst hz
  simp only [vF, cutT]
  by_cases h : i = t
  · subst h; simp
  · by_cases h2 : i < t
    · rw [if_neg h, if_pos h2, if_pos (by omega)]
    · rw [if_neg h, if_neg h2, if_neg (by omega)]
theorem rowIs_zeros64 (s : Nat → BitVec 32) (w : World) (t : TypeId) (n : Nat) : (w.alloc (.cells (Array.replicate n (.int .u64 0)) t)).rowIs w.heap.size t n (vF (cutT s 0)) := by
  have := World.rowIs_alloc w (Array.replicate n (.int .u64 0)) t (vF (cutT s 0)) (fun i hi => by simp at hi; simp [vF, cutT, hi, uN])
  simpa using this
theorem info47 : (Tryd.prog.info? 77).map (·.size) = some 8 := by kernel_rfl
theorem wrap32_uN (x : BitVec 32) : IntKind.u32.wrap (uN x) = uN x := wrap_uN x

attribute [local go_sem] uF_at
set_option maxRecDepth 20000 in
set_option maxHeartbeats 1000000 in
theorem RTurn_no (s : Nat → BitVec 32) (A : Option Addr) (n cap : Nat) (hn : n ≠ 64) (w : World) :
    Calls Tryd.prog 50 #[.agg (rowA 8 (uF s)), .slice A n cap] w fun e w' => e = .returned (.agg (rowA 8 (uF s))) ∧ Below w.heap.size w w' := by
  have hn2 : ((n : Int) == 64) = false := by simp; omega
  have r0 := (rowIs_box w 65 8 (uF s)).alloc (.cells (rowA 8 fun _ => .int .u32 0) 65)
  have r1 := rowIs_box (w.alloc (.cells (rowA 8 (uF s)) 65)) 65 8 fun _ => .int .u32 0
  have hB : Below w.heap.size w ((w.alloc (.cells (rowA 8 (uF s)) 65)).alloc (.cells (rowA 8 fun _ => .int .u32 0) 65)) :=
    ((Below.refl _ w).alloc (Nat.le_refl _) _).alloc (by simp) _
  rw [World.size_alloc] at r1
  have hR := rangeAt_row r0
  go_enter Tryd.func50, Tryd.ntmps50
  go_wp2_with (first
    | (refine wpList_load_mid rfl 65 (.tmp 2) rfl w.heap.size 0 rfl (rowA 8 (uF s)).toList _ hR Tryd.underlying65 rfl (by rw [rowA_toList]; simpa using info23) ?_)
    | (refine wpList_store_mid rfl 65 (.tmp 4) (.tmp 22) rfl (w.heap.size + 1) 0 (rowA 8 (uF s)) rfl rfl (by rw [rowA_size]; exact there_row r1) (by rw [rowA_size]; exact info23) (rowA_one _ _ fun _ => rfl) ?_))
  exact bodyPost_ret (results_row rfl _ rfl (rowIs_setAll r1 (uF s)) Tryd.underlying65 info23) rfl ⟨rfl, below_setCells _ (by omega) _ _ _ hB⟩
attribute [local go_sem] vF_at wrap64_uN wrap32_uN u64_xor u64_and u64_not u64_add2 u64_add3 u64_add4 u64_add5 mod_t2 mod_t4 mod_t5 tmod_t2 tmod_t4 tmod_t5
def RT1 (s : Nat → BitVec 32) (l : List UInt8) (w : World) (t : Nat) (wr : World) : Prop :=
  wr.rowIs w.heap.size 65 8 (uF s) ∧ wr.rowIs (w.heap.size + 1) 65 8 (fun _ => .int .u32 0) ∧ wr.rowIs (w.heap.size + 1 + 1) 75 64 (vF (cutT (wS l 48) t)) ∧ Below w.heap.size w wr
set_option maxRecDepth 20000 in
set_option maxHeartbeats 4000000 in
theorem RTurn_any (K s : Nat → BitVec 32) (l : List UInt8) (b o cap : Nat) (_ : 64 ≤ cap) (_ : cap ≤ maxLen) (w : World) (hb : b < w.heap.size) (h1 : 1 < w.heap.size)
    (hK : ∀ i, i < 64 → w.cell? ⟨1, i, none⟩ = some (.int .u32 (uN (K i))))
    (hc : ∀ i, i < 64 → w.cell? ⟨b, o + i, none⟩ = some (.int .u8 (bN (bAt l i)))) :
    Calls Tryd.prog 50 #[.agg (rowA 8 (uF s)), .slice (some ⟨b, o, none⟩) 64 cap] w fun e w' => e = .returned (.agg (rowA 8 (uF fun i => s i + (runTo K (wS l 48) (St.of s) 64).get i))) ∧ Below w.heap.size w w' := by
  have HK := Lib.hid hK
  have HC := Lib.hid hc
  clear hK hc
  go_enter Tryd.func50, Tryd.ntmps50
  go_wp2
  have r0 := ((rowIs_box w 65 8 (uF s)).alloc (.cells (rowA 8 fun _ => .int .u32 0) 65)).alloc (.cells (Array.replicate 64 (.int .u64 0)) 75)
  have r1 := (rowIs_box (w.alloc (.cells (rowA 8 (uF s)) 65)) 65 8 fun _ => .int .u32 0).alloc (.cells (Array.replicate 64 (.int .u64 0)) 75)
  have r2 := rowIs_zeros64 (wS l 48) ((w.alloc (.cells (rowA 8 (uF s)) 65)).alloc (.cells (rowA 8 fun _ => .int .u32 0) 65)) 75 64
  have hB : Below w.heap.size w (((w.alloc (.cells (rowA 8 (uF s)) 65)).alloc (.cells (rowA 8 fun _ => .int .u32 0) 65)).alloc (.cells (Array.replicate 64 (.int .u64 0)) 75)) :=
    (((Below.refl _ w).alloc (Nat.le_refl _) _).alloc (by simp) _).alloc (by simp; omega) _
  rw [World.size_alloc] at r1 r2
  rw [World.size_alloc] at r2
  change Code.wp _ _ _ _ (((w.alloc (.cells (rowA 8 (uF s)) 65)).alloc (.cells (rowA 8 fun _ => .int .u32 0) 65)).alloc (.cells (Array.replicate 64 (.int .u64 0)) 75))
  generalize (((w.alloc (.cells (rowA 8 (uF s)) 65)).alloc (.cells (rowA 8 fun _ => .int .u32 0) 65)).alloc (.cells (Array.replicate 64 (.int .u64 0)) 75)) = W0 at r0 r1 r2 hB ⊢
  go_loopw [6] (fun i wr => ∃ t : Nat, t ≤ 64 ∧ i = .int .i64 t ∧ RT1 s l w t wr) (fun i _ => 64 - (intOf i).toNat)
  case atStart => exact ⟨0, by omega, rfl, r0, r1, r2, hB⟩
  case round =>
    obtain ⟨t, ht, rfl, q0, q1, q2, qB⟩ := hrel
    clear r0 r1 r2 hB
    by_cases hlt : t < 64
    · by_cases h16 : t < 16
      · have e0 : wr.cell? ⟨b, o + 4 * t, none⟩ = _ := (qB.cell (p := ⟨b, o + (4 * t), none⟩) hb).trans (HC.out (4 * t) (by omega))
        have e1 : wr.cell? ⟨b, o + (4 * t + 1), none⟩ = _ := (qB.cell (p := ⟨b, o + (4 * t + 1), none⟩) hb).trans (HC.out (4 * t + 1) (by omega))
        have e2 : wr.cell? ⟨b, o + (4 * t + 2), none⟩ = _ := (qB.cell (p := ⟨b, o + (4 * t + 2), none⟩) hb).trans (HC.out (4 * t + 2) (by omega))
        have e3 : wr.cell? ⟨b, o + (4 * t + 3), none⟩ = _ := (qB.cell (p := ⟨b, o + (4 * t + 3), none⟩) hb).trans (HC.out (4 * t + 3) (by omega))
        have hz := word_num l t
        obtain ⟨z0, y0, x0⟩ : ∃ z : Nat, z < 256 ∧ bN (bAt l (4 * t)) = (z : Int) := ⟨(bAt l (4 * t)).toNat, UInt8.toNat_lt _, rfl⟩
        obtain ⟨z1, y1, x1⟩ : ∃ z : Nat, z < 256 ∧ bN (bAt l (4 * t + 1)) = (z : Int) := ⟨(bAt l (4 * t + 1)).toNat, UInt8.toNat_lt _, rfl⟩
        obtain ⟨z2, y2, x2⟩ : ∃ z : Nat, z < 256 ∧ bN (bAt l (4 * t + 2)) = (z : Int) := ⟨(bAt l (4 * t + 2)).toNat, UInt8.toNat_lt _, rfl⟩
        obtain ⟨z3, y3, x3⟩ : ∃ z : Nat, z < 256 ∧ bN (bAt l (4 * t + 3)) = (z : Int) := ⟨(bAt l (4 * t + 3)).toNat, UInt8.toNat_lt _, rfl⟩
        rw [x0] at e0 hz
        rw [x1] at e1 hz
        rw [x2] at e2 hz
        rw [x3] at e3 hz
        clear x0 x1 x2 x3
        have Hz := Lib.hid hz
        clear hz
        have j0 : (0 : Int) ≤ 4 * (t : Int) := by omega
        have j1 : (0 : Int) ≤ 4 * (t : Int) + 1 := by omega
        have j2 : (0 : Int) ≤ 4 * (t : Int) + 2 := by omega
        have j3 : (0 : Int) ≤ 4 * (t : Int) + 3 := by omega
        have i0 : 4 * (t : Int) < 64 := by omega
        have i1 : 4 * (t : Int) + 1 < 64 := by omega
        have i2 : 4 * (t : Int) + 2 < 64 := by omega
        have i3 : 4 * (t : Int) + 3 < 64 := by omega
        have it : (t : Int) < 64 := by omega
        have it2 : (t : Int) < 16 := by omega
        have ct := q2.cell (i := t) hlt
        have cf := q2.frozen t
        go_wp2
        refine wp_region_still_tail 35 (by kernel_rfl) (by kernel_rfl) ?_
        simp only [List.take_succ_cons, List.take_zero, List.drop_succ_cons, List.drop_zero]
        repeat (refine wpStill_step (fun K hK => ?_); go_simp; (try go_bits); refine hK _ ?_; clear hK K)
        refine wpStill_nil ?_
        go_wp2
        go_roundw
        case rel => exact ⟨t + 1, by omega, by go_num, q0.drew.setOther (by simp; omega) _, q1.drew.setOther (by simp) _, (q2.drew.set t _).congr fun i _ => cutT_set (wS l 48) t _ (by rw [wS_first l t h16, Hz.out]) i, (qB.setCell (p := ⟨w.heap.size + 1 + 1, t, none⟩) (by simp; omega) _).drew⟩
        case measure => simp [intOf]; omega
      · have c2 := q2.cell (i := t - 2) (by omega)
        have c7 := q2.cell (i := t - 7) (by omega)
        have c15 := q2.cell (i := t - 15) (by omega)
        have c16 := q2.cell (i := t - 16) (by omega)
        rw [vF_at, cutT_at _ _ _ (by omega)] at c2 c7 c15 c16
        have ct := q2.cell (i := t) hlt
        have cf := q2.frozen t
        have hz := wS_rec l t (by omega) hlt
        have Hz := Lib.hid hz
        clear hz
        generalize wS l 48 (t - 2) = y2 at c2 Hz
        generalize wS l 48 (t - 7) = y7 at c7 Hz
        generalize wS l 48 (t - 15) = y15 at c15 Hz
        generalize wS l 48 (t - 16) = y16 at c16 Hz
        have i2 : (2 : Int) ≤ t := by omega
        have j2 : (t : Int) - 2 < 64 := by omega
        have i7 : (7 : Int) ≤ t := by omega
        have j7 : (t : Int) - 7 < 64 := by omega
        have i15 : (15 : Int) ≤ t := by omega
        have j15 : (t : Int) - 15 < 64 := by omega
        have i16 : (16 : Int) ≤ t := by omega
        have j16 : (t : Int) - 16 < 64 := by omega
        have it : (t : Int) < 64 := by omega
        have it2 : ¬ (t : Int) < 16 := by omega
        go_wp2
        refine wp_region_still_lit (by kernel_rfl) (by kernel_rfl) ?_
        repeat (refine wpStill_step (fun K hK => ?_); go_simp; (try go_bits); refine hK _ ?_; clear hK K)
        refine wpStill_nil ?_
        go_wp2
        change Code.wp _ _ _ _ wr.drew
        replace q0 := q0.drew
        replace q1 := q1.drew
        replace q2 := q2.drew
        replace qB := qB.drew
        replace c2 := cell_drew c2
        replace c7 := cell_drew c7
        replace c15 := cell_drew c15
        replace c16 := cell_drew c16
        replace ct := cell_drew ct
        replace cf : wr.drew.frozen? ⟨w.heap.size + 1 + 1, t, none⟩ = false := cf
        generalize wr.drew = wr2 at q0 q1 q2 qB c2 c7 c15 c16 ct cf ⊢
        refine wp_region_still_tail 30 (by kernel_rfl) (by kernel_rfl) ?_
        simp only [List.take_succ_cons, List.take_zero, List.drop_succ_cons, List.drop_zero]
        repeat (refine wpStill_step (fun K hK => ?_); go_simp; (first
          | (refine ⟨_, ((right_any _ _ (by decide) (by decide) _).mono fun _ _ h => ⟨h.1, h.2.symm⟩), hK _ ?_⟩)
          | (refine ⟨_, ((shift_any _ _ (by decide) (by decide) _).mono fun _ _ h => ⟨h.1, h.2.symm⟩), hK _ ?_⟩)
          | ((try go_bits); refine hK _ ?_)); clear hK K)
        refine wpStill_nil ?_
        go_wp2
        go_roundw
        case rel => exact ⟨t + 1, by omega, by go_num, q0.drew.setOther (by simp; omega) _, q1.drew.setOther (by simp) _, (q2.drew.set t _).congr fun i _ => cutT_set (wS l 48) t _ (by rw [Hz.out]; rfl) i, (qB.setCell (p := ⟨w.heap.size + 1 + 1, t, none⟩) (by simp; omega) _).drew⟩
        case measure => simp [intOf]; omega
    · obtain rfl : t = 64 := by omega
      rw [show ((64 : Nat) : Int) = 64 from rfl]
      have hgB : w.heap.size + 1 + 1 < wr.heap.size := q2.lt
      have q3 := rowIs_zeros64 s wr 77 8
      replace q0 := q0.alloc (.cells (Array.replicate 8 (.int .u64 0)) 77)
      replace q1 := q1.alloc (.cells (Array.replicate 8 (.int .u64 0)) 77)
      replace q2 := q2.alloc (.cells (Array.replicate 8 (.int .u64 0)) 77)
      replace q2 := q2.congr (g := vF (wS l 48)) fun i hi => by rw [vF_at, vF_at, cutT_at _ _ _ hi]
      have qB2 := qB.alloc qB.size (.cells (Array.replicate 8 (.int .u64 0)) 77)
      go_wp2
      change Code.wp _ _ _ _ (wr.alloc (.cells (Array.replicate 8 (.int .u64 0)) 77))
      generalize wr.heap.size = g at hgB q3 ⊢
      generalize wr.alloc (.cells (Array.replicate 8 (.int .u64 0)) 77) = W1 at q0 q1 q2 q3 qB2 ⊢
      clear qB
      go_loopw [10] (fun i wr => ∃ t : Nat, t ≤ 8 ∧ i = .int .i64 t ∧ wr.rowIs w.heap.size 65 8 (uF s) ∧ wr.rowIs (w.heap.size + 1) 65 8 (fun _ => .int .u32 0) ∧ wr.rowIs (w.heap.size + 1 + 1) 75 64 (vF (wS l 48)) ∧ wr.rowIs g 77 8 (vF (cutT s t)) ∧ Below w.heap.size w wr) (fun i _ => 8 - (intOf i).toNat)
      case atStart => exact ⟨0, by omega, rfl, q0, q1, q2, q3, qB2⟩
      case round =>
        clear q0 q1 q2 q3 qB2
        obtain ⟨t, ht, rfl, q0, q1, q2, q3, qB⟩ := hrel
        by_cases hlt : t < 8
        · have c0 := q0.cell (i := t) hlt
          have c3 := q3.cell (i := t) hlt
          have f3 := q3.frozen t
          have it : (t : Int) < 8 := by omega
          go_wp2
          go_roundw
          case rel => exact ⟨t + 1, by omega, by go_num, q0.setOther (by simp; omega) _, q1.setOther (by simp; omega) _, q2.setOther (by simp; omega) _, (q3.set t _).congr fun i _ => cutT_set s t _ rfl i, (qB.setCell (p := ⟨g, t, none⟩) (by simp; omega) _)⟩
          case measure => simp [intOf]; omega
        · obtain rfl : t = 8 := by omega
          rw [show ((8 : Nat) : Int) = 8 from rfl]
          replace q3 := q3.congr (g := vF (St.of s).get) fun i hi => by
            rw [vF_at, vF_at, cutT_at _ _ _ hi]
            match i, hi with
            | 0, _ => rfl | 1, _ => rfl | 2, _ => rfl | 3, _ => rfl | 4, _ => rfl | 5, _ => rfl | 6, _ => rfl | 7, _ => rfl
          go_wp2
          rename_i wr1
          generalize wr = W2 at q0 q1 q2 q3 qB ⊢
          go_loopw [11] (fun i wr => ∃ (t : Nat) (x : St), t ≤ 64 ∧ i = .int .i64 t ∧ Hid (x = runTo K (wS l 48) (St.of s) t) ∧ wr.rowIs w.heap.size 65 8 (uF s) ∧ wr.rowIs (w.heap.size + 1) 65 8 (fun _ => .int .u32 0) ∧ wr.rowIs (w.heap.size + 1 + 1) 75 64 (vF (wS l 48)) ∧ wr.rowIs g 77 8 (vF x.get) ∧ Below w.heap.size w wr) (fun i _ => 64 - (intOf i).toNat)
          case atStart => exact ⟨0, St.of s, by omega, rfl, rfl, q0, q1, q2, q3, qB⟩
          case round =>
            clear q0 q1 q2 q3 qB
            obtain ⟨t, x, ht, rfl, hx, q0, q1, q2, q3, qB⟩ := hrel
            by_cases hlt : t < 64
            · have cK := (qB.cell (p := ⟨1, t, none⟩) h1).trans (HK.out t hlt)
              have cW := q2.cell (i := t) hlt
              rw [vF_at] at cW
              obtain ⟨Wt, HWt⟩ : ∃ Wt, Hid (wS l 48 t = Wt) := ⟨_, Lib.hid rfl⟩
              rw [HWt.out] at cW
              have it : (t : Int) < 64 := by omega
              have c0 : wr.cell? ⟨g, 0, none⟩ = some (.int .u64 (uN x.a)) := q3.cell (i := 0) (by omega)
              have c1 : wr.cell? ⟨g, 1, none⟩ = some (.int .u64 (uN x.b)) := q3.cell (i := 1) (by omega)
              have c2 : wr.cell? ⟨g, 2, none⟩ = some (.int .u64 (uN x.c)) := q3.cell (i := 2) (by omega)
              have c3 : wr.cell? ⟨g, 3, none⟩ = some (.int .u64 (uN x.d)) := q3.cell (i := 3) (by omega)
              have c4 : wr.cell? ⟨g, 4, none⟩ = some (.int .u64 (uN x.e)) := q3.cell (i := 4) (by omega)
              have c5 : wr.cell? ⟨g, 5, none⟩ = some (.int .u64 (uN x.f)) := q3.cell (i := 5) (by omega)
              have c6 : wr.cell? ⟨g, 6, none⟩ = some (.int .u64 (uN x.g)) := q3.cell (i := 6) (by omega)
              have c7 : wr.cell? ⟨g, 7, none⟩ = some (.int .u64 (uN x.h)) := q3.cell (i := 7) (by omega)
              go_wp2
              refine wp_region_still_lit (by kernel_rfl) (by kernel_rfl) ?_
              repeat (refine wpStill_step (fun K hK => ?_); go_simp; (try go_bits); refine hK _ ?_; clear hK K)
              refine wpStill_nil ?_
              go_wp2_with fail
              change Code.wp _ _ _ _ wr.drew
              replace q0 := q0.drew
              replace q1 := q1.drew
              replace q2 := q2.drew
              replace q3 := q3.drew
              replace qB := qB.drew
              replace cK := cell_drew cK
              replace cW := cell_drew cW
              replace c0 := cell_drew c0
              replace c1 := cell_drew c1
              replace c2 := cell_drew c2
              replace c3 := cell_drew c3
              replace c4 := cell_drew c4
              replace c5 := cell_drew c5
              replace c6 := cell_drew c6
              replace c7 := cell_drew c7
              generalize wr.drew = wr2 at q0 q1 q2 q3 qB cK cW c0 c1 c2 c3 c4 c5 c6 c7 ⊢
              refine wp_region_still_lit (by kernel_rfl) (by kernel_rfl) ?_
              repeat (refine wpStill_step (fun K hK => ?_); go_simp; (first
                | (refine ⟨_, ((right_any _ _ (by decide) (by decide) _).mono fun _ _ h => ⟨h.1, h.2.symm⟩), hK _ ?_⟩)
                | ((try go_bits); refine hK _ ?_)); clear hK K)
              refine wpStill_nil ?_
              change Exit.then _ _ _ _ wr2.drew
              replace q0 := q0.drew
              replace q1 := q1.drew
              replace q2 := q2.drew
              replace q3 := q3.drew
              replace qB := qB.drew
              replace c0 := cell_drew c0
              replace c1 := cell_drew c1
              replace c2 := cell_drew c2
              replace c3 := cell_drew c3
              replace c4 := cell_drew c4
              replace c5 := cell_drew c5
              replace c6 := cell_drew c6
              replace c7 := cell_drew c7
              clear cK cW
              generalize wr2.drew = wr3 at q0 q1 q2 q3 qB c0 c1 c2 c3 c4 c5 c6 c7 ⊢
              obtain ⟨o1, Ho1⟩ : ∃ o1, Hid (x.h + (x.e.rotateRight 6 ^^^ x.e.rotateRight 11 ^^^ x.e.rotateRight 25) + (x.e &&& x.f ^^^ ~~~x.e &&& x.g) + K t + Wt = o1) := ⟨_, Lib.hid rfl⟩
              obtain ⟨m1, Hm1⟩ : ∃ m1, Hid (x.a &&& x.b ^^^ x.a &&& x.c ^^^ x.b &&& x.c = m1) := ⟨_, Lib.hid rfl⟩
              rw [Ho1.out, Hm1.out]
              go_wp2_with fail
              refine (right_any _ _ (by decide) (by decide) _).mono ?_
              rintro e w' ⟨rfl, rfl⟩
              go_wp2_with fail
              refine (right_any _ _ (by decide) (by decide) _).mono ?_
              rintro e w' ⟨rfl, rfl⟩
              go_wp2_with fail
              refine (right_any _ _ (by decide) (by decide) _).mono ?_
              rintro e w' ⟨rfl, rfl⟩
              go_upto_region 24 with fail
              obtain ⟨o2, Ho2⟩ : ∃ o2, Hid ((x.a.rotateRight (2 : Int).toNat ^^^ x.a.rotateRight (13 : Int).toNat ^^^ x.a.rotateRight (22 : Int).toNat) + m1 = o2) := ⟨_, Lib.hid rfl⟩
              first | rw [Ho2.out] | (simp only [Int.reduceToNat] at Ho2; rw [Ho2.out])
              refine wp_region_lit ?_
              iterate 22 (refine wpList_plain rfl (fun K hK => ?_); go_simp; (try go_bits); refine hK _ _ ?_; clear hK K)
              have hth := there_row q3
              refine wpList_store_mid rfl 77 (.tmp 9) (.tmp 200) rfl g 0 #[.int .u64 (uN (o1 + o2)), .int .u64 (uN x.a), .int .u64 (uN x.b), .int .u64 (uN x.c), .int .u64 (uN (x.d + o1)), .int .u64 (uN x.e), .int .u64 (uN x.f), .int .u64 (uN x.g)] ?_ ?_ hth info47 ?_ ?_
              · go_simp
              · go_simp
              · simp [Value.oneCell']
              obtain ⟨nx, hnx⟩ : ∃ nx : St, nx = ⟨o1 + o2, x.a, x.b, x.c, x.d + o1, x.e, x.f, x.g⟩ := ⟨_, rfl⟩
              have hL : (#[.int .u64 (uN (o1 + o2)), .int .u64 (uN x.a), .int .u64 (uN x.b), .int .u64 (uN x.c), .int .u64 (uN (x.d + o1)), .int .u64 (uN x.e), .int .u64 (uN x.f), .int .u64 (uN x.g)] : Array Value).toList = (rowA 8 (vF nx.get)).toList := by rw [hnx]; rfl
              rw [hL]
              have Hnx : Hid (nx = runTo K (wS l 48) (St.of s) (t + 1)) := Lib.hid (by
                rw [runTo, ← hx.out, HWt.out, hnx, ← Ho1.out, ← Ho2.out, ← Hm1.out]; rfl)
              clear hL hnx Ho1 Ho2 Hm1 c0 c1 c2 c3 c4 c5 c6 c7 hth
              replace q0 := rowIs_setOther q0 (b' := g) (by omega) (rowA 8 (vF nx.get)).toList 0
              replace q1 := rowIs_setOther q1 (b' := g) (by omega) (rowA 8 (vF nx.get)).toList 0
              replace q2 := rowIs_setOther q2 (b' := g) (by omega) (rowA 8 (vF nx.get)).toList 0
              replace q3 := rowIs_setAll q3 (vF nx.get)
              replace qB := below_setCells g (by omega) (rowA 8 (vF nx.get)).toList 0 _ qB
              generalize wr3.setCells g 0 (rowA 8 (vF nx.get)).toList = wr4 at q0 q1 q2 q3 qB ⊢
              go_wp2
              go_roundw
              case rel => exact ⟨t + 1, nx, by omega, by go_num, Hnx, q0, q1, q2, q3, qB⟩
              case measure => simp [intOf]; omega
            · obtain rfl : t = 64 := by omega
              rw [show ((64 : Nat) : Int) = 64 from rfl]
              obtain ⟨T, HT2⟩ : ∃ T, Hid (x.get = T) := ⟨_, Lib.hid rfl⟩
              rw [HT2.out] at q3
              clear q2
              go_wp2
              generalize wr = W3 at q0 q1 q3 qB ⊢
              go_loopw [18] (fun i wr => ∃ k : Nat, k ≤ 8 ∧ i = .int .i64 k ∧ wr.rowIs w.heap.size 65 8 (uF (mixed s T k)) ∧ wr.rowIs (w.heap.size + 1) 65 8 (fun _ => .int .u32 0) ∧ wr.rowIs g 77 8 (vF T) ∧ Below w.heap.size w wr) (fun i _ => 8 - (intOf i).toNat)
              case atStart => exact ⟨0, by omega, rfl, q0, q1, q3, qB⟩
              case round =>
                clear q0 q1 q3 qB
                obtain ⟨k, hk, rfl, q0, q1, q3, qB⟩ := hrel
                by_cases hlt : k < 8
                · have c0 := q0.cell (i := k) (by omega)
                  rw [uF_at, show mixed s T k k = s k by simp [mixed]] at c0
                  have c3 := q3.cell (i := k) (by omega)
                  have f0 := q0.frozen k
                  have i8 : (k : Int) < 8 := by omega
                  go_wp2
                  refine wp_region_still_tail 12 (by kernel_rfl) (by kernel_rfl) ?_
                  simp only [List.take_succ_cons, List.take_zero, List.drop_succ_cons, List.drop_zero]
                  repeat (refine wpStill_step (fun K hK => ?_); go_simp; (try go_bits); refine hK _ ?_; clear hK K)
                  refine wpStill_nil ?_
                  go_wp2
                  go_roundw
                  case rel => exact ⟨k + 1, by omega, by go_num, ((q0.set k _).congr fun i _ => mixed_set s T k i), q1.setOther (by simp) _, q3.setOther (by simp; omega) _, (qB.setCell (p := ⟨w.heap.size, k, none⟩) (by simp) _).drew⟩
                  case measure => simp [intOf]; omega
                · obtain rfl : k = 8 := by omega
                  have hR := rangeAt_row q0
                  go_wp2_with (first
                    | (refine wpList_load_mid rfl 65 (.tmp 2) rfl w.heap.size 0 rfl (rowA 8 (uF (mixed s T 8))).toList _ hR Tryd.underlying65 rfl (by rw [rowA_toList]; simpa using info23) ?_)
                    | (refine wpList_store_mid rfl 65 (.tmp 4) (.tmp 217) rfl (w.heap.size + 1) 0 (rowA 8 (uF (mixed s T 8))) rfl rfl (by rw [rowA_size]; exact there_row q1) (by rw [rowA_size]; exact info23) (rowA_one _ _ fun _ => rfl) ?_))
                  refine bodyPost_ret (results_row rfl _ rfl (rowIs_setAll q1 (uF (mixed s T 8))) Tryd.underlying65 info23) rfl ⟨?_, below_setCells _ (by omega) _ _ _ qB⟩
                  rw [← hx.out, HT2.out]
                  exact congrArg (fun z => Ending.returned (.agg z)) (rowA_congr fun i hi => by simp [uF, mixed, hi])
end Go.Proofs.YtoigjcadncecpaaDoor
/- The reference's Fill. -/
namespace Go.Proofs.YtoigjcadncecpaaDoor
open Go.RowKit
set_option maxRecDepth 8000
set_option linter.all false
attribute [local go_sem] bF_at

theorem fillHead_pos (k : Nat) (h : 1 ≤ k) : bF fillHead k = .int .u8 0 := by
  simp [bF, fillHead, bN, show k ≠ 0 by omega]
theorem step_len (n k p : Nat) (hk : k < 8) (hn : n ≤ 1000000) (hp : p = 72057594037927936 / 256 ^ k) : ((n * 8 / p % 256 : Nat) : Int) = bN (lenByte n k) := by
  have e : 72057594037927936 / 256 ^ k = 2 ^ (56 - 8 * k) := by
    have : ∀ k : Fin 8, 72057594037927936 / 256 ^ k.val = 2 ^ (56 - 8 * k.val) := by decide
    exact this ⟨k, hk⟩
  rw [lenByte, bN, UInt8.toNat_ofNat', hp, e, Nat.mod_eq_of_lt (a := n * 8) (by omega)]

set_option maxHeartbeats 1000000 in
theorem RFill_r (n r : Nat) (hn : n ≤ 1000000) (hr1 : 1 ≤ r) (hr2 : r ≤ 64) (hr3 : (n + r) % 64 = 56) (hr4 : ∀ k, 1 ≤ k → k < r → (n + k) % 64 ≠ 56) (w : World) :
    Calls Tryd.prog 49 #[.int .i64 n] w (FillPost n r w) := by
  obtain ⟨i0, hi, hz0, hz1, hz2⟩ := info_parts info5
  have H4 := Lib.hid hr4
  have H3 := Lib.hid hr3
  clear hr4 hr3
  go_enter Tryd.func49, Tryd.ntmps49
  go_wp2
  have r0 : (w.alloc (.cells #[.int .u8 128] 5)).rowIs w.heap.size 5 1 (bF fillHead) := (rowIs_box w 5 1 fun _ => .int .u8 128).congr fun i hi => by
    obtain rfl : i = 0 := by omega
    rfl
  have hB : Below w.heap.size w (w.alloc (.cells #[.int .u8 128] 5)) := (Below.refl _ w).alloc (Nat.le_refl _) _
  have ho := ownsRow_row r0 w.heap.size 1 (by omega) (by unfold maxLen; omega) (Nat.le_refl _)
  generalize w.alloc (.cells #[.int .u8 128] 5) = W0 at ho hB ⊢
  clear r0
  go_loopw [3] (fun v wr => ∃ k : Nat, 1 ≤ k ∧ k ≤ r ∧ wr.ownsRow w.heap.size 5 1 v k ((List.range k).map (bF fillHead)) ∧ Below w.heap.size w wr) (fun v _ => match v with | .slice _ m _ => r - m | _ => 0)
  case atStart => exact ⟨1, by omega, by omega, ho, hB⟩
  case round =>
    obtain ⟨k, hk1, hk, hown, qB⟩ := hrel
    clear ho hB
    obtain ⟨g, c, rfl, _, _⟩ := hown.form (by omega)
    by_cases hlt : k < r
    · have t1 : (((n : Int) + (k : Int)) % 64 == 56) = false := by
        have := H4.out k hk1 hlt
        simp; omega
      go_wp2_with (at_builtin; refine wpList_append_own _ rfl (.tmp 16) (.tmp 17) 59 rfl w.heap.size 5 i0 _ 1 1 Tryd.underlying59 hi hz0 hz1 hz2 rfl (by omega) _ k _ rfl (hown.alloc _) ⟨wr.heap.size, 0, none⟩ 1 1 [.int .u8 0] rfl rfl (one_cell _ _ _) (by simp [Value.oneCell']) (by unfold maxLen; omega) (by omega) (by have := qB.size; simp; omega) ?_; intro v' w1 hown' hg1 _)
      go_roundw
      case rel =>
        refine ⟨k + 1, by omega, by omega, ?_, (qB.alloc qB.size _).grown hg1 (by have := qB.size; simp; omega) (fun g e => (hown.lt g e).1)⟩
        rw [List.range_succ, List.map_append]
        simp only [List.map_cons, List.map_nil]
        rw [fillHead_pos k hk1]
        exact hown'
      case measure =>
        obtain ⟨g', c', rfl, _, _⟩ := hown'.form (by omega)
        show r - (k + 1) < r - k
        omega
    · obtain rfl : k = r := by omega
      have t1 : (((n : Int) + (k : Int)) % 64 == 56) = true := by
        have := H3.out
        simp; omega
      have t2 : (((n : Int) + (k : Int)) % 64 != 56) = false := by
        have := H3.out
        simp; omega
      have Ht1 := Lib.hid t1
      go_wp2
      clear t1 t2
      go_loopw [3, 5, 6] (fun v st i wr => ∃ j p : Nat, j ≤ 8 ∧ i = .int .i64 j ∧ st = .int .u64 p ∧ Hid (p = 72057594037927936 / 256 ^ j) ∧ wr.ownsRow w.heap.size 5 1 v (k + j) ((List.range k).map (bF fillHead) ++ (List.range j).map (bF (lenByte n))) ∧ Below w.heap.size w wr) (fun _ _ i _ => 8 - (intOf i).toNat)
      case atStart => exact ⟨0, 72057594037927936, by omega, rfl, rfl, Lib.hid (by simp), by simpa using hown, qB⟩
      case round =>
        clear hown qB
        obtain ⟨j, p, hj, rfl, rfl, Hp, hown, qB⟩ := hrel
        by_cases hlt : j < 8
        · have hp0 : 0 < p := by
            have : ∀ k : Fin 8, 0 < 72057594037927936 / 256 ^ k.val := by decide
            rw [Hp.out]; exact this ⟨j, hlt⟩
          have hpz : ((p : Int) == 0) = false := by simp; omega
          have hsl := step_len n j p hlt hn Hp.out
          have Hsl := Lib.hid hsl
          clear hsl
          have hp1 : (p : Int) ≠ 0 := by omega
          have hpb : p ≤ 72057594037927936 := by rw [Hp.out]; exact Nat.div_le_self _ _
          have hpw : IntKind.u64.wrap ((p : Int) / 256) = ((p / 256 : Nat) : Int) := by rw [wrap_u64]; omega
          have hval : ((n : Int) * 8 / (p : Int)).tmod 256 % 256 = bN (lenByte n j) := by
            have h0 : (0 : Int) ≤ (n : Int) * 8 / p := Int.ediv_nonneg (by omega) (by omega)
            rw [Int.tmod_eq_emod_of_nonneg h0, ← Hsl.out]
            have : (n : Int) * 8 / (p : Int) = ((n * 8 / p : Nat) : Int) := by simp
            rw [this]; omega
          go_wp2_with (at_builtin; refine wpList_append_own _ rfl (.tmp 26) (.tmp 32) 59 rfl w.heap.size 5 i0 _ 1 1 Tryd.underlying59 hi hz0 hz1 hz2 rfl (by omega) u3 (k + j) _ rfl (hown.alloc _) ⟨wr.heap.size, 0, none⟩ 1 1 [bF (lenByte n) j] rfl rfl (one_cell _ _ _) (by simp [bF, Value.oneCell']) (by unfold maxLen; omega) (by omega) (by have := qB.size; simp; omega) ?_; intro v' w1 hown' hg1 _)
          go_roundw
          case rel =>
            refine ⟨j + 1, p / 256, by omega, by go_num, rfl, Lib.hid (by rw [Hp.out, Nat.div_div_eq_div_mul, Nat.pow_succ]), ?_, (qB.alloc qB.size _).grown hg1 (by have := qB.size; simp; omega) (fun g e => (hown.lt g e).1)⟩
            rw [List.range_succ, List.map_append, ← List.append_assoc]
            exact hown'
          case measure => simp [intOf]; omega
        · obtain rfl : j = 8 := by omega
          go_wp2
          go_ret
          exact ⟨_, rfl, hown, qB⟩
theorem RFill_any (n : Nat) (hn : n ≤ 1000000) (w : World) : Calls Tryd.prog 49 #[.int .i64 n] w (FillPost n (if n % 64 < 56 then 56 - n % 64 else 120 - n % 64) w) := by
  by_cases h : n % 64 < 56
  · rw [if_pos h]; exact RFill_r n _ hn (by omega) (by omega) (by omega) (fun k _ _ => by omega) w
  · rw [if_neg h]; exact RFill_r n _ hn (by omega) (by omega) (by omega) (fun k _ _ => by omega) w
set_option maxHeartbeats 400000 in
theorem RFill_neg (n : Int) (hn : n < 0) (w : World) : Calls Tryd.prog 49 #[.int .i64 n] w fun e w' => e = .returned (.slice none 0 0) ∧ w = w' := by
  go_enter Tryd.func49, Tryd.ntmps49
  go_wp2
  go_ret
  exact ⟨rfl, rfl⟩
end Go.Proofs.YtoigjcadncecpaaDoor
/- The reference's Sum. -/
namespace Go.Proofs.YtoigjcadncecpaaDoor
open Go.RowKit
set_option maxRecDepth 8000
set_option linter.all false
attribute [local go_sem] uF_at bF_at run_storeU run_storeB

theorem ownsRow_belowW {W W' : World} {base : Nat} {e : TypeId} {size : Nat} {v : Value} {n : Nat} {xs : List Value} (h : W.ownsRow base e size v n xs) (hb : Below W.heap.size W W') : W'.ownsRow base e size v n xs :=
  h.kept (row := none) ⟨hb.os, hb.tape, hb.output, hb.size, fun k hk _ => hb.block k hk⟩ (by cases v.ownBlock with | none => exact .inl rfl | some k => exact .inr (by simp))
/-- The digest, written from behind: the numbers before i, and of number i the last j bytes. -/
def outF (S : Nat → BitVec 32) (i j p : Nat) : UInt8 := if p < 4 * i then dig S p else if 4 * i + 4 ≤ p + j ∧ p < 4 * i + 4 then dig S p else 0
theorem outF_set (S : Nat → BitVec 32) (i j : Nat) (hj : j < 4) (z : Int) (hz : z = bN (dig S (4 * i + (3 - j)))) (p : Nat) : (if p = 4 * i + (3 - j) then Value.int .u8 z else bF (outF S i j) p) = bF (outF S i (j + 1)) p := by
  subst hz
  simp only [bF, outF]
  by_cases h : p = 4 * i + (3 - j)
  · subst h; rw [if_pos rfl, if_neg (by omega), if_pos (by omega)]
  · rw [if_neg h]
    by_cases h2 : p < 4 * i
    · rw [if_pos h2, if_pos h2]
    · rw [if_neg h2, if_neg h2]
      by_cases h3 : 4 * i + 4 ≤ p + j ∧ p < 4 * i + 4
      · rw [if_pos h3, if_pos (by omega)]
      · rw [if_neg h3, if_neg (by omega)]
theorem outF_next (S : Nat → BitVec 32) (i p : Nat) : bF (outF S i 4) p = bF (outF S (i + 1) 0) p := by
  simp only [bF, outF]
  by_cases h : p < 4 * i
  · rw [if_pos h, if_pos (by omega)]
  · rw [if_neg h]
    by_cases h2 : p < 4 * i + 4
    · rw [if_pos ⟨by omega, h2⟩, if_pos (by omega)]
    · rw [if_neg (by omega), if_neg (by omega), if_neg (by omega)]
theorem outF_zero (S : Nat → BitVec 32) (p : Nat) : bF (fun _ => 0) p = bF (outF S 0 0) p := by
  simp only [bF, outF]
  rw [if_neg (by omega), if_neg (by omega)]
theorem dig_back (S : Nat → BitVec 32) (i j : Nat) (hj : j < 4) : (uN (S i >>> (8 * j))) % 256 = bN (dig S (4 * i + (3 - j))) := by
  rw [dig, show (4 * i + (3 - j)) / 4 = i by omega, show (4 * i + (3 - j)) % 4 = 3 - j by omega, show 24 - 8 * (3 - j) = 8 * j by omega, ← u32_u8, wrap_u8]
theorem dig_div (x : BitVec 32) (j : Nat) : uN (x >>> (8 * j)) / (256 : Int) = uN (x >>> (8 * (j + 1))) := by
  have := u32_shr (x >>> (8 * j)) 8
  rw [show ((2 : Int) ^ 8) = 256 from rfl] at this
  rw [this, ← BitVec.shiftRight_add]
  rfl
theorem fill_len (n : Nat) : (n + (fillB n).length) % 64 = 0 := by rw [fillB_length]; split <;> omega
theorem sha_all (l : List UInt8) (m : Nat) (h : (l ++ fillB l.length).length = 64 * m) : shaL Kc Fc l = dig (sB (l ++ fillB l.length) m) := by
  have : cks (l ++ fillB l.length) = (List.range m).map (blk (l ++ fillB l.length)) := by unfold cks; rw [h, show 64 * m / 64 = m by omega]; rfl
  rw [shaL, this, sB_fold]
set_option maxHeartbeats 4000000 in
theorem RSum_any (v : Value) (l : List UInt8) (w : World) (hT : Tables w) (hr : RdV w [] v l) (hl : l.length ≤ 900000) :
    Calls Tryd.prog 38 #[v] w fun e w' => e = .returned (.agg (rowA 32 (bF (shaL Kc Fc l)))) ∧ Below w.heap.size w w' := by
  have HT := Lib.hid hT
  have hsz := hT.size
  have Hr := Lib.hid hr
  obtain ⟨A, cap, rfl, _⟩ := hr
  clear hT
  obtain ⟨n, hn⟩ : ∃ n, l.length = n := ⟨_, rfl⟩
  rw [hn] at hl Hr ⊢
  obtain ⟨i0, hi, hz0, hz1, hz2⟩ := info_parts info5
  have hB1 : Below (w.heap.size) w ((w.alloc (.cells (rowA 32 (bF fun _ => 0)) 29)).alloc (.cells #[] 5)) := ((Below.refl _ w).alloc (Nat.le_refl _) _).alloc (by simp) _
  have rz : ((w.alloc (.cells (rowA 32 (bF fun _ => 0)) 29)).alloc (.cells #[] 5)).rowIs w.heap.size 29 32 (bF fun _ => 0) := (rowIs_box w 29 32 (bF fun _ => 0)).alloc _
  have hown0 : ((w.alloc (.cells (rowA 32 (bF fun _ => 0)) 29)).alloc (.cells #[] 5)).ownsRow (w.heap.size + 1) 5 1 (.slice (some ⟨w.heap.size + 1, 0, none⟩) 0 0) 0 [] := by
    have := rowIs_box (w.alloc (.cells (rowA 32 (bF fun _ => 0)) 29)) 5 0 (fun _ => undef)
    rw [World.size_alloc] at this
    exact ownsRow_row this (w.heap.size + 1) 0 (by omega) (by unfold maxLen; omega) (Nat.le_refl _)
  have Hr1 := Lib.hid (Hr.out.keep (KeepBut.below hB1))
  have hs1 : w.heap.size + 1 ≤ ((w.alloc (.cells (rowA 32 (bF fun _ => 0)) 29)).alloc (.cells #[] 5)).heap.size := by simp
  go_enter Tryd.func38, Tryd.ntmps38
  go_wp2_with (at_builtin; first
    | (refine wpList_append_rd rfl (.tmp 10) (.tmp 11) 59 rfl (base := w.heap.size + 1) Tryd.underlying59 hi hz0 hz1 hz2 rfl hown0 rfl Hr1.out (by omega) hs1 ?_; intro v2 w2 o2 grow2
       have b2 := (Below.refl (w.heap.size + 1) ((w.alloc (.cells (rowA 32 (bF fun _ => 0)) 29)).alloc (.cells #[] 5))).grown grow2 hs1 (fun k e => (hown0.lt k e).1)
       have hB2 := hB1.trans (b2.mono (Nat.le_succ _))
       replace rz := rowIs_below rz b2 (by omega)
       clear grow2 hown0 hs1 Hr1 hB1 b2))
  refine (RFill_any n (by omega) _).mono ?_
  rintro e w3 ⟨v3, rfl, ho3, hb3⟩
  have rd3 := Lib.hid (rdV_fill (L := []) (by simp) ho3)
  have o3 := ownsRow_belowW o2 hb3
  replace rz := rowIs_below rz hb3 rz.lt
  have hB3 := hB2.trans (hb3.mono hB2.size)
  clear o2 ho3 hb3 hB2
  have hfl := fill_len n
  have hf2 : (fillB n).length ≤ 72 := by rw [fillB_length]; split <;> omega
  have hf3 : 0 < (fillB n).length := by rw [fillB_length]; omega
  go_upto_region 2 with (at_builtin; refine wpList_append_rd rfl (.tmp 12) (.tmp 15) 59 rfl (base := w.heap.size + 1) Tryd.underlying59 hi hz0 hz1 hz2 rfl o3 rfl rd3.out (by omega) (by have := rz.lt; omega) ?_; intro v4 w4 o4 grow4)
  have hB4 := hB3.grown grow4 hB3.size (fun k e => by have := (o3.lt k e).1; omega)
  replace rz : w4.rowIs w.heap.size 29 32 (bF fun _ => 0) := rowIs_below rz ((Below.refl (w.heap.size + 1) w3).grown grow4 (by have := rz.lt; omega) (fun k e => (o3.lt k e).1)) (by omega)
  obtain ⟨c, hc⟩ : ∃ c, l ++ fillB n = c := ⟨_, rfl⟩
  have Rall : RdV w4 [] v4 c := by rw [← hc]; exact rdV_own (by simpa [List.map_append] using o4) (by simp) (by simp)
  obtain ⟨m, hm⟩ : ∃ m, m = c.length / 64 := ⟨_, rfl⟩
  have hcm : c.length = 64 * m := by rw [hm, ← hc]; simp only [List.length_append]; omega
  have hD : shaL Kc Fc l = dig (sB c m) := by rw [← hc, ← hn]; exact sha_all l m (by rw [hn, hc, hcm])
  have HD := Lib.hid hD
  obtain ⟨A4, c4, rfl, hcap4, hmax4, hA4⟩ := Rall
  obtain ⟨M, hM⟩ : ∃ M, c.length = M := ⟨_, rfl⟩
  rw [hM] at hcap4 hA4 hcm ⊢
  have hM2 : M ≤ 900072 := by rw [← hM, ← hc]; simp only [List.length_append]; omega
  have hM0 : 0 < M := by rw [← hM, ← hc]; simp only [List.length_append]; omega
  obtain ⟨b4, o4', rfl, _, hcell4⟩ := hA4 hM0
  have HC := Lib.hid hcell4
  have HM := Lib.hid hcm
  have hb4 : b4 < w4.heap.size := World.block_lt_of_cell? _ _ (hcell4 0 hM0)
  clear hD hcell4 hcm hM hc hm hA4 o4 o3 grow4 rd3 hfl hf2 hf3 hB3
  have T4 := HT.out.below hB4
  have f0 := T4.f 0 (by omega)
  have f1 := T4.f 1 (by omega)
  have f2 := T4.f 2 (by omega)
  have f3 := T4.f 3 (by omega)
  have f4 := T4.f 4 (by omega)
  have f5 := T4.f 5 (by omega)
  have f6 := T4.f 6 (by omega)
  have f7 := T4.f 7 (by omega)
  have h0 : 0 < w4.heap.size := by have := T4.size; omega
  clear T4
  go_wp2
  clear f0 f1 f2 f3 f4 f5 f6 f7
  have rs := rowIs_box w4 65 8 (uF Fc)
  have hB5 := (Below.refl _ w4).alloc (Nat.le_refl _) (.cells (rowA 8 (uF Fc)) 65)
  change Code.wp _ _ _ _ (w4.alloc (.cells (rowA 8 (uF Fc)) 65))
  generalize w4.alloc (.cells (rowA 8 (uF Fc)) 65) = w5 at rs hB5 ⊢
  go_loopw [5] (fun i wr => ∃ j k : Nat, j = 64 * k ∧ j ≤ M ∧ i = .int .i64 j ∧ wr.rowIs w4.heap.size 65 8 (uF (sB c k)) ∧ Below w4.heap.size w4 wr) (fun i _ => M - (intOf i).toNat)
  case atStart => exact ⟨0, 0, rfl, by omega, rfl, rs, hB5⟩
  case round =>
    obtain ⟨j, k, hjk, hjM, rfl, qs, qB⟩ := hrel
    clear rs hB5
    by_cases hlt : j < M
    · have HM2 := HM.out
      have hsl := slice_blk b4 o4' M c4 j (by omega)
      have hB6 : Below w.heap.size w wr := hB4.trans (qB.mono hB4.size)
      have HC2 : Hid (∀ i, i < 64 → wr.cell? ⟨b4, o4' + j + i, none⟩ = some (.int .u8 (bN (bAt (blk c k) i)))) := Lib.hid fun i hi => by
        rw [Nat.add_assoc]
        refine (qB.cell (p := ⟨b4, o4' + (j + i), none⟩) hb4).trans ?_
        rw [HC.out (j + i) (by omega), bAt_blk c k i hi, ← hjk]
      have HT2 := HT.out.below hB6
      have HTk := Lib.hid HT2.k
      have hs2 := HT2.size
      have hbr : b4 < wr.heap.size := Nat.lt_of_lt_of_le hb4 qB.size
      have d1 : decide ((j : Int) + 64 ≤ (M : Int)) = true := by simp; omega
      have d2 : (j : Int) + 64 ≤ (M : Int) := by omega
      have hcj : 64 ≤ c4 - j := by omega
      have hcj2 : c4 - j ≤ maxLen := by omega
      clear HT2
      have Hjk := Lib.hid hjk
      clear hjk HM2
      obtain ⟨s, Hs⟩ : ∃ s, Hid (sB c k = s) := ⟨_, Lib.hid rfl⟩
      rw [Hs.out] at qs
      have c0 := qs.cell (i := 0) (by omega)
      have c1 := qs.cell (i := 1) (by omega)
      have c2 := qs.cell (i := 2) (by omega)
      have c3 := qs.cell (i := 3) (by omega)
      have c4' := qs.cell (i := 4) (by omega)
      have c5 := qs.cell (i := 5) (by omega)
      have c6 := qs.cell (i := 6) (by omega)
      have c7 := qs.cell (i := 7) (by omega)
      go_wp2
      refine wp_region_still_tail 6 (by kernel_rfl) (by kernel_rfl) ?_
      simp only [List.take_succ_cons, List.take_zero, List.drop_succ_cons, List.drop_zero]
      iterate 6 (refine wpStill_step (fun K hK => ?_); go_simp; (try go_bits); refine hK _ ?_; clear hK K)
      refine wpStill_nil ?_
      go_wp2_with fail
      refine (RTurn_any Kc s (blk c k) b4 (o4' + j) (c4 - j) hcj hcj2 wr.drew hbr hs2 HTk.out HC2.out).mono ?_
      rintro e w6 ⟨rfl, hB7⟩
      replace qs := rowIs_below qs.drew hB7 qs.lt
      have hB8 : Below w4.heap.size w4 w6 := qB.drew.trans (hB7.mono qB.size)
      have rw2 : RowW w6 w4.heap.size 8 := ⟨_, _, qs⟩
      clear c0 c1 c2 c3 c4' c5 c6 c7 hB7 qB
      go_wp2
      go_roundw
      case rel =>
        refine ⟨j + 64, k + 1, by have := Hjk.out; omega, by omega, by go_num, ?_, below_setCells _ (Nat.le_refl _) _ _ _ hB8⟩
        have := rowIs_setAll qs (uF (turnF Kc s (blk c k)))
        rw [sB, Hs.out]
        exact this
      case measure => simp [intOf]; omega
    · obtain rfl : j = M := by omega
      obtain rfl : k = m := by have := HM.out; omega
      obtain ⟨S, HS⟩ : ∃ S, Hid (sB c k = S) := ⟨_, Lib.hid rfl⟩
      rw [HS.out] at qs
      have Hjk := Lib.hid hjk
      clear hjk
      have hg4 : w4.heap.size < wr.heap.size := qs.lt
      have ro := rowIs_box wr 29 32 (bF fun _ => 0)
      replace qs := qs.alloc (.cells (rowA 32 (bF fun _ => 0)) 29)
      have rz2 := (rowIs_below rz qB rz.lt).alloc (.cells (rowA 32 (bF fun _ => 0)) 29)
      have hgw : w.heap.size < wr.heap.size := (rowIs_below rz qB rz.lt).lt
      have qB6 := (hB4.trans (qB.mono hB4.size)).alloc (by omega) (.cells (rowA 32 (bF fun _ => 0)) 29)
      go_wp2
      change Code.wp _ _ _ _ (wr.alloc (.cells (rowA 32 (bF fun _ => 0)) 29))
      generalize wr.heap.size = g at hgw hg4 ro ⊢
      generalize wr.alloc (.cells (rowA 32 (bF fun _ => 0)) 29) = W6 at ro qs rz2 qB6 ⊢
      clear rz qB
      go_loopw [7] (fun i wr => ∃ t : Nat, t ≤ 8 ∧ i = .int .i64 t ∧ wr.rowIs w4.heap.size 65 8 (uF S) ∧ wr.rowIs w.heap.size 29 32 (bF fun _ => 0) ∧ wr.rowIs g 29 32 (bF (outF S t 0)) ∧ Below w.heap.size w wr) (fun i _ => 8 - (intOf i).toNat)
      case atStart => exact ⟨0, by omega, rfl, qs, rz2, ro.congr fun p _ => outF_zero S p, qB6⟩
      case round =>
        clear qs rz2 ro qB6
        obtain ⟨t, ht, rfl, qs, qz, qo, qB⟩ := hrel
        by_cases hlt : t < 8
        · have cs := qs.cell (i := t) hlt
          have it : (t : Int) < 8 := by omega
          go_wp2
          clear cs
          go_loopw [8, 9] (fun x k wr => ∃ j : Nat, j ≤ 4 ∧ k = .int .i64 (3 - (j : Int)) ∧ x = .int .u32 (uN (S t >>> (8 * j))) ∧ wr.rowIs w4.heap.size 65 8 (uF S) ∧ wr.rowIs w.heap.size 29 32 (bF fun _ => 0) ∧ wr.rowIs g 29 32 (bF (outF S t j)) ∧ Below w.heap.size w wr) (fun _ k _ => (intOf k + 1).toNat)
          case atStart => exact ⟨0, by omega, rfl, rfl, qs, qz, qo, qB⟩
          case round =>
            clear qs qz qo qB
            obtain ⟨j, hj, rfl, rfl, qs, qz, qo, qB⟩ := hrel
            by_cases hj4 : j < 4
            · obtain ⟨q, hq⟩ : ∃ q, 3 - j = q := ⟨_, rfl⟩
              have hz := dig_back S t j hj4
              have hd := dig_div (S t) j
              rw [hq] at hz
              obtain ⟨X, hX, hX2⟩ : ∃ X : Nat, X < 4294967296 ∧ uN (S t >>> (8 * j)) = (X : Int) := ⟨(S t >>> (8 * j)).toNat, (S t >>> (8 * j)).isLt, rfl⟩
              rw [hX2] at hz hd ⊢
              have hqi : (3 : Int) - (j : Int) = (q : Int) := by omega
              rw [hqi]
              have Hz := Lib.hid hz
              have Hd := Lib.hid hd
              have Hq := Lib.hid hq
              have Hqi := Lib.hid hqi
              have hq3 : q ≤ 3 := by omega
              clear hz hd hX2 hq hqi
              have co := qo.cell (i := 4 * t + q) (by omega)
              have fo := qo.frozen (4 * t + q)
              have i1 : 4 * (t : Int) + (q : Int) < 32 := by omega
              have i2 : (0 : Int) ≤ 4 * (t : Int) + (q : Int) := by omega
              go_wp2
              go_roundw
              case rel =>
                refine ⟨j + 1, by omega, ?_, by rw [← Hd.out], qs.setOther (by simp; omega) _, qz.setOther (by simp; omega) _, (qo.set (4 * t + q) _).congr fun p _ => ?_, qB.setCell (p := ⟨g, 4 * t + q, none⟩) (by simp; omega) _⟩
                · congr 1
                  have := Hqi.out
                  omega
                · have := outF_set S t j hj4 ((X : Int) % 256) (by rw [Hq.out]; exact Hz.out) p
                  rwa [Hq.out] at this
              case measure => simp only [intOf]; omega
            · obtain rfl : j = 4 := by omega
              go_wp2
              go_roundw
              case rel => exact ⟨t + 1, by omega, by go_num, qs, qz, qo.congr fun p _ => outF_next S t p, qB⟩
              case measure => simp [intOf]; omega
        · obtain rfl : t = 8 := by omega
          have hR := rangeAt_row qo
          go_wp2_with (first
            | (refine wpList_load_mid rfl 29 (.tmp 6) rfl g 0 rfl (rowA 32 (bF (outF S 8 0))).toList _ hR Tryd.underlying29 rfl (by rw [rowA_toList]; simpa using info31) ?_)
            | (refine wpList_store_mid rfl 29 (.tmp 2) (.tmp 53) rfl w.heap.size 0 (rowA 32 (bF (outF S 8 0))) rfl rfl (by rw [rowA_size]; exact there_row qz) (by rw [rowA_size]; exact info31) (rowA_one _ _ fun _ => rfl) ?_))
          refine bodyPost_ret (results_row rfl _ rfl (rowIs_setAll qz (bF (outF S 8 0))) Tryd.underlying29 info31) rfl ⟨?_, below_setCells _ (Nat.le_refl _) _ _ _ qB⟩
          rw [HD.out, HS.out]
          exact congrArg (fun z => Ending.returned (.agg z)) (rowA_congr fun i hi => by simp only [bF, outF]; rw [if_pos (by omega)])
end Go.Proofs.YtoigjcadncecpaaDoor
/- The document's answers for layer 5: Leaf, Pair, Split and Root, walked. -/
namespace Go.Proofs.YtoigjcadncecpaaDoor
open Go Go.RowKit
set_option maxRecDepth 8000
set_option linter.all false
theorem RSumB_cv (v : Value) (l : List UInt8) (D : Hs) (w : World) (hT : Tables w) (hr : RdV w [] v l) (hl : l.length ≤ 900000) (hD : shaL Kc Fc l = D) : Cv 38 #[v] w (.eq (.agg (rowA 32 (bF D)))) := by
  rw [← hD]; exact Cv.of_eq (RSum_any v l w hT hr hl)
theorem rdV_nil0 (w : World) : RdV w [] (.slice none 0 0) [] := ⟨none, 0, rfl, Nat.le_refl _, by unfold maxLen; omega, fun h => absurd h (by simp)⟩
theorem split_pow (n e : Nat) (h1 : 2 ^ e < n) (h2 : n ≤ 2 ^ (e + 1)) : splitN n = 2 ^ e := by
  obtain ⟨m, rfl⟩ : ∃ m, n = 2 ^ e + m := ⟨n - 2 ^ e, by omega⟩
  rw [Nat.pow_succ] at h2
  exact splitN_eq e m (by omega) (by omega)
set_option maxHeartbeats 1000000 in
theorem RSplit_cv (n : Int) (hn : n ≤ 1099511627776) (w : World) : Cv 26 #[.int .i64 n] w (.eq (.int .i64 (splitN n.toNat : Int))) := by
  unfold Cv
  go_enter Tryd.func26, Tryd.ntmps26
  go_wp2
  go_loopw [3, 4] (fun k p wr => ∃ (a e : Nat), p = .int .i64 (a : Int) ∧ Hid (a = 2 ^ e) ∧ k = .int .i64 (if e = 0 then 0 else ((a / 2 : Nat) : Int)) ∧ (e = 0 ∨ Hid ((a / 2 : Nat) < n ∧ a = 2 * (a / 2))) ∧ a ≤ 2199023255552 ∧ 1 ≤ a ∧ w = wr) (fun _ p _ => (n - intOf p).toNat)
  case atStart => exact ⟨1, 0, rfl, Lib.hid rfl, rfl, .inl rfl, by omega, by omega, rfl⟩
  case round =>
    obtain ⟨a, e, rfl, HE, rfl, hor, ha, ha1, rfl⟩ := hrel
    have HOR := Lib.hid hor
    clear hor
    obtain ⟨kk, hkk⟩ : ∃ kk : Int, (if e = 0 then 0 else ((a / 2 : Nat) : Int)) = kk := ⟨_, rfl⟩
    have HKK := Lib.hid hkk
    rw [hkk]
    clear hkk
    by_cases hlt : (a : Int) < n
    · go_wp2
      go_roundw
      case rel => exact ⟨2 * a, e + 1, by go_num, Lib.hid (by rw [HE.out, Nat.pow_succ]; omega), by rw [if_neg (by omega), show 2 * a / 2 = a by omega], .inr (Lib.hid ⟨by rw [show 2 * a / 2 = a by omega]; exact hlt, by omega⟩), by omega, by omega, by first | rfl | trivial⟩
      case measure => simp [intOf]; omega
    · go_wp2
      go_ret
      refine ⟨_, rfl, NewT.refl _, ?_⟩
      show Value.int .i64 kk = .int .i64 _
      congr 1
      rw [← HKK.out]
      by_cases he : e = 0
      · rw [if_pos he]
        have h1 := HE.out
        rw [he] at h1
        unfold splitN
        rw [if_pos (by omega)]
        rfl
      · rw [if_neg he]
        obtain ⟨q1, q2⟩ : (a / 2 : Nat) < n ∧ a = 2 * (a / 2) := (HOR.out.resolve_left he).out
        obtain ⟨e', rfl⟩ : ∃ e', e = e' + 1 := ⟨e - 1, by omega⟩
        have h1 := HE.out
        have h2 : a / 2 = 2 ^ e' := by rw [Nat.pow_succ] at h1; omega
        rw [h2]
        rw [split_pow n.toNat e' (by omega) (by omega)]
end Go.Proofs.YtoigjcadncecpaaDoor
/- The document's answers for layer 5: Leaf, Pair and Root, walked. -/
namespace Go.Proofs.YtoigjcadncecpaaDoor
open Go Go.RowKit
set_option maxRecDepth 8000
set_option linter.all false
/-- A row of bytes of the call's own, from block B on. -/
def OwnB (W : World) (B : Nat) (v : Value) (l : List UInt8) : Prop := W.ownsRow B 5 1 v l.length (l.map (fun b : UInt8 => Value.int .u8 (bN b)))
theorem OwnB.keep {W W' : World} {B : Nat} {v : Value} {l : List UInt8} (h : OwnB W B v l) (hN : NewT W W') : OwnB W' B v l := by
  obtain ⟨h1, h2⟩ := h
  refine ⟨h1, ?_⟩
  rcases h2 with h2 | ⟨g, cap, cur, hv, hb, hg, r⟩
  · exact .inl h2
  · exact .inr ⟨g, cap, cur, hv, hb, (hN.out.block g (Array.getElem?_eq_some_iff.1 hg).1).trans hg, r⟩
theorem OwnB.rd {W : World} {B : Nat} {v : Value} {l : List UInt8} (h : OwnB W B v l) : RdV W [] v l := rdV_own h rfl (by simp)
def svOB (B : Nat) (l : List UInt8) : SV NewT := ⟨fun v w => OwnB w B v l, fun _ _ _ h hT => h.keep hT⟩
/-- A new slice of one byte, with no room more. -/
def svB1 (B : Nat) (b : UInt8) : SV NewT := ⟨fun v w => ∃ g, v = .slice (some ⟨g, 0, none⟩) 1 1 ∧ OwnB w B v [b], fun _ _ _ ⟨g, h1, h2⟩ hT => ⟨g, h1, h2.keep hT⟩⟩
theorem opr_bsB1 {a : Act} {w : World} {o : Oper} {K : Act → World → Prop} {Q : Exit → Act → World → Prop} {x : Operand} {B : Nat} {b : UInt8} (ho : o.op = .buildSlice 59 1 #[(0, x)]) (hx : a.eval x = .int .u8 (bN b)) (hB : B ≤ w.heap.size) (h : ∀ v w', NewT w w' → (svB1 B b).pred v w' → K (a.put o.dst v) w') : o.wp Tryd.prog a w K Q := by
  obtain ⟨dst, op, type, pos, after, guard⟩ := o
  simp only at ho
  subst ho
  refine opr_val (s := Instr.buildSlice 59 1 #[(0, a.eval x)]) (by simp [execOp]) (by rw [hx]; exact run_bsb1 _ w) (h _ _ (NewT.alloc _ _) ⟨w.heap.size, rfl, by simp, .inr ⟨w.heap.size, 1, _, rfl, hB, World.alloc_heap_new w _, by simp, by unfold maxLen; omega, by simp, by simp⟩⟩)
theorem run_appB {W : World} {B : Nat} {v u : Value} {l m : List UInt8} (h : OwnB W B v l) (hr : RdV W [] u m) (hn : l.length + m.length ≤ 1000000) (hB : B ≤ W.heap.size) (ty : TypeId) :
    ∃ v' w', (Builtin.append_ #[59, 59] ty #[v, u]).run Tryd.prog W = .ok v' w' ∧ OwnB w' B v' (l ++ m) ∧ Below B W w' := by
  obtain ⟨i0, hi, hz0, hz1, hz2⟩ := info_parts info5
  obtain ⟨v', w', h1, h2, h3⟩ := run_append_rd (P := Tryd.prog) (ty := ty) Tryd.underlying59 hi hz0 hz1 hz2 h hr hn hB
  refine ⟨v', w', h1, ?_, (Below.refl _ W).grown h3 hB (fun k hk => (World.ownsRow.lt h k hk).1)⟩
  unfold OwnB
  rw [List.length_append, List.map_append]
  exact h2
/-- Bytes behind one byte with no room: a new row. -/
theorem run_appB1 {W : World} {B : Nat} {b : UInt8} {v u : Value} {m : List UInt8} (h : (svB1 B b).pred v W) (hr : RdV W [] u m) (hm : 0 < m.length) (hn : 1 + m.length ≤ 1000000) (hB : B ≤ W.heap.size) (ty : TypeId) :
    ∃ v' w', (Builtin.append_ #[59, 59] ty #[v, u]).run Tryd.prog W = .ok v' w' ∧ OwnB w' B v' (b :: m) ∧ NewT W w' := by
  obtain ⟨g, hv, ho⟩ := h
  obtain ⟨v', w', h1, h2, _⟩ := run_appB ho hr (by simpa using hn) hB ty
  refine ⟨v', w', h1, h2, ?_⟩
  obtain ⟨i0, hi, hz0, hz1, hz2⟩ := info_parts info5
  obtain ⟨A, c, rfl, k1, k2, k3⟩ := hr
  obtain ⟨b2, o2, rfl, _, hc⟩ := k3 hm
  have ho2 := ho
  rw [hv] at h1 ho2
  have hrun := run_append_grow (P := Tryd.prog) W 59 ty 5 i0 _ Tryd.underlying59 hi hz0 ⟨g, 0, none⟩ 1 1 ([b].map (fun b : UInt8 => Value.int .u8 (bN b))) (by rw [hz1]; rfl) (World.ownsRow.cells ho2 (g := g) rfl) ⟨b2, o2, none⟩ m.length c (m.map (fun b : UInt8 => Value.int .u8 (bN b))) (by rw [hz1]; simp) (fun j u hj => by
      have hjl : j < m.length := by have := (List.getElem?_eq_some_iff.1 hj).1; simpa using this
      rw [Addr.add_mid, hc j hjl, ← map_at m j hjl, hj]) (by omega) (by omega) (growslice_fits (by omega) (by rw [hz2]; omega))
  rw [h1] at hrun
  injection hrun with _ e
  subst e
  exact NewT.trans _ _ _ (NewT.drew W) (NewT.alloc _ _)
set_option maxHeartbeats 1000000 in
theorem RPair_cv (p q : Hs) (w : World) : Cv 42 #[.agg (rowA 32 (bF p)), .agg (rowA 32 (bF q))] w (svRd ((1 :: digL p) ++ digL q)) := by
  unfold Cv
  go_enter Tryd.func42, Tryd.ntmps42
  go_upto_region 1 with fail
  have r1 := (rowIs_box w 29 32 (bF p)).alloc (.cells (rowA 32 (bF q)) 29)
  have r2 := rowIs_box (w.alloc (.cells (rowA 32 (bF p)) 29)) 29 32 (bF q)
  rw [World.size_alloc] at r2
  have hN : NewT w ((w.alloc (.cells (rowA 32 (bF p)) 29)).alloc (.cells (rowA 32 (bF q)) 29)) := NewT.trans _ _ _ (NewT.alloc _ _) (NewT.alloc _ _)
  change Code.wp _ _ _ _ ((w.alloc (.cells (rowA 32 (bF p)) 29)).alloc (.cells (rowA 32 (bF q)) 29))
  generalize ((w.alloc (.cells (rowA 32 (bF p)) 29)).alloc (.cells (rowA 32 (bF q)) 29)) = W0 at r1 r2 hN ⊢
  have R1 := Lib.hid r1
  have R2 := Lib.hid r2
  have HN := Lib.hid hN
  clear r1 r2 hN
  refine wp_region_rely_tail (NewT) [svB1 W0.heap.size 1, svRd (digL (p)), svOB W0.heap.size (1 :: digL p), svRd (digL (q))] [([], none), ([(2, none)], none), ([(5, some 0), (6, some 1)], none), ([(3, none)], none)] 10 4 (by kernel_rfl) rfl rfl (Nat.zero_lt_succ _) (by kernel_rfl) (by kernel_rfl) (by kernel_rfl) NewT.trans (NewT.drew _) (Nat.le_of_ble_eq_true rfl) ⟨?_, ?_, ?_, ?_, trivial⟩ ?_
  · intro a wx hT hF K hK
    refine rely_wp rfl ?_
    exact opr_bsB1 (B := W0.heap.size) (b := 1) rfl rfl hT.out.size hK
  · intro a wx hT hF K hK
    obtain ⟨f2, _⟩ := hF
    have f2 : a.tmps.getD 2 undef = .pointer (some ⟨w.heap.size, 0, none⟩) := f2
    refine rely_wp rfl ?_
    exact opr_sliceH rfl f2 (hK _ _ (NewT.refl _) (rd_rowH (hT.row R1.out) (by decide) (fun j _ => by rw [Nat.zero_add])))
  · intro a wx hT hF K hK
    obtain ⟨f5, f6, _⟩ := hF
    replace f5 := show (svB1 W0.heap.size 1).pred (a.tmps.getD 5 undef) wx from f5
    replace f6 := show (svRd (digL (p))).pred (a.tmps.getD 6 undef) wx from f6
    refine rely_wp rfl ?_
    obtain ⟨v', w', hrun, h2, h3⟩ := run_appB1 f5 f6 (by simp [digL_length]) (by simp [digL_length]) hT.out.size _
    exact opr_append rfl rfl rfl hrun (hK _ _ h3 h2)
  · intro a wx hT hF K hK
    obtain ⟨f3, _⟩ := hF
    have f3 : a.tmps.getD 3 undef = .pointer (some ⟨w.heap.size + 1, 0, none⟩) := f3
    refine rely_wp rfl ?_
    exact opr_sliceH rfl f3 (hK _ _ (NewT.refl _) (rd_rowH (hT.row R2.out) (by decide) (fun j _ => by rw [Nat.zero_add])))
  · intro wa ka
    intro _ _
    intro _ _
    intro u7 h; have g7 := h (by simp); clear h; replace g7 := show (svOB W0.heap.size (1 :: digL p)).pred u7 wa from g7
    intro u8 h; have g8 := h (by simp); clear h; replace g8 := show (svRd (digL (q))).pred u8 wa from g8
    refine relyEnd_nil rfl ?_
    simp only [Act.put, List.setIfInBounds_toArray, List.set_cons_zero, List.set_cons_succ]
    refine wpList_plain rfl (fun K hK => ?_)
    have hO : OwnB wa W0.heap.size u7 (1 :: digL p) := g7
    have hR : RdV wa [] u8 (digL q) := g8
    obtain ⟨v', w', hrun, h2, h3⟩ := run_appB hO hR (by simp [digL_length]) ka.out.size 59
    refine opr_append rfl rfl rfl hrun (hK _ _ ?_)
    refine wpList_plain rfl (fun K hK => ?_)
    refine opr_move (.inr rfl) (hK _ _ ?_)
    refine wpList_end rfl ?_
    simp only [Act.put, List.setIfInBounds_toArray, List.set_cons_zero, List.set_cons_succ]
    go_simp
    go_wp2
    go_ret
    exact ⟨_, rfl, NewT.trans _ _ _ HN.out (NewT.of (ka.out.trans h3)), h2.rd⟩
end Go.Proofs.YtoigjcadncecpaaDoor
/- The document's answers for layer 5: Root, Trees and Same, walked. -/
namespace Go.Proofs.YtoigjcadncecpaaDoor
open Go Go.RowKit
set_option maxRecDepth 8000
set_option linter.all false
set_option maxHeartbeats 1000000 in
theorem RRoot_0 {node : Hs → Hs → Hs} {z : Hs} (hX : TreeH node z) (A : Option Addr) (c : Nat) (w : World) (hT : Tables w) : Cv 27 #[.slice A 0 c] w (.eq (.agg (rowA 32 (bF z)))) := by
  unfold Cv
  have HT := Lib.hid hT
  clear hT
  go_enter Tryd.func27, Tryd.ntmps27
  go_upto_region 2 with fail
  have r0 := rowIs_box w 29 32 (bF fun _ => 0)
  have hN := NewT.alloc w (.cells (rowA 32 (bF fun _ => 0)) 29)
  change Code.wp _ _ _ _ (w.alloc (.cells (rowA 32 (bF fun _ => 0)) 29))
  generalize w.alloc (.cells (rowA 32 (bF fun _ => 0)) 29) = W0 at r0 hN ⊢
  have R0 := Lib.hid r0
  have HN := Lib.hid hN
  replace HT := Lib.hid (hN.tables HT.out)
  clear r0 hN
  refine wp_region_steps0 NewT [SV.eq (.agg (rowA 32 (bF (z))))] [([], none)] 27 1 rfl rfl (by kernel_rfl) NewT.trans (NewT.refl _) (Nat.le_of_ble_eq_true rfl) ⟨?_, trivial⟩ ?_
  · intro a wx hT hF K hK
    refine rely_wp rfl ?_
    exact opr_cv (RSumB_cv _ [] z wx (hT.tables HT.out) (rdV_nil0 wx) (by simp) hX.zero) rfl Tryd.func38 (by kernel_rfl) (by kernel_rfl) (by simp only [List.map_toArray, List.map_cons, List.map_nil, eval_const]) hK
  · intro wx hT
    intro u h; obtain rfl := Eq.symm (h (by simp)); clear h
    refine relyEnd_nil rfl ?_
    simp only [Act.put, List.setIfInBounds_toArray, List.set_cons_zero, List.set_cons_succ]
    refine wpList_plain rfl (fun K hK => ?_)
    refine opr_store_new (B := w.heap.size) (W := w) info31 rfl rfl rfl (hT.row R0.out) (NewT.trans _ _ _ HN.out hT) (Nat.le_refl _) ?_
    intro w9 hB9 r9
    refine hK _ _ ?_
    refine wpList_end rfl ?_
    simp only [Act.put]
    go_simp
    go_wp2
    exact bodyPost_ret (results_row rfl _ rfl r9 Tryd.underlying29 info31) rfl ⟨_, rfl, hB9, rfl⟩
set_option maxHeartbeats 1000000 in
theorem RRoot_1 {node : Hs → Hs → Hs} {z : Hs} (hX : TreeH node z) (v : Value) (d : Hs) (w : World) (hT : Tables w) (hl : RdH w v [d]) : Cv 27 #[v] w (.eq (.agg (rowA 32 (bF d)))) := by
  unfold Cv
  have HT := Lib.hid hT
  have HL := Lib.hid hl
  obtain ⟨A, c, hv⟩ := rdH_form hl
  have hv : v = .slice A 1 c := hv
  subst hv
  clear hT hl
  go_enter Tryd.func27, Tryd.ntmps27
  go_upto_region 4 with fail
  obtain ⟨v, ev⟩ : ∃ v, Value.slice A 1 c = v := ⟨_, rfl⟩
  rw [ev] at HL ⊢
  clear ev
  have r0 := rowIs_box w 29 32 (bF fun _ => 0)
  have hN := NewT.alloc w (.cells (rowA 32 (bF fun _ => 0)) 29)
  change Code.wp _ _ _ _ (w.alloc (.cells (rowA 32 (bF fun _ => 0)) 29))
  generalize w.alloc (.cells (rowA 32 (bF fun _ => 0)) 29) = W0 at r0 hN ⊢
  have R0 := Lib.hid r0
  have HN := Lib.hid hN
  replace HT := Lib.hid (hN.tables HT.out)
  replace HL := Lib.hid (hN.hs HL.out)
  clear r0 hN
  refine wp_region_steps0 NewT [SV.eq (v), svP (d), SV.eq (.agg (rowA 32 (bF (d))))] [([(0, none)], none), ([(11, some 0)], none), ([(12, some 1)], none)] 27 3 rfl rfl (by kernel_rfl) NewT.trans (NewT.refl _) (Nat.le_of_ble_eq_true rfl) ⟨?_, ?_, ?_, trivial⟩ ?_
  · intro a wx hT hF K hK
    obtain ⟨f0, _⟩ := hF
    have f0 : a.tmps.getD 0 undef = v := f0
    refine rely_wp rfl ?_
    exact opr_move (.inl rfl) (hK _ _ (NewT.refl _) f0)
  · intro a wx hT hF K hK
    obtain ⟨f11, _⟩ := hF
    have f11 : a.tmps.getD 11 undef = v := f11
    refine rely_wp rfl ?_
    exact opr_idxH (i := 0) (d := d) (rfl) (rfl) rfl (by rw [eval_tmp, f11]; exact (hT.hs HL.out)) rfl (fun v hv => hK v _ (NewT.refl _) hv)
  · intro a wx hT hF K hK
    obtain ⟨f12, _⟩ := hF
    replace f12 := show (svP (d)).pred (a.tmps.getD 12 undef) wx from f12
    refine rely_wp rfl ?_
    exact opr_ldP rfl f12 (hK _ _ (NewT.refl _) rfl)
  · intro wx hT
    intro u h; obtain rfl := Eq.symm (h (by simp)); clear h
    intro _ _
    intro u h; obtain rfl := Eq.symm (h (by simp)); clear h
    refine relyEnd_nil rfl ?_
    simp only [Act.put, List.setIfInBounds_toArray, List.set_cons_zero, List.set_cons_succ]
    refine wpList_plain rfl (fun K hK => ?_)
    refine opr_store_new (B := w.heap.size) (W := w) info31 rfl rfl rfl (hT.row R0.out) (NewT.trans _ _ _ HN.out hT) (Nat.le_refl _) ?_
    intro w9 hB9 r9
    refine hK _ _ ?_
    refine wpList_end rfl ?_
    simp only [Act.put]
    go_simp
    go_wp2
    exact bodyPost_ret (results_row rfl _ rfl r9 Tryd.underlying29 info31) rfl ⟨_, rfl, hB9, rfl⟩
set_option maxRecDepth 20000 in
set_option maxHeartbeats 1000000 in
theorem RRoot_2 {node : Hs → Hs → Hs} {z : Hs} (hX : TreeH node z) (v : Value) (l : List Hs) (k : Nat) (w : World) (hT : Tables w) (hl : RdH w v l) (hn : 2 ≤ l.length) (hk : k < l.length) (hk0 : 0 < k) (hs : ∀ w, Cv 26 #[.int .i64 (l.length : Int)] w (.eq (.int .i64 (k : Int))))
    (ih : ∀ (v : Value) (m : List Hs) (w : World), Tables w → RdH w v m → m.length < l.length → Cv 27 #[v] w (.eq (.agg (rowA 32 (bF (rootM node z m)))))) : Cv 27 #[v] w (.eq (.agg (rowA 32 (bF (node (rootM node z (l.take k)) (rootM node z (l.drop k))))))) := by
  unfold Cv
  have HT := Lib.hid hT
  have HL := Lib.hid hl
  have HK := Lib.hid hs
  obtain ⟨A, c, hv⟩ := rdH_form hl
  have t0 : ((l.length : Int) == 0) = false := beq_eq_false_iff_ne.2 (by omega)
  have t1 : ((l.length : Int) == 1) = false := beq_eq_false_iff_ne.2 (by omega)
  subst hv
  clear hT hl hs
  go_enter Tryd.func27, Tryd.ntmps27
  go_upto_region 5 with fail
  obtain ⟨v, ev⟩ : ∃ v, Value.slice A l.length c = v := ⟨_, rfl⟩
  rw [ev] at HL ⊢
  clear ev
  have r0 := rowIs_box w 29 32 (bF fun _ => 0)
  have hN := NewT.alloc w (.cells (rowA 32 (bF fun _ => 0)) 29)
  change Code.wp _ _ _ _ (w.alloc (.cells (rowA 32 (bF fun _ => 0)) 29))
  generalize w.alloc (.cells (rowA 32 (bF fun _ => 0)) 29) = W0 at r0 hN ⊢
  have R0 := Lib.hid r0
  have HN := Lib.hid hN
  replace HT := Lib.hid (hN.tables HT.out)
  replace HL := Lib.hid (hN.hs HL.out)
  clear r0 hN
  clear t0 t1
  refine wp_region_steps0 NewT [SV.eq (v), SV.eq (.int .i64 ((List.length (l) : Int))), SV.eq (.int .i64 ((k : Int))), SV.eq (.int .i64 ((k : Int)))] [([(0, none)], none), ([(14, some 0)], none), ([(15, some 1)], none), ([(16, some 2)], none)] 27 4 rfl rfl (by kernel_rfl) NewT.trans (NewT.refl _) (Nat.le_of_ble_eq_true rfl) ⟨?_, ?_, ?_, ?_, trivial⟩ ?_
  · intro a wx hT hF K hK
    obtain ⟨f0, _⟩ := hF
    have f0 : a.tmps.getD 0 undef = v := f0
    refine rely_wp rfl ?_
    exact opr_move (.inl rfl) (hK _ _ (NewT.refl _) f0)
  · intro a wx hT hF K hK
    obtain ⟨f14, _⟩ := hF
    have f14 : a.tmps.getD 14 undef = v := f14
    refine rely_wp rfl ?_
    exact opr_len_h rfl (by rw [eval_tmp, f14]; exact (hT.hs HL.out)) (hK _ _ (NewT.refl _) rfl)
  · intro a wx hT hF K hK
    obtain ⟨f15, _⟩ := hF
    have f15 : a.tmps.getD 15 undef = .int .i64 ((List.length (l) : Int)) := f15
    refine rely_wp rfl ?_
    exact opr_cv (HK.out wx) rfl Tryd.func26 (by kernel_rfl) (by kernel_rfl) (by simp only [List.map_toArray, List.map_cons, List.map_nil, eval_tmp, f15]) hK
  · intro a wx hT hF K hK
    obtain ⟨f16, _⟩ := hF
    have f16 : a.tmps.getD 16 undef = .int .i64 ((k : Int)) := f16
    refine rely_wp rfl ?_
    exact opr_move (.inr rfl) (hK _ _ (NewT.refl _) f16)
  · intro w6 k6
    intro u h; obtain rfl := Eq.symm (h (by simp)); clear h
    intro u h; obtain rfl := Eq.symm (h (by simp)); clear h
    intro u h; obtain rfl := Eq.symm (h (by simp)); clear h
    intro u h; obtain rfl := Eq.symm (h (by simp)); clear h
    refine relyEnd_nil rfl ?_
    refine wpList_end rfl ?_
    simp only [Act.put, List.setIfInBounds_toArray, List.set_cons_zero, List.set_cons_succ]
    go_simp
    replace R0 := Lib.hid (k6.row R0.out)
    replace HT := Lib.hid (k6.tables HT.out)
    replace HL := Lib.hid (k6.hs HL.out)
    replace HN := Lib.hid (NewT.trans _ _ _ HN.out k6)
    clear HK k6
    go_upto_region 6 with fail
    refine wp_region_rely (NewT) [SV.eq (v), SV.eq (.int .i64 ((k : Int))), svH (List.take k l), SV.eq (.agg (rowA 32 (bF (rootM node z (List.take k l))))), SV.eq (v), SV.eq (.int .i64 ((k : Int))), svH (List.drop k l), SV.eq (.agg (rowA 32 (bF (rootM node z (List.drop k l))))), svRd ((1 :: digL (rootM node z (List.take k l))) ++ digL (rootM node z (List.drop k l))), SV.eq (.agg (rowA 32 (bF (node (rootM node z (List.take k l)) (rootM node z (List.drop k l))))))] [([(0, none)], none), ([(3, none)], none), ([(17, some 0), (18, some 1)], none), ([(19, some 2)], none), ([(0, none)], none), ([(3, none)], none), ([(21, some 4), (22, some 5)], none), ([(23, some 6)], none), ([(20, some 3), (24, some 7)], none), ([(25, some 8)], none)] 27 rfl (by kernel_rfl) rfl (by kernel_rfl) (by kernel_rfl) rfl NewT.trans (NewT.drew _) (Nat.le_of_ble_eq_true rfl) ⟨?_, ?_, ?_, ?_, ?_, ?_, ?_, ?_, ?_, ?_, trivial⟩ ?_
    · intro a wx hT hF K hK
      obtain ⟨f0, _⟩ := hF
      have f0 : a.tmps.getD 0 undef = v := f0
      refine rely_wp rfl ?_
      exact opr_move (.inl rfl) (hK _ _ (NewT.refl _) f0)
    · intro a wx hT hF K hK
      obtain ⟨f3, _⟩ := hF
      have f3 : a.tmps.getD 3 undef = .int .i64 ((k : Int)) := f3
      refine rely_wp rfl ?_
      exact opr_move (.inl rfl) (hK _ _ (NewT.refl _) f3)
    · intro a wx hT hF K hK
      obtain ⟨f17, f18, _⟩ := hF
      have f17 : a.tmps.getD 17 undef = v := f17
      have f18 : a.tmps.getD 18 undef = .int .i64 ((k : Int)) := f18
      refine rely_wp rfl ?_
      exact opr_toH (k := k) (by omega) (rfl) rfl (by rw [eval_tmp, f17]; exact (hT.hs HL.out)) f18 (fun v hv => hK v _ (NewT.refl _) hv)
    · intro a wx hT hF K hK
      obtain ⟨f19, _⟩ := hF
      replace f19 := show (svH (List.take k l)).pred (a.tmps.getD 19 undef) wx from f19
      refine rely_wp rfl ?_
      exact opr_cv (ih _ (List.take k l) wx (hT.tables HT.out) f19 (by rw [List.length_take]; omega)) rfl Tryd.func27 (by kernel_rfl) (by kernel_rfl) (by simp only [List.map_toArray, List.map_cons, List.map_nil, eval_tmp]) hK
    · intro a wx hT hF K hK
      obtain ⟨f0, _⟩ := hF
      have f0 : a.tmps.getD 0 undef = v := f0
      refine rely_wp rfl ?_
      exact opr_move (.inl rfl) (hK _ _ (NewT.refl _) f0)
    · intro a wx hT hF K hK
      obtain ⟨f3, _⟩ := hF
      have f3 : a.tmps.getD 3 undef = .int .i64 ((k : Int)) := f3
      refine rely_wp rfl ?_
      exact opr_move (.inl rfl) (hK _ _ (NewT.refl _) f3)
    · intro a wx hT hF K hK
      obtain ⟨f21, f22, _⟩ := hF
      have f21 : a.tmps.getD 21 undef = v := f21
      have f22 : a.tmps.getD 22 undef = .int .i64 ((k : Int)) := f22
      refine rely_wp rfl ?_
      exact opr_fromH (k := k) (by omega) (rfl) rfl (by rw [eval_tmp, f21]; exact (hT.hs HL.out)) f22 (fun v hv => hK v _ (NewT.refl _) hv)
    · intro a wx hT hF K hK
      obtain ⟨f23, _⟩ := hF
      replace f23 := show (svH (List.drop k l)).pred (a.tmps.getD 23 undef) wx from f23
      refine rely_wp rfl ?_
      exact opr_cv (ih _ (List.drop k l) wx (hT.tables HT.out) f23 (by rw [List.length_drop]; omega)) rfl Tryd.func27 (by kernel_rfl) (by kernel_rfl) (by simp only [List.map_toArray, List.map_cons, List.map_nil, eval_tmp]) hK
    · intro a wx hT hF K hK
      obtain ⟨f20, f24, _⟩ := hF
      have f20 : a.tmps.getD 20 undef = .agg (rowA 32 (bF (rootM node z (List.take k l)))) := f20
      have f24 : a.tmps.getD 24 undef = .agg (rowA 32 (bF (rootM node z (List.drop k l)))) := f24
      refine rely_wp rfl ?_
      exact opr_cv (RPair_cv (rootM node z (List.take k l)) (rootM node z (List.drop k l)) wx) rfl Tryd.func42 (by kernel_rfl) (by kernel_rfl) (by simp only [List.map_toArray, List.map_cons, List.map_nil, eval_tmp, f20, f24]) hK
    · intro a wx hT hF K hK
      obtain ⟨f25, _⟩ := hF
      replace f25 := show (svRd ((1 :: digL (rootM node z (List.take k l))) ++ digL (rootM node z (List.drop k l)))).pred (a.tmps.getD 25 undef) wx from f25
      refine rely_wp rfl ?_
      exact opr_cv (RSumB_cv _ ((1 :: digL (rootM node z (List.take k l))) ++ digL (rootM node z (List.drop k l))) (node (rootM node z (List.take k l)) (rootM node z (List.drop k l))) wx (hT.tables HT.out) f25 (by simp [digL_length]) (by simpa using hX.node (rootM node z (List.take k l)) (rootM node z (List.drop k l)))) rfl Tryd.func38 (by kernel_rfl) (by kernel_rfl) (by simp only [List.map_toArray, List.map_cons, List.map_nil, eval_tmp]) hK
    · intro wx hT
      intro u h; obtain rfl := Eq.symm (h (by simp)); clear h
      intro u h; obtain rfl := Eq.symm (h (by simp)); clear h
      intro _ _
      intro u h; obtain rfl := Eq.symm (h (by simp)); clear h
      intro u h; obtain rfl := Eq.symm (h (by simp)); clear h
      intro u h; obtain rfl := Eq.symm (h (by simp)); clear h
      intro _ _
      intro u h; obtain rfl := Eq.symm (h (by simp)); clear h
      intro _ _
      intro u h; obtain rfl := Eq.symm (h (by simp)); clear h
      refine relyEnd_nil rfl ?_
      simp only [Act.put, List.setIfInBounds_toArray, List.set_cons_zero, List.set_cons_succ]
      refine opr_store_new (B := w.heap.size) (W := w) info31 rfl rfl rfl (hT.row R0.out) (NewT.trans _ _ _ HN.out hT) (Nat.le_refl _) ?_
      intro w9 hB9 r9
      go_simp
      go_wp2
      exact bodyPost_ret (results_row rfl _ rfl r9 Tryd.underlying29 info31) rfl ⟨_, rfl, hB9, rfl⟩
theorem RRoot_cv {node : Hs → Hs → Hs} {z : Hs} (hX : TreeH node z) : ∀ (n : Nat) (v : Value) (l : List Hs) (w : World), Tables w → RdH w v l → l.length ≤ n → n ≤ 1000000 → Cv 27 #[v] w (.eq (.agg (rowA 32 (bF (rootM node z l))))) := by
  intro n
  induction n with
  | zero =>
    intro v l w hT hl hn _
    obtain rfl : l = [] := List.eq_nil_of_length_eq_zero (by omega)
    obtain ⟨A, c, rfl⟩ := rdH_form hl
    rw [rootM_nil]; exact RRoot_0 hX A c w hT
  | succ n ih =>
    intro v l w hT hl hn hb
    match l, hl, hn with
    | [], hl, _ => obtain ⟨A, c, rfl⟩ := rdH_form hl
                   rw [rootM_nil]; exact RRoot_0 hX A c w hT
    | [d], hl, _ => rw [rootM_one]; exact RRoot_1 hX v d w hT hl
    | d :: e :: l, hl, hn =>
      have h2 : 2 ≤ (d :: e :: l).length := by simp
      generalize d :: e :: l = m at hl hn h2 ⊢
      obtain ⟨s1, s2, _⟩ := splitN_lt m.length h2
      rw [rootM_split node z m h2]
      refine RRoot_2 hX v m _ w hT hl h2 s1 s2 (fun w => ?_) (fun v m' w hT' hl' hm => ih v m' w hT' hl' (by omega) (by omega))
      exact RSplit_cv (m.length : Int) (by omega) w
set_option maxHeartbeats 1000000 in
theorem RSame_cv (va vb : Value) (l : List Hs) (w : World) (ha : RdH w va l) (hb : RdH w vb l) (hl : l.length ≤ 100000) : Cv 15 #[va, vb] w (.eq (.bool true)) := by
  unfold Cv
  have HA0 := Lib.hid ha
  have HB0 := Lib.hid hb
  obtain ⟨A, c, hv⟩ := rdH_form ha
  obtain ⟨A2, c2, hv2⟩ := rdH_form hb
  subst hv hv2
  clear ha hb
  go_enter Tryd.func15, Tryd.ntmps15
  go_wp2
  go_loopw [5] (fun i wr => ∃ m : Nat, m ≤ l.length ∧ i = .int .i64 (m : Int) ∧ NewT w wr) (fun i _ => l.length - (intOf i).toNat)
  case atStart => exact ⟨0, by omega, rfl, NewT.refl _⟩
  case round =>
    obtain ⟨m, hm, rfl, hN⟩ := hrel
    have HN := Lib.hid hN
    have HA := Lib.hid (hN.hs HA0.out)
    have HB := Lib.hid (hN.hs HB0.out)
    clear hN
    by_cases hlt : m < l.length
    · have it : (m : Int) < (l.length : Int) := by omega
      obtain ⟨d, hd⟩ : ∃ d, l[m]? = some d := ⟨_, List.getElem?_eq_getElem (by omega)⟩
      have HD := Lib.hid hd
      clear hd
      go_upto_region 6 with fail
      obtain ⟨va, ea⟩ : ∃ v, Value.slice A l.length c = v := ⟨_, rfl⟩
      obtain ⟨vb, eb⟩ : ∃ v, Value.slice A2 l.length c2 = v := ⟨_, rfl⟩
      rw [ea] at HA
      rw [eb] at HB
      rw [ea, eb]
      refine wp_region_rely (NewT) [SV.eq (va), SV.eq (.int .i64 ((m : Int))), svP (d), SV.eq (.agg (rowA 32 (bF (d)))), SV.eq (vb), SV.eq (.int .i64 ((m : Int))), svP (d), SV.eq (.agg (rowA 32 (bF (d))))] [([(0, none)], none), ([(5, none)], none), ([(17, some 0), (18, some 1)], none), ([(19, some 2)], none), ([(1, none)], none), ([(5, none)], none), ([(21, some 4), (22, some 5)], none), ([(23, some 6)], none)] 26 rfl (by kernel_rfl) rfl (by kernel_rfl) (by kernel_rfl) rfl NewT.trans (NewT.drew _) (Nat.le_of_ble_eq_true rfl) ⟨?_, ?_, ?_, ?_, ?_, ?_, ?_, ?_, trivial⟩ ?_
      · intro a wx hT hF K hK
        obtain ⟨f0, _⟩ := hF
        have f0 : a.tmps.getD 0 undef = va := f0
        refine rely_wp rfl ?_
        exact opr_move (.inl rfl) (hK _ _ (NewT.refl _) f0)
      · intro a wx hT hF K hK
        obtain ⟨f5, _⟩ := hF
        have f5 : a.tmps.getD 5 undef = .int .i64 ((m : Int)) := f5
        refine rely_wp rfl ?_
        exact opr_move (.inl rfl) (hK _ _ (NewT.refl _) f5)
      · intro a wx hT hF K hK
        obtain ⟨f17, f18, _⟩ := hF
        have f17 : a.tmps.getD 17 undef = va := f17
        have f18 : a.tmps.getD 18 undef = .int .i64 ((m : Int)) := f18
        refine rely_wp rfl ?_
        exact opr_idxH (i := m) (d := d) (HD.out) (rfl) rfl (by rw [eval_tmp, f17]; exact (hT.hs HA.out)) f18 (fun v hv => hK v _ (NewT.refl _) hv)
      · intro a wx hT hF K hK
        obtain ⟨f19, _⟩ := hF
        replace f19 := show (svP (d)).pred (a.tmps.getD 19 undef) wx from f19
        refine rely_wp rfl ?_
        exact opr_ldP rfl f19 (hK _ _ (NewT.refl _) rfl)
      · intro a wx hT hF K hK
        obtain ⟨f1, _⟩ := hF
        have f1 : a.tmps.getD 1 undef = vb := f1
        refine rely_wp rfl ?_
        exact opr_move (.inl rfl) (hK _ _ (NewT.refl _) f1)
      · intro a wx hT hF K hK
        obtain ⟨f5, _⟩ := hF
        have f5 : a.tmps.getD 5 undef = .int .i64 ((m : Int)) := f5
        refine rely_wp rfl ?_
        exact opr_move (.inl rfl) (hK _ _ (NewT.refl _) f5)
      · intro a wx hT hF K hK
        obtain ⟨f21, f22, _⟩ := hF
        have f21 : a.tmps.getD 21 undef = vb := f21
        have f22 : a.tmps.getD 22 undef = .int .i64 ((m : Int)) := f22
        refine rely_wp rfl ?_
        exact opr_idxH (i := m) (d := d) (HD.out) (rfl) rfl (by rw [eval_tmp, f21]; exact (hT.hs HB.out)) f22 (fun v hv => hK v _ (NewT.refl _) hv)
      · intro a wx hT hF K hK
        obtain ⟨f23, _⟩ := hF
        replace f23 := show (svP (d)).pred (a.tmps.getD 23 undef) wx from f23
        refine rely_wp rfl ?_
        exact opr_ldP rfl f23 (hK _ _ (NewT.refl _) rfl)
      · intro wa ka
        intro u h; obtain rfl := Eq.symm (h (by simp)); clear h
        intro u h; obtain rfl := Eq.symm (h (by simp)); clear h
        intro _ _
        intro u h; obtain rfl := Eq.symm (h (by simp)); clear h
        intro u h; obtain rfl := Eq.symm (h (by simp)); clear h
        intro u h; obtain rfl := Eq.symm (h (by simp)); clear h
        intro _ _
        intro u h; obtain rfl := Eq.symm (h (by simp)); clear h
        refine relyEnd_nil rfl ?_
        simp only [Act.put, List.setIfInBounds_toArray, List.set_cons_zero, List.set_cons_succ]
        refine opr_neq_hash (b := false) rfl rfl rfl (by rw [eqH_same]; rfl) ?_
        go_simp
        go_wp2
        go_roundw
        case rel => exact ⟨m + 1, by omega, by go_num, NewT.trans _ _ _ HN.out ka⟩
        case measure => simp [intOf]; omega
    · obtain rfl : m = l.length := by omega
      go_wp2
      go_ret
      exact ⟨_, rfl, HN.out, rfl⟩
end Go.Proofs.YtoigjcadncecpaaDoor
/- Slices of flags that read as lists; appends onto a call's own. -/
namespace Go.Proofs.YtoigjcadncecpaaDoor
open Go Go.RowKit
set_option maxRecDepth 8000
set_option linter.all false
/-- A slice of flags reads as l. -/
def RdQ (W : World) (v : Value) (l : List Bool) : Prop :=
  ∃ A cap, v = .slice A l.length cap ∧ l.length ≤ cap ∧ cap ≤ maxLen ∧ (0 < l.length → ∃ b o, A = some ⟨b, o, none⟩ ∧ ∀ i d, l[i]? = some d → W.cell? ⟨b, o + i, none⟩ = some (.bool d))
theorem NewT.qs {w w' : World} (h : NewT w w') {v : Value} {l : List Bool} (hr : RdQ w v l) : RdQ w' v l := by
  obtain ⟨A, cap, hv, h1, h2, h3⟩ := hr
  refine ⟨A, cap, hv, h1, h2, fun h0 => ?_⟩
  obtain ⟨b, o, hA, hc⟩ := h3 h0
  exact ⟨b, o, hA, fun i d hd => (h.out.cell (p := ⟨b, o + i, none⟩) (World.block_lt_of_cell? _ _ (hc i d hd))).trans (hc i d hd)⟩
theorem rdQ_form {w : World} {v : Value} {l : List Bool} (h : RdQ w v l) : ∃ A c, v = .slice A l.length c := by
  obtain ⟨A, c, hv, _⟩ := h; exact ⟨A, c, hv⟩
theorem rdQ_nil (w : World) : RdQ w (.slice none 0 0) [] := ⟨none, 0, rfl, Nat.le_refl _, by unfold maxLen; omega, fun h => absurd h (by simp)⟩
theorem infoQ : (Tryd.prog.info? 4).map (fun i => (i.zero, i.size, i.bytes)) = some (some (.bool false), 1, 1) := by kernel_rfl
theorem run_bsQ1 (x : Bool) (w : World) : (Instr.buildSlice 48 1 #[(0, .bool x)]).run Tryd.prog w = .ok (.slice (some ⟨w.heap.size, 0, none⟩) 1 1) (w.alloc (.cells #[.bool x] 4)) := by kernel_rfl
/-- A row of flags of the call's own, in blocks from B on. -/
def OwnQ (W : World) (B : Nat) (v : Value) (l : List Bool) : Prop := W.ownsRow B 4 1 v l.length (l.map Value.bool)
theorem ownQ_one (w : World) (x : Bool) : OwnQ (w.alloc (.cells #[.bool x] 4)) w.heap.size (.slice (some ⟨w.heap.size, 0, none⟩) 1 1) [x] :=
  ⟨by simp, .inr ⟨w.heap.size, 1, #[.bool x], rfl, Nat.le_refl _, heap_alloc_new w _, by simp, by unfold maxLen; omega, by simp, by simp⟩⟩
theorem OwnQ.rd {W : World} {B : Nat} {v : Value} {l : List Bool} (h : OwnQ W B v l) : RdQ W v l := by
  rcases h.2 with ⟨rfl, h0⟩ | ⟨g, cap, cur, rfl, hb, _, hnc, hcm, _, _⟩
  · have : l = [] := List.eq_nil_of_length_eq_zero h0
    subst this
    exact rdQ_nil W
  · refine ⟨some ⟨g, 0, none⟩, cap, rfl, hnc, hcm, fun _ => ⟨g, 0, rfl, fun i d hd => ?_⟩⟩
    have hc := World.ownsRow.cells h (g := g) rfl i (.bool d) (by simp [hd])
    rw [Addr.add_mid] at hc
    exact hc
/-- Flags behind one flag. -/
theorem run_appQ {W : World} {B : Nat} {v u : Value} {l m : List Bool} (h : OwnQ W B v l) (hr : RdQ W u m) (hn : l.length + m.length ≤ 1000000) (hB : B ≤ W.heap.size) (ty : TypeId) :
    ∃ v' w', (Builtin.append_ #[48, 48] ty #[v, u]).run Tryd.prog W = .ok v' w' ∧ OwnQ w' B v' (l ++ m) ∧ Below B W w' := by
  obtain ⟨i0, hi, hz0, hz1, hz2⟩ := info_parts infoQ
  obtain ⟨A, cap, rfl, h1, h2, h3⟩ := hr
  cases A with
  | none =>
    have h0 : m = [] := by
      cases m with
      | nil => rfl
      | cons b l => obtain ⟨_, _, h, _⟩ := h3 (by simp); cases h
    subst h0
    refine ⟨v, W, ?_, by simpa using h, Below.refl _ _⟩
    rcases h.2 with ⟨rfl, h0⟩ | ⟨g, cap', cur, rfl, _, _, hnc, _⟩
    · simp [Builtin.append_, run_underlying Tryd.underlying48, sizeOf, typeInfo, hi, Builtin.lenOf, Builtin.firstCells]
    · simp [Builtin.append_, run_underlying Tryd.underlying48, sizeOf, typeInfo, hi, Builtin.lenOf, Builtin.firstCells, hnc, storeCells]
  | some ad =>
    have hcells : ∀ j u, (m.map Value.bool)[j]? = some u → W.cell? (ad.add j) = some u := fun j u hj => by
      have hlt : j < m.length := by have := (List.getElem?_eq_some_iff.1 hj).1; simpa using this
      obtain ⟨b, o, hA, hc⟩ := h3 (by omega)
      cases hA
      rw [Addr.add_mid, hc j m[j] (List.getElem?_eq_getElem hlt)]
      simpa [hlt] using hj
    obtain ⟨v', w', hrun, ho, hg, _⟩ := run_append_own (P := Tryd.prog) W B 48 ty 4 i0 _ 1 1 Tryd.underlying48 hi hz0 hz1 hz2 rfl (by omega) v l.length (l.map Value.bool) h ad m.length cap (m.map Value.bool) (by simp) hcells (by intro u hu; obtain ⟨b, _, rfl⟩ := List.mem_map.1 hu; rfl) (by unfold maxLen; omega) (by omega) hB
    refine ⟨v', w', hrun, ?_, (Below.refl _ W).grown hg hB (fun k hk => (World.ownsRow.lt h k hk).1)⟩
    unfold OwnQ
    rw [List.length_append, List.map_append]
    exact ho
section
variable {a : Act} {w : World} {o : Oper} {K : Act → World → Prop} {Q : Exit → Act → World → Prop} {x y : Operand}
/-- One of the flags. -/
theorem wp_idxQ {P2 : Array Oper} {rest : List Oper} {o1 o2 : Oper} {l : List Bool} {i d1 : Nat} {d : Bool} (hd : l[i]? = some d) (hg1 : o1.guard = none) (hg2 : o2.guard = none) (h1 : o1.op = .indexAddr 48 x y) (hdst : o1.dst = some d1) (hlt : d1 < a.tmps.size) (h2 : o2.op = .load 4 (.tmp d1)) (hx : RdQ w (a.eval x) l) (hy : a.eval y = .int .i64 (i : Int))
    (h : ∀ p, wpList Tryd.prog P2 Q rest ((a.put (some d1) p).put o2.dst (.bool d)) w) : wpList Tryd.prog P2 Q (o1 :: o2 :: rest) a w := by
  obtain ⟨A, c, hv, _, _, h3⟩ := hx
  have hi : i < l.length := (List.getElem?_eq_some_iff.1 hd).1
  obtain ⟨b, off, rfl, hc⟩ := h3 (by omega)
  have hsz : (sizeOf 4).run Tryd.prog w = .ok 1 w := by
    have hs : (Tryd.prog.info? 4).map (·.size) = some 1 := by kernel_rfl
    cases hq : Tryd.prog.info? 4 with
    | none => simp [hq] at hs
    | some i => simp [hq] at hs; simp [sizeOf, typeInfo, hq, hs]
  refine wpList_plain hg1 fun K hK => ?_
  obtain ⟨dst, op, type, pos, after, guard⟩ := o1
  simp only at h1 hdst
  subst h1 hdst
  refine opr_val (s := Instr.indexAt 48 (a.eval x) (a.eval y)) (v := .pointer (some ⟨b, off + i, none⟩)) (w' := w) rfl (by rw [hv, hy]; simp [Instr.indexAt, asIntOf, run_underlying Tryd.underlying48, hsz, hi, Addr.add_mid]) (hK _ _ ?_)
  refine wpList_plain hg2 fun K hK => ?_
  exact opr_ld1 Tryd.underlying4 rfl h2 (by rw [eval_tmp]; simp [Act.put, hlt]) (hc i d hd) (hK _ _ (h _))
end
end Go.Proofs.YtoigjcadncecpaaDoor
/- The document's answers for layer 6: a node, and what a path comes to. -/
namespace Go.Proofs.YtoigjcadncecpaaDoor
open Go Go.RowKit
set_option maxRecDepth 8000
set_option linter.all false
set_option maxHeartbeats 1000000 in
theorem RNode_cv {node : Hs → Hs → Hs} {z : Hs} (hX : TreeH node z) (p q : Hs) (w : World) (hT : Tables w) : Cv 32 #[.agg (rowA 32 (bF p)), .agg (rowA 32 (bF q))] w (.eq (.agg (rowA 32 (bF (node p q))))) := by
  unfold Cv
  have HT := Lib.hid hT
  have HD : Hid (shaL Kc Fc ((1 :: digL p) ++ digL q) = node p q) := Lib.hid (by rw [← hX.node p q]; simp)
  clear hT
  go_enter Tryd.func32, Tryd.ntmps32
  go_upto_region 1 with fail
  have r1 := ((rowIs_box w 29 32 (bF p)).alloc (.cells (rowA 32 (bF q)) 29)).alloc (.cells (rowA 32 (bF fun _ => 0)) 29)
  have r2 := (rowIs_box (w.alloc (.cells (rowA 32 (bF p)) 29)) 29 32 (bF q)).alloc (.cells (rowA 32 (bF fun _ => 0)) 29)
  rw [World.size_alloc] at r2
  have r0 := rowIs_box ((w.alloc (.cells (rowA 32 (bF p)) 29)).alloc (.cells (rowA 32 (bF q)) 29)) 29 32 (bF fun _ => 0)
  rw [World.size_alloc, World.size_alloc] at r0
  have hN : NewT w (((w.alloc (.cells (rowA 32 (bF p)) 29)).alloc (.cells (rowA 32 (bF q)) 29)).alloc (.cells (rowA 32 (bF fun _ => 0)) 29)) := (NewT.trans _ _ _ (NewT.trans _ _ _ (NewT.alloc _ _) (NewT.alloc _ _)) (NewT.alloc _ _))
  change Code.wp _ _ _ _ (((w.alloc (.cells (rowA 32 (bF p)) 29)).alloc (.cells (rowA 32 (bF q)) 29)).alloc (.cells (rowA 32 (bF fun _ => 0)) 29))
  generalize (((w.alloc (.cells (rowA 32 (bF p)) 29)).alloc (.cells (rowA 32 (bF q)) 29)).alloc (.cells (rowA 32 (bF fun _ => 0)) 29)) = W0 at r1 r2 r0 hN ⊢
  have R1 := Lib.hid r1
  have R2 := Lib.hid r2
  have R0 := Lib.hid r0
  have HN := Lib.hid hN
  replace HT := Lib.hid (hN.tables HT.out)
  clear r1 r2 r0 hN
  refine wp_region_steps0 NewT [SV.eq (.agg (rowA 32 (bF (p)))), SV.eq (.agg (rowA 32 (bF (q)))), svRd ((1 :: digL p) ++ digL q), SV.eq (.agg (rowA 32 (bF (node p q))))] [([(2, none)], none), ([(3, none)], none), ([(5, some 0), (6, some 1)], none), ([(7, some 2)], none)] 9 4 rfl rfl (by kernel_rfl) NewT.trans (NewT.refl _) (Nat.le_of_ble_eq_true rfl) ⟨?_, ?_, ?_, ?_, trivial⟩ ?_
  · intro a wx hT hF K hK
    obtain ⟨f2, _⟩ := hF
    have f2 : a.tmps.getD 2 undef = .pointer (some ⟨w.heap.size, 0, none⟩) := f2
    refine rely_wp rfl ?_
    exact opr_load_hash rfl f2 (hT.row R1.out) (hK _ _ (NewT.refl _) rfl)
  · intro a wx hT hF K hK
    obtain ⟨f3, _⟩ := hF
    have f3 : a.tmps.getD 3 undef = .pointer (some ⟨w.heap.size + 1, 0, none⟩) := f3
    refine rely_wp rfl ?_
    exact opr_load_hash rfl f3 (hT.row R2.out) (hK _ _ (NewT.refl _) rfl)
  · intro a wx hT hF K hK
    obtain ⟨f5, f6, _⟩ := hF
    have f5 : a.tmps.getD 5 undef = .agg (rowA 32 (bF (p))) := f5
    have f6 : a.tmps.getD 6 undef = .agg (rowA 32 (bF (q))) := f6
    refine rely_wp rfl ?_
    exact opr_cv (RPair_cv p q wx) rfl Tryd.func42 (by kernel_rfl) (by kernel_rfl) (by simp only [List.map_toArray, List.map_cons, List.map_nil, eval_tmp, f5, f6]) hK
  · intro a wx hT hF K hK
    obtain ⟨f7, _⟩ := hF
    replace f7 := show (svRd ((1 :: digL p) ++ digL q)).pred (a.tmps.getD 7 undef) wx from f7
    refine rely_wp rfl ?_
    exact opr_cv (RSumB_cv _ ((1 :: digL p) ++ digL q) (node p q) wx (hT.tables HT.out) f7 (by simp [digL_length]) HD.out) rfl Tryd.func38 (by kernel_rfl) (by kernel_rfl) (by simp only [List.map_toArray, List.map_cons, List.map_nil, eval_tmp]) hK
  · intro wx hT
    intro u h; obtain rfl := Eq.symm (h (by simp)); clear h
    intro u h; obtain rfl := Eq.symm (h (by simp)); clear h
    intro _ _
    intro u h; obtain rfl := Eq.symm (h (by simp)); clear h
    refine relyEnd_nil rfl ?_
    simp only [Act.put, List.setIfInBounds_toArray, List.set_cons_zero, List.set_cons_succ]
    refine wpList_plain rfl (fun K hK => ?_)
    refine opr_store_new (B := w.heap.size) (W := w) info31 rfl rfl rfl (hT.row R0.out) (NewT.trans _ _ _ HN.out hT) (by omega) ?_
    intro w9 hB9 r9
    refine hK _ _ ?_
    refine wpList_end rfl ?_
    simp only [Act.put]
    go_simp
    go_wp2
    exact bodyPost_ret (results_row rfl _ rfl r9 Tryd.underlying29 info31) rfl ⟨_, rfl, hB9, rfl⟩
set_option maxHeartbeats 2000000 in
theorem RComes_bad (leaf : Hs) (i n : Int) (v : Value) (w : World) (h : i < 0 ∨ n ≤ i ∨ 1048576 < n) : Cv 17 #[.agg (rowA 32 (bF leaf)), .int .i64 i, .int .i64 n, v] w (svHq (fun _ => 0) false) := by
  unfold Cv
  by_cases h1 : i < 0
  · clear h
    go_enter Tryd.func17, Tryd.ntmps17
    go_upto_region 2 with fail
    have r8 := rowIs_box (w.alloc (.cells (rowA 32 (bF leaf)) 29)) 29 32 (bF fun _ => 0)
    rw [World.size_alloc] at r8
    have hN : NewT w ((w.alloc (.cells (rowA 32 (bF leaf)) 29)).alloc (.cells (rowA 32 (bF fun _ => 0)) 29)) := (NewT.trans _ _ _ (NewT.alloc _ _) (NewT.alloc _ _))
    change Code.wp _ _ _ _ ((w.alloc (.cells (rowA 32 (bF leaf)) 29)).alloc (.cells (rowA 32 (bF fun _ => 0)) 29))
    generalize ((w.alloc (.cells (rowA 32 (bF leaf)) 29)).alloc (.cells (rowA 32 (bF fun _ => 0)) 29)) = W0 at r8 hN ⊢
    refine wp_region_lit ?_
    refine wpList_plain rfl (fun K hK => ?_)
    refine opr_build0 rfl (hK _ _ ?_)
    clear hK K
    simp only [Act.put, List.setIfInBounds_toArray, List.set_cons_zero, List.set_cons_succ]
    refine wpList_plain rfl (fun K hK => ?_)
    refine opr_putm (F := bF fun _ => 0) rfl rfl rfl r8 (by decide) info31 (fun _ => rfl) (fun i hi => by rw [if_pos (by omega), Nat.sub_zero]) ?_
    intro w9 hR9 r9
    refine hK _ _ ?_
    clear hK K
    refine wpList_plain rfl (fun K hK => ?_)
    refine opr_move (.inr rfl) (hK _ _ ?_)
    refine wpList_end rfl ?_
    simp only [Act.put, List.setIfInBounds_toArray, List.set_cons_zero, List.set_cons_succ]
    go_simp
    go_wp2
    exact bodyPost_ret (results_rt rfl rfl rfl r9 Tryd.underlying29 rfl info31) rfl ⟨_, rfl, NewT.rt hN hR9 (by omega), rfl⟩
  by_cases h2 : n ≤ i
  · clear h
    go_enter Tryd.func17, Tryd.ntmps17
    go_upto_region 2 with fail
    have r8 := rowIs_box (w.alloc (.cells (rowA 32 (bF leaf)) 29)) 29 32 (bF fun _ => 0)
    rw [World.size_alloc] at r8
    have hN : NewT w ((w.alloc (.cells (rowA 32 (bF leaf)) 29)).alloc (.cells (rowA 32 (bF fun _ => 0)) 29)) := (NewT.trans _ _ _ (NewT.alloc _ _) (NewT.alloc _ _))
    change Code.wp _ _ _ _ ((w.alloc (.cells (rowA 32 (bF leaf)) 29)).alloc (.cells (rowA 32 (bF fun _ => 0)) 29))
    generalize ((w.alloc (.cells (rowA 32 (bF leaf)) 29)).alloc (.cells (rowA 32 (bF fun _ => 0)) 29)) = W0 at r8 hN ⊢
    refine wp_region_lit ?_
    refine wpList_plain rfl (fun K hK => ?_)
    refine opr_build0 rfl (hK _ _ ?_)
    clear hK K
    simp only [Act.put, List.setIfInBounds_toArray, List.set_cons_zero, List.set_cons_succ]
    refine wpList_plain rfl (fun K hK => ?_)
    refine opr_putm (F := bF fun _ => 0) rfl rfl rfl r8 (by decide) info31 (fun _ => rfl) (fun i hi => by rw [if_pos (by omega), Nat.sub_zero]) ?_
    intro w9 hR9 r9
    refine hK _ _ ?_
    clear hK K
    refine wpList_plain rfl (fun K hK => ?_)
    refine opr_move (.inr rfl) (hK _ _ ?_)
    refine wpList_end rfl ?_
    simp only [Act.put, List.setIfInBounds_toArray, List.set_cons_zero, List.set_cons_succ]
    go_simp
    go_wp2
    exact bodyPost_ret (results_rt rfl rfl rfl r9 Tryd.underlying29 rfl info31) rfl ⟨_, rfl, NewT.rt hN hR9 (by omega), rfl⟩
  · have h3 : 1048576 < n := by omega
    clear h
    go_enter Tryd.func17, Tryd.ntmps17
    go_upto_region 2 with fail
    have r8 := rowIs_box (w.alloc (.cells (rowA 32 (bF leaf)) 29)) 29 32 (bF fun _ => 0)
    rw [World.size_alloc] at r8
    have hN : NewT w ((w.alloc (.cells (rowA 32 (bF leaf)) 29)).alloc (.cells (rowA 32 (bF fun _ => 0)) 29)) := (NewT.trans _ _ _ (NewT.alloc _ _) (NewT.alloc _ _))
    change Code.wp _ _ _ _ ((w.alloc (.cells (rowA 32 (bF leaf)) 29)).alloc (.cells (rowA 32 (bF fun _ => 0)) 29))
    generalize ((w.alloc (.cells (rowA 32 (bF leaf)) 29)).alloc (.cells (rowA 32 (bF fun _ => 0)) 29)) = W0 at r8 hN ⊢
    refine wp_region_lit ?_
    refine wpList_plain rfl (fun K hK => ?_)
    refine opr_build0 rfl (hK _ _ ?_)
    clear hK K
    simp only [Act.put, List.setIfInBounds_toArray, List.set_cons_zero, List.set_cons_succ]
    refine wpList_plain rfl (fun K hK => ?_)
    refine opr_putm (F := bF fun _ => 0) rfl rfl rfl r8 (by decide) info31 (fun _ => rfl) (fun i hi => by rw [if_pos (by omega), Nat.sub_zero]) ?_
    intro w9 hR9 r9
    refine hK _ _ ?_
    clear hK K
    refine wpList_plain rfl (fun K hK => ?_)
    refine opr_move (.inr rfl) (hK _ _ ?_)
    refine wpList_end rfl ?_
    simp only [Act.put, List.setIfInBounds_toArray, List.set_cons_zero, List.set_cons_succ]
    go_simp
    go_wp2
    exact bodyPost_ret (results_rt rfl rfl rfl r9 Tryd.underlying29 rfl info31) rfl ⟨_, rfl, NewT.rt hN hR9 (by omega), rfl⟩
theorem fold_next {H : Type} (node : H → H → H) (leaf : H) (fl : List Bool) (path : List H) (j : Nat) (b : Bool) (d : H) (hb : fl[j]? = some b) (hd : path[j]? = some d) : foldP node leaf (fl.take (j + 1)) (path.take (j + 1)) = if b then node (foldP node leaf (fl.take j) (path.take j)) d else node d (foldP node leaf (fl.take j) (path.take j)) := by
  have h1 : j < fl.length := (List.getElem?_eq_some_iff.1 hb).1
  have h2 : j < path.length := (List.getElem?_eq_some_iff.1 hd).1
  rw [List.take_add_one, List.take_add_one, hb, hd]
  exact foldP_app node (fl.take j) leaf (path.take j) b d (by rw [List.length_take, List.length_take]; omega)
set_option maxHeartbeats 16000000 in
theorem RComes_good {node : Hs → Hs → Hs} {z : Hs} (hX : TreeH node z) (leaf : Hs) (i0 n0 : Nat) (v : Value) (path : List Hs) (w : World) (hT : Tables w) (hv : RdH w v path) (hpl : path.length ≤ 1000) (hi : i0 < n0) (hn : n0 ≤ 1048576) (X : Hs) (b : Bool) (hok : (leftsM i0 n0).length = path.length → X = upP node leaf i0 n0 path ∧ b = true) (hno : (leftsM i0 n0).length ≠ path.length → X = (fun _ => 0) ∧ b = false) : Cv 17 #[.agg (rowA 32 (bF leaf)), .int .i64 (i0 : Int), .int .i64 (n0 : Int), v] w (svHq X b) := by
  unfold Cv
  have HT := Lib.hid hT
  have HV := Lib.hid hv
  have HOK := Lib.hid hok
  have HNO := Lib.hid hno
  have HPL := Lib.hid hpl
  have HI := Lib.hid hi
  have HN0 := Lib.hid hn
  have HFL : Hid ((leftsM i0 n0).length ≤ 20) := Lib.hid (leftsM_le 20 i0 n0 (by omega))
  obtain ⟨A, c, hvv⟩ := rdH_form hv
  subst hvv
  have t1 : ¬ (i0 : Int) < 0 := by omega
  have t2 : ¬ (n0 : Int) ≤ (i0 : Int) := by omega
  have t3 : ¬ (1048576 : Int) < (n0 : Int) := by omega
  clear hT hv hpl hi hn hok hno
  go_enter Tryd.func17, Tryd.ntmps17
  go_upto_region 3 with fail
  clear t1 t2 t3
  have r4 := (rowIs_box w 29 32 (bF leaf)).alloc (.cells (rowA 32 (bF fun _ => 0)) 29)
  have r8 := rowIs_box (w.alloc (.cells (rowA 32 (bF leaf)) 29)) 29 32 (bF fun _ => 0)
  rw [World.size_alloc] at r8
  have hN : NewT w ((w.alloc (.cells (rowA 32 (bF leaf)) 29)).alloc (.cells (rowA 32 (bF fun _ => 0)) 29)) := (NewT.trans _ _ _ (NewT.alloc _ _) (NewT.alloc _ _))
  change Code.wp _ _ _ _ ((w.alloc (.cells (rowA 32 (bF leaf)) 29)).alloc (.cells (rowA 32 (bF fun _ => 0)) 29))
  generalize ((w.alloc (.cells (rowA 32 (bF leaf)) 29)).alloc (.cells (rowA 32 (bF fun _ => 0)) 29)) = W0 at r4 r8 hN ⊢
  have R4 := Lib.hid r4
  have R8 := Lib.hid r8
  have HNW := Lib.hid hN
  clear r4 r8 hN
  go_wp2
  go_loopw [1, 2, 10] (fun a b o wr => ∃ (i n : Nat) (acc : List Bool), a = .int .i64 (i : Int) ∧ b = .int .i64 (n : Int) ∧ NewT W0 wr ∧ RdQ wr o acc ∧ i < n ∧ n ≤ 1048576 ∧ leftsM i0 n0 = leftsM i n ++ acc) (fun _ b _ _ => (intOf b).toNat)
  case atStart => exact ⟨i0, n0, [], rfl, rfl, NewT.refl _, rdQ_nil _, HI.out, HN0.out, by simp⟩
  case round =>
    obtain ⟨i, n, acc, rfl, rfl, hN, ho, hin, hn, heq⟩ := hrel
    have HN := Lib.hid hN
    have HQ := Lib.hid ho
    have HEQ := Lib.hid heq
    have HACC : Hid (acc.length ≤ 20) := Lib.hid (by have := HFL.out; rw [heq, List.length_append] at this; omega)
    clear hN ho heq
    by_cases h2 : 2 ≤ n
    · obtain ⟨s1, s2, _⟩ := splitN_lt n h2
      obtain ⟨k, hk⟩ : ∃ k, splitN n = k := ⟨_, rfl⟩
      have HK : Hid (∀ w, Cv 26 #[.int .i64 (n : Int)] w (.eq (.int .i64 (k : Int)))) := Lib.hid fun w => by
        have := RSplit_cv (n : Int) (by omega) w
        rwa [Int.toNat_natCast, hk] at this
      rw [hk] at s1 s2
      have it : (1 : Int) < (n : Int) := by omega
      go_upto_region 5 with fail
      refine wp_region_steps0 NewT [SV.eq (.int .i64 ((n : Int))), SV.eq (.int .i64 ((k : Int))), SV.eq (.int .i64 ((k : Int)))] [([(2, none)], none), ([(28, some 0)], none), ([(29, some 1)], none)] 76 3 rfl rfl (by kernel_rfl) NewT.trans (NewT.refl _) (Nat.le_of_ble_eq_true rfl) ⟨?_, ?_, ?_, trivial⟩ ?_
      · intro a wx hT hF K hK
        obtain ⟨f2, _⟩ := hF
        have f2 : a.tmps.getD 2 undef = .int .i64 ((n : Int)) := f2
        refine rely_wp rfl ?_
        exact opr_move (.inl rfl) (hK _ _ (NewT.refl _) f2)
      · intro a wx hT hF K hK
        obtain ⟨f28, _⟩ := hF
        have f28 : a.tmps.getD 28 undef = .int .i64 ((n : Int)) := f28
        refine rely_wp rfl ?_
        exact opr_cv (HK.out wx) rfl Tryd.func26 (by kernel_rfl) (by kernel_rfl) (by simp only [List.map_toArray, List.map_cons, List.map_nil, eval_tmp, f28]) hK
      · intro a wx hT hF K hK
        obtain ⟨f29, _⟩ := hF
        have f29 : a.tmps.getD 29 undef = .int .i64 ((k : Int)) := f29
        refine rely_wp rfl ?_
        exact opr_move (.inr rfl) (hK _ _ (NewT.refl _) f29)
      · intro w3 k3
        intro u h; obtain rfl := Eq.symm (h (by simp)); clear h
        intro u h; obtain rfl := Eq.symm (h (by simp)); clear h
        intro u h; obtain rfl := Eq.symm (h (by simp)); clear h
        refine relyEnd_nil rfl ?_
        refine wpList_end rfl ?_
        simp only [Act.put, List.setIfInBounds_toArray, List.set_cons_zero, List.set_cons_succ]
        go_simp
        replace HQ := Lib.hid (k3.qs HQ.out)
        replace HN := Lib.hid (NewT.trans _ _ _ HN.out k3)
        clear k3 HK
        go_upto_region 6 with fail
        by_cases hil : i < k
        · skip
          refine wp_region_lit ?_
          refine wpList_plain rfl (fun K hK => ?_)
          refine opr_move (.inl rfl) (hK _ _ ?_)
          clear hK K
          refine wpList_plain rfl (fun K hK => ?_)
          refine opr_move (.inl rfl) (hK _ _ ?_)
          clear hK K
          simp only [Act.put, List.setIfInBounds_toArray, List.set_cons_zero, List.set_cons_succ]
          refine wpList_plain rfl (fun K hK => ?_)
          refine opr_cmp (b := true) (.inr (.inr (.inr (.inl ⟨rfl, decide_eq_true (by omega)⟩)))) Tryd.underlying3 rfl rfl rfl (hK _ _ ?_)
          clear hK K
          simp only [Act.put, List.setIfInBounds_toArray, List.set_cons_zero, List.set_cons_succ]
          refine wpList_plain rfl (fun K hK => ?_)
          refine opr_val (s := Instr.buildSlice 48 1 #[(0, .bool true)]) (by simp [execOp]; rfl) (run_bsQ1 _ _) (hK _ _ ?_)
          clear hK K
          have ho := ownQ_one w3 true
          have hn := NewT.alloc w3 (.cells #[.bool true] 4)
          generalize w3.alloc (.cells #[.bool true] 4) = wb at ho hn ⊢
          obtain ⟨vs, evs⟩ : ∃ v, Value.slice (some ⟨w3.heap.size, 0, none⟩) 1 1 = v := ⟨_, rfl⟩
          rw [evs] at ho ⊢
          refine wpList_plain rfl (fun K hK => ?_)
          refine opr_move (.inl rfl) (hK _ _ ?_)
          clear hK K
          simp only [Act.put, List.setIfInBounds_toArray, List.set_cons_zero, List.set_cons_succ]
          refine wpList_plain rfl (fun K hK => ?_)
          obtain ⟨v', w', hrun, h2, h3⟩ := run_appQ ho (hn.qs HQ.out) (by have := HACC.out; simp; omega) hn.out.size 48
          refine opr_append rfl rfl rfl hrun (hK _ _ ?_)
          clear hK K
          refine wpList_plain rfl (fun K hK => ?_)
          refine opr_move (.inr rfl) (hK _ _ ?_)
          refine wpList_end rfl ?_
          simp only [Act.put, List.setIfInBounds_toArray, List.set_cons_zero, List.set_cons_succ]
          go_simp
          have hend : NewT w3 w' := NewT.of (hn.out.trans h3)
          have HU := Lib.hid (show RdQ w' v' (true :: acc) from h2.rd)
          clear hrun h2 h3 ho hn evs
          replace HN := Lib.hid (NewT.trans _ _ _ HN.out hend)
          clear hend
          have t7 : (i : Int) < (k : Int) := by omega
          go_wp2
          go_roundw
          case rel => exact ⟨i, k, _, by first | rfl | go_num, by first | rfl | go_num, HN.out, HU.out, by omega, by omega, by rw [HEQ.out, leftsM_l _ _ h2 (by rw [hk]; exact hil), hk]; simp⟩
          case measure => simp [intOf]; omega
        · skip
          refine wp_region_lit ?_
          refine wpList_plain rfl (fun K hK => ?_)
          refine opr_move (.inl rfl) (hK _ _ ?_)
          clear hK K
          refine wpList_plain rfl (fun K hK => ?_)
          refine opr_move (.inl rfl) (hK _ _ ?_)
          clear hK K
          simp only [Act.put, List.setIfInBounds_toArray, List.set_cons_zero, List.set_cons_succ]
          refine wpList_plain rfl (fun K hK => ?_)
          refine opr_cmp (b := false) (.inr (.inr (.inr (.inl ⟨rfl, decide_eq_false (by omega)⟩)))) Tryd.underlying3 rfl rfl rfl (hK _ _ ?_)
          clear hK K
          simp only [Act.put, List.setIfInBounds_toArray, List.set_cons_zero, List.set_cons_succ]
          refine wpList_plain rfl (fun K hK => ?_)
          refine opr_val (s := Instr.buildSlice 48 1 #[(0, .bool false)]) (by simp [execOp]; rfl) (run_bsQ1 _ _) (hK _ _ ?_)
          clear hK K
          have ho := ownQ_one w3 false
          have hn := NewT.alloc w3 (.cells #[.bool false] 4)
          generalize w3.alloc (.cells #[.bool false] 4) = wb at ho hn ⊢
          obtain ⟨vs, evs⟩ : ∃ v, Value.slice (some ⟨w3.heap.size, 0, none⟩) 1 1 = v := ⟨_, rfl⟩
          rw [evs] at ho ⊢
          refine wpList_plain rfl (fun K hK => ?_)
          refine opr_move (.inl rfl) (hK _ _ ?_)
          clear hK K
          simp only [Act.put, List.setIfInBounds_toArray, List.set_cons_zero, List.set_cons_succ]
          refine wpList_plain rfl (fun K hK => ?_)
          obtain ⟨v', w', hrun, h2, h3⟩ := run_appQ ho (hn.qs HQ.out) (by have := HACC.out; simp; omega) hn.out.size 48
          refine opr_append rfl rfl rfl hrun (hK _ _ ?_)
          clear hK K
          refine wpList_plain rfl (fun K hK => ?_)
          refine opr_move (.inr rfl) (hK _ _ ?_)
          refine wpList_end rfl ?_
          simp only [Act.put, List.setIfInBounds_toArray, List.set_cons_zero, List.set_cons_succ]
          go_simp
          have hend : NewT w3 w' := NewT.of (hn.out.trans h3)
          have HU := Lib.hid (show RdQ w' v' (false :: acc) from h2.rd)
          clear hrun h2 h3 ho hn evs
          replace HN := Lib.hid (NewT.trans _ _ _ HN.out hend)
          clear hend
          have t7 : ¬ (i : Int) < (k : Int) := by omega
          go_wp2
          go_roundw
          case rel => exact ⟨i - k, n - k, _, by first | rfl | go_num, by first | rfl | go_num, HN.out, HU.out, by omega, by omega, by rw [HEQ.out, leftsM_r _ _ h2 (by rw [hk]; exact hil), hk]; simp⟩
          case measure => simp [intOf]; omega
    · have it : ¬ (1 : Int) < (n : Int) := by omega
      have hfl : leftsM i0 n0 = acc := by rw [HEQ.out, leftsM_few _ _ (by omega), List.nil_append]
      have HFA := Lib.hid hfl
      clear hfl
      replace R4 := Lib.hid (HN.out.row R4.out)
      replace R8 := Lib.hid (HN.out.row R8.out)
      replace HNW := Lib.hid (NewT.trans _ _ _ HNW.out HN.out)
      obtain ⟨A1, c1, hq⟩ := rdQ_form HQ.out
      subst hq
      by_cases hlen : acc.length = path.length
      · obtain ⟨hX1, hb1⟩ := HOK.out (by rw [HFA.out]; exact hlen)
        have HX1 := Lib.hid hX1
        have HB1 := Lib.hid hb1
        have t11 : ((acc.length : Int) != (path.length : Int)) = false := by rw [hlen]; simp
        have HLN := Lib.hid hlen
        clear hX1 hb1 hlen
        go_upto_region 13 with fail
        clear t11
        refine wp_region_lit ?_
        refine wpList_plain rfl (fun K hK => ?_)
        refine opr_load_hash rfl rfl R4.out (hK _ _ ?_)
        clear hK K
        simp only [Act.put, List.setIfInBounds_toArray, List.set_cons_zero, List.set_cons_succ]
        refine wpList_new (n := 32) rfl rfl rfl rfl rfl rfl (by simp) run_alloc_hash info31 (fun _ => rfl) rfl ?_
        intro w5 hn5 r12
        refine wpList_end rfl ?_
        simp only [Act.put, List.setIfInBounds_toArray, List.set_cons_zero, List.set_cons_succ]
        go_simp
        obtain ⟨p12, hp12⟩ : ∃ p, wr.heap.size = p := ⟨_, rfl⟩
        rw [hp12] at r12 ⊢
        have HR12 := Lib.hid r12
        have HN5 := Lib.hid hn5
        have HPW : Hid (wr.heap.size ≤ p12) := Lib.hid (by omega)
        have HP8 : Hid (w.heap.size + 1 < p12) := Lib.hid (by have := R8.out.lt; omega)
        clear hn5 r12 hp12
        go_wp2
        go_loopw [13] (fun a ws => ∃ j : Nat, j ≤ path.length ∧ a = .int .i64 (j : Int) ∧ NewT wr ws ∧ ws.rowIs p12 29 32 (bF (foldP node leaf (acc.take j) (path.take j)))) (fun a _ => path.length - (intOf a).toNat)
        case atStart => exact ⟨0, by omega, rfl, HN5.out, by rw [List.take_zero, List.take_zero]; exact HR12.out⟩
        case round =>
          obtain ⟨j, hj, rfl, hN2, r12⟩ := hrel
          have HN2 := Lib.hid hN2
          have R12 := Lib.hid r12
          have HNr := Lib.hid (NewT.trans _ _ _ HNW.out hN2)
          have HVr := Lib.hid (HNr.out.hs HV.out)
          have HTr := Lib.hid (HNr.out.tables HT.out)
          have HQr := Lib.hid (hN2.qs HQ.out)
          have R8r := Lib.hid (hN2.row R8.out)
          clear hN2 r12
          by_cases hjl : j < path.length
          · have it : (j : Int) < (path.length : Int) := by omega
            have hjb : path.length ≤ 1000 := HPL.out
            obtain ⟨d, hd⟩ : ∃ d, path[j]? = some d := ⟨_, List.getElem?_eq_getElem hjl⟩
            have HD := Lib.hid hd
            obtain ⟨bj, hbj⟩ : ∃ b, acc[j]? = some b := ⟨_, List.getElem?_eq_getElem (by have := HLN.out; omega)⟩
            have HFJ := Lib.hid hbj
            clear hd hbj
            go_upto_region 17 with fail
            refine wp_region_lit ?_
            refine wpList_plain rfl (fun K hK => ?_)
            refine opr_move (.inl rfl) (hK _ _ ?_)
            clear hK K
            refine wpList_plain rfl (fun K hK => ?_)
            refine opr_move (.inl rfl) (hK _ _ ?_)
            clear hK K
            simp only [Act.put, List.setIfInBounds_toArray, List.set_cons_zero, List.set_cons_succ]
            refine wp_idxQ HFJ.out rfl rfl rfl rfl (by simp) rfl HQr.out rfl ?_
            intro p61
            refine wpList_end rfl ?_
            simp only [Act.put, List.setIfInBounds_toArray, List.set_cons_zero, List.set_cons_succ]
            go_simp
            cases bj
            · go_upto_region 19 with fail
              obtain ⟨v, ev⟩ : ∃ v, Value.slice A path.length c = v := ⟨_, rfl⟩
              rw [ev] at HVr ⊢
              refine wp_region_rely (NewT) [SV.eq (v), SV.eq (.int .i64 ((j : Int))), svP (d), SV.eq (.agg (rowA 32 (bF (d)))), SV.eq (.agg (rowA 32 (bF (foldP node leaf (acc.take j) (path.take j))))), SV.eq (.agg (rowA 32 (bF (node (d) (foldP node leaf (acc.take j) (path.take j))))))] [([(3, none)], none), ([(13, none)], none), ([(69, some 0), (70, some 1)], none), ([(71, some 2)], none), ([(12, none)], none), ([(72, some 3), (73, some 4)], none)] 76 rfl (by kernel_rfl) rfl (by kernel_rfl) (by kernel_rfl) rfl NewT.trans (NewT.drew _) (Nat.le_of_ble_eq_true rfl) ⟨?_, ?_, ?_, ?_, ?_, ?_, trivial⟩ ?_
              · intro a wx hT hF K hK
                obtain ⟨f3, _⟩ := hF
                have f3 : a.tmps.getD 3 undef = v := f3
                refine rely_wp rfl ?_
                exact opr_move (.inl rfl) (hK _ _ (NewT.refl _) f3)
              · intro a wx hT hF K hK
                obtain ⟨f13, _⟩ := hF
                have f13 : a.tmps.getD 13 undef = .int .i64 ((j : Int)) := f13
                refine rely_wp rfl ?_
                exact opr_move (.inl rfl) (hK _ _ (NewT.refl _) f13)
              · intro a wx hT hF K hK
                obtain ⟨f69, f70, _⟩ := hF
                have f69 : a.tmps.getD 69 undef = v := f69
                have f70 : a.tmps.getD 70 undef = .int .i64 ((j : Int)) := f70
                refine rely_wp rfl ?_
                exact opr_idxH (i := j) (d := d) (HD.out) (rfl) rfl (by rw [eval_tmp, f69]; exact (hT.hs HVr.out)) f70 (fun v hv => hK v _ (NewT.refl _) hv)
              · intro a wx hT hF K hK
                obtain ⟨f71, _⟩ := hF
                replace f71 := show (svP (d)).pred (a.tmps.getD 71 undef) wx from f71
                refine rely_wp rfl ?_
                exact opr_ldP rfl f71 (hK _ _ (NewT.refl _) rfl)
              · intro a wx hT hF K hK
                obtain ⟨f12, _⟩ := hF
                have f12 : a.tmps.getD 12 undef = .pointer (some ⟨p12, 0, none⟩) := f12
                refine rely_wp rfl ?_
                exact opr_load_hash rfl f12 (hT.row R12.out) (hK _ _ (NewT.refl _) rfl)
              · intro a wx hT hF K hK
                obtain ⟨f72, f73, _⟩ := hF
                have f72 : a.tmps.getD 72 undef = .agg (rowA 32 (bF (d))) := f72
                have f73 : a.tmps.getD 73 undef = .agg (rowA 32 (bF (foldP node leaf (acc.take j) (path.take j)))) := f73
                refine rely_wp rfl ?_
                exact opr_cv (RNode_cv hX (d) (foldP node leaf (acc.take j) (path.take j)) wx (hT.tables HTr.out)) rfl Tryd.func32 (by kernel_rfl) (by kernel_rfl) (by simp only [List.map_toArray, List.map_cons, List.map_nil, eval_tmp, f72, f73]) hK
              · intro w8 hT
                intro u h; obtain rfl := Eq.symm (h (by simp)); clear h
                intro u h; obtain rfl := Eq.symm (h (by simp)); clear h
                intro _ _
                intro u h; obtain rfl := Eq.symm (h (by simp)); clear h
                intro u h; obtain rfl := Eq.symm (h (by simp)); clear h
                intro u h; obtain rfl := Eq.symm (h (by simp)); clear h
                refine relyEnd_nil rfl ?_
                simp only [Act.put, List.setIfInBounds_toArray, List.set_cons_zero, List.set_cons_succ]
                subst ev
                refine opr_putm (F := bF (node d (foldP node leaf (acc.take j) (path.take j)))) rfl rfl rfl (hT.row R12.out) (by decide) info31 (fun _ => rfl) (fun i hi => by rw [if_pos (by omega), Nat.sub_zero]) ?_
                intro w9 hR9 r9
                go_simp
                go_wp2
                go_roundw
                case rel => exact ⟨j + 1, by omega, by go_num, NewT.rt (NewT.trans _ _ _ HN2.out hT) hR9 (by have := HPW.out; omega), by rw [fold_next node leaf acc path j false d HFJ.out HD.out]; exact r9⟩
                case measure => simp [intOf]; omega
            · go_upto_region 18 with fail
              obtain ⟨v, ev⟩ : ∃ v, Value.slice A path.length c = v := ⟨_, rfl⟩
              rw [ev] at HVr ⊢
              refine wp_region_rely (NewT) [SV.eq (.agg (rowA 32 (bF (foldP node leaf (acc.take j) (path.take j))))), SV.eq (v), SV.eq (.int .i64 ((j : Int))), svP (d), SV.eq (.agg (rowA 32 (bF (d)))), SV.eq (.agg (rowA 32 (bF (node (foldP node leaf (acc.take j) (path.take j)) (d)))))] [([(12, none)], none), ([(3, none)], none), ([(13, none)], none), ([(64, some 1), (65, some 2)], none), ([(66, some 3)], none), ([(63, some 0), (67, some 4)], none)] 76 rfl (by kernel_rfl) rfl (by kernel_rfl) (by kernel_rfl) rfl NewT.trans (NewT.drew _) (Nat.le_of_ble_eq_true rfl) ⟨?_, ?_, ?_, ?_, ?_, ?_, trivial⟩ ?_
              · intro a wx hT hF K hK
                obtain ⟨f12, _⟩ := hF
                have f12 : a.tmps.getD 12 undef = .pointer (some ⟨p12, 0, none⟩) := f12
                refine rely_wp rfl ?_
                exact opr_load_hash rfl f12 (hT.row R12.out) (hK _ _ (NewT.refl _) rfl)
              · intro a wx hT hF K hK
                obtain ⟨f3, _⟩ := hF
                have f3 : a.tmps.getD 3 undef = v := f3
                refine rely_wp rfl ?_
                exact opr_move (.inl rfl) (hK _ _ (NewT.refl _) f3)
              · intro a wx hT hF K hK
                obtain ⟨f13, _⟩ := hF
                have f13 : a.tmps.getD 13 undef = .int .i64 ((j : Int)) := f13
                refine rely_wp rfl ?_
                exact opr_move (.inl rfl) (hK _ _ (NewT.refl _) f13)
              · intro a wx hT hF K hK
                obtain ⟨f64, f65, _⟩ := hF
                have f64 : a.tmps.getD 64 undef = v := f64
                have f65 : a.tmps.getD 65 undef = .int .i64 ((j : Int)) := f65
                refine rely_wp rfl ?_
                exact opr_idxH (i := j) (d := d) (HD.out) (rfl) rfl (by rw [eval_tmp, f64]; exact (hT.hs HVr.out)) f65 (fun v hv => hK v _ (NewT.refl _) hv)
              · intro a wx hT hF K hK
                obtain ⟨f66, _⟩ := hF
                replace f66 := show (svP (d)).pred (a.tmps.getD 66 undef) wx from f66
                refine rely_wp rfl ?_
                exact opr_ldP rfl f66 (hK _ _ (NewT.refl _) rfl)
              · intro a wx hT hF K hK
                obtain ⟨f63, f67, _⟩ := hF
                have f63 : a.tmps.getD 63 undef = .agg (rowA 32 (bF (foldP node leaf (acc.take j) (path.take j)))) := f63
                have f67 : a.tmps.getD 67 undef = .agg (rowA 32 (bF (d))) := f67
                refine rely_wp rfl ?_
                exact opr_cv (RNode_cv hX (foldP node leaf (acc.take j) (path.take j)) (d) wx (hT.tables HTr.out)) rfl Tryd.func32 (by kernel_rfl) (by kernel_rfl) (by simp only [List.map_toArray, List.map_cons, List.map_nil, eval_tmp, f63, f67]) hK
              · intro w8 hT
                intro u h; obtain rfl := Eq.symm (h (by simp)); clear h
                intro u h; obtain rfl := Eq.symm (h (by simp)); clear h
                intro u h; obtain rfl := Eq.symm (h (by simp)); clear h
                intro _ _
                intro u h; obtain rfl := Eq.symm (h (by simp)); clear h
                intro u h; obtain rfl := Eq.symm (h (by simp)); clear h
                refine relyEnd_nil rfl ?_
                simp only [Act.put, List.setIfInBounds_toArray, List.set_cons_zero, List.set_cons_succ]
                subst ev
                refine opr_putm (F := bF (node (foldP node leaf (acc.take j) (path.take j)) d)) rfl rfl rfl (hT.row R12.out) (by decide) info31 (fun _ => rfl) (fun i hi => by rw [if_pos (by omega), Nat.sub_zero]) ?_
                intro w9 hR9 r9
                go_simp
                go_wp2
                go_roundw
                case rel => exact ⟨j + 1, by omega, by go_num, NewT.rt (NewT.trans _ _ _ HN2.out hT) hR9 (by have := HPW.out; omega), by rw [fold_next node leaf acc path j true d HFJ.out HD.out]; exact r9⟩
                case measure => simp [intOf]; omega
          · obtain rfl : j = path.length := by omega
            have it : ¬ (path.length : Int) < (path.length : Int) := by omega
            go_upto_region 20 with fail
            refine wp_region_lit ?_
            refine wpList_plain rfl (fun K hK => ?_)
            refine opr_load_hash rfl rfl R12.out (hK _ _ ?_)
            clear hK K
            simp only [Act.put, List.setIfInBounds_toArray, List.set_cons_zero, List.set_cons_succ]
            refine wpList_plain rfl (fun K hK => ?_)
            refine opr_putm (F := bF _) rfl rfl rfl R8r.out (by decide) info31 (fun _ => rfl) (fun i hi => by rw [if_pos (by omega), Nat.sub_zero]) ?_
            intro w9 hR9 r9
            refine hK _ _ ?_
            clear hK K
            refine wpList_plain rfl (fun K hK => ?_)
            refine opr_move (.inr rfl) (hK _ _ ?_)
            refine wpList_end rfl ?_
            simp only [Act.put, List.setIfInBounds_toArray, List.set_cons_zero, List.set_cons_succ]
            go_simp
            go_wp2
            refine bodyPost_ret (results_rt rfl rfl rfl r9 Tryd.underlying29 rfl info31) rfl ⟨_, rfl, NewT.rt HNr.out hR9 (by omega), ?_⟩
            show _ = _
            rw [HX1.out, HB1.out]
            unfold upP
            rw [HFA.out, List.take_length, ← HLN.out, List.take_length]
            rfl
      · obtain ⟨hX1, hb1⟩ := HNO.out (by rw [HFA.out]; exact hlen)
        have HX1 := Lib.hid hX1
        have HB1 := Lib.hid hb1
        have t11 : ((acc.length : Int) != (path.length : Int)) = true := by rw [bne_iff_ne]; omega
        clear hX1 hb1
        go_upto_region 12 with fail
        clear t11
        refine wp_region_lit ?_
        refine wpList_plain rfl (fun K hK => ?_)
        refine opr_build0 rfl (hK _ _ ?_)
        clear hK K
        simp only [Act.put, List.setIfInBounds_toArray, List.set_cons_zero, List.set_cons_succ]
        refine wpList_plain rfl (fun K hK => ?_)
        refine opr_putm (F := bF fun _ => 0) rfl rfl rfl R8.out (by decide) info31 (fun _ => rfl) (fun i hi => by rw [if_pos (by omega), Nat.sub_zero]) ?_
        intro w9 hR9 r9
        refine hK _ _ ?_
        clear hK K
        refine wpList_plain rfl (fun K hK => ?_)
        refine opr_move (.inr rfl) (hK _ _ ?_)
        refine wpList_end rfl ?_
        simp only [Act.put, List.setIfInBounds_toArray, List.set_cons_zero, List.set_cons_succ]
        go_simp
        go_wp2
        refine bodyPost_ret (results_rt rfl rfl rfl r9 Tryd.underlying29 rfl info31) rfl ⟨_, rfl, NewT.rt HNW.out hR9 (by omega), ?_⟩
        show _ = _
        rw [HX1.out, HB1.out]
        rfl
theorem RComes_cv {node : Hs → Hs → Hs} {z : Hs} (hX : TreeH node z) (leaf : Hs) (i n : Int) (v : Value) (path : List Hs) (w : World) (hT : Tables w) (hv : RdH w v path) (hpl : path.length ≤ 1000) : Cv 17 #[.agg (rowA 32 (bF leaf)), .int .i64 i, .int .i64 n, v] w (svHq (comesM node (fun _ => 0) leaf i n path) (okP i n path.length)) := by
  by_cases h : i < 0 ∨ n ≤ i ∨ 1048576 < n
  · have e : okP i n path.length = false := by
      unfold okP
      rcases h with h | h | h
      · simp [show ¬ 0 ≤ i by omega]
      · simp [show ¬ i < n by omega]
      · simp [show ¬ n ≤ 1048576 by omega]
    unfold comesM
    rw [e, if_neg (by decide)]
    exact RComes_bad leaf i n v w h
  · obtain ⟨i, rfl⟩ : ∃ k : Nat, i = (k : Int) := ⟨i.toNat, by omega⟩
    obtain ⟨n, rfl⟩ : ∃ k : Nat, n = (k : Int) := ⟨n.toNat, by omega⟩
    have e : okP (i : Int) (n : Int) path.length = decide ((leftsM i n).length = path.length) := by
      unfold okP; rw [Int.toNat_natCast, Int.toNat_natCast]; simp [show (i : Int) < n by omega, show (n : Int) ≤ 1048576 by omega]
    refine RComes_good hX leaf i n v path w hT hv hpl (by omega) (by omega) _ _ (fun h1 => ?_) (fun h1 => ?_)
    · unfold comesM; rw [e, decide_eq_true h1, Int.toNat_natCast, Int.toNat_natCast]; exact ⟨rfl, rfl⟩
    · unfold comesM; rw [e, decide_eq_false h1]; exact ⟨rfl, rfl⟩
end Go.Proofs.YtoigjcadncecpaaDoor
/- The document's answer for layer 6: In, walked. -/
namespace Go.Proofs.YtoigjcadncecpaaDoor
open Go Go.RowKit
set_option maxRecDepth 8000
set_option linter.all false
set_option maxHeartbeats 2000000 in
theorem RIn_of (leaf root d : Hs) (b : Bool) (i n : Int) (v : Value) (w : World) (hc : ∀ w', NewT w w' → Cv 17 #[.agg (rowA 32 (bF leaf)), .int .i64 i, .int .i64 n, v] w' (svHq d b)) : Cv 21 #[.agg (rowA 32 (bF leaf)), .int .i64 i, .int .i64 n, v, .agg (rowA 32 (bF root))] w (.eq (.bool (b && eqH d root))) := by
  unfold Cv
  have HC := Lib.hid hc
  clear hc
  go_enter Tryd.func21, Tryd.ntmps21
  go_upto_region 1 with fail
  have r5 := (rowIs_box w 29 32 (bF leaf)).alloc (.cells (rowA 32 (bF root)) 29)
  have r9 := rowIs_box (w.alloc (.cells (rowA 32 (bF leaf)) 29)) 29 32 (bF root)
  rw [World.size_alloc] at r9
  have hN : NewT w ((w.alloc (.cells (rowA 32 (bF leaf)) 29)).alloc (.cells (rowA 32 (bF root)) 29)) := (NewT.trans _ _ _ (NewT.alloc _ _) (NewT.alloc _ _))
  change Code.wp _ _ _ _ ((w.alloc (.cells (rowA 32 (bF leaf)) 29)).alloc (.cells (rowA 32 (bF root)) 29))
  generalize ((w.alloc (.cells (rowA 32 (bF leaf)) 29)).alloc (.cells (rowA 32 (bF root)) 29)) = W0 at r5 r9 hN ⊢
  have R9 := Lib.hid r9
  have HN := Lib.hid hN
  have h16 := HC.out W0 hN
  unfold Cv at h16
  clear hN HC r9
  refine wp_region_lit ?_
  refine wpList_plain rfl (fun K hK => ?_)
  refine opr_load_hash rfl rfl r5 (hK _ _ ?_)
  clear hK K
  refine wpList_plain rfl (fun K hK => ?_)
  refine opr_move (.inl rfl) (hK _ _ ?_)
  clear hK K
  refine wpList_plain rfl (fun K hK => ?_)
  refine opr_move (.inl rfl) (hK _ _ ?_)
  clear hK K
  refine wpList_plain rfl (fun K hK => ?_)
  refine opr_move (.inl rfl) (hK _ _ ?_)
  clear hK K
  simp only [Act.put, List.setIfInBounds_toArray, List.set_cons_zero, List.set_cons_succ]
  refine wpList_plain rfl (fun K hK => ?_)
  refine opr_call (vs := #[.agg (rowA 32 (bF leaf)), .int .i64 i, .int .i64 n, v]) rfl Tryd.func17 (by kernel_rfl) (by kernel_rfl) (by simp only [List.map_toArray, List.map_cons, List.map_nil]; rfl) (h16.mono ?_)
  clear h16
  rintro e w4 ⟨_, rfl, hN4, rfl⟩
  refine ⟨_, rfl, hK _ _ ?_⟩
  clear hK K
  refine wpList_plain rfl (fun K hK => ?_)
  refine opr_move (.inl rfl) (hK _ _ ?_)
  clear hK K
  refine wpList_plain rfl (fun K hK => ?_)
  refine opr_ext rfl rfl rfl (hK _ _ ?_)
  clear hK K
  refine wpList_plain rfl (fun K hK => ?_)
  refine opr_ext rfl rfl rfl (hK _ _ ?_)
  clear hK K
  simp only [Act.put, List.setIfInBounds_toArray, List.set_cons_zero, List.set_cons_succ]
  refine wpList_new (n := 32) rfl rfl rfl rfl rfl rfl (by simp) run_alloc_hash info31 (fun _ => rfl) rfl ?_
  intro w5 hn5 r11
  refine wpList_plain rfl (fun K hK => ?_)
  refine opr_move (.inr rfl) (hK _ _ ?_)
  refine wpList_end rfl ?_
  simp only [Act.put, List.setIfInBounds_toArray, List.set_cons_zero, List.set_cons_succ]
  go_simp
  obtain ⟨p11, hp11⟩ : ∃ p, w4.heap.size = p := ⟨_, rfl⟩
  rw [hp11] at r11 ⊢
  have R11 := Lib.hid r11
  replace R9 := Lib.hid (hn5.row (hN4.row R9.out))
  replace HN := Lib.hid (NewT.trans _ _ _ HN.out (NewT.trans _ _ _ hN4 hn5))
  clear r11 hN4 hn5 hp11 r5
  go_upto_region 2 with fail
  refine wp_region_steps0 NewT [SV.eq (.bool (b)), SV.eq (.bool (b)), svIf b (SV.eq (.agg (rowA 32 (bF (d))))), svIf b (SV.eq (.agg (rowA 32 (bF (root))))), svIf b (SV.eq (.bool (eqH (d) (root)))), SV.eq (.bool (b && (eqH (d) (root)))), SV.eq (.bool (b && (eqH (d) (root))))] [([(12, none)], none), ([(21, some 0)], none), ([(11, none), (22, some 1)], some (22, true)), ([(9, none), (22, some 1)], some (22, true)), ([(23, some 2), (24, some 3), (22, some 1)], some (22, true)), ([(22, some 1), (25, some 4)], none), ([(26, some 5)], none)] 27 7 rfl rfl (by kernel_rfl) NewT.trans (NewT.refl _) (Nat.le_of_ble_eq_true rfl) ⟨?_, ?_, ?_, ?_, ?_, ?_, ?_, trivial⟩ ?_
  · intro a wx hT hF K hK
    obtain ⟨f12, _⟩ := hF
    have f12 : a.tmps.getD 12 undef = .bool (b) := f12
    refine rely_wp rfl ?_
    exact opr_move (.inl rfl) (hK _ _ (NewT.refl _) f12)
  · intro a wx hT hF K hK
    obtain ⟨f21, _⟩ := hF
    have f21 : a.tmps.getD 21 undef = .bool (b) := f21
    refine rely_wp rfl ?_
    exact opr_move (.inl rfl) (hK _ _ (NewT.refl _) f21)
  · intro a wx hT hF K hK
    obtain ⟨f11, f22, _⟩ := hF
    have f11 : a.tmps.getD 11 undef = .pointer (some ⟨p11, 0, none⟩) := f11
    have f22 : a.tmps.getD 22 undef = .bool (b) := f22
    refine rely_if (rely_gt f22) (NewT.refl _) hK (fun hE hK => ?_)
    exact opr_load_hash rfl f11 (hT.row R11.out) (hK _ _ (NewT.refl _) rfl)
  · intro a wx hT hF K hK
    obtain ⟨f9, f22, _⟩ := hF
    have f9 : a.tmps.getD 9 undef = .pointer (some ⟨w.heap.size + 1, 0, none⟩) := f9
    have f22 : a.tmps.getD 22 undef = .bool (b) := f22
    refine rely_if (rely_gt f22) (NewT.refl _) hK (fun hE hK => ?_)
    exact opr_load_hash rfl f9 (hT.row R9.out) (hK _ _ (NewT.refl _) rfl)
  · intro a wx hT hF K hK
    obtain ⟨f23, f24, f22, _⟩ := hF
    have f23 : b = true → a.tmps.getD 23 undef = .agg (rowA 32 (bF (d))) := f23
    have f24 : b = true → a.tmps.getD 24 undef = .agg (rowA 32 (bF (root))) := f24
    have f22 : a.tmps.getD 22 undef = .bool (b) := f22
    refine rely_if (rely_gt f22) (NewT.refl _) hK (fun hE hK => ?_)
    exact opr_eql_hash (b := eqH (d) (root)) rfl (f23 hE) (f24 hE) (rfl) (hK _ _ (NewT.refl _) rfl)
  · intro a wx hT hF K hK
    obtain ⟨f22, f25, _⟩ := hF
    have f22 : a.tmps.getD 22 undef = .bool (b) := f22
    have f25 : b = true → a.tmps.getD 25 undef = .bool (eqH (d) (root)) := f25
    refine rely_wp rfl ?_
    exact opr_pick_b rfl f22 (fun hb => hK _ _ (NewT.refl _) (pk_and1 (f25 hb) hb)) (fun hb => hK _ _ (NewT.refl _) (pk_and0 hb))
  · intro a wx hT hF K hK
    obtain ⟨f26, _⟩ := hF
    have f26 : a.tmps.getD 26 undef = .bool (b && (eqH (d) (root))) := f26
    refine rely_wp rfl ?_
    exact opr_move (.inr rfl) (hK _ _ (NewT.refl _) f26)
  · intro w6 k6
    intro u h; obtain rfl := Eq.symm (h (by simp)); clear h
    intro u h; obtain rfl := Eq.symm (h (by simp)); clear h
    intro _ _
    intro _ _
    intro _ _
    intro u h; obtain rfl := Eq.symm (h (by simp)); clear h
    intro u h; obtain rfl := Eq.symm (h (by simp)); clear h
    refine relyEnd_nil rfl ?_
    refine wpList_end rfl ?_
    simp only [Act.put, List.setIfInBounds_toArray, List.set_cons_zero, List.set_cons_succ]
    go_simp
    go_wp2
    go_ret
    exact ⟨_, rfl, NewT.trans _ _ _ HN.out k6, rfl⟩
theorem RIn_cv {node : Hs → Hs → Hs} {z : Hs} (hX : TreeH node z) (leaf root : Hs) (i n : Int) (v : Value) (path : List Hs) (w : World) (hT : Tables w) (hv : RdH w v path) (hpl : path.length ≤ 1000) : Cv 21 #[.agg (rowA 32 (bF leaf)), .int .i64 i, .int .i64 n, v, .agg (rowA 32 (bF root))] w (.eq (.bool (okP i n path.length && eqH (comesM node (fun _ => 0) leaf i n path) root))) :=
  RIn_of leaf root _ _ i n v w fun w' hN => RComes_cv hX leaf i n v path w' (hN.tables hT) (hN.hs hv) hpl
end Go.Proofs.YtoigjcadncecpaaDoor
/- A region that draws its order, some of whose operations turn a state one behind the other; the state may speak of the frame's slots (of variables that the region itself makes). No program is named here. -/
namespace Go.Proofs.YtoigjcadncecpaaDoor
open Go Go.RowKit
set_option maxRecDepth 8000
set_option linter.all false

/-- One operation: it turns phase k into the next one (some k), or keeps whatever phase there is (none); a phase speaks of the frame too. -/
def relyStepA (P : Program) (Q : Exit → Act → World → Prop) (T : World → World → Prop) (V : List (SV T)) (J : Nat → Act → World → Prop) (a0 : Act) (w0 : World) (o : Oper) (dp : List (Tmp × Option Nat)) (g : Option (Tmp × Bool)) (c : SV T) : Option Nat → Prop
  | none => ∀ (a : Act) (w : World), T w0 w → relyFacts V a0 a w dp → ∀ K : Act → World → Prop, (∀ v w', T w w' → (∀ k, J k a w → J k (a.put o.dst v) w') → c.pred v w' → K (a.put o.dst v) w') →
    if relyGuard g a then o.wp P a w K Q else K (a.put o.dst undef) w
  | some k => ∀ (a : Act) (w : World), T w0 w → relyFacts V a0 a w dp → J k a w → ∀ K : Act → World → Prop, (∀ v w', T w w' → J (k + 1) (a.put o.dst v) w' → c.pred v w' → K (a.put o.dst v) w') →
    if relyGuard g a then o.wp P a w K Q else K (a.put o.dst undef) w
def relyAllA (P : Program) (Q : Exit → Act → World → Prop) (T : World → World → Prop) (V : List (SV T)) (J : Nat → Act → World → Prop) (a0 : Act) (w0 : World) : List Oper → Deps → List (SV T) → List (Option Nat) → Prop
  | [], _, _, _ => True
  | o :: r, (dp, g) :: D, c :: C, s :: S => relyStepA P Q T V J a0 w0 o dp g c s ∧ relyAllA P Q T V J a0 w0 r D C S
  | _, _, _, _ => False
section
variable {P : Program} {ops : Array Oper} {Q : Exit → Act → World → Prop} {T : World → World → Prop} {V : List (SV T)} {J : Nat → Act → World → Prop} {a0 : Act} {w0 : World} {n : Nat} {D : Deps} {S : List (Option Nat)} {path : List Nat} {init : List Oper} {last : Oper}
theorem relyAllA_at : ∀ (l : List Oper) (D : Deps) (C : List (SV T)) (S : List (Option Nat)) (k : Nat) (o : Oper) dp g, relyAllA P Q T V J a0 w0 l D C S → l[k]? = some o → D[k]? = some (dp, g) → relyStepA P Q T V J a0 w0 o dp g (C.getD k SV.any) (S.getD k none)
  | [], _, _, _, _, _, _, _, _, h, _ => by simp at h
  | x :: r, [], _, _, _, _, _, _, h, _, _ => h.elim
  | x :: r, y :: D, [], _, _, _, _, _, h, _, _ => h.elim
  | x :: r, y :: D, c :: C, [], _, _, _, _, h, _, _ => h.elim
  | x :: r, (dp, g) :: D, c :: C, s :: S, 0, o, dp', g', h, ho, hD => by
    simp at ho hD
    obtain ⟨rfl, rfl⟩ := hD
    subst ho
    exact h.1
  | x :: r, (dp, g) :: D, c :: C, s :: S, k + 1, o, dp', g', h, ho, hD => by
    have := relyAllA_at r D C S k o dp' g' h.2 (by simpa using ho) (by simpa using hD)
    simpa using this
/-- So many of the path's operations have come up. -/
structure PhInvA (path : List Nat) (J : Nat → Act → World → Prop) (listed : Array Bool) (a : Act) (w : World) (k : Nat) : Prop where
  le : k ≤ path.length
  done : ∀ j i, j < k → path[j]? = some i → listed.getD i false = true
  left : ∀ j i, k ≤ j → path[j]? = some i → listed.getD i false = false
  now : J k a w
theorem phA_other {listed : Array Bool} {a a' : Act} {w w' : World} {k i : Nat} (h : PhInvA path J listed a w k) (hi : i ∉ path) (hJ : J k a' w') : PhInvA path J (listed.setIfInBounds i true) a' w' k := by
  have hne : ∀ (j x : Nat), path[j]? = some x → i ≠ x := fun j x hx e => hi (e ▸ List.mem_of_getElem? hx)
  exact ⟨h.le, fun j x hj hx => by rw [getD_set_ne false (hne j x hx)]; exact h.done j x hj hx, fun j x hj hx => by rw [getD_set_ne false (hne j x hx)]; exact h.left j x hj hx, hJ⟩
theorem phA_own (hnd : path.Nodup) {listed : Array Bool} {a a' : Act} {w w' : World} {k i : Nat} (hlt : i < listed.size) (h : PhInvA path J listed a w k) (hi : path[k]? = some i) (hJ : J (k + 1) a' w') : PhInvA path J (listed.setIfInBounds i true) a' w' (k + 1) := by
  have hk : k < path.length := (List.getElem?_eq_some_iff.1 hi).1
  have hinj : ∀ (j x : Nat), path[j]? = some x → j ≠ k → i ≠ x := fun j x hx hjk e => by
    subst e
    obtain ⟨h1, h2⟩ := List.getElem?_eq_some_iff.1 hx
    obtain ⟨h3, h4⟩ := List.getElem?_eq_some_iff.1 hi
    exact hjk ((List.getElem_inj hnd).1 (h2.trans h4.symm))
  refine ⟨hk, fun j x hj hx => ?_, fun j x hj hx => ?_, hJ⟩
  · by_cases e : j = k
    · subst e
      rw [hi] at hx
      cases hx
      simp [hlt]
    · rw [getD_set_ne false (hinj j x hx e)]; exact h.done j x (by omega) hx
  · rw [getD_set_ne false (hinj j x hx (by omega))]; exact h.left j x (by omega) hx
theorem wpAny_relyA {Q2 : Exit → Act → World → Prop} (hQ : ∀ (o : Oper) (a : Act) (w : World) (K : Act → World → Prop), a.defers = a0.defers → o.wp P a w K Q2 → o.wp P a w K Q) (hsplit : ops.toList = init ++ [last]) (hn : a0.tmps.size = n) (hB : relyB ops n 0 init D = true) (hlast : lastB ops last init.length = true) (hg : last.guard = none) (ht : ∀ a b c : World, T a b → T b c → T a c)
    (hpath : pathB ops path = true) (hplace : placesB path S = true) (hSl : S.length = init.length) (hpl : ∀ i ∈ path, i < init.length)
    (hl : init.length ≤ V.length) (hA : relyAllA P Q2 T V J a0 w0 init D V S) (hE : ∀ w, T w0 w → relyEnd (fun _ a w => J path.length a w → last.wp P a w (fun a' w' => Q .normal a' w') Q) T init V a0 w) :
    ∀ (fuel : Nat) (listed : Array Bool) (a : Act) (w : World) (k : Nat), (unl ops listed).length = fuel → listed.getD init.length true = false → RelyInv ops T V a0 w0 listed a w → PhInvA path J listed a w k → wpAny P .any ops Q fuel listed a w := by
  obtain ⟨hlo, hsz, hpre⟩ := last_at hsplit
  simp only [lastB, Bool.and_eq_true] at hlast
  simp only [placesB, Bool.and_eq_true, decide_eq_true_eq] at hplace
  obtain ⟨hnd, hpos⟩ := hplace
  have hS : ∀ i, i < init.length → S.getD i none = path.findIdx? (· == i) := fun i hi => by
    have := List.all_eq_true.1 hpos i (List.mem_range.2 (by omega))
    simpa using this
  have hat : ∀ i o, init[i]? = some o → ∃ dp g, relyOne ops n i o dp g = true ∧ relyStepA P Q2 T V J a0 w0 o dp g (V.getD i SV.any) (path.findIdx? (· == i)) := fun i o hi => by
    obtain ⟨dp, g, hD, h1⟩ := relyB_at init D 0 i o hB hi
    rw [Nat.zero_add] at h1
    refine ⟨dp, g, h1, ?_⟩
    rw [← hS i (List.getElem?_eq_some_iff.1 hi).1]
    exact relyAllA_at _ _ _ _ i o dp g hA hi hD
  intro fuel
  induction fuel with
  | zero =>
    intro listed a w k hu hun inv _
    have : init.length ∈ unl ops listed := by
      unfold unl; rw [List.mem_filter]; exact ⟨List.mem_range.2 (by omega), by rw [hun]; rfl⟩
    rw [List.eq_nil_of_length_eq_zero hu] at this
    cases this
  | succ fuel ih =>
    intro listed a w k hu hun inv ph
    refine ⟨fun hr => ?_, fun i hi => ?_⟩
    · exfalso
      have all : ∀ i, i < init.length → listed.getD i false = true := fun i => by
        induction i using Nat.strongRecOn with
        | _ i ih =>
          intro hi
          cases hli : listed.getD i false with
          | true => rfl
          | false =>
            exfalso
            have hmem : i ∈ Region.ready .any ops listed := by
              rw [mem_ready]
              refine ⟨getD_in (by rw [inv.size]; omega) hli, init[i], hpre i _ (List.getElem?_eq_getElem hi), fun e he hb => ?_⟩
              obtain ⟨dp, g, h1, _⟩ := hat i init[i] (List.getElem?_eq_getElem hi)
              simp only [relyOne, Bool.and_eq_true] at h1
              have h2 := (Array.all_eq_true_iff_forall_mem.1 h1.1.1.2) e he
              simp only [hb, Bool.not_true, Bool.false_or, decide_eq_true_eq] at h2
              exact ih e.on h2 (by omega)
            rw [hr] at hmem
            cases hmem
      have hmem : init.length ∈ Region.ready .any ops listed := by
        rw [mem_ready]
        refine ⟨hun, last, hlo, fun e he hb => ?_⟩
        have h2 := (Array.all_eq_true_iff_forall_mem.1 hlast.2) e he
        simp only [hb, Bool.not_true, Bool.false_or, decide_eq_true_eq] at h2
        exact all e.on h2
      rw [hr] at hmem
      cases hmem
    · obtain ⟨h0, o, ho, hall⟩ := mem_ready.1 hi
      have hilt := (Array.getElem?_eq_some_iff.1 ho).1
      by_cases him : i = init.length
      · subst him
        have hol : o = last := Option.some.inj (ho.symm.trans hlo)
        subst hol
        have hdone : ∀ (d j : Nat), init.length - j = d → j < init.length → listed.getD j false = true := fun d => by
          induction d using Nat.strongRecOn with
          | _ d ihd =>
            intro j hd hj
            have h1 := List.all_eq_true.1 hlast.1 j (List.mem_range.2 hj)
            obtain ⟨t, ht1, ht2⟩ := List.any_eq_true.1 h1
            simp only [Bool.and_eq_true, decide_eq_true_eq] at ht2
            obtain ⟨ot, hot, e, he, hb, hon⟩ := Region.waitsFor_spec ht2.2
            have htle : t ≤ init.length := by have := List.mem_range.1 ht1; omega
            rw [← hon]
            by_cases htm : t = init.length
            · subst htm
              have : ot = o := Option.some.inj (hot.symm.trans ho)
              subst this
              exact hall e he hb
            · exact inv.closed t ot hot (ihd (init.length - t) (by omega) t rfl (by omega)) e he hb
        replace hdone : ∀ j, j < init.length → listed.getD j false = true := fun j hj => hdone _ j rfl hj
        have hk : k = path.length := by
          rcases Nat.lt_or_ge k path.length with h | h
          · exfalso
            have h1 := ph.left k path[k] (Nat.le_refl _) (List.getElem?_eq_getElem h)
            rw [hdone _ (hpl _ (List.getElem_mem h))] at h1
            cases h1
          · have := ph.le; omega
        subst hk
        have hJ := ph.now
        have h1 : J path.length a w → o.wp P a w (fun a' w' => Q .normal a' w') Q := rely_all (Q' := fun a w => J path.length a w → o.wp P a w (fun a' w' => Q .normal a' w') Q) inv
          (fun k o hk => ⟨hpre k o hk, hdone k (List.getElem?_eq_some_iff.1 hk).1⟩) (fun j hj => by
            rcases Nat.lt_or_ge j init.length with h | h
            · exact h
            · rcases Nat.eq_or_lt_of_le h with h | h
              · subst h; rw [getD_both hun] at hj; cases hj
              · have : listed.getD j false = false := by simp [Array.getElem?_eq_none (show listed.size ≤ j by rw [inv.size]; omega)]
                rw [this] at hj; cases hj) hl (hE w inv.now)
        have hK : ∀ a' w', Q .normal a' w' → wpAny P .any ops Q fuel (listed.setIfInBounds init.length true) a' w' := fun a' w' h => wpAny_done (ready_none fun j hj => by
          by_cases hj2 : j = init.length
          · subst hj2; simp [show init.length < listed.size by rw [inv.size]; exact hj]
          · exact getD_set_true (hdone j (by omega))) h _
        unfold wpOp
        simp only [hlo, Region.wanted, hg, if_true]
        exact .inl (Oper.wp_mono hK (h1 hJ))
      · have hi' : i < init.length := by omega
        have hio : init[i]? = some o := by
          have := hpre i init[i] (List.getElem?_eq_getElem hi')
          rw [ho] at this
          rw [List.getElem?_eq_getElem hi', Option.some.inj this]
        obtain ⟨dp, g, h1, hstep⟩ := hat i o hio
        obtain ⟨hfacts, hguard, next⟩ := rely_next hn ht ho h1 h0 hall inv
        have i0 : listed.getD i false = false := getD_both h0
        have hs : if relyGuard g a then o.wp P a w (fun a' w' => wpAny P .any ops Q fuel (listed.setIfInBounds i true) a' w') Q2 else wpAny P .any ops Q fuel (listed.setIfInBounds i true) (a.put o.dst undef) w := by
          cases hf : path.findIdx? (· == i) with
          | none =>
            rw [hf] at hstep
            have hni : i ∉ path := fun hm => by
              rw [List.findIdx?_eq_none_iff] at hf
              have := hf i hm
              simp at this
            exact hstep a w inv.now hfacts (fun a' w' => wpAny P .any ops Q fuel (listed.setIfInBounds i true) a' w') (fun v w' hT hJ hv => ih _ _ w' k (by have := unl_set inv.size h0; omega) (by rw [getD_set_ne true him]; exact hun) (next v w' hT hv) (phA_other ph hni (hJ k ph.now)))
          | some j =>
            rw [hf] at hstep
            have hpj : path[j]? = some i := by
              obtain ⟨h1, h2, _⟩ := List.findIdx?_eq_some_iff_getElem.1 hf
              rw [List.getElem?_eq_getElem h1]
              simpa using h2
            have hkj : k = j := by
              rcases Nat.lt_trichotomy j k with h | h | h
              · have := ph.done j i h hpj
                rw [i0] at this; cases this
              · exact h.symm
              · exfalso
                obtain ⟨j', rfl⟩ : ∃ j', j = j' + 1 := ⟨j - 1, by omega⟩
                have hlj : j' < path.length := by have := (List.getElem?_eq_some_iff.1 hpj).1; omega
                have hw := pathB_at path j' path[j'] i hpath (List.getElem?_eq_getElem hlj) hpj
                obtain ⟨oi, hoi, e, he, hb, hon⟩ := Region.waitsFor_spec hw
                have : oi = o := Option.some.inj (hoi.symm.trans ho)
                subst this
                have h2 := hall e he hb
                rw [hon, ph.left j' _ (by omega) (List.getElem?_eq_getElem hlj)] at h2
                cases h2
            subst hkj
            exact hstep a w inv.now hfacts ph.now (fun a' w' => wpAny P .any ops Q fuel (listed.setIfInBounds i true) a' w') (fun v w' hT hJ hv => ih _ _ w' (k + 1) (by have := unl_set inv.size h0; omega) (by rw [getD_set_ne true him]; exact hun) (next v w' hT hv) (phA_own hnd (by rw [inv.size]; exact hilt) ph hpj hJ))
        unfold wpOp
        simp only [ho, hguard]
        split
        · rename_i hw; rw [if_pos hw] at hs; exact .inl (hQ _ _ _ _ inv.defers hs)
        · rename_i hw; rw [if_neg hw] at hs; exact hs
/-- **A region that draws its order and turns a state step by step, of which the frame is part.** -/
theorem wp_region_relyA {id : Nat} {Q2 : Exit → Act → World → Prop} (hQ : ∀ (o : Oper) (a : Act) (w : World) (K : Act → World → Prop), a.defers = a0.defers → o.wp P a w K Q2 → o.wp P a w K Q) (T : World → World → Prop) (J : Nat → Act → World → Prop) (V : List (SV T)) (D : Deps) (S : List (Option Nat)) (path : List Nat) (n : Nat) (hla : ops.toList.getLast? = some last) (hm : P.follows .mixedOrders = true) (hn : a0.tmps.size = n) (hB : relyB ops n 0 ops.toList.dropLast D = true)
    (hlast : lastB ops last ops.toList.dropLast.length = true) (hg : last.guard = none) (hpath : (pathB ops path && placesB path S && decide (S.length = ops.toList.dropLast.length) && path.all fun i => decide (i < ops.toList.dropLast.length)) = true)
    (ht : ∀ a b c : World, T a b → T b c → T a c) (hd : T w0 w0.drew) (hJ : J 0 a0 w0.drew) (hl : ops.toList.dropLast.length ≤ V.length)
    (hA : relyAllA P Q2 T V J a0 w0 ops.toList.dropLast D V S) (hE : ∀ w, T w0 w → relyEnd (fun _ a w => J path.length a w → last.wp P a w (fun a' w' => Q .normal a' w') Q) T ops.toList.dropLast V a0 w) : (Code.region id ops true).wp P Q a0 w0 := by
  have hsplit := split_last hla
  obtain ⟨_, hsz, _⟩ := last_at hsplit
  simp only [Bool.and_eq_true, decide_eq_true_eq] at hpath
  obtain ⟨⟨⟨h1, h2⟩, h3⟩, h4⟩ := hpath
  refine wp_region_any hm ?_
  exact wpAny_relyA hQ hsplit hn hB hlast hg ht h1 h2 h3 (fun i hi => by simpa using List.all_eq_true.1 h4 i hi) hl hA hE ops.size _ a0 w0.drew 0 unl_start (by
    have hlt : ops.toList.dropLast.length < ops.size := by omega
    generalize ops.toList.dropLast.length = m at hlt
    simp [hlt]) (rely_start hd) ⟨Nat.zero_le _, fun j i hj => by omega, fun j i _ _ => getD_replicate_false .., hJ⟩
theorem wp_region_relyA0 {id : Nat} (T : World → World → Prop) (J : Nat → Act → World → Prop) (V : List (SV T)) (D : Deps) (S : List (Option Nat)) (path : List Nat) (n : Nat) (hla : ops.toList.getLast? = some last) (hm : P.follows .mixedOrders = true) (hn : a0.tmps.size = n) (hB : relyB ops n 0 ops.toList.dropLast D = true)
    (hlast : lastB ops last ops.toList.dropLast.length = true) (hg : last.guard = none) (hpath : (pathB ops path && placesB path S && decide (S.length = ops.toList.dropLast.length) && path.all fun i => decide (i < ops.toList.dropLast.length)) = true)
    (ht : ∀ a b c : World, T a b → T b c → T a c) (hd : T w0 w0.drew) (hJ : J 0 a0 w0.drew) (hl : ops.toList.dropLast.length ≤ V.length)
    (hA : relyAllA P Q T V J a0 w0 ops.toList.dropLast D V S) (hE : ∀ w, T w0 w → relyEnd (fun _ a w => J path.length a w → last.wp P a w (fun a' w' => Q .normal a' w') Q) T ops.toList.dropLast V a0 w) : (Code.region id ops true).wp P Q a0 w0 :=
  wp_region_relyA (fun _ _ _ _ _ h => h) T J V D S path n hla hm hn hB hlast hg hpath ht hd hJ hl hA hE
end
end Go.Proofs.YtoigjcadncecpaaDoor
/- A region that draws its order and makes some rows of hashes: they are different ones. -/
namespace Go.Proofs.YtoigjcadncecpaaDoor
open Go Go.RowKit
set_option maxRecDepth 8000
set_option linter.all false
/-- Slots hold pointers to different blocks, all there. -/
def ManyPtr (ps : List Tmp) (a : Act) (w : World) : Prop :=
  (∀ p ∈ ps, ∀ g, a.tmps.getD p undef = .pointer (some ⟨g, 0, none⟩) → g < w.heap.size) ∧
    ∀ p ∈ ps, ∀ q ∈ ps, p ≠ q → ∀ g g', a.tmps.getD p undef = .pointer (some ⟨g, 0, none⟩) → a.tmps.getD q undef = .pointer (some ⟨g', 0, none⟩) → g ≠ g'
theorem ManyPtr.keep {ps : List Tmp} {a : Act} {w w' : World} {d : Option Tmp} {v : Value} (h : ManyPtr ps a w) (hd : ∀ p ∈ ps, d ≠ some p) (hT : NewT w w') : ManyPtr ps (a.put d v) w' := by
  refine ⟨fun p hp g hg => ?_, fun p hp q hq hpq g g' hg hg' => ?_⟩
  · rw [put_other v (hd p hp)] at hg
    exact Nat.lt_of_lt_of_le (h.1 p hp g hg) hT.out.size
  · rw [put_other v (hd p hp)] at hg
    rw [put_other v (hd q hq)] at hg'
    exact h.2 p hp q hq hpq g g' hg hg'
theorem ManyPtr.make {ps : List Tmp} {p : Tmp} {a : Act} {w : World} {o : Obj} (h : ManyPtr ps a w) : ManyPtr ps (a.put (some p) (.pointer (some ⟨w.heap.size, 0, none⟩))) (w.alloc o) := by
  have old : ∀ q ∈ ps, q ≠ p → ∀ g, (a.put (some p) (.pointer (some ⟨w.heap.size, 0, none⟩))).tmps.getD q undef = .pointer (some ⟨g, 0, none⟩) → g < w.heap.size ∧ a.tmps.getD q undef = .pointer (some ⟨g, 0, none⟩) := fun q hq hqp g hg => by
    rw [put_other (p := q) (d := some p) _ (by simpa using Ne.symm hqp)] at hg
    exact ⟨h.1 q hq g hg, hg⟩
  refine ⟨fun q hq g hg => ?_, fun q hq r hr hqr g g' hg hg' => ?_⟩
  · by_cases e : q = p
    · subst e; rw [put_same hg]; simp
    · have := (old q hq e g hg).1; simp; omega
  · by_cases e : q = p
    · subst e
      have := (old r hr (Ne.symm hqr) g' hg').1
      rw [put_same hg]; omega
    · by_cases e' : r = p
      · subst e'
        have := (old q hq e g hg).1
        rw [put_same hg']; omega
      · exact h.2 q hq r hr hqr g g' (old q hq e g hg).2 (old r hr e' g' hg').2
/-- A new row of hashes, behind B. -/
def svNw (B : Nat) : SV NewT := ⟨fun v w => ∃ g, v = .pointer (some ⟨g, 0, none⟩) ∧ B ≤ g ∧ w.rowIs g 29 32 (bF fun _ => 0), fun _ _ _ ⟨g, h1, h2, h3⟩ hT => ⟨g, h1, h2, hT.row h3⟩⟩
end Go.Proofs.YtoigjcadncecpaaDoor
/- Steps of a region that write rows that the region itself makes: what lay there ahead of it stays, rows stay rows. -/
namespace Go.Proofs.YtoigjcadncecpaaDoor
open Go Go.RowKit
set_option maxRecDepth 8000
set_option linter.all false
/-- Blocks from B on alone are written, and rows stay rows. -/
structure TB (B : Nat) (w w' : World) : Prop where
  below : Below B w w'
  rows : ∀ g t n f, w.rowIs g t n f → ∃ f', w'.rowIs g t n f'
theorem TB.trans {B : Nat} (x y z : World) (h : TB B x y) (k : TB B y z) : TB B x z := ⟨h.below.trans k.below, fun g t n f hr => by obtain ⟨f1, h1⟩ := h.rows g t n f hr; exact k.rows g t n f1 h1⟩
theorem TB.of_new {B : Nat} {w w' : World} (hB : B ≤ w.heap.size) (h : NewT w w') : TB B w w' := ⟨h.out.mono hB, fun g t n f hr => ⟨f, h.row hr⟩⟩
theorem TB.drew (B : Nat) (w : World) : TB B w w.drew := ⟨(Below.refl _ w).drew, fun g t n f hr => ⟨f, hr.of_block rfl⟩⟩
theorem TB.refl (B : Nat) (w : World) : TB B w w := ⟨Below.refl _ _, fun g t n f hr => ⟨f, hr⟩⟩
theorem TB.out {w w' : World} {B : Nat} (h : TB B w w') (hB : w.heap.size ≤ B) : NewT w w' := NewT.of (h.below.mono hB)
theorem TB.size {B : Nat} {w w' : World} (h : TB B w w') : w.heap.size ≤ w'.heap.size := h.below.size
theorem TB.of_rt {B g t n : Nat} {f f' : Nat → Value} {w w' : World} (h : RT g w w') (hg : B ≤ g) (hr : w.rowIs g t n f) (hr' : w'.rowIs g t n f') : TB B w w' := by
  refine ⟨h.below.mono hg, fun k t2 n2 f2 hk => ?_⟩
  by_cases e : k = g
  · subst e
    obtain ⟨c1, e1, s1, q1⟩ := hr
    obtain ⟨c2, e2, s2, q2⟩ := hk
    rw [e1] at e2
    cases e2
    obtain ⟨c3, e3, s3, q3⟩ := hr'
    exact ⟨f', c3, e3, by omega, fun i hi => q3 i (by omega)⟩
  · exact ⟨f2, h.row e hk⟩
/-- A pointer to a block. -/
def svPt {T : World → World → Prop} : SV T := ⟨fun v _ => ∃ g, v = .pointer (some ⟨g, 0, none⟩), fun _ _ _ h _ => h⟩
/-- The rows of hashes that the region made, behind B: slots and what they hold. -/
def VarsAt (B : Nat) (ps : List (Tmp × Hs)) (a : Act) (w : World) : Prop := ManyPtr (ps.map (·.1)) a w ∧ ∀ p ∈ ps, ∀ g, a.tmps.getD p.1 undef = .pointer (some ⟨g, 0, none⟩) → B ≤ g ∧ w.rowIs g 29 32 (bF p.2)
theorem VarsAt.keep {B : Nat} {ps : List (Tmp × Hs)} {a : Act} {w w' : World} {d : Option Tmp} {v : Value} (h : VarsAt B ps a w) (hd : ∀ p ∈ ps, d ≠ some p.1) (hT : NewT w w') : VarsAt B ps (a.put d v) w' := by
  refine ⟨h.1.keep (fun p hp => ?_) hT, fun p hp g hg => ?_⟩
  · obtain ⟨q, hq, rfl⟩ := List.mem_map.1 hp; exact hd q hq
  · rw [put_other v (hd p hp)] at hg
    obtain ⟨h1, h2⟩ := h.2 p hp g hg
    exact ⟨h1, hT.row h2⟩
theorem VarsAt.make {B : Nat} {ps : List (Tmp × Hs)} {p : Tmp} {a : Act} {w : World} (h : VarsAt B ps a w) (hB : B ≤ w.heap.size) (hp : ∀ q ∈ ps, q.1 = p → q.2 = fun _ => 0) : VarsAt B ps (a.put (some p) (.pointer (some ⟨w.heap.size, 0, none⟩))) (w.alloc (.cells (rowA 32 (bF fun _ => 0)) 29)) := by
  refine ⟨h.1.make, fun q hq g hg => ?_⟩
  by_cases e : q.1 = p
  · rw [e] at hg
    rw [put_same hg, hp q hq e]
    exact ⟨hB, rowIs_box w 29 32 _⟩
  · rw [put_other (d := some p) _ (by simpa using Ne.symm e)] at hg
    obtain ⟨h1, h2⟩ := h.2 q hq g hg
    exact ⟨h1, (NewT.alloc _ _).row h2⟩
/-- One of them is written. -/
theorem VarsAt.put {B g : Nat} {ps ps' : List (Tmp × Hs)} {p : Tmp} {d : Hs} {a : Act} {w w' : World} {v : Value} (h : VarsAt B ps a w) (hm : ps'.map (·.1) = ps.map (·.1)) (hp : a.tmps.getD p undef = .pointer (some ⟨g, 0, none⟩)) (hmem : p ∈ ps.map (·.1)) (hR : RT g w w') (hrow : w'.rowIs g 29 32 (bF d)) (hps : ∀ q ∈ ps', (q.1 = p → q.2 = d) ∧ (q.1 ≠ p → q ∈ ps)) : VarsAt B ps' (a.put none v) w' := by
  have e : a.put none v = a := rfl
  rw [e]
  have hg := h.1.1 p hmem g hp
  refine ⟨?_, fun q hq g' hg' => ?_⟩
  · rw [hm]
    exact ⟨fun q hq g' hg' => Nat.lt_of_lt_of_le (h.1.1 q hq g' hg') hR.size, h.1.2⟩
  · obtain ⟨h1, h2⟩ := hps q hq
    by_cases eq : q.1 = p
    · rw [eq, hp] at hg'
      cases hg'
      rw [h1 eq]
      obtain ⟨r, hr, er⟩ := List.mem_map.1 hmem
      exact ⟨(h.2 r hr g (by rw [er]; exact hp)).1, hrow⟩
    · have hq' := h2 eq
      obtain ⟨k1, k2⟩ := h.2 q hq' g' hg'
      refine ⟨k1, hR.row ?_ k2⟩
      exact h.1.2 q.1 (List.mem_map.2 ⟨q, hq', rfl⟩) p hmem eq g' g hg' hp
end Go.Proofs.YtoigjcadncecpaaDoor
