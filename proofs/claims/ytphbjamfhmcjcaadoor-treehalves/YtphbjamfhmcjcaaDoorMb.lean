/- Texts of this claim, one behind the other. -/
import Derived.Test.YtphbjamfhmcjcaaDoorMa
import Derived.Maps.AppendAt
import Derived.Deep.AppendLies
import Derived.OrdersIn
import Derived.KernelRfl
import Derived.Laws.BytesArg
import Derived.Deep.Cut
import Derived.Sort.CutIn
set_option linter.all false
namespace Go.Proofs.YtphbjamfhmcjcaaDoor
open Go.RowKit
set_option maxRecDepth 8000
set_option linter.all false
attribute [local go_sem] u32_add u32_xor u32_and u32_or u32_not signed_u32 wrap_uN uF_at u32_shr u32_u8

def dig (s : Nat → BitVec 32) (n : Nat) : UInt8 := UInt8.ofBitVec ((s (n / 4) >>> (24 - 8 * (n % 4))).setWidth 8)
def digTo (s : Nat → BitVec 32) (m n : Nat) : UInt8 := if n < m then dig s n else 0
theorem digTo_set (s : Nat → BitVec 32) (k j i : Nat) (hj : j < 4) :
    (if i = 4 * k + j then Value.int .u8 (bN (UInt8.ofBitVec ((s k >>> (24 - 8 * j)).setWidth 8))) else bF (digTo s (4 * k + j)) i) = bF (digTo s (4 * k + (j + 1))) i := by
  simp only [bF, digTo]
  by_cases h : i = 4 * k + j
  · subst h
    rw [if_pos rfl, if_pos (by omega), dig, show (4 * k + j) / 4 = k by omega, show (4 * k + j) % 4 = j by omega]
  · by_cases h2 : i < 4 * k + j
    · rw [if_neg h, if_pos h2, if_pos (by omega)]
    · rw [if_neg h, if_neg h2, if_neg (by omega)]
set_option maxHeartbeats 1000000 in
theorem digest_any (s : Nat → BitVec 32) (w : World) :
    Calls Tryd.prog 35 #[.agg (rowA 8 (uF s))] w fun e w' => e = .returned (.agg (rowA 32 (bF (dig s)))) ∧ Below w.heap.size w w' := by
  go_enter Tryd.func35, Tryd.ntmps35
  go_upto_region 2 with fail
  have r0 := ((rowIs_box w 50 8 (uF s)).alloc (.cells (rowA 32 (bF fun _ => 0)) 24)).alloc (.cells (rowA 32 (bF fun _ => 0)) 24)
  have r1 := (rowIs_box (w.alloc (.cells (rowA 8 (uF s)) 50)) 24 32 (bF fun _ => 0)).alloc (.cells (rowA 32 (bF fun _ => 0)) 24)
  have r2 := rowIs_box ((w.alloc (.cells (rowA 8 (uF s)) 50)).alloc (.cells (rowA 32 (bF fun _ => 0)) 24)) 24 32 (bF fun _ => 0)
  have hB : Below w.heap.size w (((w.alloc (.cells (rowA 8 (uF s)) 50)).alloc (.cells (rowA 32 (bF fun _ => 0)) 24)).alloc (.cells (rowA 32 (bF fun _ => 0)) 24)) :=
    (((Below.refl _ w).alloc (Nat.le_refl _) _).alloc (by simp) _).alloc (by simp; omega) _
  rw [World.size_alloc] at r1 r2
  rw [World.size_alloc] at r2
  change Code.wp _ _ _ _ (((w.alloc (.cells (rowA 8 (uF s)) 50)).alloc (.cells (rowA 32 (bF fun _ => 0)) 24)).alloc (.cells (rowA 32 (bF fun _ => 0)) 24))
  generalize (((w.alloc (.cells (rowA 8 (uF s)) 50)).alloc (.cells (rowA 32 (bF fun _ => 0)) 24)).alloc (.cells (rowA 32 (bF fun _ => 0)) 24)) = W0 at r0 r1 r2 hB ⊢
  have hR := rangeAt_row r0
  go_wp2_with (refine wpList_load_mid rfl 50 (.tmp 1) rfl w.heap.size 0 rfl (rowA 8 (uF s)).toList _ hR Tryd.underlying50 rfl (by rw [rowA_toList]; simpa using info23) ?_)
  clear hR r0
  go_loopw [8] (fun i wr => ∃ k : Nat, k ≤ 8 ∧ i = .int .i64 k ∧ wr.rowIs (w.heap.size + 1) 24 32 (bF fun _ => 0) ∧ wr.rowIs (w.heap.size + 1 + 1) 24 32 (bF (digTo s (4 * k))) ∧ Below w.heap.size w wr) (fun i _ => 8 - (intOf i).toNat)
  case atStart => exact ⟨0, by omega, rfl, r1, r2, hB⟩
  case round =>
    obtain ⟨k, hk, rfl, q1, q2, qB⟩ := hrel
    clear r1 r2 hB
    by_cases hlt : k < 8
    · have hix := index_row (P := Tryd.prog) 50 49 _ Tryd.underlying50 Tryd.underlying49 rfl (by kernel_rfl) (uF s) .i64 k hlt
      go_wp2
      clear hix
      go_loopw [12] (fun i wr => ∃ j : Nat, j ≤ 4 ∧ i = .int .i64 j ∧ wr.rowIs (w.heap.size + 1) 24 32 (bF fun _ => 0) ∧ wr.rowIs (w.heap.size + 1 + 1) 24 32 (bF (digTo s (4 * k + j))) ∧ Below w.heap.size w wr) (fun i _ => 4 - (intOf i).toNat)
      case atStart => exact ⟨0, by omega, rfl, q1, q2, qB⟩
      case round =>
        obtain ⟨j, hj, rfl, z1, z2, zB⟩ := hrel
        clear q1 q2 qB
        by_cases hj4 : j < 4
        · have c0 := z2.cell (i := 4 * k + j) (by omega)
          have f0 := z2.frozen (4 * k + j)
          have e24 : ((24 : Int) - 8 * (j : Int)).toNat = 24 - 8 * j := by omega
          go_wp2
          go_roundw
          case rel => exact ⟨j + 1, by omega, by go_num, z1.setOther (by simp) _, (z2.set (4 * k + j) _).congr fun i _ => digTo_set s k j i hj4, (zB.setCell (p := ⟨w.heap.size + 1 + 1, 4 * k + j, none⟩) (by simp; omega) _)⟩
          case measure => simp [intOf]; omega
        · obtain rfl : j = 4 := by omega
          go_wp2
          go_roundw
          case rel => exact ⟨k + 1, by omega, by go_num, z1, z2, zB⟩
          case measure => simp [intOf]; omega
    · obtain rfl : k = 8 := by omega
      have hR := rangeAt_row q2
      go_wp2_with (first
            | (refine wpList_load_mid rfl 24 (.tmp 3) rfl (w.heap.size + 1 + 1) 0 rfl (rowA 32 (bF (digTo s (4 * 8)))).toList _ hR Tryd.underlying24 rfl (by rw [rowA_toList]; simpa using info31) ?_)
            | (refine wpList_store_mid rfl 24 (.tmp 2) (.tmp 28) rfl (w.heap.size + 1) 0 (rowA 32 (bF (digTo s (4 * 8)))) rfl rfl (by rw [rowA_size]; exact there_row q1) (by rw [rowA_size]; exact info31) (rowA_one _ _ fun _ => rfl) ?_))
      refine bodyPost_ret (results_row rfl _ rfl (rowIs_setAll q1 (bF (digTo s (4 * 8)))) Tryd.underlying24 info31) rfl ⟨?_, below_setCells _ (by omega) _ _ _ qB⟩
      exact congrArg (fun z => Ending.returned (.agg z)) (rowA_congr fun i hi => by simp [bF, digTo, hi])
end Go.Proofs.YtphbjamfhmcjcaaDoor
namespace Go.Proofs.YtphbjamfhmcjcaaDoor
open Go.RowKit
set_option maxRecDepth 8000
set_option linter.all false
attribute [local go_sem] bF_at rowA_at

/-- The bytes that tell the length 8 n, the highest first. -/
def lenByte (n i : Nat) : UInt8 := UInt8.ofNat (n * 8 % 18446744073709551616 / 2 ^ (56 - 8 * i))
def fillHead (i : Nat) : UInt8 := if i = 0 then 128 else 0
def FillPost (n r : Nat) (w : World) (e : Ending) (w' : World) : Prop := ∃ v, e = .returned v ∧ w'.ownsRow w.heap.size 5 1 v (r + 8) ((List.range r).map (bF fillHead) ++ (List.range 8).map (bF (lenByte n))) ∧ Below w.heap.size w w'
theorem make_fill (i0 : TypeInfo) (hi : Tryd.prog.info? 5 = some i0) (hz0 : i0.zero = some (.int .u8 0)) (hz1 : i0.size = 1) (hz2 : i0.bytes = 1) (r : Nat) (hr : r ≤ 64) (W : World) :
    (Instr.makeSlice 22 (.int .i64 (r : Int)) (.int .i64 ((r : Int) + 8))).run Tryd.prog W = .ok (.slice (some ⟨W.heap.size, 0, none⟩) r (r + 8)) (W.alloc (.cells (rowA (r + 8) (bF fun _ => 0)) 5)) := by
  have := run_make (P := Tryd.prog) W 22 5 i0 _ Tryd.underlying22 hi hz0 .i64 .i64 (r : Int) ((r : Int) + 8) (by omega) (by omega) (by rw [hz2]; omega) (by omega)
  rw [this, hz1, show ((r : Int) + 8).toNat = r + 8 by omega, Int.toNat_natCast, Nat.mul_one]
  have e : madeCells (Value.int .u8 0).cells (r + 8) = rowA (r + 8) (bF fun _ => 0) := made_row (r + 8) (.int .u8 0)
  rw [e]
theorem lenByte_eq (n i : Nat) : IntKind.u8.wrap (IntKind.u64.wrap ((n : Int) * 8) / 2 ^ (56 - 8 * i)) = bN (lenByte n i) := by
  have h1 : IntKind.u64.wrap ((n : Int) * 8) = ((n * 8 % 18446744073709551616 : Nat) : Int) := by simp [IntKind.wrap, IntKind.bits, IntKind.signed]
  rw [h1, wrap_u8, lenByte, bN, UInt8.toNat_ofNat']
  have h2 : ((2 : Int) ^ (56 - 8 * i)) = ((2 ^ (56 - 8 * i) : Nat) : Int) := by simp
  rw [h2, ← Int.natCast_ediv]
  omega
set_option maxHeartbeats 1000000 in
theorem Fill_two (n r : Nat) (hn : n ≤ 9223372036854775807) (hr : (56 : Int) - (n : Int) % 64 = r) (hr1 : 1 ≤ r) (hr2 : r ≤ 64) (w : World) :
    Calls Tryd.prog 47 #[.int .i64 n] w (FillPost n r w) := by
  obtain ⟨i0, hi, hz0, hz1, hz2⟩ := info_parts info5
  have hmk : ∀ W : World, (Instr.makeSlice 22 (.int .i64 (r : Int)) (.int .i64 ((r : Int) + 8))).run Tryd.prog W = .ok (.slice (some ⟨W.heap.size, 0, none⟩) r (r + 8)) (W.alloc (.cells (rowA (r + 8) (bF fun _ => 0)) 5)) := make_fill i0 hi hz0 hz1 hz2 r hr2
  have h0 : 0 < r := by omega
  have hd0 : decide (r = 0) = false := by simp; omega
  have hlb := lenByte_eq n
  have HLB := Lib.hid hlb
  clear hlb
  go_enter Tryd.func47, Tryd.ntmps47
  go_wp2
  have r0 : (w.alloc (.cells ((rowA (r + 8) (bF fun _ => 0)).setIfInBounds 0 (.int .u8 128)) 5)).rowIs w.heap.size 5 (r + 8) (bF fillHead) := by
    have := (rowIs_box w 5 (r + 8) (bF fun _ => 0)).set 0 (.int .u8 128)
    rw [World.setCell_alloc_at _ _ _ _ _ rfl] at this
    exact this.congr fun i _ => by by_cases h : i = 0 <;> simp [h, bF, fillHead, bN]
  have hB : Below w.heap.size w (w.alloc (.cells ((rowA (r + 8) (bF fun _ => 0)).setIfInBounds 0 (.int .u8 128)) 5)) := (Below.refl _ w).alloc (Nat.le_refl _) _
  have ho := ownsRow_row r0 w.heap.size r (by omega) (by unfold maxLen; omega) (Nat.le_refl _)
  generalize w.alloc (.cells ((rowA (r + 8) (bF fun _ => 0)).setIfInBounds 0 (.int .u8 128)) 5) = W0 at ho hB ⊢
  clear r0 hmk
  go_loopw [4, 21] (fun v i wr => ∃ k : Nat, k ≤ 8 ∧ i = .int .i64 k ∧ wr.ownsRow w.heap.size 5 1 v (r + k) ((List.range r).map (bF fillHead) ++ (List.range k).map (bF (lenByte n))) ∧ Below w.heap.size w wr) (fun _ i _ => 8 - (intOf i).toNat)
  case atStart => exact ⟨0, by omega, rfl, by simpa using ho, hB⟩
  case round =>
    obtain ⟨k, hk, rfl, hown, qB⟩ := hrel
    clear ho hB
    by_cases hlt : k < 8
    · have e56 : ((56 : Int) - 8 * (k : Int)).toNat = 56 - 8 * k := by omega
      have hb8 := HLB.out k
      go_wp2_with (at_builtin; refine wpList_append_own _ rfl (.tmp 24) (.tmp 33) 22 rfl w.heap.size 5 i0 _ 1 1 Tryd.underlying22 hi hz0 hz1 hz2 rfl (by omega) u4 (r + k) _ rfl (hown.alloc _) ⟨wr.heap.size, 0, none⟩ 1 1 [bF (lenByte n) k] rfl rfl (one_cell _ _ _) (by simp [bF, Value.oneCell']) (by unfold maxLen; omega) (by omega) (by have := qB.size; simp; omega) ?_; intro v' w1 hown' hg1 _)
      go_roundw
      case rel =>
        refine ⟨k + 1, by omega, by go_num, ?_, (qB.alloc qB.size _).grown hg1 (by have := qB.size; simp; omega) (fun g e => (hown.lt g e).1)⟩
        rw [List.range_succ, List.map_append, ← List.append_assoc]
        exact hown'
      case measure => simp [intOf]; omega
    · obtain rfl : k = 8 := by omega
      go_wp2
      go_ret
      exact ⟨u4, rfl, hown, qB⟩
set_option maxHeartbeats 1000000 in
theorem Fill_one (n r : Nat) (hn : n ≤ 9223372036854775807) (hr0 : (56 : Int) - (n : Int) % 64 ≤ 0) (hr : (56 : Int) - (n : Int) % 64 + 64 = r) (hr2 : r ≤ 64) (w : World) :
    Calls Tryd.prog 47 #[.int .i64 n] w (FillPost n r w) := by
  obtain ⟨i0, hi, hz0, hz1, hz2⟩ := info_parts info5
  have hmk : ∀ W : World, (Instr.makeSlice 22 (.int .i64 (r : Int)) (.int .i64 ((r : Int) + 8))).run Tryd.prog W = .ok (.slice (some ⟨W.heap.size, 0, none⟩) r (r + 8)) (W.alloc (.cells (rowA (r + 8) (bF fun _ => 0)) 5)) := make_fill i0 hi hz0 hz1 hz2 r hr2
  have h0 : 0 < r := by omega
  have hlb := lenByte_eq n
  have HLB := Lib.hid hlb
  clear hlb
  go_enter Tryd.func47, Tryd.ntmps47
  go_wp2
  have r0 : (w.alloc (.cells ((rowA (r + 8) (bF fun _ => 0)).setIfInBounds 0 (.int .u8 128)) 5)).rowIs w.heap.size 5 (r + 8) (bF fillHead) := by
    have := (rowIs_box w 5 (r + 8) (bF fun _ => 0)).set 0 (.int .u8 128)
    rw [World.setCell_alloc_at _ _ _ _ _ rfl] at this
    exact this.congr fun i _ => by by_cases h : i = 0 <;> simp [h, bF, fillHead, bN]
  have hB : Below w.heap.size w (w.alloc (.cells ((rowA (r + 8) (bF fun _ => 0)).setIfInBounds 0 (.int .u8 128)) 5)) := (Below.refl _ w).alloc (Nat.le_refl _) _
  have ho := ownsRow_row r0 w.heap.size r (by omega) (by unfold maxLen; omega) (Nat.le_refl _)
  generalize w.alloc (.cells ((rowA (r + 8) (bF fun _ => 0)).setIfInBounds 0 (.int .u8 128)) 5) = W0 at ho hB ⊢
  clear r0 hmk
  go_loopw [4, 21] (fun v i wr => ∃ k : Nat, k ≤ 8 ∧ i = .int .i64 k ∧ wr.ownsRow w.heap.size 5 1 v (r + k) ((List.range r).map (bF fillHead) ++ (List.range k).map (bF (lenByte n))) ∧ Below w.heap.size w wr) (fun _ i _ => 8 - (intOf i).toNat)
  case atStart => exact ⟨0, by omega, rfl, by simpa using ho, hB⟩
  case round =>
    obtain ⟨k, hk, rfl, hown, qB⟩ := hrel
    clear ho hB
    by_cases hlt : k < 8
    · have e56 : ((56 : Int) - 8 * (k : Int)).toNat = 56 - 8 * k := by omega
      have hb8 := HLB.out k
      go_wp2_with (at_builtin; refine wpList_append_own _ rfl (.tmp 24) (.tmp 33) 22 rfl w.heap.size 5 i0 _ 1 1 Tryd.underlying22 hi hz0 hz1 hz2 rfl (by omega) u4 (r + k) _ rfl (hown.alloc _) ⟨wr.heap.size, 0, none⟩ 1 1 [bF (lenByte n) k] rfl rfl (one_cell _ _ _) (by simp [bF, Value.oneCell']) (by unfold maxLen; omega) (by omega) (by have := qB.size; simp; omega) ?_; intro v' w1 hown' hg1 _)
      go_roundw
      case rel =>
        refine ⟨k + 1, by omega, by go_num, ?_, (qB.alloc qB.size _).grown hg1 (by have := qB.size; simp; omega) (fun g e => (hown.lt g e).1)⟩
        rw [List.range_succ, List.map_append, ← List.append_assoc]
        exact hown'
      case measure => simp [intOf]; omega
    · obtain rfl : k = 8 := by omega
      go_wp2
      go_ret
      exact ⟨u4, rfl, hown, qB⟩
theorem Fill_any (n : Nat) (hn : n ≤ 9223372036854775807) (w : World) : Calls Tryd.prog 47 #[.int .i64 n] w (FillPost n (if n % 64 < 56 then 56 - n % 64 else 120 - n % 64) w) := by
  by_cases h : n % 64 < 56
  · rw [if_pos h]; exact Fill_two n _ hn (by omega) (by omega) (by omega) w
  · rw [if_neg h]; exact Fill_one n _ hn (by omega) (by omega) (by omega) w
end Go.Proofs.YtphbjamfhmcjcaaDoor
namespace Go.Proofs.YtphbjamfhmcjcaaDoor
open Go.RowKit Go.Shelf
set_option maxRecDepth 8000
set_option linter.all false
attribute [local go_sem] Oper.semAt_some

/-- What fills up n bytes. -/
def fillB (n : Nat) : List UInt8 := (List.range (if n % 64 < 56 then 56 - n % 64 else 120 - n % 64)).map fillHead ++ (List.range 8).map (lenByte n)
theorem fillB_length (n : Nat) : (fillB n).length = (if n % 64 < 56 then 56 - n % 64 else 120 - n % 64) + 8 := by simp [fillB]
theorem rdV_fill {w w' : World} {n : Nat} {v : Value} {L : List Nat} (hL : ∀ k ∈ L, k < w.heap.size)
    (h : w'.ownsRow w.heap.size 5 1 v ((if n % 64 < 56 then 56 - n % 64 else 120 - n % 64) + 8) ((List.range (if n % 64 < 56 then 56 - n % 64 else 120 - n % 64)).map (bF fillHead) ++ (List.range 8).map (bF (lenByte n)))) : RdV w' L v (fillB n) := by
  rcases h.2 with ⟨_, h0⟩ | ⟨g, cap, cur, rfl, hb, _, hnc, hcm, _, _⟩
  · omega
  · refine ⟨some ⟨g, 0, none⟩, cap, by rw [fillB_length], by rw [fillB_length]; exact hnc, hcm, fun _ => ⟨g, 0, rfl, fun hm => by have := hL g hm; omega, fun i hi => ?_⟩⟩
    have hc := h.cells (g := g) rfl i (.int .u8 (bN (bAt (fillB n) i)))
    rw [Addr.add_mid] at hc
    apply hc
    have : (List.range (if n % 64 < 56 then 56 - n % 64 else 120 - n % 64)).map (bF fillHead) ++ (List.range 8).map (bF (lenByte n)) = (fillB n).map fun b => .int .u8 (bN b) := by
      rw [fillB, List.map_append, List.map_map, List.map_map]; rfl
    rw [this]
    simp [bAt, hi]

set_option maxHeartbeats 1000000 in
theorem filled1_seq (L : List Nat) (pb : Nat) (hpb : pb ∉ L) (pv : Value) (ps : List (Value × List UInt8)) (w : World) (hL : ∀ k ∈ L, k < w.heap.size) (hbox : w.cell? ⟨pb, 0, none⟩ = some pv) (hps : PartsAt w L pv ps) (ht : total ps ≤ 4611686018427387904) :
    SeqG Tryd.prog 46 #[.pointer (some ⟨pb, 0, none⟩)] (fun x : Value × List UInt8 => #[x.1]) (KeepBut L) (fun _ x W => RdV W L x.1 x.2) (fun xs => xs.map (·.2) = ps.map (·.2) ++ [fillB (total ps)]) (fun _ => True) w := by
  intro l J Jx W hW hJ hJx hY h0
  have hLW : ∀ k ∈ L, k < W.heap.size := fun k hk => Nat.lt_of_lt_of_le (hL k hk) hW.size
  have hbox' := KeepBut.cell (KeepBut.below hW) hpb hbox
  have hps' := hps.keep (KeepBut.below hW)
  obtain ⟨A, cap, rfl, hpc, hpm, hpA, hpR⟩ := hps'
  have HA := Lib.hid hpA
  have HR := Lib.hid hpR
  unfold maxLen at hpm
  clear hpA hpR hps hbox hL
  refine callsIn_of_wp Tryd.func46 rfl trivial ?_ rfl
  simp only [Tryd.ntmps46, List.size_toArray, List.length_cons, List.length_nil, Nat.reduceAdd, Nat.reduceSub, Array.replicate_succ, Array.replicate_zero, List.push_toArray, List.append_toArray, List.nil_append, List.cons_append]
  gi_wp2
  gi_loopw [3, 8] (fun nv i wr => ∃ (k : Nat) (pre : List (Value × List UInt8)), k ≤ ps.length ∧ i = .int .i64 k ∧ nv = .int .i64 (total (ps.take k) : Nat) ∧ Hid (pre = ps.take k) ∧ J pre wr ∧ KeepBut L W wr) (fun _ i _ => ps.length - (intOf i).toNat)
  case atStart => exact ⟨0, [], by omega, rfl, rfl, rfl, h0, KeepBut.refl _ _⟩
  case round =>
    obtain ⟨k, pre, hk, rfl, rfl, Hpre, hJs, hKs⟩ := hrel
    have htk := total_take ps k
    by_cases hlt : k < ps.length
    · obtain ⟨b, o, rfl, hbL, hcells⟩ := HA.out (by omega)
      have hx : ps[k]? = some ps[k] := List.getElem?_eq_getElem hlt
      have hcell := hKs.cell (a := ⟨b, o + k, none⟩) hbL (hcells k _ hx)
      have hrd := (HR.out ps[k] (List.getElem_mem hlt)).keep hKs
      generalize hxx : ps[k] = x at hcell hrd hx
      have Hxx := Lib.hid hxx
      have Hx := Lib.hid hx
      clear hx hxx hcells
      have htk2 : total (ps.take k) + x.2.length ≤ total ps := by
        have e : ps.take (k + 1) = ps.take k ++ [x] := by rw [List.take_add_one, Hx.out]; rfl
        have := total_take ps (k + 1)
        rw [e, total_snoc] at this; exact this
      obtain ⟨A', cap', hv', h1', h2', _⟩ := hrd
      have hrd := (HR.out x (List.mem_of_getElem? Hx.out)).keep hKs
      obtain ⟨fn, tmps, assign, body, hy, hR⟩ := hY pre x wr hJs hrd
      have Hrd := Lib.hid hrd
      clear hrd
      rw [hv'] at hy hcell
      gi_wp2
      refine ⟨rfl, hR.mono ?_⟩
      rintro e W3 (⟨rfl, hJ3, hk3, _⟩ | ⟨rfl, hJx3, _⟩)
      · gi_wp2
        go_roundw
        case rel =>
          have e : ps.take (k + 1) = ps.take k ++ [x] := by rw [List.take_add_one, Hx.out]; rfl
          exact ⟨k + 1, pre ++ [x], by omega, by go_num, by rw [e, total_snoc]; go_num, Lib.hid (by rw [e, Hpre.out]), hJ3, hKs.trans hk3⟩
        case measure => simp [intOf]; omega
      · gi_wp2
        refine bodyPost_ret (results_none rfl _ _ _) rfl ?_
        exact ⟨⟨_, rfl⟩, .inr ⟨pre ++ [x], trivial, hJx3⟩⟩
    · obtain rfl : k = ps.length := by omega
      rw [List.take_length] at *
      gi_wp2_with fail
      refine ⟨trivial, rfl, (callsIn_wide.2 (Fill_any (total ps) (by omega) _)).mono ?_⟩
      rintro e w2 ⟨v, rfl, hown, hB2⟩
      have hrd := rdV_fill (L := L) (fun k hk => Nat.lt_of_lt_of_le (hLW k hk) hKs.1) hown
      have hJ2 := hJ _ _ _ hJs (hB2.mono hKs.1)
      obtain ⟨fn, tmps, assign, body, hy, hR⟩ := hY pre (v, fillB (total ps)) w2 hJ2 hrd
      clear hown
      have Hrd := Lib.hid hrd
      clear hrd
      gi_wp2
      refine ⟨rfl, hR.mono ?_⟩
      rintro e W3 (⟨rfl, hJ3, hk3, _⟩ | ⟨rfl, hJx3, _⟩)
      · gi_wp2
        go_end0
        exact ⟨⟨_, rfl⟩, .inl ⟨_, by rw [Hpre.out]; simp, hJ3⟩⟩
      · gi_wp2
        go_end0
        exact ⟨⟨_, rfl⟩, .inr ⟨_, trivial, hJx3⟩⟩
end Go.Proofs.YtphbjamfhmcjcaaDoor
/- A region that draws its order, within a round of a range over a function: all operations but a forced tail read alone. No program is named here. -/
namespace Go.Proofs.YtphbjamfhmcjcaaDoor
open Go.RowKit
set_option maxRecDepth 8000
set_option linter.all false
variable {P : Program} {ops : Array Oper} {md : Region.Mode} {w : World} {l₀ n : Nat}

def noDefer (ops : Array Oper) : Bool := ops.all fun o => match o.op with | .defer _ => false | _ => true
theorem noDefer_at (h : noDefer ops = true) {i : Nat} {o : Oper} (hi : ops[i]? = some o) : ∀ c, o.op ≠ .defer c := by
  intro c e
  have := Array.all_eq_true_iff_forall_mem.1 h o (Array.mem_of_getElem? hi)
  rw [e] at this
  cases this
theorem wpOpIn_of_stOp (hnd : noDefer ops = true) {i : Nat} {a : Act} {K : Act → Prop} {K' : Act → World → Prop} {Q' : Exit → Act → World → Prop} (h : ∀ a, K a → K' a w) (hh : stOp P ops w i K a) :
    wpOpIn (Fence.wide.inRound l₀) n P ops Q' i K' a w := by
  unfold stOp at hh
  unfold wpOpIn
  cases ho : ops[i]? with
  | none => simp only [ho] at hh ⊢; exact h _ hh
  | some o =>
    simp only [ho] at hh ⊢
    split
    · rename_i hw
      simp only [hw, if_true] at hh
      refine ⟨fun _ _ => trivial, ?_⟩
      rw [Oper.semAt_eq _ _ _ (noDefer_at hnd ho)]
      unfold Oper.still at hh
      generalize (execOp a.eval o).run P w = r at *
      cases r with
      | ok x w' =>
        cases x <;> simp only [Oper.stillUpon] at hh <;> simp only [Oper.uponIn]
        case enter f args =>
          obtain ⟨rfl, v, hc, hn⟩ := hh
          refine ⟨fun hd => by simp [Fence.wide] at hd, CallsIn.inRound l₀ ((callsIn_wide.2 hc).mono fun e w'' he => ?_)⟩
          obtain ⟨rfl, rfl⟩ := he
          exact h _ hn
        all_goals (obtain ⟨rfl, h2⟩ := hh; exact h _ h2)
      | halt x w' => simp only [Oper.stillUpon] at hh
    · rename_i hw
      simp only [hw] at hh
      exact ⟨fun _ _ => trivial, h _ hh⟩
theorem wpAnyIn_of_head (hnd : noDefer ops = true) {m g : Nat} {L : Array Bool → Act → Prop} {Q' : Exit → Act → World → Prop} (hL : ∀ listed a, L listed a → wpAnyIn (Fence.wide.inRound l₀) n P md ops Q' g listed a w) :
    ∀ (f : Nat) (listed : Array Bool) (a : Act), wpAnyL P md ops w m L f listed a → wpAnyIn (Fence.wide.inRound l₀) n P md ops Q' (f + g) listed a w
  | 0, listed, a, h => by rw [Nat.zero_add]; exact hL _ _ h
  | f + 1, listed, a, h => by
    rw [show f + 1 + g = (f + g) + 1 by omega]
    exact ⟨fun h0 => absurd h0 h.1, fun i hi => wpOpIn_of_stOp hnd (fun a' h' => wpAnyIn_of_head hnd hL f _ a' h') (h.2 i hi).2⟩
theorem wpAnyIn_of_seq {Q' : Exit → Act → World → Prop} : ∀ (l : List Oper) (k : Nat) (listed : Array Bool) (a : Act) (w : World), (∀ j, l[j]? = ops[k + j]?) →
    Region.seqB md ops l.length k listed = true → wpListIn (Fence.wide.inRound l₀) n P ops Q' l a w → wpAnyIn (Fence.wide.inRound l₀) n P md ops Q' l.length listed a w
  | [], _, _, _, _, _, hB, h => ⟨by simpa [Region.seqB] using hB, h⟩
  | o :: l, k, listed, a, w, hl, hB, h => by
    have h0 : ops[k]? = some o := by simpa using (hl 0).symm
    simp only [List.length_cons, Region.seqB, Bool.and_eq_true, decide_eq_true_eq] at hB
    refine ⟨fun h1 => (by rw [hB.1] at h1; cases h1), fun i hi => ?_⟩
    rw [hB.1] at hi
    have hik : i = k := by simpa using hi
    subst hik
    have hw : wpOpIn (Fence.wide.inRound l₀) n P ops Q' i (wpListIn (Fence.wide.inRound l₀) n P ops Q' l) a w := by unfold wpOpIn; simp only [h0]; exact h
    exact wpOpIn_mono (fun a' w' h' => wpAnyIn_of_seq l (i + 1) _ a' w' (fun j => by have := hl (j + 1); simpa [Nat.add_assoc, Nat.add_comm 1 j] using this) hB.2 h') hw

/-- All operations but a forced tail read alone: in the text's order, within a round. -/
theorem region_round_tail {id : Nat} {Q : Exit → Act → World → Prop} {a : Act} {w : World} {l : List Oper} (m : Nat) (hm : P.follows .mixedOrders = true) (hB : Region.lexTailB .any l.toArray m = true) (hnd : noDefer l.toArray = true)
    (h : wpStill P l.toArray w.drew (fun a' => wpListIn (Fence.wide.inRound l₀) n P l.toArray Q (l.drop m) a' w.drew) (l.take m) a) : (Code.region id l.toArray true).wpIn (Fence.wide.inRound l₀) n P Q a w := by
  simp only [Region.lexTailB, Bool.and_eq_true, decide_eq_true_eq] at hB
  obtain ⟨⟨⟨⟨hsel, hn⟩, hs⟩, hc⟩, hlex⟩ := hB
  have hn' : m < l.length := by simpa using hn
  have htl : (l.take m).length = m := by simp; omega
  have hdl : (l.drop m).length = l.toArray.size - m := by simp
  have inv0 : HeadInv .any l.toArray m (Array.replicate l.toArray.size false) :=
    ⟨by simp, fun j oj _ hl => (by rw [getD_replicate_false] at hl; cases hl), fun t _ ht => getD_in (by simpa using ht) (getD_replicate_false _ _)⟩
  have H := wpAnyL_lex (md := .any) (g := l.toArray.size - m) hsel hs hc hn (l.take m) 0 _ a (fun j hj => by
    have hj' : j < m := by rw [htl] at hj; exact hj
    simp [hj']) (by simpa using htl) inv0 (by rw [htl]; exact hlex) h
  refine wpIn_region_any hm ?_
  have := wpAnyIn_of_head (n := n) (l₀ := l₀) hnd (Q' := Q) (g := l.toArray.size - m) (fun listed a' hL => by
    have := wpAnyIn_of_seq (n := n) (l₀ := l₀) (md := .any) (Q' := Q) (l.drop m) m listed a' w.drew (fun j => by simp [List.getElem?_drop]) (by rw [hdl]; exact hL.1) hL.2
    rwa [hdl] at this) _ _ _ H
  rw [htl, show m + (l.toArray.size - m) = l.toArray.size by omega] at this
  exact this
end Go.Proofs.YtphbjamfhmcjcaaDoor
namespace Go.Proofs.YtphbjamfhmcjcaaDoor
open Go.RowKit Go.Shelf
set_option maxRecDepth 8000
set_option linter.all false
attribute [local go_sem] Oper.semAt_some

/-- The whole blocks of a text. -/
def cks (c : List UInt8) : List (List UInt8) := (List.range (c.length / 64)).map fun i => (c.drop (64 * i)).take 64
/-- What is left behind them. -/
def rem (c : List UInt8) : List UInt8 := c.drop (64 * (c.length / 64))
theorem rem_length (c : List UInt8) : (rem c).length = c.length % 64 := by simp [rem]; omega
theorem chunk_app (c d : List UInt8) (i : Nat) (h : 64 * i + 64 ≤ c.length) : ((c ++ d).drop (64 * i)).take 64 = (c.drop (64 * i)).take 64 := by
  rw [List.drop_append_of_le_length (by omega), List.take_append_of_le_length (by simp; omega)]
theorem rem_less (c d : List UInt8) (h : c.length % 64 + d.length < 64) : rem (c ++ d) = rem c ++ d ∧ cks (c ++ d) = cks c := by
  have e : (c ++ d).length / 64 = c.length / 64 := by simp; omega
  constructor
  · unfold rem; rw [e, List.drop_append_of_le_length (by omega)]
  · unfold cks; rw [e]; exact List.map_congr_left fun i hi => chunk_app c d i (by simp at hi; omega)
theorem rem_full (c d : List UInt8) (h : c.length % 64 + d.length = 64) : rem (c ++ d) = [] ∧ cks (c ++ d) = cks c ++ [rem c ++ d] := by
  have e : (c ++ d).length / 64 = c.length / 64 + 1 := by simp; omega
  have e2 : (c ++ d).length = 64 * (c.length / 64 + 1) := by simp; omega
  constructor
  · unfold rem; rw [e, ← e2, List.drop_length]
  · unfold cks; rw [e, List.range_succ, List.map_append]
    congr 1
    · exact List.map_congr_left fun i hi => chunk_app c d i (by simp at hi; omega)
    · simp only [List.map_cons, List.map_nil]
      rw [List.drop_append_of_le_length (by omega)]
      rw [List.take_of_length_le (by simp; omega)]
      rfl
theorem filled_any (A : Option Addr) (n c : Nat) (w : World) : Calls Tryd.prog 43 #[.slice A n c] w fun e w' => e = .returned (.func (.func 46) #[] #[.pointer (some ⟨w.heap.size, 0, none⟩)]) ∧ w.alloc (.cells #[.slice A n c] 57) = w' := by
  go_enter Tryd.func43, Tryd.ntmps43
  go_wp2
  go_ret
  exact ⟨rfl, rfl⟩
theorem blocks_any (A : Option Addr) (n c : Nat) (w : World) : Calls Tryd.prog 33 #[.slice A n c] w fun e w' => e = .returned (.func (.func 42) #[] #[.pointer (some ⟨w.heap.size, 0, none⟩)]) ∧ w.alloc (.cells #[.slice A n c] 57) = w' := by
  go_enter Tryd.func33, Tryd.ntmps33
  go_wp2
  go_ret
  exact ⟨rfl, rfl⟩

/-- The iterator's own memory: yield's box, the begun block's box, and its row. -/
def Beg (B l : Nat) (V : World) (r : List UInt8) : Prop :=
  V.rowIs B 71 1 (fun _ => .func (.yield l) #[] #[]) ∧ V.rowIs (B + 1 + 1) 22 1 (fun _ => .slice (some ⟨B + 1, 0, none⟩) r.length 64) ∧
    V.ownsRow (B + 1) 5 1 (.slice (some ⟨B + 1, 0, none⟩) r.length 64) r.length (r.map fun b => .int .u8 (bN b))
theorem Beg.below {B l : Nat} {V V' : World} {r : List UInt8} (h : Beg B l V r) (hb : Below (B + 1 + 1 + 1) V V') : Beg B l V' r :=
  ⟨rowIs_below h.1 hb (by omega), rowIs_below h.2.1 hb (by omega), ownsRow_keep h.2.2 fun _ _ ho => (hb.block _ (by omega)).trans ho⟩
theorem Beg.keep {B l : Nat} {L : List Nat} {V V' : World} {r : List UInt8} (h : Beg B l V r) (hL : ∀ k ∈ L, k < B) (hb : KeepBut L V V') : Beg B l V' r :=
  ⟨hb.row (fun hm => by have := hL _ hm; omega) h.1, hb.row (fun hm => by have := hL _ hm; omega) h.2.1, ownsRow_keep h.2.2 fun _ hc ho => hb.2 _ _ (fun hm => by have := hL _ hm; omega) ho hc⟩
def Inv (J : List (Value × List UInt8) → World → Prop) (B l : Nat) (pre2 : List (Value × List UInt8)) (V : World) : Prop :=
  ∃ pre : List (Value × List UInt8), pre.map (·.2) = cks (flat pre2) ∧ J pre V ∧ Beg B l V (rem (flat pre2))
def InvX (Jx : List (Value × List UInt8) → World → Prop) (c : Code) (V : World) : Prop := c = .ret ∧ ∃ pre : List (Value × List UInt8), Jx pre V
def lenOf : Value → Nat | .slice _ n _ => n | _ => 0
def Going (J : List (Value × List UInt8) → World → Prop) (B l : Nat) (L : List Nat) (c q : List UInt8) (V : World) (p : Value) (V' : World) : Prop :=
  ∃ (q1 q2 : List UInt8) (pre : List (Value × List UInt8)), q = q1 ++ q2 ∧ RdV V' L p q2 ∧ pre.map (·.2) = cks (c ++ q1) ∧ J pre V' ∧ Beg B l V' (rem (c ++ q1)) ∧ KeepsFrom (B + 1 + 1 + 1 + 1) V V' ∧ KeepBut L V V'

set_option maxHeartbeats 1000000 in
theorem blocks1_seq (L0 : List Nat) (pb : Nat) (hpb : pb ∉ L0) (pv : Value) (ps : List (Value × List UInt8)) (w : World) (hL0 : ∀ k ∈ L0, k < w.heap.size) (hbox : w.cell? ⟨pb, 0, none⟩ = some pv) (hps : PartsAt w L0 pv ps) (ht : total ps ≤ 4611686018427387904) :
    SeqG Tryd.prog 42 #[.pointer (some ⟨pb, 0, none⟩)] (fun x : Value × List UInt8 => #[x.1]) (KeepBut L0) (fun _ x W => RdV W L0 x.1 x.2 ∧ x.2.length = 64) (fun xs => xs.map (·.2) = cks (flat ps ++ fillB (total ps))) (fun _ => True) w := by
  intro l J Jx W hW hJ hJx hY h0
  have hLW : ∀ k ∈ L0, k < W.heap.size := fun k hk => Nat.lt_of_lt_of_le (hL0 k hk) hW.size
  have hbox' := KeepBut.cell (KeepBut.below hW) hpb hbox
  have hps' := hps.keep (KeepBut.below hW)
  obtain ⟨A, cap, rfl, _⟩ := hps'
  have hps' := hps.keep (KeepBut.below hW)
  have Hps := Lib.hid hps'
  have Hbox := Lib.hid hbox'
  obtain ⟨i0, hi, hz0, hz1, hz2⟩ := info_parts info5
  have hmk : ∀ W : World, (Instr.makeSlice 22 (.int .i64 0) (.int .i64 64)).run Tryd.prog W = .ok (.slice (some ⟨W.heap.size, 0, none⟩) 0 64) (W.alloc (.cells (rowA 64 (bF fun _ => 0)) 5)) := make_none i0 hi hz0 hz1 hz2
  have hpbW := World.block_lt_of_cell? _ _ hbox'
  have hpbW : pb < W.heap.size := hpbW
  have hp1 : pb < W.heap.size + 1 := by omega
  have hp2 : pb < W.heap.size + 1 + 1 := by omega
  clear hps' hps hbox hL0
  refine callsIn_of_wp_marks Tryd.func42 rfl trivial ?_ rfl
  simp only [Tryd.ntmps42, List.size_toArray, List.length_cons, List.length_nil, Nat.reduceAdd, Nat.reduceSub, Array.replicate_succ, Array.replicate_zero, List.push_toArray, List.append_toArray, List.nil_append, List.cons_append]
  gi_wp2_with fail
  refine ⟨trivial, rfl, (callsIn_wide.2 (filled_any A ps.length cap _)).mono ?_⟩
  rintro e W4 ⟨rfl, hW4⟩
  clear hmk
  have bA : W4.rowIs W.heap.size 71 1 (fun _ => .func (.yield l) #[] #[]) := by
    rw [← hW4]; exact (((rowIs_box W 71 1 (fun _ => .func (.yield l) #[] #[])).alloc _).alloc _).alloc _
  have bB : W4.rowIs (W.heap.size + 1) 5 64 (bF fun _ => 0) := by
    rw [← hW4]
    have := ((rowIs_box (W.alloc (.cells #[.func (.yield l) #[] #[]] 71)) 5 64 (bF fun _ => 0)).alloc (.cells #[.slice (some ⟨W.heap.size + 1, 0, none⟩) 0 64] 22)).alloc (.cells #[.slice A ps.length cap] 57)
    rwa [World.size_alloc] at this
  have bC : W4.rowIs (W.heap.size + 1 + 1) 22 1 (fun _ => .slice (some ⟨W.heap.size + 1, 0, none⟩) 0 64) := by
    rw [← hW4]
    have := (rowIs_box ((W.alloc (.cells #[.func (.yield l) #[] #[]] 71)).alloc (.cells (rowA 64 (bF fun _ => 0)) 5)) 22 1 (fun _ => .slice (some ⟨W.heap.size + 1, 0, none⟩) 0 64)).alloc (.cells #[.slice A ps.length cap] 57)
    rwa [World.size_alloc, World.size_alloc] at this
  have bD : W4.rowIs (W.heap.size + 1 + 1 + 1) 57 1 (fun _ => .slice A ps.length cap) := by
    rw [← hW4]
    have := rowIs_box (((W.alloc (.cells #[.func (.yield l) #[] #[]] 71)).alloc (.cells (rowA 64 (bF fun _ => 0)) 5)).alloc (.cells #[.slice (some ⟨W.heap.size + 1, 0, none⟩) 0 64] 22)) 57 1 (fun _ => .slice A ps.length cap)
    rwa [World.size_alloc, World.size_alloc, World.size_alloc] at this
  have hB4 : Below W.heap.size W W4 := by
    rw [← hW4]
    exact ((((Below.refl _ W).alloc (Nat.le_refl _) _).alloc (by simp) _).alloc (by simp; omega) _).alloc (by simp; omega) _
  have hs4 : W4.heap.size = W.heap.size + 1 + 1 + 1 + 1 := by rw [← hW4]; simp
  clear hW4
  have hbeg : Beg W.heap.size l W4 [] := ⟨bA, bC, by have := ownsRow_row bB (W.heap.size + 1) 0 (by omega) (by unfold maxLen; omega) (Nat.le_refl _); simpa using this⟩
  have hJ4 := hJ _ _ _ h0 hB4
  obtain ⟨L, hLe⟩ : ∃ L, L = (W.heap.size + 1) :: (W.heap.size + 1 + 1) :: L0 := ⟨_, rfl⟩
  have hLnot : ∀ k, k < W.heap.size → k ∉ L0 → k ∉ L := fun k hk h0 hm => by
    rw [hLe] at hm; simp at hm; rcases hm with h | h | h
    · omega
    · omega
    · exact h0 h
  have hLlt : ∀ k ∈ L, k < W.heap.size + 1 + 1 + 1 := fun k hm => by
    rw [hLe] at hm; simp at hm; rcases hm with h | h | h
    · omega
    · omega
    · have := hLW k h; omega
  have hp4 : PartsAt W4 L (.slice A ps.length cap) ps := (Hps.out.more hLnot).keep (KeepBut.below hB4)
  have seq := filled1_seq L (W.heap.size + 1 + 1 + 1) (fun hm => by have := hLlt _ hm; omega) (.slice A ps.length cap) ps W4 (fun k hk => by have := hLlt k hk; omega) (bD.cell (by omega)) hp4 ht
  clear bA bB bC bD hp4 Hps Hbox hbox' hp1 hp2 hpbW
  gi_wp2_with fail
  refine range_law (n := 0) (gf := 46) (lb := #[.pointer (some ⟨W.heap.size + 1 + 1 + 1, 0, none⟩)]) rfl (enters_of Tryd.func46 (by kernel_rfl) rfl) seq (Below.refl _ _) KeepBut.trans (fun V k o o' _ h hc => KeepBut.putObj h hc)
    (fun _ x V k o o' _ h hc hG => hG.keep (KeepBut.putObj h hc)) (fun _ => rfl)
    (Inv J W.heap.size l) (fun c _ V => InvX Jx c V)
    (fun pre A B h hb => by obtain ⟨p, h1, h2, h3⟩ := h; exact ⟨p, h1, hJ _ _ _ h2 (hb.mono (by omega)), h3.below (hb.mono (by omega))⟩)
    (fun c pre A B h hb => by obtain ⟨h1, p, h2⟩ := h; exact ⟨h1, p, hJx _ _ _ h2 (hb.mono (by omega))⟩)
    ⟨[], rfl, hJ4, hbeg⟩
    (fun x => { tmps := #[.func (.yield l) #[] #[], .pointer (some ⟨pb, 0, none⟩), .pointer (some ⟨W.heap.size, 0, none⟩), .pointer (some ⟨W.heap.size + 1 + 1, 0, none⟩), x.1, undef, .slice (some ⟨W.heap.size + 1, 0, none⟩) 0 64, .slice A ps.length cap, .func (.func 46) #[] #[.pointer (some ⟨W.heap.size + 1 + 1 + 1, 0, none⟩)], x.1, undef, undef, undef, undef, undef, undef, undef, undef, undef, undef, undef, undef, undef, undef, undef, undef, undef, undef, undef, undef, undef, undef, undef, undef, undef, undef], defers := [] }) ?assign ?body ?done ?stop
  case assign =>
    intro l2 x V K hK
    gi_wp2
    exact hK
  case body =>
    rintro l2 pre2 x V hl2 ⟨pre, hpre, hJp, hBeg⟩ hG
    gi_wp2
    gi_loopw [4] (fun p V' => Going J W.heap.size l L (flat pre2) x.2 V p V') (fun p _ => lenOf p)
    case atStart =>
      refine ⟨[], x.2, pre, rfl, hG, ?_, hJp, ?_, KeepsFrom.refl _ _, KeepBut.refl _ _⟩
      · rw [List.append_nil]; exact hpre
      · rw [List.append_nil]; exact hBeg
    case round =>
      obtain ⟨q1, q2, pre', hq, hrd, hpre', hJp', hBeg', hKF, hKB⟩ := hrel
      clear hG hBeg hJp hpre pre
      have Hq := Lib.hid hq
      have Hpre := Lib.hid hpre'
      clear hq hpre'
      obtain ⟨Ap, capp, rfl, hn1, hn2, hcells⟩ := hrd
      have Hcells := Lib.hid hcells
      clear hcells
      unfold maxLen at hn2
      generalize hc : flat pre2 ++ q1 = c at *
      have Hc := Lib.hid hc
      clear hc
      have hk := rem_length c
      have hk64 : (rem c).length < 64 := by omega
      have Hk := Lib.hid hk
      clear hk
      by_cases hn : 0 < q2.length
      · obtain ⟨pb2, po, rfl, hpbL, hcell⟩ := Hcells.out hn
        have Hcell := Lib.hid hcell
        clear hcell
        have cb := hBeg'.2.1.cell (i := 0) (by omega)
        have fb := hBeg'.2.1.frozen 0
        have cy := hBeg'.1.cell (i := 0) (by omega)
        obtain ⟨k, hkk⟩ : ∃ k, (rem c).length = k := ⟨_, rfl⟩
        rw [hkk] at cb hk64
        have Hkk := Lib.hid hkk
        clear hkk
        obtain ⟨m, hm1, hm2, hm3, hm4, hmin⟩ : ∃ m : Nat, 1 ≤ m ∧ m ≤ q2.length ∧ k + m ≤ 64 ∧ (k + m = 64 ∨ m = q2.length) ∧ (if (64 : Int) - (k : Int) < (q2.length : Int) then (64 : Int) - (k : Int) else (q2.length : Int)) = (m : Int) := by
          by_cases h : (64 : Int) - (k : Int) < (q2.length : Int)
          · exact ⟨64 - k, by omega, by omega, by omega, by omega, by rw [if_pos h]; omega⟩
          · exact ⟨q2.length, by omega, by omega, by omega, .inr rfl, by rw [if_neg h]⟩
        gi_wp2
        clear hmin
        have i1 : (m : Int) ≤ (capp : Int) := by omega
        have i2 : (m : Int) ≤ (q2.length : Int) := by omega
        refine region_round_tail 4 (by kernel_rfl) (by kernel_rfl) (by kernel_rfl) ?_
        simp only [List.take_succ_cons, List.take_zero, List.drop_succ_cons, List.drop_zero]
        iterate 4 (refine wpStill_step (fun K hK => ?_); go_simp; (try go_bits); refine hK _ ?_; clear hK K)
        refine wpStill_nil ?_
        have hpw : pb2 < wr.heap.size := World.block_lt_of_cell? _ _ (Hcell.out 0 hn)
        have hown := hBeg'.2.2
        rw [Hkk.out] at hown
        refine wpListIn_append_fits _ rfl (.tmp 19) (.tmp 22) 22 rfl (W.heap.size + 1) 5 i0 1 Tryd.underlying22 hi hz1 (W.heap.size + 1) k 64 _ rfl hown.drew ⟨pb2, po, none⟩ m capp ((q2.take m).map fun b => .int .u8 (bN b)) rfl (by simp; omega) (cells_take hm2 Hcell.out) (by intro u hu; obtain ⟨b, _, rfl⟩ := List.mem_map.1 hu; rfl) hm3 ?_
        intro w1 hown1 hg1
        have hB1 : Below (W.heap.size) wr w1 := (Below.refl _ wr).drew.grown hg1 (by have := hBeg'.2.1.lt; show _ ≤ wr.heap.size; omega) (fun g e => by injection e with e; omega)
        have hrb : w1.rowIs (W.heap.size + 1 + 1) 22 1 (fun _ => .slice (some ⟨W.heap.size + 1, 0, none⟩) (rem c).length 64) := hBeg'.2.1.of_block (hg1.block _ hBeg'.2.1.lt (fun e => by injection e with e; omega))
        have hra : w1.rowIs W.heap.size 71 1 (fun _ => .func (.yield l) #[] #[]) := hBeg'.1.of_block (hg1.block _ hBeg'.1.lt (fun e => by injection e with e; omega))
        have hkb1 : KeepBut L wr w1 := ⟨hg1.size, fun j o hj ho _ => (hg1.block j (Array.getElem?_eq_some_iff.1 ho).1 (fun e => hj (by cases e; rw [hLe]; simp))).trans ho⟩
        have hkf1 : KeepsOthers wr w1 := ⟨hg1.size, fun j o ho hc => (hg1.block j (Array.getElem?_eq_some_iff.1 ho).1 (fun e => by
          cases e
          obtain ⟨_, hh⟩ := hown
          rcases hh with ⟨h, _⟩ | ⟨g', cap', cur, hv, _, hh, _⟩
          · cases h
          · cases hv; rw [hh] at ho; cases ho; cases hc)).trans ho⟩
        have cb1 := hrb.cell (i := 0) (by omega)
        have fb1 := hrb.frozen 0
        have hsl := slice_from (P := Tryd.prog) 22 5 Tryd.underlying22 (by kernel_rfl) ⟨pb2, po, none⟩ q2.length capp m hm2
        obtain ⟨ad, had⟩ : ∃ ad, (if capp = m then (⟨pb2, po, none⟩ : Addr) else (⟨pb2, po, none⟩ : Addr).add m) = ad := ⟨_, rfl⟩
        rw [had] at hsl
        have Had := Lib.hid had
        clear cb fb cy had
        obtain ⟨V2, hV2⟩ : ∃ V2, w1.setCell ⟨W.heap.size + 1 + 1, 0, none⟩ (.slice (some ⟨W.heap.size + 1, 0, none⟩) (k + m) 64) = V2 := ⟨_, rfl⟩
        have hlen : (rem c ++ q2.take m).length = k + m := by rw [List.length_append, Hkk.out, List.length_take]; omega
        have hbeg2 : Beg W.heap.size l V2 (rem c ++ q2.take m) := by
          rw [← hV2]
          refine ⟨hra.setOther (by simp; omega) _, (hrb.set 0 _).congr fun i hi => ?_, ?_⟩
          · obtain rfl : i = 0 := by omega
            rw [if_pos rfl, hlen]
          · rw [hlen, List.map_append]
            exact ownsRow_keep hown1 fun o _ ho => (Below.heap_setCell w1 _ _ _ (by simp)).trans ho
        have hbj : Below W.heap.size wr V2 := by rw [← hV2]; exact hB1.setCell (by simp; omega) _
        have hkb2 : KeepBut L wr V2 := by rw [← hV2]; exact hkb1.trans (KeepBut.setCell (by rw [hLe]; simp) _)
        have hkf2 : KeepsOthers wr V2 := by rw [← hV2]; exact hkf1.trans (KeepsOthers.setCell _ _ _)
        have hj2 := hJ _ _ _ hJp' hbj
        have hrd2 : RdV V2 L (.slice (some ad) (q2.length - m) (capp - m)) (q2.drop m) := by
          refine ⟨some ad, capp - m, by simp, by simp; omega, by unfold maxLen; omega, fun h0 => ?_⟩
          have hlt : m < q2.length := by simp at h0; omega
          refine ⟨pb2, po + m, by rw [← Had.out, if_neg (by omega), Addr.add_mid], hpbL, fun i hi => ?_⟩
          have hi' : m + i < q2.length := by simp at hi; omega
          have := hkb2.cell (a := ⟨pb2, po + (m + i), none⟩) hpbL (Hcell.out (m + i) hi')
          rw [Nat.add_assoc, this]
          simp [bAt]
        have Hrd2 := Lib.hid hrd2
        clear hrd2 hbj hB1 hkf1 hkb1 hrb hra hown1 hg1
        have cb2 := hbeg2.2.1.cell (i := 0) (by omega)
        have fb2 := hbeg2.2.1.frozen 0
        have cy2 := hbeg2.1.cell (i := 0) (by omega)
        rw [hlen] at cb2
        have Hlen := Lib.hid hlen
        clear hlen
        have hcq : c ++ q2.take m = flat pre2 ++ (q1 ++ q2.take m) := by rw [← Hc.out, List.append_assoc]
        have hxq : x.2 = (q1 ++ q2.take m) ++ q2.drop m := by rw [List.append_assoc, List.take_append_drop]; exact Hq.out
        have hml : (q2.take m).length = m := by rw [List.length_take]; omega
        have hck := Hk.out
        rw [Hkk.out] at hck
        have Hcq := Lib.hid hcq
        have Hxq := Lib.hid hxq
        have Hml := Lib.hid hml
        have Hck := Lib.hid hck
        clear hcq hxq hml hck
        by_cases hfull : k + m < 64
        · have hd : decide ((k : Int) + (m : Int) < 64) = true := by simp; omega
          gi_wp2
          go_roundw
          case rel =>
            obtain ⟨r1, r2⟩ := rem_less c (q2.take m) (by rw [Hml.out, ← Hck.out]; exact hfull)
            exact ⟨q1 ++ q2.take m, q2.drop m, pre', Hxq.out, Hrd2.out, by rw [← Hcq.out, r2]; exact Hpre.out, hj2, by rw [← Hcq.out, r1]; exact hbeg2, hKF.trans (hkf2.from _), hKB.trans hkb2⟩
          case measure => simp [lenOf]; omega
        · have hfull' : k + m = 64 := by omega
          have hd : decide ((k : Int) + (m : Int) < 64) = false := by simp; omega
          have hrdB : RdV V2 L0 (.slice (some ⟨W.heap.size + 1, 0, none⟩) (k + m) 64) (rem c ++ q2.take m) := by
            refine ⟨some ⟨W.heap.size + 1, 0, none⟩, 64, by rw [Hlen.out], by rw [Hlen.out]; omega, by unfold maxLen; omega, fun _ => ⟨W.heap.size + 1, 0, rfl, fun hm => by have := hLW _ hm; omega, fun i hi => ?_⟩⟩
            have hcc := hbeg2.2.2.cells (g := W.heap.size + 1) rfl i (.int .u8 (bN (bAt (rem c ++ q2.take m) i)))
            rw [Addr.add_mid] at hcc
            exact hcc (map_at _ i hi)
          obtain ⟨fn, tmps, assign, body, hy, hR⟩ := hY pre' (.slice (some ⟨W.heap.size + 1, 0, none⟩) (k + m) 64, rem c ++ q2.take m) V2 hj2 ⟨hrdB, by show (rem c ++ q2.take m).length = 64; rw [Hlen.out]; exact hfull'⟩
          clear hrdB
          have Hfull := Lib.hid hfull'
          clear hfull'
          gi_wp2
          refine ⟨rfl, RoundIn.mono (show RoundIn (Fence.wide.inRound l2) 0 _ _ _ _ _ _ _ _ from hR) ?_⟩
          obtain ⟨r1, r2⟩ := rem_full c (q2.take m) (by rw [Hml.out, ← Hck.out]; exact Hfull.out)
          have Hr1 := Lib.hid r1
          have Hr2 := Lib.hid r2
          clear r1 r2
          rintro e W5 (⟨rfl, hJ5, hk5, hf5⟩ | ⟨rfl, hJx5, hf5⟩)
          · have hbeg5 := hbeg2.keep hLW hk5
            have cb5 := hbeg5.2.1.cell (i := 0) (by omega)
            have fb5 := hbeg5.2.1.frozen 0
            rw [Hlen.out] at cb5
            clear cb2 fb2 cy2
            gi_wp2
            go_roundw
            case rel =>
              refine ⟨q1 ++ q2.take m, q2.drop m, _, Hxq.out, ?_, ?_, hJ _ _ _ hJ5 ((Below.refl _ W5).setCell (by simp; omega) _), ?_, ?_, ?_⟩
              · exact (Hrd2.out.keep (hk5.more fun k hk => by rw [hLe]; simp [hk])).keep (KeepBut.setCell (by rw [hLe]; simp) _)
              · rw [List.map_append, ← Hcq.out, Hr2.out, Hpre.out]; rfl
              · rw [← Hcq.out, Hr1.out]
                refine ⟨hbeg5.1.setOther (by simp; omega) _, (hbeg5.2.1.set 0 _).congr fun i hi => ?_, ?_⟩
                · obtain rfl : i = 0 := by omega
                  rw [if_pos rfl]; rfl
                · have := ownsRow_keep (ownsRow_none hbeg5.2.2) fun o _ ho => (Below.heap_setCell W5 ⟨W.heap.size + 1 + 1, 0, none⟩ (.slice (some ⟨W.heap.size + 1, 0, none⟩) 0 64) _ (by simp)).trans ho
                  exact this
              · exact (hKF.trans (hkf2.from _)).trans ((keepsFrom_mono hf5 (by omega)).trans ((KeepsOthers.setCell _ _ _).from _))
              · exact (hKB.trans hkb2).trans ((hk5.more fun k hk => by rw [hLe]; simp [hk]).trans (KeepBut.setCell (by rw [hLe]; simp) _))
            case measure => simp [lenOf]; omega
          · gi_wp2
            exact ⟨by rw [hs4]; exact (hKF.trans (hkf2.from _)).trans (keepsFrom_mono hf5 (by omega)), rfl, _, hJx5⟩
      · have hq0 : q2 = [] := List.eq_nil_of_length_eq_zero (by omega)
        have hd0 : decide (0 < q2.length) = false := by simp; omega
        have Hq0 := Lib.hid hq0
        clear hq0
        gi_wp2
        have hcx : flat (pre2 ++ [x]) = c := by rw [flat_snoc, Hq.out, Hq0.out, List.append_nil]; exact Hc.out
        exact ⟨by rw [hs4]; exact hKF, hKB, pre', by rw [hcx]; exact Hpre.out, hJp', by rw [hcx]; exact hBeg'⟩
  case done =>
    rintro D xs V hD hS ⟨pre, hpre, hJp, hBeg⟩ hK
    gi_wp2
    refine ⟨by simp, .inl ⟨_, _, rfl, run_takeDeferred hK, ?_⟩⟩
    refine ⟨_, results_none rfl _ _ _, ⟨_, rfl⟩, .inl ⟨pre, ?_, hJ _ _ _ hJp (below_putObj (by omega) _)⟩⟩
    have e : flat xs = flat ps ++ fillB (total ps) := by unfold flat; rw [hS]; simp
    rw [hpre, e]
  case stop =>
    rintro D c pre2 V hD _ ⟨rfl, pre, hJp⟩ hK
    gi_wp2
    refine ⟨by simp, .inl ⟨_, _, rfl, run_takeDeferred hK, ?_⟩⟩
    exact ⟨_, results_none rfl _ _ _, ⟨_, rfl⟩, .inr ⟨pre, trivial, hJx _ _ _ hJp (below_putObj (by omega) _)⟩⟩
end Go.Proofs.YtphbjamfhmcjcaaDoor
namespace Go.Proofs.YtphbjamfhmcjcaaDoor
open Go.RowKit Go.Shelf
set_option maxRecDepth 8000
set_option linter.all false
attribute [local go_sem] Oper.semAt_some uF_at

theorem run_storeU {W : World} {g n : Nat} (h : RowW W g n) (f : Nat → BitVec 32) : (storeCells ⟨g, 0, none⟩ (rowA n (uF f)).toList).run Tryd.prog W = .ok () (W.setCells g 0 (rowA n (uF f)).toList) := by
  obtain ⟨t, z, r⟩ := h
  have := run_storeCells_cells (P := Tryd.prog) g 0 (rowA n (uF f)).toList 0 W (fun j hj => by simpa using (there_row r j (by rw [rowA_toList] at hj; simpa using hj)).1) (fun j hj => by simpa using (there_row r j (by rw [rowA_toList] at hj; simpa using hj)).2)
    (fun v hv => by rw [rowA_toList] at hv; obtain ⟨i, _, rfl⟩ := List.mem_map.1 hv; rfl)
  simpa using this
attribute [local go_sem] run_storeU run_storeB
/-- The state behind a block. -/
def turnF (K s : Nat → BitVec 32) (l : List UInt8) : Nat → BitVec 32 := fun i => s i + (runTo K (wS l 48) (St.of s) 64).get i
/-- The digest of a text, from a first state. -/
def shaL (K F : Nat → BitVec 32) (text : List UInt8) : Nat → UInt8 := dig ((cks (text ++ fillB text.length)).foldl (turnF K) F)
theorem rowIs_putObj {W : World} {b n l : Nat} {t : TypeId} {f : Nat → Value} (h : W.rowIs b t n f) (hne : b ≠ l) (o : Obj) : (W.putObj l o).rowIs b t n f := h.of_block (World.putObj_heap_other hne)

def SumInv (K F : Nat → BitVec 32) (w : World) (pre : List (Value × List UInt8)) (V : World) : Prop :=
  V.rowIs (w.heap.size + 1) 50 8 (uF ((pre.map (·.2)).foldl (turnF K) F)) ∧ V.rowIs w.heap.size 24 32 (bF fun _ => 0) ∧ Below w.heap.size w V
set_option maxHeartbeats 2000000 in
theorem Sum_any (K F : Nat → BitVec 32) (pv : Value) (ps : List (Value × List UInt8)) (w : World) (h1 : 1 < w.heap.size)
    (hK : ∀ i, i < 64 → w.cell? ⟨1, i, none⟩ = some (.int .u32 (uN (K i)))) (hF : ∀ i, i < 8 → w.cell? ⟨0, i, none⟩ = some (.int .u32 (uN (F i))))
    (hps : PartsAt w [] pv ps) (ht : total ps ≤ 4611686018427387904) :
    Calls Tryd.prog 20 #[pv] w fun e w' => e = .returned (.agg (rowA 32 (bF (shaL K F (flat ps))))) ∧ Below w.heap.size w w' := by
  have HK := Lib.hid hK
  have Hps := Lib.hid hps
  obtain ⟨A, cap, rfl, _⟩ := hps
  have f0 := hF 0 (by omega)
  have f1 := hF 1 (by omega)
  have f2 := hF 2 (by omega)
  have f3 := hF 3 (by omega)
  have f4 := hF 4 (by omega)
  have f5 := hF 5 (by omega)
  have f6 := hF 6 (by omega)
  have f7 := hF 7 (by omega)
  have h0 : 0 < w.heap.size := by omega
  have h01 : 0 < w.heap.size + 1 := by omega
  clear hK hF
  refine (callsIn_wide (n := 0)).1 ?_
  refine callsIn_of_wp_marks Tryd.func20 rfl trivial ?_ rfl
  simp only [Tryd.ntmps20, List.size_toArray, List.length_cons, List.length_nil, Nat.reduceAdd, Nat.reduceSub, Array.replicate_succ, Array.replicate_zero, List.push_toArray, List.append_toArray, List.nil_append, List.cons_append]
  gi_wp2_with fail
  refine ⟨trivial, rfl, (callsIn_wide.2 (blocks_any A ps.length cap _)).mono ?_⟩
  rintro e W3 ⟨rfl, hW3⟩
  clear f0 f1 f2 f3 f4 f5 f6 f7
  have hW3' : ((w.alloc (.cells (rowA 32 (bF fun _ => 0)) 24)).alloc (.cells (rowA 8 (uF F)) 50)).alloc (.cells #[.slice A ps.length cap] 57) = W3 := hW3
  clear hW3
  have bA : W3.rowIs w.heap.size 24 32 (bF fun _ => 0) := by
    rw [← hW3']; exact ((rowIs_box w 24 32 (bF fun _ => 0)).alloc _).alloc _
  have bB : W3.rowIs (w.heap.size + 1) 50 8 (uF F) := by
    rw [← hW3']
    have := (rowIs_box (w.alloc (.cells (rowA 32 (bF fun _ => 0)) 24)) 50 8 (uF F)).alloc (.cells #[.slice A ps.length cap] 57)
    rwa [World.size_alloc] at this
  have bC : W3.rowIs (w.heap.size + 1 + 1) 57 1 (fun _ => .slice A ps.length cap) := by
    rw [← hW3']
    have := rowIs_box ((w.alloc (.cells (rowA 32 (bF fun _ => 0)) 24)).alloc (.cells (rowA 8 (uF F)) 50)) 57 1 (fun _ => .slice A ps.length cap)
    rwa [World.size_alloc, World.size_alloc] at this
  have hB3 : Below w.heap.size w W3 := by
    rw [← hW3']; exact (((Below.refl _ w).alloc (Nat.le_refl _) _).alloc (by simp) _).alloc (by simp; omega) _
  have hs3 : W3.heap.size = w.heap.size + 1 + 1 + 1 := by rw [← hW3']; simp
  clear hW3'
  have hp3 : PartsAt W3 [w.heap.size + 1] (.slice A ps.length cap) ps := (Hps.out.more (fun k hk _ => by simp; omega)).keep (KeepBut.below hB3)
  have seq := blocks1_seq [w.heap.size + 1] (w.heap.size + 1 + 1) (by simp) (.slice A ps.length cap) ps W3 (fun k hk => by simp at hk; omega) (bC.cell (by omega)) hp3 ht
  clear bC hp3 Hps
  gi_wp2_with fail
  refine range_law (n := 0) (gf := 42) (lb := #[.pointer (some ⟨w.heap.size + 1 + 1, 0, none⟩)]) rfl (enters_of Tryd.func42 (by kernel_rfl) rfl) seq (Below.refl _ _) KeepBut.trans (fun V k o o' _ h hc => KeepBut.putObj h hc)
    (fun _ x V k o o' _ h hc hG => ⟨hG.1.keep (KeepBut.putObj h hc), hG.2⟩) (fun _ => rfl)
    (SumInv K F w) (fun _ _ _ => False)
    (fun pre A B h hb => ⟨rowIs_below h.1 hb (by omega), rowIs_below h.2.1 hb (by omega), h.2.2.trans (hb.mono (by omega))⟩)
    (fun _ _ _ _ h _ => h)
    ⟨bB, bA, hB3⟩
    (fun x => { tmps := #[.slice A ps.length cap, undef, .pointer (some ⟨w.heap.size, 0, none⟩), .pointer (some ⟨w.heap.size + 1, 0, none⟩), x.1, .agg #[.int .u32 (uN (F 0)), .int .u32 (uN (F 1)), .int .u32 (uN (F 2)), .int .u32 (uN (F 3)), .int .u32 (uN (F 4)), .int .u32 (uN (F 5)), .int .u32 (uN (F 6)), .int .u32 (uN (F 7))], .slice A ps.length cap, .func (.func 42) #[] #[.pointer (some ⟨w.heap.size + 1 + 1, 0, none⟩)], x.1, undef, undef, undef, undef, undef], defers := [] }) ?assign ?body ?done ?stop
  case assign =>
    intro l2 x V K hK
    gi_wp2
    exact hK
  case body =>
    rintro l2 pre x V hl2 ⟨hH, hZ, hBw⟩ ⟨hrd, h64⟩
    obtain ⟨Ax, capx, hx1, hx2, hx3, hx4⟩ := hrd
    rw [h64] at hx1 hx2 hx4
    obtain ⟨b, o, rfl, _, hcell⟩ := hx4 (by omega)
    rw [hx1]
    have hbV : b < V.heap.size := World.block_lt_of_cell? _ _ (hcell 0 (by omega))
    obtain ⟨s, hs⟩ : ∃ s, (pre.map (·.2)).foldl (turnF K) F = s := ⟨_, rfl⟩
    rw [hs] at hH
    have c0 := hH.cell (i := 0) (by omega)
    have c1 := hH.cell (i := 1) (by omega)
    have c2 := hH.cell (i := 2) (by omega)
    have c3 := hH.cell (i := 3) (by omega)
    have c4 := hH.cell (i := 4) (by omega)
    have c5 := hH.cell (i := 5) (by omega)
    have c6 := hH.cell (i := 6) (by omega)
    have c7 := hH.cell (i := 7) (by omega)
    have Hs := Lib.hid hs
    have Hx := Lib.hid hx1
    have Hcell := Lib.hid hcell
    have H64 := Lib.hid h64
    clear hs hx1 hcell h64 hx4
    gi_wp2_with fail
    have hT := CallsIn.inRound (F := Fence.wide) (n := 0) l2 (callsIn_wide.2 (Turn_any K s x.2 b o capx hx2 hx3 V hbV (by have := hBw.size; omega) (fun i hi => (hBw.cell (p := ⟨1, i, none⟩) h1).trans (HK.out i hi)) Hcell.out))
    refine ⟨trivial, rfl, hT.mono ?_⟩
    clear hT
    rintro e w2 ⟨rfl, hB2⟩
    have r2 := rowIs_below hH hB2 hH.lt
    have z2 := rowIs_below hZ hB2 hZ.lt
    have rw2 : RowW w2 (w.heap.size + 1) 8 := ⟨_, _, r2⟩
    clear c0 c1 c2 c3 c4 c5 c6 c7
    gi_wp2
    refine ⟨((keepsOthers_below hB2).trans (keepsOthers_setCells _ _ _ _)).from _, (KeepBut.below hB2).trans (KeepBut.setCells (by simp) _ _ _), ?_, rowIs_setOther z2 (by omega) _ _, ?_⟩
    · rw [List.map_append, List.foldl_append, Hs.out]
      exact rowIs_setAll r2 _
    · exact below_setCells _ (by omega) _ _ _ (hBw.trans (hB2.mono hBw.size))
  case done =>
    rintro D xs V hD hS ⟨hH, hZ, hBw⟩ hK
    obtain ⟨s, hs⟩ : ∃ s, (xs.map (·.2)).foldl (turnF K) F = s := ⟨_, rfl⟩
    rw [hs] at hH
    have c0 := hH.cell (i := 0) (by omega)
    have c1 := hH.cell (i := 1) (by omega)
    have c2 := hH.cell (i := 2) (by omega)
    have c3 := hH.cell (i := 3) (by omega)
    have c4 := hH.cell (i := 4) (by omega)
    have c5 := hH.cell (i := 5) (by omega)
    have c6 := hH.cell (i := 6) (by omega)
    have c7 := hH.cell (i := 7) (by omega)
    have Hs := Lib.hid hs
    have HS := Lib.hid hS
    have HKD := Lib.hid hK
    clear hs hS hK
    gi_wp2_with fail
    refine ⟨trivial, rfl, (callsIn_wide.2 (digest_any s V)).mono ?_⟩
    rintro e w2 ⟨rfl, hB2⟩
    have z2 := rowIs_below hZ hB2 hZ.lt
    have rw2 : RowW w2 w.heap.size 32 := ⟨_, _, z2⟩
    clear c0 c1 c2 c3 c4 c5 c6 c7
    gi_wp2
    have hK2 : (w2.setCells w.heap.size 0 (rowA 32 (bF (dig s))).toList).heap[D]? = some (.deferred (some [])) := (keepsOthers_setCells _ _ _ _).same D _ ((keepsOthers_below hB2).same D _ HKD.out rfl) rfl
    refine ⟨by simp, .inl ⟨_, _, rfl, run_takeDeferred hK2, ?_⟩⟩
    refine ⟨_, results_row rfl _ rfl (rowIs_putObj (rowIs_setAll z2 (bF (dig s))) (by omega) _) Tryd.underlying24 info31, ?_, ?_⟩
    · rw [← Hs.out, HS.out, shaL, flat_length]
    · exact (below_setCells _ (Nat.le_refl _) _ _ _ (hBw.trans (hB2.mono hBw.size))).trans (below_putObj (by omega) _)
  case stop =>
    rintro D c pre2 V hD _ h hK
    exact h.elim
end Go.Proofs.YtphbjamfhmcjcaaDoor
namespace Go.Proofs.YtphbjamfhmcjcaaDoor
set_option maxRecDepth 8000
set_option linter.all false
def kTab : List Nat := [1116352408, 1899447441, 3049323471, 3921009573, 961987163, 1508970993, 2453635748, 2870763221, 3624381080, 310598401, 607225278, 1426881987, 1925078388, 2162078206, 2614888103, 3248222580, 3835390401, 4022224774, 264347078, 604807628, 770255983, 1249150122, 1555081692, 1996064986, 2554220882, 2821834349, 2952996808, 3210313671, 3336571891, 3584528711, 113926993, 338241895, 666307205, 773529912, 1294757372, 1396182291, 1695183700, 1986661051, 2177026350, 2456956037, 2730485921, 2820302411, 3259730800, 3345764771, 3516065817, 3600352804, 4094571909, 275423344, 430227734, 506948616, 659060556, 883997877, 958139571, 1322822218, 1537002063, 1747873779, 1955562222, 2024104815, 2227730452, 2361852424, 2428436474, 2756734187, 3204031479, 3329325298]
def fTab : List Nat := [1779033703, 3144134277, 1013904242, 2773480762, 1359893119, 2600822924, 528734635, 1541459225]
def Kc (i : Nat) : BitVec 32 := BitVec.ofNat 32 (kTab.getD i 0)
def Fc (i : Nat) : BitVec 32 := BitVec.ofNat 32 (fTab.getD i 0)
open Go.RowKit
/-- The two tables lie as the program's text lays them. -/
structure Tables (w : World) : Prop where
  size : 1 < w.heap.size
  k : ∀ i, i < 64 → w.cell? ⟨1, i, none⟩ = some (.int .u32 (uN (Kc i)))
  f : ∀ i, i < 8 → w.cell? ⟨0, i, none⟩ = some (.int .u32 (uN (Fc i)))
theorem Tables.below {w w' : World} (h : Tables w) (hb : Below w.heap.size w w') : Tables w' :=
  ⟨by have := h.size; have := hb.size; omega, fun i hi => (hb.cell (p := ⟨1, i, none⟩) h.size).trans (h.k i hi), fun i hi => (hb.cell (p := ⟨0, i, none⟩) (by have := h.size; show 0 < _; omega)).trans (h.f i hi)⟩
theorem Sum_c (pv : Value) (ps : List (Value × List UInt8)) (w : World) (hT : Tables w) (hps : PartsAt w [] pv ps) (ht : total ps ≤ 4611686018427387904) :
    Calls Tryd.prog 20 #[pv] w fun e w' => e = .returned (.agg (rowA 32 (bF (shaL Kc Fc (flat ps))))) ∧ Below w.heap.size w w' :=
  Sum_any Kc Fc pv ps w hT.size hT.k hT.f hps ht
end Go.Proofs.YtphbjamfhmcjcaaDoor
/- What a region that makes new memory alone leaves of the tables. -/
namespace Go.Proofs.YtphbjamfhmcjcaaDoor
open Go Go.RowKit
set_option maxRecDepth 8000
set_option linter.all false
theorem NewT.tables {w w' : World} (h : NewT w w') (hT : Tables w) : Tables w' := hT.below h
end Go.Proofs.YtphbjamfhmcjcaaDoor
/- The contract of Sum. -/
namespace Go.Proofs.YtphbjamfhmcjcaaDoor
open Go Go.RowKit
set_option maxRecDepth 8000
set_option linter.all false
/-- The digest of parts. -/
theorem Sum_cv (pv : Value) (ls : List (List UInt8)) (D : Nat → UInt8) (w : World) (hT : Tables w) (hp : Parts w pv ls) (ht : ls.flatten.length ≤ 4611686018427387904) (hD : shaL Kc Fc ls.flatten = D) : Cv 20 #[pv] w (.eq (.agg (rowA 32 (bF D)))) := by
  obtain ⟨ps, hp, rfl⟩ := hp
  have e : (ps.map (·.2)).flatten = flat ps := rfl
  rw [e] at ht hD
  rw [← hD]
  exact Cv.of_eq (Sum_c pv ps w hT hp (by rw [← flat_length]; exact ht))
end Go.Proofs.YtphbjamfhmcjcaaDoor
namespace Go.Proofs.YtphbjamfhmcjcaaDoor
open Go.RowKit
set_option maxRecDepth 8000
set_option linter.all false

def hexS : ByteArray := { data := #[48, 49, 50, 51, 52, 53, 54, 55, 56, 57, 97, 98, 99, 100, 101, 102] }
def hx (k : Nat) : UInt8 := [48, 49, 50, 51, 52, 53, 54, 55, 56, 57, 97, 98, 99, 100, 101, 102].getD k 0
def hiN (b : UInt8) : Nat := b.toNat / 16
def loN (b : UInt8) : Nat := b.toNat % 16
theorem hiN_lt (b : UInt8) : hiN b < 16 := by unfold hiN; have := b.toNat_lt; omega
theorem loN_lt (b : UInt8) : loN b < 16 := by unfold loN; omega
theorem u8_div16 (b : UInt8) : bN b / (16 : Int) = ((hiN b : Nat) : Int) := by unfold bN hiN; omega
theorem u8_and15 (b : UInt8) : bits .and .u8 (bN b) 15 = ((loN b : Nat) : Int) := by
  have h : ∀ n : Fin 256, bits .and .u8 ((n.val : Nat) : Int) 15 = ((n.val % 16 : Nat) : Int) := by decide +kernel
  exact h ⟨b.toNat, b.toNat_lt⟩
theorem index_hex (k : Nat) (hk : k < 16) (w : World) : (Instr.index 9 (.string hexS) (.int .u8 (k : Int))).run Tryd.prog w = .ok (.int .u8 (bN (hx k))) w := by
  have h : ∀ n : Fin 16, hexS[n.val]? = some (hx n.val) := by decide
  have := h ⟨k, hk⟩
  simp only [] at this
  simp [Instr.index, asIntOf, run_underlying Tryd.underlying9, this, bN]
attribute [local go_sem] bF_at rowA_at u8_div16 u8_and15

def hexL (d : Nat → UInt8) : Nat → List UInt8
  | 0 => []
  | k + 1 => hexL d k ++ [hx (hiN (d k)), hx (loN (d k))]
theorem hexL_length (d : Nat → UInt8) (k : Nat) : (hexL d k).length = 2 * k := by
  induction k with
  | zero => rfl
  | succ k ih => simp [hexL, ih]; omega
set_option maxHeartbeats 1000000 in
theorem Hex_any (d : Nat → UInt8) (w : World) :
    Calls Tryd.prog 26 #[.agg (rowA 32 (bF d))] w fun e w' => e = .returned (.string ⟨(hexL d 32).toArray⟩) ∧ Below w.heap.size w w' := by
  obtain ⟨i0, hi, hz0, hz1, hz2⟩ := info_parts info5
  have hmk : ∀ W : World, (Instr.makeSlice 22 (.int .i64 0) (.int .i64 64)).run Tryd.prog W = .ok (.slice (some ⟨W.heap.size, 0, none⟩) 0 64) (W.alloc (.cells (rowA 64 (bF fun _ => 0)) 5)) := make_none i0 hi hz0 hz1 hz2
  go_enter Tryd.func26, Tryd.ntmps26
  go_upto_region 2 with fail
  have r0 := (rowIs_box w 24 32 (bF d)).alloc (.cells (rowA 64 (bF fun _ => 0)) 5)
  have r1 := rowIs_box (w.alloc (.cells (rowA 32 (bF d)) 24)) 5 64 (bF fun _ => 0)
  have hB : Below w.heap.size w ((w.alloc (.cells (rowA 32 (bF d)) 24)).alloc (.cells (rowA 64 (bF fun _ => 0)) 5)) := ((Below.refl _ w).alloc (Nat.le_refl _) _).alloc (by simp) _
  rw [World.size_alloc] at r1
  have ho := ownsRow_row r1 w.heap.size 0 (by omega) (by unfold maxLen; omega) (by omega)
  have hR := rangeAt_row r0
  clear r0 r1 hmk
  generalize ((w.alloc (.cells (rowA 32 (bF d)) 24)).alloc (.cells (rowA 64 (bF fun _ => 0)) 5)) = W0 at ho hB hR ⊢
  go_wp2_with (refine wpList_load_mid rfl 24 (.tmp 1) rfl w.heap.size 0 rfl (rowA 32 (bF d)).toList _ hR Tryd.underlying24 rfl (by rw [rowA_toList]; simpa using info31) ?_)
  clear hR
  go_loopw [3, 8] (fun v i wr => ∃ k : Nat, k ≤ 32 ∧ i = .int .i64 k ∧ wr.ownsRow w.heap.size 5 1 v (2 * k) ((hexL d k).map fun b => .int .u8 (bN b)) ∧ Below w.heap.size w wr) (fun _ i _ => 32 - (intOf i).toNat)
  case atStart => exact ⟨0, by omega, rfl, by simpa [hexL] using ho, hB⟩
  case round =>
    obtain ⟨k, hk, rfl, hown, qB⟩ := hrel
    clear ho hB
    by_cases hlt : k < 32
    · have hix := index_row (P := Tryd.prog) 24 5 _ Tryd.underlying24 Tryd.underlying5 rfl (by kernel_rfl) (bF d) .i64 k hlt
      have ih1 := fun W => index_hex (hiN (d k)) (hiN_lt _) W
      have ih2 := fun W => index_hex (loN (d k)) (loN_lt _) W
      unfold hexS at ih1 ih2
      go_wp2
      go_region_held3 (fun _ => True) (exact trivial)
        ((refine step_append_lies _ (by rfl) (.tmp 11) (.tmp 18) 22 (by rfl) w.heap.size 5 i0 _ 1 1 Tryd.underlying22 hi hz0 hz1 hz2 rfl (by omega) u3 (2 * k) _ (by rfl) ((hown.alloc _).drew) ⟨wr.heap.size, 0, none⟩ 2 2 [.int .u8 (bN (hx (hiN (d k)))), .int .u8 (bN (hx (loN (d k))))] (by rfl) (by rfl) (two_cell _ _ _ _) (by simp [Value.oneCell']) (by omega) (by unfold maxLen; omega) (by omega) (by have := qB.size; simp; omega) (wr.heap.size + 1) (by simp) ?_; intro g' cap' w2 hown' hg1 hat hlt2))
      all_goals
        clear ih1 ih2
        go_wp2
        go_roundw
        case rel =>
          refine ⟨k + 1, by omega, by go_num, ?_, ((qB.alloc qB.size _).drew).grown hg1 (by have := qB.size; simp; omega) (fun g e => (hown.lt g e).1)⟩
          rw [hexL, List.map_append, Nat.mul_add]
          exact hown'
        case measure => simp [intOf]; omega
    · obtain rfl : k = 32 := by omega
      obtain ⟨g, cap, rfl, _, hlt2⟩ := hown.form (by omega)
      have hcv := conv_own hown (by rw [hexL_length])
      go_wp2
      go_ret
      exact ⟨rfl, qB⟩
end Go.Proofs.YtphbjamfhmcjcaaDoor
/- The contracts of Sum and Hex. -/
namespace Go.Proofs.YtphbjamfhmcjcaaDoor
open Go Go.RowKit
set_option maxRecDepth 8000
set_option linter.all false
theorem Hex_cv (d : Nat → UInt8) (S : ByteArray) (w : World) (hS : (⟨(hexL d 32).toArray⟩ : ByteArray) = S) : Cv 26 #[.agg (rowA 32 (bF d))] w (.eq (.string S)) := by
  rw [← hS]; exact Cv.of_eq (Hex_any d w)
end Go.Proofs.YtphbjamfhmcjcaaDoor
/- Nodes and leaves: what a hash of two is; single operations more. -/
namespace Go.Proofs.YtphbjamfhmcjcaaDoor
open Go Go.RowKit
set_option maxRecDepth 8000
set_option linter.all false
theorem run_bsb1 (x : Int) (w : World) : (Instr.buildSlice 22 1 #[(0, .int .u8 x)]).run Tryd.prog w = .ok (.slice (some ⟨w.heap.size, 0, none⟩) 1 1) (w.alloc (.cells #[.int .u8 x] 5)) := by
  simp [go_sem]
theorem rd_one (b : UInt8) (w : World) : RdV (w.alloc (.cells #[.int .u8 (bN b)] 5)) [] (.slice (some ⟨w.heap.size, 0, none⟩) 1 1) [b] := by
  refine ⟨some ⟨w.heap.size, 0, none⟩, 1, rfl, Nat.le_refl _, by unfold maxLen; omega, fun _ => ⟨w.heap.size, 0, rfl, by simp, fun i hi => ?_⟩⟩
  obtain rfl : i = 0 := by simpa using hi
  exact World.cell?_alloc_at _ _ _ _ rfl
section
variable {P : Program} {a : Act} {w : World} {o : Oper} {K : Act → World → Prop} {Q : Exit → Act → World → Prop} {x y : Operand}
/-- A new slice of one byte. -/
theorem opr_bsb1 {b : UInt8} (ho : o.op = .buildSlice 22 1 #[(0, x)]) (hx : a.eval x = .int .u8 (bN b)) (h : ∀ v w', NewT w w' → RdV w' [] v [b] → K (a.put o.dst v) w') : o.wp Tryd.prog a w K Q := by
  obtain ⟨dst, op, type, pos, after, guard⟩ := o
  simp only at ho
  subst ho
  exact opr_val (s := Instr.buildSlice 22 1 #[(0, a.eval x)]) (by simp [execOp]) (by rw [hx]; exact run_bsb1 _ w) (h _ _ (NewT.alloc _ _) (rd_one b w))
theorem opr_nilc {A : Addr} (ho : o.op = .nilCheck x) (hx : a.eval x = .pointer (some A)) (h : K (a.put o.dst (.pointer (some A))) w) : o.wp P a w K Q := by
  obtain ⟨dst, op, type, pos, after, guard⟩ := o
  simp only at ho
  subst ho
  simpa [Oper.wp, execOp, hx, Oper.upon, Sem.run_pure] using h
theorem opr_sub {t t2 : TypeId} {m n r : Int} (ht : P.underlying t = some (.int .i64)) (hr : wrap64 (m - n) = r) (ho : o.op = .binOp .sub t x y t2) (hx : a.eval x = .int .i64 m) (hy : a.eval y = .int .i64 n) (h : K (a.put o.dst (.int .i64 r)) w) : o.wp P a w K Q := by
  obtain ⟨dst, op, type, pos, after, guard⟩ := o
  simp only at ho
  subst ho hr
  refine opr_val (s := do eqGuard .sub t x y (a.eval x) (a.eval y); binOp .sub t (a.eval x) (a.eval y)) rfl ?_ h
  rw [hx, hy]; simp [go_sem]; rw [IntKind.wrap_i64, wrap64]
end
/-- What the hash of two hashes is, and that of none. -/
structure TreeH (node : Hs → Hs → Hs) (z : Hs) : Prop where
  node : ∀ a b, shaL Kc Fc ([1] ++ (digL a ++ (digL b ++ []))) = node a b
  zero : shaL Kc Fc [] = z
theorem tree_ex : ∃ node z, TreeH node z := ⟨_, _, ⟨fun _ _ => rfl, rfl⟩⟩
end Go.Proofs.YtphbjamfhmcjcaaDoor
/- Leaves and nodes: what tree.Leaf and tree.Node return. -/
namespace Go.Proofs.YtphbjamfhmcjcaaDoor
open Go Go.RowKit
set_option maxRecDepth 8000
set_option linter.all false
theorem parts_nil (w : World) : Parts w (.slice none 0 0) [] := ⟨[], ⟨none, 0, rfl, by simp, by unfold maxLen; omega, fun h => absurd h (by simp), fun x hx => by simp at hx⟩, rfl⟩
theorem Sum_nil {node : Hs → Hs → Hs} {z : Hs} (hX : TreeH node z) (w : World) (hT : Tables w) : Cv 20 #[.slice none 0 0] w (.eq (.agg (rowA 32 (bF z)))) :=
  Sum_cv _ [] z w hT (parts_nil w) (by simp) hX.zero
set_option maxHeartbeats 1000000 in
theorem Leaf_cv (v : Value) (l : List UInt8) (D : Hs) (w : World) (hT : Tables w) (hl : RdV w [] v l) (hn : l.length ≤ 1000000) (hD : shaL Kc Fc ([0] ++ (l ++ [])) = D) : Cv 10 #[v] w (.eq (.agg (rowA 32 (bF D)))) := by
  unfold Cv
  have HD := Lib.hid hD
  have HT := Lib.hid hT
  have HL := Lib.hid hl
  clear hT hl hD
  go_enter Tryd.func10, Tryd.ntmps10
  go_upto_region 1 with fail
  have r0 := rowIs_box w 24 32 (bF fun _ => 0)
  have hN := NewT.alloc w (.cells (rowA 32 (bF fun _ => 0)) 24)
  change Code.wp _ _ _ _ (w.alloc (.cells (rowA 32 (bF fun _ => 0)) 24))
  generalize w.alloc (.cells (rowA 32 (bF fun _ => 0)) 24) = W0 at r0 hN ⊢
  have R0 := Lib.hid r0
  have HN := Lib.hid hN
  replace HT := Lib.hid (hN.tables HT.out)
  replace HL := Lib.hid (hN.rd HL.out)
  clear r0 hN
  refine wp_region_steps0 NewT [svRd ([0]), svRd (l), svParts [[0], l], SV.eq (.agg (rowA 32 (bF (D))))] [([], none), ([(0, none)], none), ([(3, some 0), (4, some 1)], none), ([(5, some 2)], none)] 7 4 rfl rfl (by kernel_rfl) NewT.trans (NewT.refl _) (Nat.le_of_ble_eq_true rfl) ⟨?_, ?_, ?_, ?_, trivial⟩ ?_
  · intro a wx hT hF K hK
    refine rely_wp rfl ?_
    exact opr_bsb1 (b := 0) rfl rfl hK
  · intro a wx hT hF K hK
    obtain ⟨f0, _⟩ := hF
    have f0 : a.tmps.getD 0 undef = v := f0
    refine rely_wp rfl ?_
    exact opr_move (.inl rfl) (hK _ _ (NewT.refl _) (by rw [eval_tmp, f0]; exact hT.rd HL.out))
  · intro a wx hT hF K hK
    obtain ⟨f3, f4, _⟩ := hF
    replace f3 := show (svRd ([0])).pred (a.tmps.getD 3 undef) wx from f3
    replace f4 := show (svRd (l)).pred (a.tmps.getD 4 undef) wx from f4
    refine rely_wp rfl ?_
    exact opr_bs2 rfl f3 f4 hK
  · intro a wx hT hF K hK
    obtain ⟨f5, _⟩ := hF
    replace f5 := show (svParts [[0], l]).pred (a.tmps.getD 5 undef) wx from f5
    refine rely_wp rfl ?_
    exact opr_cv (Sum_cv _ [[0], l] (D) wx (hT.tables HT.out) f5 (by simp; omega) (by simpa using HD.out)) rfl Tryd.func20 (by kernel_rfl) (by kernel_rfl) (by simp only [List.map_toArray, List.map_cons, List.map_nil, eval_tmp]) hK
  · intro wx hT
    intro _ _
    intro _ _
    intro _ _
    intro u h; obtain rfl := Eq.symm (h (by simp)); clear h
    refine relyEnd_nil rfl ?_
    simp only [Act.put, List.setIfInBounds_toArray, List.set_cons_zero, List.set_cons_succ]
    refine wpList_plain rfl (fun K hK => ?_)
    refine opr_store_new (B := w.heap.size) (W := w) info31 rfl rfl rfl (hT.row R0.out) (NewT.trans _ _ _ HN.out hT) (Nat.le_refl _) ?_
    intro w9 hB9 r9
    refine hK _ _ ?_
    refine wpList_end rfl ?_
    simp only [Act.put]
    go_simp
    go_wp2
    exact bodyPost_ret (results_row rfl _ rfl r9 Tryd.underlying24 info31) rfl ⟨_, rfl, hB9, rfl⟩
set_option maxHeartbeats 1000000 in
theorem Node_cv {node : Hs → Hs → Hs} {z : Hs} (hX : TreeH node z) (p q : Hs) (w : World) (hT : Tables w) : Cv 12 #[.agg (rowA 32 (bF p)), .agg (rowA 32 (bF q))] w (.eq (.agg (rowA 32 (bF (node p q))))) := by
  unfold Cv
  have HT := Lib.hid hT
  clear hT
  go_enter Tryd.func12, Tryd.ntmps12
  go_upto_region 1 with fail
  have r1 := ((rowIs_box w 24 32 (bF p)).alloc (.cells (rowA 32 (bF q)) 24)).alloc (.cells (rowA 32 (bF fun _ => 0)) 24)
  have r2 := (rowIs_box (w.alloc (.cells (rowA 32 (bF p)) 24)) 24 32 (bF q)).alloc (.cells (rowA 32 (bF fun _ => 0)) 24)
  have r0 := rowIs_box ((w.alloc (.cells (rowA 32 (bF p)) 24)).alloc (.cells (rowA 32 (bF q)) 24)) 24 32 (bF fun _ => 0)
  rw [World.size_alloc] at r2
  rw [World.size_alloc, World.size_alloc] at r0
  have hN : NewT w (((w.alloc (.cells (rowA 32 (bF p)) 24)).alloc (.cells (rowA 32 (bF q)) 24)).alloc (.cells (rowA 32 (bF fun _ => 0)) 24)) := NewT.trans _ _ _ (NewT.trans _ _ _ (NewT.alloc _ _) (NewT.alloc _ _)) (NewT.alloc _ _)
  change Code.wp _ _ _ _ (((w.alloc (.cells (rowA 32 (bF p)) 24)).alloc (.cells (rowA 32 (bF q)) 24)).alloc (.cells (rowA 32 (bF fun _ => 0)) 24))
  generalize (((w.alloc (.cells (rowA 32 (bF p)) 24)).alloc (.cells (rowA 32 (bF q)) 24)).alloc (.cells (rowA 32 (bF fun _ => 0)) 24)) = W0 at r0 r1 r2 hN ⊢
  have R0 := Lib.hid r0
  have R1 := Lib.hid r1
  have R2 := Lib.hid r2
  have HN := Lib.hid hN
  replace HT := Lib.hid (hN.tables HT.out)
  clear r0 r1 r2 hN
  refine wp_region_rely NewT [svRd ([1]), svRd (digL (p)), svRd (digL (q)), svParts [[1], digL (p), digL (q)], SV.eq (.agg (rowA 32 (bF (node p q))))] [([], none), ([(2, none)], none), ([(3, none)], none), ([(5, some 0), (6, some 1), (7, some 2)], none), ([(8, some 3)], none)] 10 rfl (by kernel_rfl) rfl (by kernel_rfl) (by kernel_rfl) rfl NewT.trans (NewT.drew _) (Nat.le_of_ble_eq_true rfl) ⟨?_, ?_, ?_, ?_, ?_, trivial⟩ ?_
  · intro a wx hT hF K hK
    refine rely_wp rfl ?_
    exact opr_bsb1 (b := 1) rfl rfl hK
  · intro a wx hT hF K hK
    obtain ⟨f2, _⟩ := hF
    have f2 : a.tmps.getD 2 undef = .pointer (some ⟨w.heap.size, 0, none⟩) := f2
    refine rely_wp rfl ?_
    exact opr_sliceH rfl f2 (hK _ _ (NewT.refl _) (rd_rowH (hT.row R1.out) (by decide) (fun j _ => by rw [Nat.zero_add])))
  · intro a wx hT hF K hK
    obtain ⟨f3, _⟩ := hF
    have f3 : a.tmps.getD 3 undef = .pointer (some ⟨w.heap.size + 1, 0, none⟩) := f3
    refine rely_wp rfl ?_
    exact opr_sliceH rfl f3 (hK _ _ (NewT.refl _) (rd_rowH (hT.row R2.out) (by decide) (fun j _ => by rw [Nat.zero_add])))
  · intro a wx hT hF K hK
    obtain ⟨f5, f6, f7, _⟩ := hF
    replace f5 := show (svRd ([1])).pred (a.tmps.getD 5 undef) wx from f5
    replace f6 := show (svRd (digL (p))).pred (a.tmps.getD 6 undef) wx from f6
    replace f7 := show (svRd (digL (q))).pred (a.tmps.getD 7 undef) wx from f7
    refine rely_wp rfl ?_
    exact opr_bs3 rfl f5 f6 f7 hK
  · intro a wx hT hF K hK
    obtain ⟨f8, _⟩ := hF
    replace f8 := show (svParts [[1], digL (p), digL (q)]).pred (a.tmps.getD 8 undef) wx from f8
    refine rely_wp rfl ?_
    exact opr_cv (Sum_cv _ [[1], digL (p), digL (q)] (node p q) wx (hT.tables HT.out) f8 (by simp [digL_length]) (hX.node p q)) rfl Tryd.func20 (by kernel_rfl) (by kernel_rfl) (by simp only [List.map_toArray, List.map_cons, List.map_nil, eval_tmp]) hK
  · intro wx hT
    intro _ _
    intro _ _
    intro _ _
    intro _ _
    intro u h; obtain rfl := Eq.symm (h (by simp)); clear h
    refine relyEnd_nil rfl ?_
    simp only [Act.put, List.setIfInBounds_toArray, List.set_cons_zero, List.set_cons_succ]
    refine opr_store_new (B := w.heap.size) (W := w) info31 rfl rfl rfl (hT.row R0.out) (NewT.trans _ _ _ HN.out hT) (by omega) ?_
    intro w9 hB9 r9
    go_simp
    go_wp2
    exact bodyPost_ret (results_row rfl _ rfl r9 Tryd.underlying24 info31) rfl ⟨_, rfl, hB9, rfl⟩
end Go.Proofs.YtphbjamfhmcjcaaDoor
/- A list's root: what tree.Root returns. -/
namespace Go.Proofs.YtphbjamfhmcjcaaDoor
open Go Go.RowKit
set_option maxRecDepth 8000
set_option linter.all false
set_option maxHeartbeats 1000000 in
theorem Root_0 {node : Hs → Hs → Hs} {z : Hs} (hX : TreeH node z) (A : Option Addr) (c : Nat) (w : World) (hT : Tables w) : Cv 25 #[.slice A 0 c] w (.eq (.agg (rowA 32 (bF z)))) := by
  unfold Cv
  have HT := Lib.hid hT
  clear hT
  go_enter Tryd.func25, Tryd.ntmps25
  go_upto_region 3 with fail
  have r0 := rowIs_box w 24 32 (bF fun _ => 0)
  have hN := NewT.alloc w (.cells (rowA 32 (bF fun _ => 0)) 24)
  change Code.wp _ _ _ _ (w.alloc (.cells (rowA 32 (bF fun _ => 0)) 24))
  generalize w.alloc (.cells (rowA 32 (bF fun _ => 0)) 24) = W0 at r0 hN ⊢
  have R0 := Lib.hid r0
  have HN := Lib.hid hN
  replace HT := Lib.hid (hN.tables HT.out)
  clear r0 hN
  refine wp_region_steps0 NewT [SV.eq (.agg (rowA 32 (bF (z))))] [([], none)] 26 1 rfl rfl (by kernel_rfl) NewT.trans (NewT.refl _) (Nat.le_of_ble_eq_true rfl) ⟨?_, trivial⟩ ?_
  · intro a wx hT hF K hK
    refine rely_wp rfl ?_
    exact opr_cv (Sum_nil hX wx (hT.tables HT.out)) rfl Tryd.func20 (by kernel_rfl) (by kernel_rfl) (by simp only [List.map_toArray, List.map_cons, List.map_nil, eval_const]) hK
  · intro wx hT
    intro u h; obtain rfl := Eq.symm (h (by simp)); clear h
    refine relyEnd_nil rfl ?_
    simp only [Act.put, List.setIfInBounds_toArray, List.set_cons_zero, List.set_cons_succ]
    refine wpList_plain rfl (fun K hK => ?_)
    refine opr_store_new (B := w.heap.size) (W := w) info31 rfl rfl rfl (hT.row R0.out) (NewT.trans _ _ _ HN.out hT) (Nat.le_refl _) ?_
    intro w9 hB9 r9
    refine hK _ _ ?_
    refine wpList_end rfl ?_
    simp only [Act.put]
    go_simp
    go_wp2
    exact bodyPost_ret (results_row rfl _ rfl r9 Tryd.underlying24 info31) rfl ⟨_, rfl, hB9, rfl⟩
theorem Root_nil {node : Hs → Hs → Hs} {z : Hs} (hX : TreeH node z) (w : World) (hT : Tables w) : Cv 25 #[.slice none 0 0] w (.eq (.agg (rowA 32 (bF z)))) := Root_0 hX none 0 w hT
set_option maxHeartbeats 1000000 in
theorem Root_1 {node : Hs → Hs → Hs} {z : Hs} (hX : TreeH node z) (v : Value) (d : Hs) (w : World) (hT : Tables w) (hl : RdH w v [d]) : Cv 25 #[v] w (.eq (.agg (rowA 32 (bF d)))) := by
  unfold Cv
  have HT := Lib.hid hT
  have HL := Lib.hid hl
  obtain ⟨A, c, hv⟩ := rdH_form hl
  have hv : v = .slice A 1 c := hv
  have HV := Lib.hid hv
  subst hv
  clear hT hl
  go_enter Tryd.func25, Tryd.ntmps25
  go_upto_region 5 with fail
  obtain ⟨v, ev⟩ : ∃ v, Value.slice A 1 c = v := ⟨_, rfl⟩
  rw [ev] at HL ⊢
  clear HV ev
  have r0 := rowIs_box w 24 32 (bF fun _ => 0)
  have hN := NewT.alloc w (.cells (rowA 32 (bF fun _ => 0)) 24)
  change Code.wp _ _ _ _ (w.alloc (.cells (rowA 32 (bF fun _ => 0)) 24))
  generalize w.alloc (.cells (rowA 32 (bF fun _ => 0)) 24) = W0 at r0 hN ⊢
  have R0 := Lib.hid r0
  have HN := Lib.hid hN
  replace HT := Lib.hid (hN.tables HT.out)
  replace HL := Lib.hid (hN.hs HL.out)
  clear r0 hN
  refine wp_region_steps0 NewT [SV.eq (v), svP (d), SV.eq (.agg (rowA 32 (bF (d))))] [([(0, none)], none), ([(11, some 0)], none), ([(12, some 1)], none)] 26 3 rfl rfl (by kernel_rfl) NewT.trans (NewT.refl _) (Nat.le_of_ble_eq_true rfl) ⟨?_, ?_, ?_, trivial⟩ ?_
  · intro a wx hT hF K hK
    obtain ⟨f0, _⟩ := hF
    have f0 : a.tmps.getD 0 undef = v := f0
    refine rely_wp rfl ?_
    exact opr_move (.inl rfl) (hK _ _ (NewT.refl _) f0)
  · intro a wx hT hF K hK
    obtain ⟨f11, _⟩ := hF
    have f11 : a.tmps.getD 11 undef = v := f11
    refine rely_wp rfl ?_
    exact opr_idxH (i := 0) (d := d) (rfl) (rfl) rfl (by rw [eval_tmp, f11]; exact (hT.hs HL.out)) rfl (fun v hv => hK v _ (NewT.refl _) hv)
  · intro a wx hT hF K hK
    obtain ⟨f12, _⟩ := hF
    replace f12 := show (svP (d)).pred (a.tmps.getD 12 undef) wx from f12
    refine rely_wp rfl ?_
    exact opr_ldP rfl f12 (hK _ _ (NewT.refl _) rfl)
  · intro wx hT
    intro u h; obtain rfl := Eq.symm (h (by simp)); clear h
    intro _ _
    intro u h; obtain rfl := Eq.symm (h (by simp)); clear h
    refine relyEnd_nil rfl ?_
    simp only [Act.put, List.setIfInBounds_toArray, List.set_cons_zero, List.set_cons_succ]
    refine wpList_plain rfl (fun K hK => ?_)
    refine opr_store_new (B := w.heap.size) (W := w) info31 rfl rfl rfl (hT.row R0.out) (NewT.trans _ _ _ HN.out hT) (Nat.le_refl _) ?_
    intro w9 hB9 r9
    refine hK _ _ ?_
    refine wpList_end rfl ?_
    simp only [Act.put]
    go_simp
    go_wp2
    exact bodyPost_ret (results_row rfl _ rfl r9 Tryd.underlying24 info31) rfl ⟨_, rfl, hB9, rfl⟩
set_option maxRecDepth 20000 in
set_option maxHeartbeats 1000000 in
theorem Root_2 {node : Hs → Hs → Hs} {z : Hs} (hX : TreeH node z) (v : Value) (l : List Hs) (k : Nat) (w : World) (hT : Tables w) (hl : RdH w v l) (hn : 2 ≤ l.length) (hk : k < l.length) (hk0 : 0 < k) (hs : ∀ w, Cv 15 #[.int .i64 (l.length : Int)] w (.eq (.int .i64 (k : Int))))
    (ih : ∀ (v : Value) (m : List Hs) (w : World), Tables w → RdH w v m → m.length < l.length → Cv 25 #[v] w (.eq (.agg (rowA 32 (bF (rootM node z m)))))) : Cv 25 #[v] w (.eq (.agg (rowA 32 (bF (node (rootM node z (l.take k)) (rootM node z (l.drop k))))))) := by
  unfold Cv
  have HT := Lib.hid hT
  have HL := Lib.hid hl
  have HK := Lib.hid hs
  obtain ⟨A, c, hv⟩ := rdH_form hl
  have t0 : ((l.length : Int) == 0) = false := beq_eq_false_iff_ne.2 (by omega)
  have t1 : ((l.length : Int) == 1) = false := beq_eq_false_iff_ne.2 (by omega)
  subst hv
  clear hT hl hs
  go_enter Tryd.func25, Tryd.ntmps25
  go_upto_region 6 with fail
  obtain ⟨v, ev⟩ : ∃ v, Value.slice A l.length c = v := ⟨_, rfl⟩
  rw [ev] at HL ⊢
  clear ev
  have r0 := rowIs_box w 24 32 (bF fun _ => 0)
  have hN := NewT.alloc w (.cells (rowA 32 (bF fun _ => 0)) 24)
  change Code.wp _ _ _ _ (w.alloc (.cells (rowA 32 (bF fun _ => 0)) 24))
  generalize w.alloc (.cells (rowA 32 (bF fun _ => 0)) 24) = W0 at r0 hN ⊢
  have R0 := Lib.hid r0
  have HN := Lib.hid hN
  replace HT := Lib.hid (hN.tables HT.out)
  replace HL := Lib.hid (hN.hs HL.out)
  clear r0 hN
  clear t0 t1
  refine wp_region_steps0 NewT [SV.eq (v), SV.eq (.int .i64 ((List.length (l) : Int))), SV.eq (.int .i64 ((k : Int))), SV.eq (.int .i64 ((k : Int)))] [([(0, none)], none), ([(14, some 0)], none), ([(15, some 1)], none), ([(16, some 2)], none)] 26 4 rfl rfl (by kernel_rfl) NewT.trans (NewT.refl _) (Nat.le_of_ble_eq_true rfl) ⟨?_, ?_, ?_, ?_, trivial⟩ ?_
  · intro a wx hT hF K hK
    obtain ⟨f0, _⟩ := hF
    have f0 : a.tmps.getD 0 undef = v := f0
    refine rely_wp rfl ?_
    exact opr_move (.inl rfl) (hK _ _ (NewT.refl _) f0)
  · intro a wx hT hF K hK
    obtain ⟨f14, _⟩ := hF
    have f14 : a.tmps.getD 14 undef = v := f14
    refine rely_wp rfl ?_
    exact opr_len_h rfl (by rw [eval_tmp, f14]; exact (hT.hs HL.out)) (hK _ _ (NewT.refl _) rfl)
  · intro a wx hT hF K hK
    obtain ⟨f15, _⟩ := hF
    have f15 : a.tmps.getD 15 undef = .int .i64 ((List.length (l) : Int)) := f15
    refine rely_wp rfl ?_
    exact opr_cv (HK.out wx) rfl Tryd.func15 (by kernel_rfl) (by kernel_rfl) (by simp only [List.map_toArray, List.map_cons, List.map_nil, eval_tmp, f15]) hK
  · intro a wx hT hF K hK
    obtain ⟨f16, _⟩ := hF
    have f16 : a.tmps.getD 16 undef = .int .i64 ((k : Int)) := f16
    refine rely_wp rfl ?_
    exact opr_move (.inr rfl) (hK _ _ (NewT.refl _) f16)
  · intro w6 k6
    intro u h; obtain rfl := Eq.symm (h (by simp)); clear h
    intro u h; obtain rfl := Eq.symm (h (by simp)); clear h
    intro u h; obtain rfl := Eq.symm (h (by simp)); clear h
    intro u h; obtain rfl := Eq.symm (h (by simp)); clear h
    refine relyEnd_nil rfl ?_
    refine wpList_end rfl ?_
    simp only [Act.put, List.setIfInBounds_toArray, List.set_cons_zero, List.set_cons_succ]
    go_simp
    replace R0 := Lib.hid (k6.row R0.out)
    replace HT := Lib.hid (k6.tables HT.out)
    replace HL := Lib.hid (k6.hs HL.out)
    replace HN := Lib.hid (NewT.trans _ _ _ HN.out k6)
    clear HK k6
    go_upto_region 7 with fail
    refine wp_region_rely NewT [SV.eq (v), SV.eq (.int .i64 ((k : Int))), svH (List.take k l), SV.eq (.agg (rowA 32 (bF (rootM node z (List.take k l))))), SV.eq (v), SV.eq (.int .i64 ((k : Int))), svH (List.drop k l), SV.eq (.agg (rowA 32 (bF (rootM node z (List.drop k l))))), SV.eq (.agg (rowA 32 (bF (node (rootM node z (List.take k l)) (rootM node z (List.drop k l))))))] [([(0, none)], none), ([(3, none)], none), ([(17, some 0), (18, some 1)], none), ([(19, some 2)], none), ([(0, none)], none), ([(3, none)], none), ([(21, some 4), (22, some 5)], none), ([(23, some 6)], none), ([(20, some 3), (24, some 7)], none)] 26 rfl (by kernel_rfl) rfl (by kernel_rfl) (by kernel_rfl) rfl NewT.trans (NewT.drew _) (Nat.le_of_ble_eq_true rfl) ⟨?_, ?_, ?_, ?_, ?_, ?_, ?_, ?_, ?_, trivial⟩ ?_
    · intro a wx hT hF K hK
      obtain ⟨f0, _⟩ := hF
      have f0 : a.tmps.getD 0 undef = v := f0
      refine rely_wp rfl ?_
      exact opr_move (.inl rfl) (hK _ _ (NewT.refl _) f0)
    · intro a wx hT hF K hK
      obtain ⟨f3, _⟩ := hF
      have f3 : a.tmps.getD 3 undef = .int .i64 ((k : Int)) := f3
      refine rely_wp rfl ?_
      exact opr_move (.inl rfl) (hK _ _ (NewT.refl _) f3)
    · intro a wx hT hF K hK
      obtain ⟨f17, f18, _⟩ := hF
      have f17 : a.tmps.getD 17 undef = v := f17
      have f18 : a.tmps.getD 18 undef = .int .i64 ((k : Int)) := f18
      refine rely_wp rfl ?_
      exact opr_toH (k := k) (by omega) (rfl) rfl (by rw [eval_tmp, f17]; exact (hT.hs HL.out)) f18 (fun v hv => hK v _ (NewT.refl _) hv)
    · intro a wx hT hF K hK
      obtain ⟨f19, _⟩ := hF
      replace f19 := show (svH (List.take k l)).pred (a.tmps.getD 19 undef) wx from f19
      refine rely_wp rfl ?_
      exact opr_cv (ih _ (List.take k l) wx (hT.tables HT.out) f19 (by rw [List.length_take]; omega)) rfl Tryd.func25 (by kernel_rfl) (by kernel_rfl) (by simp only [List.map_toArray, List.map_cons, List.map_nil, eval_tmp]) hK
    · intro a wx hT hF K hK
      obtain ⟨f0, _⟩ := hF
      have f0 : a.tmps.getD 0 undef = v := f0
      refine rely_wp rfl ?_
      exact opr_move (.inl rfl) (hK _ _ (NewT.refl _) f0)
    · intro a wx hT hF K hK
      obtain ⟨f3, _⟩ := hF
      have f3 : a.tmps.getD 3 undef = .int .i64 ((k : Int)) := f3
      refine rely_wp rfl ?_
      exact opr_move (.inl rfl) (hK _ _ (NewT.refl _) f3)
    · intro a wx hT hF K hK
      obtain ⟨f21, f22, _⟩ := hF
      have f21 : a.tmps.getD 21 undef = v := f21
      have f22 : a.tmps.getD 22 undef = .int .i64 ((k : Int)) := f22
      refine rely_wp rfl ?_
      exact opr_fromH (k := k) (by omega) (rfl) rfl (by rw [eval_tmp, f21]; exact (hT.hs HL.out)) f22 (fun v hv => hK v _ (NewT.refl _) hv)
    · intro a wx hT hF K hK
      obtain ⟨f23, _⟩ := hF
      replace f23 := show (svH (List.drop k l)).pred (a.tmps.getD 23 undef) wx from f23
      refine rely_wp rfl ?_
      exact opr_cv (ih _ (List.drop k l) wx (hT.tables HT.out) f23 (by rw [List.length_drop]; omega)) rfl Tryd.func25 (by kernel_rfl) (by kernel_rfl) (by simp only [List.map_toArray, List.map_cons, List.map_nil, eval_tmp]) hK
    · intro a wx hT hF K hK
      obtain ⟨f20, f24, _⟩ := hF
      have f20 : a.tmps.getD 20 undef = .agg (rowA 32 (bF (rootM node z (List.take k l)))) := f20
      have f24 : a.tmps.getD 24 undef = .agg (rowA 32 (bF (rootM node z (List.drop k l)))) := f24
      refine rely_wp rfl ?_
      exact opr_cv (Node_cv hX (rootM node z (List.take k l)) (rootM node z (List.drop k l)) wx (hT.tables HT.out)) rfl Tryd.func12 (by kernel_rfl) (by kernel_rfl) (by simp only [List.map_toArray, List.map_cons, List.map_nil, eval_tmp, f20, f24]) hK
    · intro wx hT
      intro u h; obtain rfl := Eq.symm (h (by simp)); clear h
      intro u h; obtain rfl := Eq.symm (h (by simp)); clear h
      intro _ _
      intro u h; obtain rfl := Eq.symm (h (by simp)); clear h
      intro u h; obtain rfl := Eq.symm (h (by simp)); clear h
      intro u h; obtain rfl := Eq.symm (h (by simp)); clear h
      intro _ _
      intro u h; obtain rfl := Eq.symm (h (by simp)); clear h
      intro u h; obtain rfl := Eq.symm (h (by simp)); clear h
      refine relyEnd_nil rfl ?_
      simp only [Act.put, List.setIfInBounds_toArray, List.set_cons_zero, List.set_cons_succ]
      refine opr_store_new (B := w.heap.size) (W := w) info31 rfl rfl rfl (hT.row R0.out) (NewT.trans _ _ _ HN.out hT) (Nat.le_refl _) ?_
      intro w9 hB9 r9
      go_simp
      go_wp2
      exact bodyPost_ret (results_row rfl _ rfl r9 Tryd.underlying24 info31) rfl ⟨_, rfl, hB9, rfl⟩
theorem Root_cv {node : Hs → Hs → Hs} {z : Hs} (hX : TreeH node z) : ∀ (n : Nat) (v : Value) (l : List Hs) (w : World), Tables w → RdH w v l → l.length ≤ n → n ≤ 1000000 → Cv 25 #[v] w (.eq (.agg (rowA 32 (bF (rootM node z l))))) := by
  intro n
  induction n with
  | zero =>
    intro v l w hT hl hn _
    obtain rfl : l = [] := List.eq_nil_of_length_eq_zero (by omega)
    obtain ⟨A, c, rfl⟩ := rdH_form hl
    rw [rootM_nil]; exact Root_0 hX A c w hT
  | succ n ih =>
    intro v l w hT hl hn hb
    match l, hl, hn with
    | [], hl, _ => obtain ⟨A, c, rfl⟩ := rdH_form hl
                   rw [rootM_nil]; exact Root_0 hX A c w hT
    | [d], hl, _ => rw [rootM_one]; exact Root_1 hX v d w hT hl
    | d :: e :: l, hl, hn =>
      have h2 : 2 ≤ (d :: e :: l).length := by simp
      generalize d :: e :: l = m at hl hn h2 ⊢
      obtain ⟨s1, s2, _⟩ := splitN_lt m.length h2
      rw [rootM_split node z m h2]
      refine Root_2 hX v m _ w hT hl h2 s1 s2 (fun w => ?_) (fun v m' w hT' hl' hm => ih v m' w hT' hl' (by omega) (by omega))
      exact Split_cv (m.length : Int) (by omega) (by omega) w
end Go.Proofs.YtphbjamfhmcjcaaDoor
/- A frontier in memory: its block, the row of its whole trees; steps that write these alone. -/
namespace Go.Proofs.YtphbjamfhmcjcaaDoor
open Go Go.RowKit
set_option maxRecDepth 8000
set_option linter.all false
/-- A step that writes block g, and blocks from B on, alone. -/
structure FT (g B : Nat) (w w' : World) : Prop where
  below : Below g w w'
  keep : ∀ k o, k < B → k ≠ g → w.heap[k]? = some o → o.isCells = true → w'.heap[k]? = some o
theorem FT.trans {g B : Nat} {a b c : World} (h : FT g B a b) (k : FT g B b c) : FT g B a c := ⟨h.below.trans k.below, fun i o h1 h2 h3 h4 => k.keep i o h1 h2 (h.keep i o h1 h2 h3 h4) h4⟩
theorem FT.of_rt {g B : Nat} {w w' : World} (h : RT g w w') : FT g B w w' := ⟨h.below, fun k o _ hk ho hc => h.keep.2 k o (by simpa using hk) ho hc⟩
theorem FT.new {g B : Nat} {w w' : World} (hg : g < w.heap.size) (h : NewT w w') : FT g B w w' := FT.of_rt (RT.new hg h)
theorem FT.row {g B : Nat} {w w' : World} (h : FT g B w w') {b n : Nat} {t : TypeId} {f : Nat → Value} (hb : b < B) (hne : b ≠ g) (hr : w.rowIs b t n f) : w'.rowIs b t n f := by
  obtain ⟨c, hc, hs, hf⟩ := hr
  exact ⟨c, h.keep _ _ hb hne hc rfl, hs, hf⟩
/-- Blocks that came behind W are written, and R: to whoever looks from W on, a step that writes R alone. -/
theorem RT.late2 {R g : Nat} {W w w' : World} (h : RT R W w) (hg : W.heap.size ≤ g) (hR : R < W.heap.size) (hk : RT g w w') : RT R W w' :=
  ⟨h.below.trans (hk.below.mono (by omega)), Nat.le_trans h.keep.1 hk.keep.1, fun k o hk' ho hc => hk.keep.2 k o (by have := (Array.getElem?_eq_some_iff.1 ho).1; simp; omega) (h.keep.2 k o hk' ho hc) hc⟩
/-- A frontier's two cells. -/
def frF (n : Int) (v : Value) (i : Nat) : Value := if i = 0 then .int .i64 n else v
/-- Block g is a frontier: it has taken n, its whole trees' roots are S, in a row of its own from block B on. -/
def FrAt (w : World) (g B : Nat) (n : Int) (S : List Hs) : Prop := ∃ v, w.rowIs g 35 2 (frF n v) ∧ OwnH w B v S ∧ g < B ∧ B ≤ w.heap.size
theorem FrAt.new {w w' : World} {g B : Nat} {n : Int} {S : List Hs} (h : FrAt w g B n S) (hN : NewT w w') : FrAt w' g B n S := by
  obtain ⟨v, h1, h2, h3, h4⟩ := h
  exact ⟨v, hN.row h1, h2.new hN, h3, Nat.le_trans h4 hN.out.size⟩
theorem NewT.front {w w' : World} (hN : NewT w w') {g B : Nat} {n : Int} {S : List Hs} (h : FrAt w g B n S) : FrAt w' g B n S := h.new hN
theorem FrAt.lt {w : World} {g B : Nat} {n : Int} {S : List Hs} (h : FrAt w g B n S) : g < w.heap.size := by obtain ⟨v, h1, _⟩ := h; exact h1.lt
theorem OwnH.one {W : World} {B : Nat} {v : Value} {l : List Hs} (h : OwnH W B v l) : v.oneCell' = true := by obtain ⟨A, c, rfl, _⟩ := h.cap; rfl
theorem OwnH.rt {w w' : World} {g B : Nat} {v : Value} {l : List Hs} (h : OwnH w B v l) (hg : g < B) (hR : RT g w w') : OwnH w' B v l := by
  refine ⟨h.1, ?_⟩
  rcases h.2 with h2 | ⟨b, cap, cur, hv, hb, hh, r⟩
  · exact .inl h2
  · exact .inr ⟨b, cap, cur, hv, hb, hR.keep.2 b _ (by simp; omega) hh rfl, r⟩
theorem RdH.keep {w w' : World} {v : Value} {l : List Hs} (hr : RdH w v l) (hk : ∀ b o, w.heap[b]? = some o → o.isCells = true → (∃ A n c, v = .slice (some A) n c ∧ A.block = b) → w'.heap[b]? = some o) : RdH w' v l := by
  obtain ⟨A, cap, hv, h1, h2, h3⟩ := hr
  refine ⟨A, cap, hv, h1, h2, fun h0 => ?_⟩
  obtain ⟨b, o, hA, hc⟩ := h3 h0
  refine ⟨b, o, hA, fun i d hd j hj => ?_⟩
  have hcell := hc i d hd j hj
  obtain ⟨ob, ho, hic⟩ : ∃ ob, w.heap[b]? = some ob ∧ ob.isCells = true := by
    unfold World.cell? at hcell
    cases ho : w.heap[b]? with
    | none => simp [ho] at hcell
    | some ob => exact ⟨ob, rfl, by cases ob <;> simp_all [Obj.isCells]⟩
  rw [World.cell?_of_block ((hk b ob ho hic ⟨_, _, _, by rw [hv, hA], rfl⟩).trans ho.symm)]
  exact hcell
theorem info_hs : (Tryd.prog.info? 31).map (·.size) = some 1 := by kernel_rfl
theorem info_hs0 : (Tryd.prog.info? 31).map (·.size) = some (0 + 1) := by kernel_rfl
theorem info_stk : (Tryd.prog.info? 33).map (·.size) = some (0 + 1) := by kernel_rfl
section
variable {a : Act} {w : World} {o : Oper} {K : Act → World → Prop} {Q : Exit → Act → World → Prop} {x y : Operand} {g o0 n : Nat} {t' : TypeId} {F : Nat → Value} {v : Value}
theorem opr_fldF1 (ho : o.op = .fieldAddr 35 x 1) (hx : a.eval x = .pointer (some ⟨g, o0, none⟩)) (h : K (a.put o.dst (.pointer (some ⟨g, o0 + 1, none⟩))) w) : o.wp Tryd.prog a w K Q :=
  opr_fld Tryd.underlying35 rfl info_stk ho hx (by rfl) h
theorem opr_fldK0 (ho : o.op = .fieldAddr 33 x 0) (hx : a.eval x = .pointer (some ⟨g, o0, none⟩)) (h : K (a.put o.dst (.pointer (some ⟨g, o0, none⟩))) w) : o.wp Tryd.prog a w K Q :=
  opr_fld Tryd.underlying33 rfl info_hs0 ho hx (by rfl) h
theorem opr_ldHs (hr : w.rowIs g t' n F) (hn : o0 < n) (hv : F o0 = v) (ho : o.op = .load 31 x) (hx : a.eval x = .pointer (some ⟨g, o0, none⟩)) (h : K (a.put o.dst v) w) : o.wp Tryd.prog a w K Q :=
  opr_ld1 Tryd.underlying31 rfl ho hx (by rw [hr.cell hn, hv]) h
theorem opr_toV {A : Option Addr} {n c k : Nat} (hk : k ≤ n) (hn : n ≤ c) (ho : o.op = .slice 31 x none (some y) none) (hx : a.eval x = .slice A n c) (hy : a.eval y = .int .i64 (k : Int)) (h : K (a.put o.dst (.slice A k c)) w) : o.wp Tryd.prog a w K Q := by
  obtain ⟨dst, op, type, pos, after, guard⟩ := o
  simp only at ho
  subst ho
  exact opr_val (s := Instr.sliceAt 31 (a.eval x) none (some (a.eval y)) none) (by simp [execOp]) (by rw [hx, hy]; simp [Instr.sliceAt, run_underlying Tryd.underlying31]; exact run_toH w hk hn) h
end
/-- An append onto an own row either stays in its block or makes a new one alone. -/
theorem run_appH_two {W : World} {B : Nat} {v u : Value} {l m : List Hs} (h : OwnH W B v l) (hr : RdH W u m) (hm : 0 < m.length) (hn : l.length + m.length ≤ 1000000) (hB : B ≤ W.heap.size) (ty : TypeId) :
    ∃ v' w', (Builtin.append_ #[31, 31] ty #[v, u]).run Tryd.prog W = .ok v' w' ∧ OwnH w' B v' (l ++ m) ∧ W.grownBy w' v.ownBlock ∧ (NewT W w' ∨ ∃ g c, v = .slice (some ⟨g, 0, none⟩) l.length c ∧ v' = .slice (some ⟨g, 0, none⟩) (l ++ m).length c) := by
  obtain ⟨v', w', h1, h2, h3⟩ := run_appH h hr hn hB ty
  refine ⟨v', w', h1, h2, h3, ?_⟩
  obtain ⟨i0, hi, hz0, hz1, hz2⟩ := info_parts infoH
  have hr0 := hr
  obtain ⟨A, cap, rfl, k1, k2, k3⟩ := hr
  obtain ⟨b, o, rfl, _⟩ := k3 hm
  have hz3 : (hcs m).length = m.length * i0.size := by rw [hz1]; exact hcs_length m
  rcases h.2 with ⟨rfl, h0⟩ | ⟨g, c, cur, rfl, hb, hg, hnc, hcm, hs, ht⟩
  · have hl : l = [] := List.eq_nil_of_length_eq_zero h0
    subst hl
    have hrun := run_append_nil (P := Tryd.prog) W 31 ty 24 i0 _ Tryd.underlying31 hi hz0 ⟨b, o, none⟩ m.length cap (hcs m) hz3 hr0.news (by omega) (by simp at hn; omega) (by simp at hn; rw [hz2]; omega)
    rw [h1] at hrun
    injection hrun with _ e
    subst e
    exact .inl (NewT.trans _ _ _ (NewT.drew W) (NewT.alloc _ _))
  · by_cases hroom : l.length + m.length ≤ c
    · have hrun := run_append_room (P := Tryd.prog) W 31 ty 24 i0 Tryd.underlying31 hi g l.length c cur hg ⟨b, o, none⟩ m.length cap (hcs m) hz3 hr0.news (hcs_one_cell m) hroom (by rw [hcs_length, hs, hz1]; omega)
      rw [h1] at hrun
      injection hrun with e _
      exact .inr ⟨g, c, rfl, by rw [List.length_append]; exact e⟩
    · have hrun := run_append_grow (P := Tryd.prog) W 31 ty 24 i0 _ Tryd.underlying31 hi hz0 ⟨g, 0, none⟩ l.length c (hcs l) (by rw [hz1]; exact hcs_length l) (h.cells (g := g) rfl) ⟨b, o, none⟩ m.length cap (hcs m) hz3 hr0.news (by omega) (by omega) (growslice_fits (by omega) (by rw [hz2]; omega))
      rw [h1] at hrun
      injection hrun with _ e
      subst e
      exact .inl (NewT.trans _ _ _ (NewT.drew W) (NewT.alloc _ _))
/-- A step of a region that appends onto v, which reads as S, what makes it read as L. -/
structure AT (B : Nat) (v : Value) (S L : List Hs) (w w' : World) : Prop where
  below : Below B w w'
  keep : KeepBut v.ownBlock.toList w w'
  old : OwnH w B v S → OwnH w' B v S
  new : ∀ v', OwnH w B v' L → OwnH w' B v' L
theorem AT.trans {B : Nat} {v : Value} {S L : List Hs} (a b c : World) (h : AT B v S L a b) (k : AT B v S L b c) : AT B v S L a c := ⟨h.below.trans k.below, h.keep.trans k.keep, fun x => k.old (h.old x), fun v' x => k.new v' (h.new v' x)⟩
theorem AT.of_new {B : Nat} {v : Value} {S L : List Hs} {w w' : World} (hB : B ≤ w.heap.size) (h : NewT w w') : AT B v S L w w' := ⟨h.out.mono hB, KeepBut.below h, fun x => x.new h, fun _ x => x.new h⟩
theorem AT.drew {B : Nat} {v : Value} {S L : List Hs} (w : World) : AT B v S L w w.drew := ⟨(Below.refl _ w).drew, KeepBut.drew w, fun x => x.keep fun _ _ => rfl, fun _ x => x.keep fun _ _ => rfl⟩
theorem AT.refl {B : Nat} {v : Value} {S L : List Hs} (w : World) : AT B v S L w w := ⟨Below.refl _ w, KeepBut.refl _ w, fun x => x, fun _ x => x⟩
theorem AT.app {B : Nat} {v v' : Value} {S m : List Hs} {w w' : World} (h : OwnH w B v S) (hm : 0 < m.length) (h' : OwnH w' B v' (S ++ m)) (hg : w.grownBy w' v.ownBlock) (hB : B ≤ w.heap.size) (two : NewT w w' ∨ ∃ g c, v = .slice (some ⟨g, 0, none⟩) S.length c ∧ v' = .slice (some ⟨g, 0, none⟩) (S ++ m).length c) : AT B v S (S ++ m) w w' := by
  have hk : KeepBut v.ownBlock.toList w w' := keepBut_grown hg fun k hk => by simp [hk]
  rcases two with hN | ⟨g, c, hv, hv'⟩
  · exact ⟨hN.out.mono hB, hk, fun x => x.new hN, fun _ x => x.new hN⟩
  · refine ⟨(Below.refl _ w).grown hg hB (fun k e => (h.lt k e).1), hk, fun _ => ?_, fun v'' h'' => ?_⟩
    · rw [hv'] at h'
      have := h'.take (k := S.length) (by simp) (by simp; omega)
      rw [List.take_left] at this
      rw [hv]; exact this
    · by_cases e : v''.ownBlock = some g
      · have e2 : v'' = v' := by
          rcases h''.2 with ⟨rfl, _⟩ | ⟨g2, c2, cur2, rfl, _, hh2, _, _, hs2, _⟩
          · cases e
          · simp [Value.ownBlock] at e
            subst e
            rw [hv] at h
            rcases h.2 with ⟨h3, _⟩ | ⟨g3, c3, cur3, h3, _, hh3, _, _, hs3, _⟩
            · cases h3
            · cases h3
              rw [hh2] at hh3
              cases hh3
              have : c2 = c := by omega
              rw [hv', this]
        rw [e2]; exact h'
      · exact h''.keep fun k hkk => hg.block k (h''.lt k hkk).2 (by rw [hv]; intro e2; simp [Value.ownBlock] at e2; subst e2; exact e hkk)
end Go.Proofs.YtphbjamfhmcjcaaDoor
/- A frontier's stack: what is taken off, and put on. -/
namespace Go.Proofs.YtphbjamfhmcjcaaDoor
open Go Go.RowKit
set_option maxRecDepth 8000
set_option linter.all false
theorem frF_set1 (n : Int) (v v' : Value) (i : Nat) (hi : i < 2) : frF n v' i = if i = 1 then v' else frF n v i := by
  unfold frF
  have : i = 0 ∨ i = 1 := by omega
  rcases this with rfl | rfl <;> simp
theorem frF_set0 (n m : Int) (v : Value) (i : Nat) : frF m v i = if i = 0 then .int .i64 m else frF n v i := by
  unfold frF
  by_cases h : i = 0 <;> simp [h]
set_option maxHeartbeats 2000000 in
theorem pop_c (g B k c : Nat) (n : Int) (A : Option Addr) (S : List Hs) (d : Hs) (w : World) (hk : S.length = k) (hk2 : k ≤ 1000000) (hg : w.rowIs g 35 2 (frF n (.slice A (k + 1) c))) (ho : OwnH w B (.slice A (k + 1) c) (S ++ [d])) (hB : g < B) :
    Calls Tryd.prog 30 #[.pointer (some ⟨g, 1, none⟩)] w fun e w' => e = .returned (.agg (rowA 32 (bF d))) ∧ RT g w w' ∧ w'.rowIs g 35 2 (frF n (.slice A k c)) ∧ OwnH w' B (.slice A k c) S := by
  have HG := Lib.hid hg.lt
  have HB := Lib.hid hB
  have hlen : (S ++ [d]).length = k + 1 := by simp [hk]
  have HLEN : Hid (((S ++ [d]).length : Int) = (k : Int) + 1) := Lib.hid (by omega)
  have HD : Hid ((S ++ [d])[k]? = some d) := Lib.hid (by rw [← hk]; simp)
  have HC : Hid (k + 1 ≤ c) := Lib.hid (by obtain ⟨A', c', hv, h1⟩ := ho.cap; injection hv with _ _ e; omega)
  have HO : Hid (OwnH w B (.slice A k c) S) := Lib.hid (by
    have := ho.take (k := k) (by omega) (by omega)
    rw [← hk, List.take_left] at this
    rw [← hk]; exact this)
  have HOB : Hid (∀ b, (Value.slice A k c).ownBlock = some b → b < w.heap.size) := Lib.hid (fun b hb => (HO.out.lt b hb).2)
  have HS := Lib.hid ho.rd
  clear ho hlen hk hB
  go_enter Tryd.func30, Tryd.ntmps30
  go_upto_region 1 with fail
  have r0 := rowIs_box w 24 32 (bF fun _ => 0)
  have hN := NewT.alloc w (.cells (rowA 32 (bF fun _ => 0)) 24)
  change Code.wp _ _ _ _ (w.alloc (.cells (rowA 32 (bF fun _ => 0)) 24))
  generalize w.alloc (.cells (rowA 32 (bF fun _ => 0)) 24) = W0 at r0 hN ⊢
  have R0 := Lib.hid r0
  have HR := Lib.hid (RT.new HG.out hN)
  have RG := Lib.hid (hN.row hg)
  replace HS := Lib.hid (hN.hs HS.out)
  replace HO := Lib.hid (HO.out.new hN)
  clear r0 hN hg
  refine wp_region_steps0 NewT [SV.eq (.pointer (some ⟨g, 1, none⟩)), SV.eq (.pointer (some ⟨g, 1, none⟩)), SV.eq (.pointer (some ⟨g, 1, none⟩)), SV.eq ((.slice A (k + 1) c)), SV.eq (.int .i64 ((List.length (S ++ [d]) : Int))), SV.eq (.int .i64 ((k : Int))), SV.eq (.int .i64 ((k : Int)))] [([(0, none)], none), ([(5, some 0)], none), ([(6, some 1)], none), ([(7, some 2)], none), ([(8, some 3)], none), ([(9, some 4)], none), ([(10, some 5)], none)] 28 7 rfl rfl (by kernel_rfl) NewT.trans (NewT.refl _) (Nat.le_of_ble_eq_true rfl) ⟨?_, ?_, ?_, ?_, ?_, ?_, ?_, trivial⟩ ?_
  · intro a wx hT hF K hK
    obtain ⟨f0, _⟩ := hF
    have f0 : a.tmps.getD 0 undef = .pointer (some ⟨g, 1, none⟩) := f0
    refine rely_wp rfl ?_
    exact opr_move (.inl rfl) (hK _ _ (NewT.refl _) f0)
  · intro a wx hT hF K hK
    obtain ⟨f5, _⟩ := hF
    have f5 : a.tmps.getD 5 undef = .pointer (some ⟨g, 1, none⟩) := f5
    refine rely_wp rfl ?_
    exact opr_nilc rfl f5 (hK _ _ (NewT.refl _) rfl)
  · intro a wx hT hF K hK
    obtain ⟨f6, _⟩ := hF
    have f6 : a.tmps.getD 6 undef = .pointer (some ⟨g, 1, none⟩) := f6
    refine rely_wp rfl ?_
    exact opr_fldK0 rfl f6 (hK _ _ (NewT.refl _) rfl)
  · intro a wx hT hF K hK
    obtain ⟨f7, _⟩ := hF
    have f7 : a.tmps.getD 7 undef = .pointer (some ⟨g, 1, none⟩) := f7
    refine rely_wp rfl ?_
    exact opr_ldHs (hT.row RG.out) (by decide) rfl rfl f7 (hK _ _ (NewT.refl _) rfl)
  · intro a wx hT hF K hK
    obtain ⟨f8, _⟩ := hF
    have f8 : a.tmps.getD 8 undef = (.slice A (k + 1) c) := f8
    refine rely_wp rfl ?_
    exact opr_len_h rfl (by rw [eval_tmp, f8]; exact (hT.hs HS.out)) (hK _ _ (NewT.refl _) rfl)
  · intro a wx hT hF K hK
    obtain ⟨f9, _⟩ := hF
    have f9 : a.tmps.getD 9 undef = .int .i64 ((List.length (S ++ [d]) : Int)) := f9
    refine rely_wp rfl ?_
    exact opr_sub (r := (k : Int)) Tryd.underlying3 (by rw [HLEN.out]; unfold wrap64; omega) rfl f9 rfl (hK _ _ (NewT.refl _) rfl)
  · intro a wx hT hF K hK
    obtain ⟨f10, _⟩ := hF
    have f10 : a.tmps.getD 10 undef = .int .i64 ((k : Int)) := f10
    refine rely_wp rfl ?_
    exact opr_move (.inr rfl) (hK _ _ (NewT.refl _) f10)
  · intro w1 k1
    intro u h; obtain rfl := Eq.symm (h (by simp)); clear h
    intro u h; obtain rfl := Eq.symm (h (by simp)); clear h
    intro u h; obtain rfl := Eq.symm (h (by simp)); clear h
    intro u h; obtain rfl := Eq.symm (h (by simp)); clear h
    intro u h; obtain rfl := Eq.symm (h (by simp)); clear h
    intro u h; obtain rfl := Eq.symm (h (by simp)); clear h
    intro u h; obtain rfl := Eq.symm (h (by simp)); clear h
    refine relyEnd_nil rfl ?_
    refine wpList_end rfl ?_
    simp only [Act.put, List.setIfInBounds_toArray, List.set_cons_zero, List.set_cons_succ]
    go_simp
    replace R0 := Lib.hid (k1.row R0.out)
    replace RG := Lib.hid (k1.row RG.out)
    replace HS := Lib.hid (k1.hs HS.out)
    replace HO := Lib.hid (HO.out.new k1)
    replace HR := Lib.hid (RT.trans _ _ _ HR.out (RT.new (by have := HG.out; have := R0.out.lt; have := HR.out.size; omega) k1))
    clear k1 HLEN
    go_upto_region 2 with fail
    refine wp_region_steps0 NewT [SV.eq (.pointer (some ⟨g, 1, none⟩)), SV.eq (.pointer (some ⟨g, 1, none⟩)), SV.eq (.pointer (some ⟨g, 1, none⟩)), SV.eq ((.slice A (k + 1) c)), SV.eq (.int .i64 ((k : Int))), svP (d), SV.eq (.agg (rowA 32 (bF (d))))] [([(0, none)], none), ([(11, some 0)], none), ([(12, some 1)], none), ([(13, some 2)], none), ([(3, none)], none), ([(14, some 3), (15, some 4)], none), ([(16, some 5)], none)] 28 7 rfl rfl (by kernel_rfl) NewT.trans (NewT.refl _) (Nat.le_of_ble_eq_true rfl) ⟨?_, ?_, ?_, ?_, ?_, ?_, ?_, trivial⟩ ?_
    · intro a wx hT hF K hK
      obtain ⟨f0, _⟩ := hF
      have f0 : a.tmps.getD 0 undef = .pointer (some ⟨g, 1, none⟩) := f0
      refine rely_wp rfl ?_
      exact opr_move (.inl rfl) (hK _ _ (NewT.refl _) f0)
    · intro a wx hT hF K hK
      obtain ⟨f11, _⟩ := hF
      have f11 : a.tmps.getD 11 undef = .pointer (some ⟨g, 1, none⟩) := f11
      refine rely_wp rfl ?_
      exact opr_nilc rfl f11 (hK _ _ (NewT.refl _) rfl)
    · intro a wx hT hF K hK
      obtain ⟨f12, _⟩ := hF
      have f12 : a.tmps.getD 12 undef = .pointer (some ⟨g, 1, none⟩) := f12
      refine rely_wp rfl ?_
      exact opr_fldK0 rfl f12 (hK _ _ (NewT.refl _) rfl)
    · intro a wx hT hF K hK
      obtain ⟨f13, _⟩ := hF
      have f13 : a.tmps.getD 13 undef = .pointer (some ⟨g, 1, none⟩) := f13
      refine rely_wp rfl ?_
      exact opr_ldHs (hT.row RG.out) (by decide) rfl rfl f13 (hK _ _ (NewT.refl _) rfl)
    · intro a wx hT hF K hK
      obtain ⟨f3, _⟩ := hF
      have f3 : a.tmps.getD 3 undef = .int .i64 ((k : Int)) := f3
      refine rely_wp rfl ?_
      exact opr_move (.inl rfl) (hK _ _ (NewT.refl _) f3)
    · intro a wx hT hF K hK
      obtain ⟨f14, f15, _⟩ := hF
      have f14 : a.tmps.getD 14 undef = (.slice A (k + 1) c) := f14
      have f15 : a.tmps.getD 15 undef = .int .i64 ((k : Int)) := f15
      refine rely_wp rfl ?_
      exact opr_idxH (i := k) (d := d) (HD.out) (rfl) rfl (by rw [eval_tmp, f14]; exact (hT.hs HS.out)) f15 (fun v hv => hK v _ (NewT.refl _) hv)
    · intro a wx hT hF K hK
      obtain ⟨f16, _⟩ := hF
      replace f16 := show (svP (d)).pred (a.tmps.getD 16 undef) wx from f16
      refine rely_wp rfl ?_
      exact opr_ldP rfl f16 (hK _ _ (NewT.refl _) rfl)
    · intro w2 k2
      intro u h; obtain rfl := Eq.symm (h (by simp)); clear h
      intro u h; obtain rfl := Eq.symm (h (by simp)); clear h
      intro u h; obtain rfl := Eq.symm (h (by simp)); clear h
      intro u h; obtain rfl := Eq.symm (h (by simp)); clear h
      intro u h; obtain rfl := Eq.symm (h (by simp)); clear h
      intro _ _
      intro u h; obtain rfl := Eq.symm (h (by simp)); clear h
      refine relyEnd_nil rfl ?_
      simp only [Act.put, List.setIfInBounds_toArray, List.set_cons_zero, List.set_cons_succ]
      refine wpList_new (n := 32) rfl rfl rfl rfl rfl rfl (by simp) run_alloc_hash info31 (fun _ => rfl) rfl ?_
      intro w3 hn1 r3
      refine wpList_end rfl ?_
      simp only [Act.put, List.setIfInBounds_toArray, List.set_cons_zero, List.set_cons_succ]
      go_simp
      obtain ⟨p4, hp4⟩ : ∃ p, w2.heap.size = p := ⟨_, rfl⟩
      rw [hp4] at r3 ⊢
      have hk23 := NewT.trans _ _ _ k2 hn1
      have hge : w.heap.size < p4 := by have := (k2.row R0.out).lt; omega
      have R4 := Lib.hid r3
      replace R0 := Lib.hid (hk23.row R0.out)
      replace RG := Lib.hid (hk23.row RG.out)
      replace HO := Lib.hid (HO.out.new hk23)
      have hgl : g < w1.heap.size := by have := HR.out.size; have := HG.out; omega
      replace HR := Lib.hid (RT.trans _ _ _ HR.out (RT.new hgl hk23))
      have HGE := Lib.hid hge
      clear k2 hn1 r3 hk23 HD hp4 hge hgl HS
      go_upto_region 3 with fail
      refine wp_region_steps0 NewT [SV.eq (.pointer (some ⟨g, 1, none⟩)), SV.eq (.pointer (some ⟨g, 1, none⟩)), SV.eq (.pointer (some ⟨g, 1, none⟩)), SV.eq (.pointer (some ⟨g, 1, none⟩)), SV.eq ((.slice A (k + 1) c)), SV.eq (.int .i64 ((k : Int))), SV.eq ((.slice A k c)), SV.eq (.pointer (some ⟨g, 1, none⟩)), SV.eq (.pointer (some ⟨g, 1, none⟩))] [([(0, none)], none), ([(0, none)], none), ([(19, some 1)], none), ([(20, some 2)], none), ([(21, some 3)], none), ([(3, none)], none), ([(22, some 4), (23, some 5)], none), ([(18, some 0)], none), ([(25, some 7)], none)] 28 9 rfl rfl (by kernel_rfl) NewT.trans (NewT.refl _) (Nat.le_of_ble_eq_true rfl) ⟨?_, ?_, ?_, ?_, ?_, ?_, ?_, ?_, ?_, trivial⟩ ?_
      · intro a wx hT hF K hK
        obtain ⟨f0, _⟩ := hF
        have f0 : a.tmps.getD 0 undef = .pointer (some ⟨g, 1, none⟩) := f0
        refine rely_wp rfl ?_
        exact opr_move (.inl rfl) (hK _ _ (NewT.refl _) f0)
      · intro a wx hT hF K hK
        obtain ⟨f0, _⟩ := hF
        have f0 : a.tmps.getD 0 undef = .pointer (some ⟨g, 1, none⟩) := f0
        refine rely_wp rfl ?_
        exact opr_move (.inl rfl) (hK _ _ (NewT.refl _) f0)
      · intro a wx hT hF K hK
        obtain ⟨f19, _⟩ := hF
        have f19 : a.tmps.getD 19 undef = .pointer (some ⟨g, 1, none⟩) := f19
        refine rely_wp rfl ?_
        exact opr_nilc rfl f19 (hK _ _ (NewT.refl _) rfl)
      · intro a wx hT hF K hK
        obtain ⟨f20, _⟩ := hF
        have f20 : a.tmps.getD 20 undef = .pointer (some ⟨g, 1, none⟩) := f20
        refine rely_wp rfl ?_
        exact opr_fldK0 rfl f20 (hK _ _ (NewT.refl _) rfl)
      · intro a wx hT hF K hK
        obtain ⟨f21, _⟩ := hF
        have f21 : a.tmps.getD 21 undef = .pointer (some ⟨g, 1, none⟩) := f21
        refine rely_wp rfl ?_
        exact opr_ldHs (hT.row RG.out) (by decide) rfl rfl f21 (hK _ _ (NewT.refl _) rfl)
      · intro a wx hT hF K hK
        obtain ⟨f3, _⟩ := hF
        have f3 : a.tmps.getD 3 undef = .int .i64 ((k : Int)) := f3
        refine rely_wp rfl ?_
        exact opr_move (.inl rfl) (hK _ _ (NewT.refl _) f3)
      · intro a wx hT hF K hK
        obtain ⟨f22, f23, _⟩ := hF
        have f22 : a.tmps.getD 22 undef = (.slice A (k + 1) c) := f22
        have f23 : a.tmps.getD 23 undef = .int .i64 ((k : Int)) := f23
        refine rely_wp rfl ?_
        exact opr_toV (n := k + 1) (by omega) HC.out rfl f22 f23 (hK _ _ (NewT.refl _) rfl)
      · intro a wx hT hF K hK
        obtain ⟨f18, _⟩ := hF
        have f18 : a.tmps.getD 18 undef = .pointer (some ⟨g, 1, none⟩) := f18
        refine rely_wp rfl ?_
        exact opr_nilc rfl f18 (hK _ _ (NewT.refl _) rfl)
      · intro a wx hT hF K hK
        obtain ⟨f25, _⟩ := hF
        have f25 : a.tmps.getD 25 undef = .pointer (some ⟨g, 1, none⟩) := f25
        refine rely_wp rfl ?_
        exact opr_fldK0 rfl f25 (hK _ _ (NewT.refl _) rfl)
      · intro w4 k4
        intro u h; obtain rfl := Eq.symm (h (by simp)); clear h
        intro u h; obtain rfl := Eq.symm (h (by simp)); clear h
        intro u h; obtain rfl := Eq.symm (h (by simp)); clear h
        intro u h; obtain rfl := Eq.symm (h (by simp)); clear h
        intro u h; obtain rfl := Eq.symm (h (by simp)); clear h
        intro u h; obtain rfl := Eq.symm (h (by simp)); clear h
        intro u h; obtain rfl := Eq.symm (h (by simp)); clear h
        intro u h; obtain rfl := Eq.symm (h (by simp)); clear h
        intro u h; obtain rfl := Eq.symm (h (by simp)); clear h
        refine relyEnd_nil rfl ?_
        simp only [Act.put, List.setIfInBounds_toArray, List.set_cons_zero, List.set_cons_succ]
        refine wpList_plain rfl (fun K hK => ?_)
        refine opr_put1 (F := frF n (.slice A k c)) rfl rfl rfl (k4.row RG.out) (by decide) info_hs rfl (fun i hi => frF_set1 _ _ _ i hi) ?_
        intro w5 hR3 rg3
        refine hK _ _ ?_
        refine wpList_end rfl ?_
        simp only [Act.put]
        go_simp
        have RTk := RT.new (R := g) (by have := RG.out.lt; omega) k4
        replace R0 := Lib.hid (hR3.row (by have := HG.out; omega) (k4.row R0.out))
        replace R4 := Lib.hid (hR3.row (by have := HG.out; have := HGE.out; omega) (k4.row R4.out))
        replace HO := Lib.hid ((HO.out.new k4).rt HB.out hR3)
        replace HR := Lib.hid (RT.trans _ _ _ HR.out (RT.trans _ _ _ RTk hR3))
        replace RG := Lib.hid rg3
        clear k4 hR3 rg3 RTk
        go_upto_region 4 with fail
        refine wp_region_steps0 NewT [SV.eq (.agg (rowA 32 (bF (d))))] [([(4, none)], none)] 28 1 rfl rfl (by kernel_rfl) NewT.trans (NewT.refl _) (Nat.le_of_ble_eq_true rfl) ⟨?_, trivial⟩ ?_
        · intro a wx hT hF K hK
          obtain ⟨f4, _⟩ := hF
          have f4 : a.tmps.getD 4 undef = .pointer (some ⟨p4, 0, none⟩) := f4
          refine rely_wp rfl ?_
          exact opr_load_hash rfl f4 (hT.row R4.out) (hK _ _ (NewT.refl _) rfl)
        · intro w6 hT
          intro u h; obtain rfl := Eq.symm (h (by simp)); clear h
          refine relyEnd_nil rfl ?_
          simp only [Act.put, List.setIfInBounds_toArray, List.set_cons_zero, List.set_cons_succ]
          refine wpList_plain rfl (fun K hK => ?_)
          refine opr_putm (F := bF d) rfl rfl rfl (hT.row R0.out) (by decide) info31 (fun _ => rfl) (fun i hi => by rw [if_pos (by omega), Nat.sub_zero]) ?_
          intro w7 hR7 r7
          refine hK _ _ ?_
          refine wpList_end rfl ?_
          simp only [Act.put]
          go_simp
          go_wp2
          refine bodyPost_ret (results_row rfl _ rfl r7 Tryd.underlying24 info31) rfl ⟨rfl, RT.late2 (RT.trans _ _ _ HR.out (RT.new (by have := RG.out.lt; omega) hT)) (Nat.le_refl _) HG.out hR7, ?_, ?_⟩
          · exact hR7.row (by have := HG.out; omega) (hT.row RG.out)
          · exact (HO.out.new hT).keep (fun b hb => by
              have h1 := (HO.out.new hT).lt b hb
              have h2 := HOB.out b hb
              obtain ⟨_, h3⟩ := HO.out.new hT
              rcases h3 with ⟨h3, _⟩ | ⟨g', c', cur, h3, _, hh, _⟩
              · rw [h3] at hb; cases hb
              · rw [h3] at hb
                simp [Value.ownBlock] at hb
                subst hb
                rw [hh]; exact hR7.keep.2 _ _ (by simp; omega) hh rfl)
end Go.Proofs.YtphbjamfhmcjcaaDoor
/- A frontier's stack: push. -/
namespace Go.Proofs.YtphbjamfhmcjcaaDoor
open Go Go.RowKit
set_option maxRecDepth 8000
set_option linter.all false
theorem AT.row {B : Nat} {v : Value} {S L : List Hs} {w w' : World} (h : AT B v S L w w') {b n : Nat} {t : TypeId} {f : Nat → Value} (hb : v.ownBlock ≠ some b) (hr : w.rowIs b t n f) : w'.rowIs b t n f := h.keep.row (by simpa using hb) hr
/-- A new slice of the one hash d, in a block that v hasn't. -/
def svNB (B : Nat) (v : Value) (S L : List Hs) (d : Hs) : SV (AT B v S L) := ⟨fun u w => ∃ b, u = .slice (some ⟨b, 0, none⟩) 1 1 ∧ v.ownBlock ≠ some b ∧ w.rowIs b 24 32 (bF d), fun _ _ _ ⟨b, h1, h2, h3⟩ hT => ⟨b, h1, h2, hT.row h2 h3⟩⟩
def svOW (B : Nat) (v : Value) (S L : List Hs) : SV (AT B v S L) := ⟨fun u w => OwnH w B u L, fun u _ _ h hT => hT.new u h⟩
theorem rdH_one_row {w : World} {b : Nat} {d : Hs} (h : w.rowIs b 24 32 (bF d)) : RdH w (.slice (some ⟨b, 0, none⟩) 1 1) [d] := by
  refine rdH_row (l := [d]) h (by simp) (by simp [maxLen]) fun i e he j hj => ?_
  have hi : i < 1 := (List.getElem?_eq_some_iff.1 he).1
  obtain rfl : i = 0 := by omega
  simp at he
  subst he
  rw [show 0 * 32 + j = j by omega]
theorem opr_bsH1V {a : Act} {w : World} {o : Oper} {K : Act → World → Prop} {Q : Exit → Act → World → Prop} {x : Operand} {d : Hs} (ho : o.op = .buildSlice 31 1 #[(0, x)]) (hx : a.eval x = .agg (rowA 32 (bF d))) (h : K (a.put o.dst (.slice (some ⟨w.heap.size, 0, none⟩) 1 1)) (w.alloc (.cells (rowA 32 (bF d)) 24))) : o.wp Tryd.prog a w K Q := by
  obtain ⟨dst, op, type, pos, after, guard⟩ := o
  simp only at ho
  subst ho
  exact opr_val (s := Instr.buildSlice 31 1 #[(0, a.eval x)]) (by simp [execOp]) (by rw [hx]; exact run_bsH1 d w) h
set_option maxHeartbeats 2000000 in
theorem push_c (g B : Nat) (n : Int) (v : Value) (S : List Hs) (d : Hs) (w : World) (hg : w.rowIs g 35 2 (frF n v)) (ho : OwnH w B v S) (hB : g < B) (hB2 : B ≤ w.heap.size) (hl : S.length ≤ 100000) :
    Calls Tryd.prog 31 #[.pointer (some ⟨g, 1, none⟩), .agg (rowA 32 (bF d))] w fun e w' => e = .returned (.tuple #[]) ∧ FT g B w w' ∧ ∃ v', w'.rowIs g 35 2 (frF n v') ∧ OwnH w' B v' (S ++ [d]) := by
  have HG := Lib.hid hg.lt
  have HB := Lib.hid hB
  have HB2 := Lib.hid hB2
  have HLN := Lib.hid hl
  have HOW : Hid (∀ b, v.ownBlock = some b → b < w.heap.size) := Lib.hid (fun b hb => (ho.lt b hb).2)
  have HNG : Hid (v.ownBlock ≠ some g) := Lib.hid (fun e => by have := (ho.lt g e).1; omega)
  have HNH : Hid (v.ownBlock ≠ some w.heap.size) := Lib.hid (fun e => by have := (ho.lt _ e).2; omega)
  go_enter Tryd.func31, Tryd.ntmps31
  go_upto_region 1 with fail
  have r0 := rowIs_box w 24 32 (bF d)
  have hN := NewT.alloc w (.cells (rowA 32 (bF d)) 24)
  change Code.wp _ _ _ _ (w.alloc (.cells (rowA 32 (bF d)) 24))
  have hsz : w.heap.size ≤ (w.alloc (.cells (rowA 32 (bF d)) 24)).heap.size := by simp
  generalize w.alloc (.cells (rowA 32 (bF d)) 24) = W0 at r0 hN hsz ⊢
  have HN := Lib.hid hN
  have HSZ := Lib.hid hsz
  have RH := Lib.hid r0
  have RG := Lib.hid (hN.row hg)
  have HO := Lib.hid (ho.new hN)
  clear r0 hN hg ho hB hB2 hsz hl
  refine wp_region_rely_tail (AT B v S (S ++ [d])) [SV.eq (.pointer (some ⟨g, 1, none⟩)), SV.eq (.pointer (some ⟨g, 1, none⟩)), SV.eq (.pointer (some ⟨g, 1, none⟩)), SV.eq (.pointer (some ⟨g, 1, none⟩)), SV.eq (v), SV.eq (.agg (rowA 32 (bF (d)))), svNB B v S (S ++ [d]) d, svOW B v S (S ++ [d])] [([(0, none)], none), ([(0, none)], none), ([(5, some 1)], none), ([(6, some 2)], none), ([(7, some 3)], none), ([(3, none)], none), ([(9, some 5)], none), ([(8, some 4), (10, some 6)], none)] 14 8 (by kernel_rfl) rfl rfl (Nat.zero_lt_succ _) (by kernel_rfl) (by kernel_rfl) (by kernel_rfl) AT.trans (AT.drew _) (Nat.le_of_ble_eq_true rfl) ⟨?_, ?_, ?_, ?_, ?_, ?_, ?_, ?_, trivial⟩ ?_
  · intro a wx hT hF K hK
    obtain ⟨f0, _⟩ := hF
    have f0 : a.tmps.getD 0 undef = .pointer (some ⟨g, 1, none⟩) := f0
    refine rely_wp rfl ?_
    exact opr_move (.inl rfl) (hK _ _ (AT.refl _) f0)
  · intro a wx hT hF K hK
    obtain ⟨f0, _⟩ := hF
    have f0 : a.tmps.getD 0 undef = .pointer (some ⟨g, 1, none⟩) := f0
    refine rely_wp rfl ?_
    exact opr_move (.inl rfl) (hK _ _ (AT.refl _) f0)
  · intro a wx hT hF K hK
    obtain ⟨f5, _⟩ := hF
    have f5 : a.tmps.getD 5 undef = .pointer (some ⟨g, 1, none⟩) := f5
    refine rely_wp rfl ?_
    exact opr_nilc rfl f5 (hK _ _ (AT.refl _) rfl)
  · intro a wx hT hF K hK
    obtain ⟨f6, _⟩ := hF
    have f6 : a.tmps.getD 6 undef = .pointer (some ⟨g, 1, none⟩) := f6
    refine rely_wp rfl ?_
    exact opr_fldK0 rfl f6 (hK _ _ (AT.refl _) rfl)
  · intro a wx hT hF K hK
    obtain ⟨f7, _⟩ := hF
    have f7 : a.tmps.getD 7 undef = .pointer (some ⟨g, 1, none⟩) := f7
    refine rely_wp rfl ?_
    exact opr_ldHs (hT.row HNG.out RG.out) (by decide) rfl rfl f7 (hK _ _ (AT.refl _) rfl)
  · intro a wx hT hF K hK
    obtain ⟨f3, _⟩ := hF
    have f3 : a.tmps.getD 3 undef = .pointer (some ⟨w.heap.size, 0, none⟩) := f3
    refine rely_wp rfl ?_
    exact opr_load_hash rfl f3 (hT.row HNH.out RH.out) (hK _ _ (AT.refl _) rfl)
  · intro a wx hT hF K hK
    obtain ⟨f9, _⟩ := hF
    have f9 : a.tmps.getD 9 undef = .agg (rowA 32 (bF (d))) := f9
    refine rely_wp rfl ?_
    have hle : w.heap.size ≤ wx.heap.size := Nat.le_trans HSZ.out hT.below.size
    exact opr_bsH1V rfl f9 (hK _ _ (AT.of_new (Nat.le_trans HB2.out hle) (NewT.alloc _ _)) ⟨wx.heap.size, rfl, fun e => by have := HOW.out _ e; omega, rowIs_box wx _ 32 _⟩)
  · intro a wx hT hF K hK
    obtain ⟨f8, f10, _⟩ := hF
    have f8 : a.tmps.getD 8 undef = v := f8
    replace f10 := show (svNB B v S (S ++ [d]) d).pred (a.tmps.getD 10 undef) wx from f10
    refine rely_wp rfl ?_
    obtain ⟨b, hb, hbn, hrow⟩ := f10
    have hle : w.heap.size ≤ wx.heap.size := Nat.le_trans HSZ.out hT.below.size
    obtain ⟨v', w', hrun, h2, h3, h4⟩ := run_appH_two (m := [d]) (hT.old HO.out) (rdH_one_row hrow) (by simp) (by have := HLN.out; simp; omega) (Nat.le_trans HB2.out hle) _
    exact opr_append rfl f8 hb hrun (hK _ _ (AT.app (hT.old HO.out) (by simp) h2 h3 (Nat.le_trans HB2.out hle) h4) h2)
  · intro wx hT
    intro u h; obtain rfl := Eq.symm (h (by simp)); clear h
    intro u h; obtain rfl := Eq.symm (h (by simp)); clear h
    intro u h; obtain rfl := Eq.symm (h (by simp)); clear h
    intro u h; obtain rfl := Eq.symm (h (by simp)); clear h
    intro u h; obtain rfl := Eq.symm (h (by simp)); clear h
    intro u h; obtain rfl := Eq.symm (h (by simp)); clear h
    intro _ _
    intro u11 h; have g11 := h (by simp); clear h; replace g11 := show (svOW B v S (S ++ [d])).pred u11 wx from g11
    refine relyEnd_nil rfl ?_
    simp only [Act.put, List.setIfInBounds_toArray, List.set_cons_zero, List.set_cons_succ]
    refine wpList_plain rfl (fun K hK => ?_)
    refine opr_nilc rfl rfl (hK _ _ ?_)
    refine wpList_plain rfl (fun K hK => ?_)
    refine opr_fldK0 rfl rfl (hK _ _ ?_)
    refine wpList_plain rfl (fun K hK => ?_)
    have hO : OwnH wx B u11 (S ++ [d]) := g11
    refine opr_put1 (F := frF n u11) rfl rfl rfl (hT.row HNG.out RG.out) (by decide) info_hs hO.one (fun i hi => frF_set1 _ _ _ i hi) ?_
    intro w5 hR5 rg5
    refine hK _ _ ?_
    refine wpList_end rfl ?_
    simp only [Act.put]
    go_simp
    go_wp2
    go_end0
    refine ⟨rfl, ?_, u11, rg5, hO.rt HB.out hR5⟩
    have hlt := HG.out
    refine ⟨(HN.out.out.mono (Nat.le_of_lt hlt)).trans ((hT.below.mono (Nat.le_of_lt HB.out)).trans hR5.below), fun k o hk hne ho hc => ?_⟩
    exact hR5.keep.2 k o (by simpa using hne) ((hT.below.block k hk).trans ((HN.out.out.block k (Nat.lt_of_lt_of_le hk HB2.out)).trans ho)) hc
end Go.Proofs.YtphbjamfhmcjcaaDoor
/- One leaf more, by the binary digits of how many there are: the mathematics of a frontier's Add. No program is named. -/
namespace Go.Proofs.YtphbjamfhmcjcaaDoor
set_option maxRecDepth 8000
set_option linter.all false
section
variable {H : Type} (node : H → H → H) (z : H)
/-- A leaf more, the smallest whole tree first; n: how many there were. -/
def addT : Nat → H → List H → List H
  | _, h, [] => [h]
  | n, h, t :: T => if n % 2 = 1 then addT (n / 2) (node t h) T else h :: t :: T
theorem addT_odd (n : Nat) (h t : H) (T : List H) (hn : n % 2 = 1) : addT node n h (t :: T) = addT node (n / 2) (node t h) T := by rw [addT, if_pos hn]
theorem addT_even (n : Nat) (h : H) (T : List H) (hn : n % 2 = 0) : addT node n h T = h :: T := by
  cases T with
  | nil => rfl
  | cons t T => rw [addT, if_neg (by omega)]
variable {node z}
theorem Fr.dvd {S : List (Nat × H)} {l : List H} (h : Fr node z S l) (k : Nat) (hk : ∀ p ∈ S, k ≤ p.1) : 2 ^ k ∣ l.length := by
  induction h with
  | nil => exact ⟨0, by simp⟩
  | @cons k' a b F ha hF hb ih =>
    rw [List.length_append, ha]
    exact Nat.dvd_add (Nat.pow_dvd_pow 2 (hk (k', rootM node z a) (by simp))) (ih fun p hp => hk p (by simp [hp]))
theorem addT_addR (S : List (Nat × H)) : ∀ (k m : Nat) (h : H) (l : List H), Fr node z S.reverse l → (∀ p ∈ S, k ≤ p.1) → l.length = 2 ^ k * m → addT node m h (S.map (·.2)) = (addR node k h S).map (·.2) := by
  induction S with
  | nil => intro k m h l _ _ _; rfl
  | cons p S ih =>
    intro k m h l hl hk hm
    obtain ⟨k', h'⟩ := p
    rw [List.reverse_cons] at hl
    obtain ⟨a, c, rfl, h1, h2, h3, h4⟩ := hl.snoc_inv
    have h5 : ∀ p ∈ S, k' + 1 ≤ p.1 := fun p hp => h4 p (by simpa using hp)
    obtain ⟨q, hq⟩ := h1.dvd (k' + 1) fun p hp => h4 p hp
    have hp := Nat.two_pow_pos k
    rw [List.length_append, h2, hq] at hm
    rw [List.map_cons]
    unfold addR
    by_cases he : k' = k
    · subst he
      rw [if_pos rfl]
      have hm2 : m = 2 * q + 1 := by
        rw [Nat.pow_succ, Nat.mul_assoc] at hm
        have : 2 ^ k' * (2 * q + 1) = 2 ^ k' * m := by rw [Nat.mul_add, Nat.mul_one]; exact hm
        exact (Nat.eq_of_mul_eq_mul_left hp this).symm
      rw [addT_odd node m h h' _ (by omega), show m / 2 = q by omega]
      exact ih (k' + 1) q (node h' h) a h1 h5 hq
    · rw [if_neg he]
      have hkk : k < k' := by have := hk (k', h') (by simp); simp at this; omega
      obtain ⟨e, rfl⟩ : ∃ e, k' = k + 1 + e := ⟨k' - (k + 1), by omega⟩
      have hm2 : m = 2 * (2 ^ e * (2 * q + 1)) := by
        have e1 : 2 ^ (k + 1 + e + 1) * q + 2 ^ (k + 1 + e) = 2 ^ k * (2 * (2 ^ e * (2 * q + 1))) := by
          rw [show k + 1 + e + 1 = k + (1 + e + 1) by omega, show k + 1 + e = k + (1 + e) by omega, Nat.pow_add 2 k (1 + e + 1), Nat.pow_add 2 k (1 + e), Nat.mul_assoc, ← Nat.mul_add]
          congr 1
          rw [show 1 + e + 1 = e + 1 + 1 by omega, show 1 + e = e + 1 by omega, Nat.pow_succ 2 (e + 1), Nat.pow_succ 2 e, Nat.mul_add, Nat.mul_one]
          generalize 2 ^ e = y
          rw [Nat.mul_add, Nat.mul_comm y 2, Nat.mul_assoc, Nat.mul_assoc, Nat.mul_comm y (2 * q), Nat.mul_assoc, Nat.mul_comm q y]
        rw [e1] at hm
        exact (Nat.eq_of_mul_eq_mul_left hp hm).symm
      rw [addT_even node m h _ (by omega)]
      rfl
/-- A frontier of l's leaves, and one more. -/
theorem treesM_add (l : List H) (h : H) : treesM node z (l ++ [h]) = (addT node l.length h (treesM node z l).reverse).reverse := by
  obtain ⟨S, hS, _⟩ := fr_all (node := node) (z := z) l
  have h1 := hS.trees
  have h2 := (addR_one S h l hS).trees
  rw [← h1, ← h2, List.map_reverse, List.map_reverse, List.reverse_reverse]
  congr 1
  exact (addT_addR S 0 l.length h l hS (fun _ _ => Nat.zero_le _) (by simp)).symm
theorem treesM_ones (l : List H) : (treesM node z l).length = onesN l.length := by
  obtain ⟨S, hS, _⟩ := fr_all (node := node) (z := z) l
  rw [← hS.trees, List.length_map]; exact hS.ones
theorem treesM_whole (l : List H) (k : Nat) (hk : l.length = 2 ^ k) : treesM node z l = [rootM node z l] := by
  obtain ⟨S, hS, _⟩ := fr_all (node := node) (z := z) l
  rw [← hS.trees, hS.whole k hk]; rfl
theorem treesM_nil : treesM node z ([] : List H) = [] := by unfold treesM; simp
theorem onesN_pos (n : Nat) (h : 0 < n) : 0 < onesN n := by
  induction n using Nat.strongRecOn with
  | ind n ih =>
    rw [onesN_step]
    by_cases h2 : n % 2 = 1
    · omega
    · have := ih (n / 2) (by omega) (by omega); omega
theorem onesN_odd (n : Nat) (h : n % 2 = 1) : onesN n = onesN (n / 2) + 1 := by rw [onesN_step]; omega
theorem onesN_le (n : Nat) : onesN n ≤ n := by
  induction n using Nat.strongRecOn with
  | ind n ih =>
    by_cases h0 : n = 0
    · subst h0; simp [onesN_zero]
    · rw [onesN_step]; have := ih (n / 2) (by omega); omega
end
end Go.Proofs.YtphbjamfhmcjcaaDoor
/- A region that draws its order and makes two arrays: beside the conditions of single operations a relation on the frame that each step keeps. -/
namespace Go.Proofs.YtphbjamfhmcjcaaDoor
open Go Go.RowKit
set_option maxRecDepth 8000
set_option linter.all false

section
variable {P : Program} {ops : Array Oper} {Q : Exit → Act → World → Prop} {T : World → World → Prop} {V : List (SV T)} {J : Act → World → Prop} {a0 : Act} {w0 : World} {n : Nat} {D : Deps} {init tail : List Oper}
theorem rely_next (hn : a0.tmps.size = n) (ht : ∀ a b c : World, T a b → T b c → T a c) {i : Nat} {o : Oper} {dp : List (Tmp × Option Nat)} {g : Option (Tmp × Bool)} {listed : Array Bool} {a : Act} {w : World}
    (ho : ops[i]? = some o) (h1 : relyOne ops n i o dp g = true) (h0 : listed.getD i true = false)
    (hall : ∀ e ∈ o.after, Region.binds .any e = true → listed.getD e.on false = true) (inv : RelyInv ops T V a0 w0 listed a w) :
    relyFacts V a0 a w dp ∧ Region.wanted o (yielded ops a.tmps) = relyGuard g a ∧ ∀ v w', T w w' → (V.getD i SV.any).pred v w' → RelyInv ops T V a0 w0 (listed.setIfInBounds i true) (a.put o.dst v) w' := by
  simp only [relyOne, Bool.and_eq_true] at h1
  obtain ⟨⟨⟨hdst, hafter⟩, hdp⟩, hg⟩ := h1
  have waits : ∀ j, Region.waitsFor .any ops i j = true → listed.getD j false = true := fun j hj => by
    obtain ⟨oi, hoi, e, he, hb, hon⟩ := Region.waitsFor_spec hj
    have : oi = o := Option.some.inj (hoi.symm.trans ho)
    subst this
    rw [← hon]
    exact hall e he hb
  have i0 : listed.getD i false = false := getD_both h0
  have hfacts : relyFacts V a0 a w dp := by
      induction dp with
    | nil => trivial
    | cons x r ih2 =>
      simp only [List.all_cons, Bool.and_eq_true] at hdp
      obtain ⟨hx, hr⟩ := hdp
      obtain ⟨d, j⟩ := x
      cases j with
      | some j =>
        simp only [Bool.and_eq_true, beq_iff_eq] at hx
        exact ⟨inv.new j d hx.1 (waits j hx.2), ih2 hr⟩
      | none =>
        refine ⟨inv.old d fun j hj => ?_, ih2 hr⟩
        have hjlt : j < ops.size := by
          unfold relyDst at hj
          cases hoj : ops[j]? with
          | none => simp [hoj] at hj
          | some oj => exact (Array.getElem?_eq_some_iff.1 hoj).1
        have h2 := List.all_eq_true.1 hx j (List.mem_range.2 hjlt)
        simp only [hj, bne_self_eq_false, Bool.false_or, Bool.or_eq_true, decide_eq_true_eq] at h2
        rcases h2 with rfl | h2
        · exact i0
        · cases hlj : listed.getD j false with
          | false => rfl
          | true =>
            obtain ⟨oj, hoj, e, he, hb, hon⟩ := Region.waitsFor_spec h2
            have := inv.closed j oj hoj hlj e he hb
            rw [hon, i0] at this
            cases this
  have hguard : Region.wanted o (yielded ops a.tmps) = relyGuard g a := by
    unfold Region.wanted
    cases hgo : o.guard with
    | none =>
      rw [hgo] at hg
      cases g with
      | none => rfl
      | some x => cases hg
    | some kb =>
      obtain ⟨k, b⟩ := kb
      rw [hgo] at hg
      cases g with
      | none => cases hg
      | some x =>
        obtain ⟨d, b'⟩ := x
        simp only [Bool.and_eq_true, beq_iff_eq, decide_eq_true_eq] at hg
        obtain ⟨⟨⟨rfl, hd⟩, _⟩, hlt⟩ := hg
        have hlt' : d < a.tmps.size := by rw [inv.slots, hn]; exact hlt
        have hd' : (ops[k]?).bind (·.dst) = some d := hd
        simp only [yielded, hd', Option.bind_some, relyGuard, Array.getD_eq_getD_getElem?, Array.getElem?_eq_getElem hlt', Option.getD_some]
        cases a.tmps[d] <;> simp
        all_goals (rename_i x; cases x <;> cases b <;> rfl)
  have next : ∀ v w', T w w' → (V.getD i SV.any).pred v w' → RelyInv ops T V a0 w0 (listed.setIfInBounds i true) (a.put o.dst v) w' := fun v w' hT hv => by
    have hilt : i < listed.size := by rw [inv.size]; exact (Array.getElem?_eq_some_iff.1 ho).1
    refine ⟨by simp [inv.size], fun j oj hj hlj e he hb => ?_, ht _ _ _ inv.now hT, by cases o.dst <;> simp [Act.put, inv.slots], by cases o.dst <;> simp [Act.put, inv.defers], fun j d hj hlj => ?_, fun d hno => ?_⟩
    · by_cases hij : i = j
      · subst hij
        have : oj = o := Option.some.inj (hj.symm.trans ho)
        subst this
        exact getD_set_true (hall e he hb)
      · rw [getD_set_ne false hij] at hlj
        exact getD_set_true (inv.closed j oj hj hlj e he hb)
    · by_cases hij : i = j
      · subst hij
        have hd : o.dst = some d := by simpa [relyDst, ho] using hj
        rw [hd] at hdst
        simp only [Bool.and_eq_true, decide_eq_true_eq] at hdst
        have hlt : d < a.tmps.size := by rw [inv.slots, hn]; exact hdst.1
        rw [hd]
        simpa [Act.put, hlt] using hv
      · rw [getD_set_ne false hij] at hlj
        have h3 := (V.getD j SV.any).stable _ _ _ (inv.new j d hj hlj) hT
        cases hod : o.dst with
        | none => exact h3
        | some d0 =>
          rw [hod] at hdst
          simp only [Bool.and_eq_true, decide_eq_true_eq] at hdst
          have hjlt : j < ops.size := by
            unfold relyDst at hj
            cases hoj : ops[j]? with
            | none => simp [hoj] at hj
            | some oj => exact (Array.getElem?_eq_some_iff.1 hoj).1
          have h4 := List.all_eq_true.1 hdst.2 j (List.mem_range.2 hjlt)
          simp only [Bool.or_eq_true, decide_eq_true_eq, bne_iff_ne, ne_eq] at h4
          have hne : d0 ≠ d := fun e => by
            subst e
            rcases h4 with h4 | h4
            · exact hij h4.symm
            · exact h4 hj
          simpa [Act.put, Array.getElem?_setIfInBounds_ne hne] using h3
    · have hni : o.dst ≠ some d := fun hd => by
        have := hno i (by simp [relyDst, ho, hd])
        simp [hilt] at this
      have hold := inv.old d fun j hj => by
        have hij : i ≠ j := fun e => by subst e; exact hni (by simpa [relyDst, ho] using hj)
        have := hno j hj
        rwa [getD_set_ne false hij] at this
      cases hod : o.dst with
      | none => exact hold
      | some d0 =>
        have hne : d0 ≠ d := fun e => hni (by rw [hod, e])
        simpa [Act.put, Array.getElem?_setIfInBounds_ne hne] using hold
  exact ⟨hfacts, hguard, next⟩
end
/-- Two slots hold pointers to different blocks, both there. -/
def TwoPtr (p q : Tmp) (a : Act) (w : World) : Prop :=
  (∀ g, a.tmps.getD p undef = .pointer (some ⟨g, 0, none⟩) → g < w.heap.size) ∧ (∀ g, a.tmps.getD q undef = .pointer (some ⟨g, 0, none⟩) → g < w.heap.size) ∧
    ∀ g g', a.tmps.getD p undef = .pointer (some ⟨g, 0, none⟩) → a.tmps.getD q undef = .pointer (some ⟨g', 0, none⟩) → g ≠ g'
theorem put_other {a : Act} {d : Option Tmp} {p : Tmp} (v : Value) (h : d ≠ some p) : (a.put d v).tmps.getD p undef = a.tmps.getD p undef := by
  cases d with
  | none => rfl
  | some d =>
    have hne : d ≠ p := fun e => h (by rw [e])
    simp [Act.put, Array.getElem?_setIfInBounds_ne hne]
theorem TwoPtr.keep {p q : Tmp} {a : Act} {w w' : World} {d : Option Tmp} {v : Value} (h : TwoPtr p q a w) (hp : d ≠ some p) (hq : d ≠ some q) (hT : NewT w w') : TwoPtr p q (a.put d v) w' := by
  unfold TwoPtr
  rw [put_other v hp, put_other v hq]
  exact ⟨fun g hg => Nat.lt_of_lt_of_le (h.1 g hg) hT.out.size, fun g hg => Nat.lt_of_lt_of_le (h.2.1 g hg) hT.out.size, h.2.2⟩
theorem put_same {a : Act} {p : Tmp} {g g' : Nat} (h : (a.put (some p) (.pointer (some ⟨g, 0, none⟩))).tmps.getD p undef = .pointer (some ⟨g', 0, none⟩)) : g' = g := by
  rcases Nat.lt_or_ge p a.tmps.size with hlt | hge
  · simp [Act.put, hlt] at h; exact h.symm
  · simp [Act.put, undef, Nat.not_lt.2 hge] at h
theorem TwoPtr.first {p q : Tmp} {a : Act} {w : World} {o : Obj} (h : TwoPtr p q a w) (hpq : p ≠ q) : TwoPtr p q (a.put (some p) (.pointer (some ⟨w.heap.size, 0, none⟩))) (w.alloc o) := by
  unfold TwoPtr
  rw [put_other (p := q) (d := some p) _ (by simpa using hpq)]
  refine ⟨fun g hg => by rw [put_same hg]; simp, fun g hg => by have := h.2.1 g hg; simp; omega, fun g g' hg hg' => ?_⟩
  have := h.2.1 g' hg'
  rw [put_same hg]; omega
theorem opr_alloc_at {a : Act} {w : World} {o : Oper} {K : Act → World → Prop} {Q : Exit → Act → World → Prop} (ho : o.op = .alloc 24) (h : K (a.put o.dst (.pointer (some ⟨w.heap.size, 0, none⟩))) (w.alloc (.cells (rowA 32 (bF fun _ => 0)) 24))) : o.wp Tryd.prog a w K Q := by
  obtain ⟨dst, op, type, pos, after, guard⟩ := o
  simp only at ho
  subst ho
  exact opr_val (s := Instr.alloc 24 true (.tuple #[])) rfl (run_alloc_hash w) h
end Go.Proofs.YtphbjamfhmcjcaaDoor
/- A region that draws its order, some of whose operations turn a state one behind the other (each waits for the one ahead): beside the conditions of single operations a statement on the world for each phase. No program is named here. -/
namespace Go.Proofs.YtphbjamfhmcjcaaDoor
open Go Go.RowKit
set_option maxRecDepth 8000
set_option linter.all false

/-- One operation: it turns phase k into the next one (some k), or keeps whatever phase there is (none). -/
def relyStepP (P : Program) (Q : Exit → Act → World → Prop) (T : World → World → Prop) (V : List (SV T)) (J : Nat → World → Prop) (a0 : Act) (w0 : World) (o : Oper) (dp : List (Tmp × Option Nat)) (g : Option (Tmp × Bool)) (c : SV T) : Option Nat → Prop
  | none => ∀ (a : Act) (w : World), T w0 w → relyFacts V a0 a w dp → ∀ K : Act → World → Prop, (∀ v w', T w w' → (∀ k, J k w → J k w') → c.pred v w' → K (a.put o.dst v) w') →
    if relyGuard g a then o.wp P a w K Q else K (a.put o.dst undef) w
  | some k => ∀ (a : Act) (w : World), T w0 w → relyFacts V a0 a w dp → J k w → ∀ K : Act → World → Prop, (∀ v w', T w w' → J (k + 1) w' → c.pred v w' → K (a.put o.dst v) w') →
    if relyGuard g a then o.wp P a w K Q else K (a.put o.dst undef) w
def relyAllP (P : Program) (Q : Exit → Act → World → Prop) (T : World → World → Prop) (V : List (SV T)) (J : Nat → World → Prop) (a0 : Act) (w0 : World) : List Oper → Deps → List (SV T) → List (Option Nat) → Prop
  | [], _, _, _ => True
  | o :: r, (dp, g) :: D, c :: C, s :: S => relyStepP P Q T V J a0 w0 o dp g c s ∧ relyAllP P Q T V J a0 w0 r D C S
  | _, _, _, _ => False
/-- Each of the path's operations waits for the one ahead. -/
def pathB (ops : Array Oper) : List Nat → Bool
  | i :: j :: r => Region.waitsFor .any ops j i && pathB ops (j :: r)
  | _ => true
def placesB (path : List Nat) (S : List (Option Nat)) : Bool := decide path.Nodup && (List.range S.length).all fun i => S.getD i none == path.findIdx? (· == i)
section
variable {P : Program} {ops : Array Oper} {Q : Exit → Act → World → Prop} {T : World → World → Prop} {V : List (SV T)} {J : Nat → World → Prop} {a0 : Act} {w0 : World} {n : Nat} {D : Deps} {S : List (Option Nat)} {path : List Nat} {init : List Oper} {last : Oper}
theorem pathB_at : ∀ (path : List Nat) (j i i' : Nat), pathB ops path = true → path[j]? = some i → path[j + 1]? = some i' → Region.waitsFor .any ops i' i = true
  | [], _, _, _, _, h, _ => by simp at h
  | [x], j, _, _, _, _, h => by simp at h
  | x :: y :: r, 0, i, i', h, h1, h2 => by
    simp only [pathB, Bool.and_eq_true] at h
    simp at h1 h2
    subst h1 h2
    exact h.1
  | x :: y :: r, j + 1, i, i', h, h1, h2 => by
    simp only [pathB, Bool.and_eq_true] at h
    exact pathB_at (y :: r) j i i' h.2 (by simpa using h1) (by simpa using h2)
theorem relyAllP_at : ∀ (l : List Oper) (D : Deps) (C : List (SV T)) (S : List (Option Nat)) (k : Nat) (o : Oper) dp g, relyAllP P Q T V J a0 w0 l D C S → l[k]? = some o → D[k]? = some (dp, g) → relyStepP P Q T V J a0 w0 o dp g (C.getD k SV.any) (S.getD k none)
  | [], _, _, _, _, _, _, _, _, h, _ => by simp at h
  | x :: r, [], _, _, _, _, _, _, h, _, _ => h.elim
  | x :: r, y :: D, [], _, _, _, _, _, h, _, _ => h.elim
  | x :: r, y :: D, c :: C, [], _, _, _, _, h, _, _ => h.elim
  | x :: r, (dp, g) :: D, c :: C, s :: S, 0, o, dp', g', h, ho, hD => by
    simp at ho hD
    obtain ⟨rfl, rfl⟩ := hD
    subst ho
    exact h.1
  | x :: r, (dp, g) :: D, c :: C, s :: S, k + 1, o, dp', g', h, ho, hD => by
    have := relyAllP_at r D C S k o dp' g' h.2 (by simpa using ho) (by simpa using hD)
    simpa using this
/-- So many of the path's operations have come up. -/
structure PhInv (path : List Nat) (J : Nat → World → Prop) (listed : Array Bool) (w : World) (k : Nat) : Prop where
  le : k ≤ path.length
  done : ∀ j i, j < k → path[j]? = some i → listed.getD i false = true
  left : ∀ j i, k ≤ j → path[j]? = some i → listed.getD i false = false
  now : J k w
theorem ph_other {listed : Array Bool} {w w' : World} {k i : Nat} (h : PhInv path J listed w k) (hi : i ∉ path) (hJ : J k w') : PhInv path J (listed.setIfInBounds i true) w' k := by
  have hne : ∀ (j x : Nat), path[j]? = some x → i ≠ x := fun j x hx e => hi (e ▸ List.mem_of_getElem? hx)
  exact ⟨h.le, fun j x hj hx => by rw [getD_set_ne false (hne j x hx)]; exact h.done j x hj hx, fun j x hj hx => by rw [getD_set_ne false (hne j x hx)]; exact h.left j x hj hx, hJ⟩
theorem ph_own (hnd : path.Nodup) {listed : Array Bool} {w w' : World} {k i : Nat} (hlt : i < listed.size) (h : PhInv path J listed w k) (hi : path[k]? = some i) (hJ : J (k + 1) w') : PhInv path J (listed.setIfInBounds i true) w' (k + 1) := by
  have hk : k < path.length := (List.getElem?_eq_some_iff.1 hi).1
  have hinj : ∀ (j x : Nat), path[j]? = some x → j ≠ k → i ≠ x := fun j x hx hjk e => by
    subst e
    obtain ⟨h1, h2⟩ := List.getElem?_eq_some_iff.1 hx
    obtain ⟨h3, h4⟩ := List.getElem?_eq_some_iff.1 hi
    exact hjk ((List.getElem_inj hnd).1 (h2.trans h4.symm))
  refine ⟨hk, fun j x hj hx => ?_, fun j x hj hx => ?_, hJ⟩
  · by_cases e : j = k
    · subst e
      rw [hi] at hx
      cases hx
      simp [hlt]
    · rw [getD_set_ne false (hinj j x hx e)]; exact h.done j x (by omega) hx
  · rw [getD_set_ne false (hinj j x hx (by omega))]; exact h.left j x (by omega) hx
theorem wpAny_relyP (hsplit : ops.toList = init ++ [last]) (hn : a0.tmps.size = n) (hB : relyB ops n 0 init D = true) (hlast : lastB ops last init.length = true) (hg : last.guard = none) (ht : ∀ a b c : World, T a b → T b c → T a c)
    (hpath : pathB ops path = true) (hplace : placesB path S = true) (hSl : S.length = init.length) (hpl : ∀ i ∈ path, i < init.length)
    (hl : init.length ≤ V.length) (hA : relyAllP P Q T V J a0 w0 init D V S) (hE : ∀ w, T w0 w → J path.length w → relyEnd (fun _ a w => last.wp P a w (fun a' w' => Q .normal a' w') Q) T init V a0 w) :
    ∀ (fuel : Nat) (listed : Array Bool) (a : Act) (w : World) (k : Nat), (unl ops listed).length = fuel → listed.getD init.length true = false → RelyInv ops T V a0 w0 listed a w → PhInv path J listed w k → wpAny P .any ops Q fuel listed a w := by
  obtain ⟨hlo, hsz, hpre⟩ := last_at hsplit
  simp only [lastB, Bool.and_eq_true] at hlast
  simp only [placesB, Bool.and_eq_true, decide_eq_true_eq] at hplace
  obtain ⟨hnd, hpos⟩ := hplace
  have hS : ∀ i, i < init.length → S.getD i none = path.findIdx? (· == i) := fun i hi => by
    have := List.all_eq_true.1 hpos i (List.mem_range.2 (by omega))
    simpa using this
  have hat : ∀ i o, init[i]? = some o → ∃ dp g, relyOne ops n i o dp g = true ∧ relyStepP P Q T V J a0 w0 o dp g (V.getD i SV.any) (path.findIdx? (· == i)) := fun i o hi => by
    obtain ⟨dp, g, hD, h1⟩ := relyB_at init D 0 i o hB hi
    rw [Nat.zero_add] at h1
    refine ⟨dp, g, h1, ?_⟩
    rw [← hS i (List.getElem?_eq_some_iff.1 hi).1]
    exact relyAllP_at _ _ _ _ i o dp g hA hi hD
  intro fuel
  induction fuel with
  | zero =>
    intro listed a w k hu hun inv _
    have : init.length ∈ unl ops listed := by
      unfold unl; rw [List.mem_filter]; exact ⟨List.mem_range.2 (by omega), by rw [hun]; rfl⟩
    rw [List.eq_nil_of_length_eq_zero hu] at this
    cases this
  | succ fuel ih =>
    intro listed a w k hu hun inv ph
    refine ⟨fun hr => ?_, fun i hi => ?_⟩
    · exfalso
      have all : ∀ i, i < init.length → listed.getD i false = true := fun i => by
        induction i using Nat.strongRecOn with
        | _ i ih =>
          intro hi
          cases hli : listed.getD i false with
          | true => rfl
          | false =>
            exfalso
            have hmem : i ∈ Region.ready .any ops listed := by
              rw [mem_ready]
              refine ⟨getD_in (by rw [inv.size]; omega) hli, init[i], hpre i _ (List.getElem?_eq_getElem hi), fun e he hb => ?_⟩
              obtain ⟨dp, g, h1, _⟩ := hat i init[i] (List.getElem?_eq_getElem hi)
              simp only [relyOne, Bool.and_eq_true] at h1
              have h2 := (Array.all_eq_true_iff_forall_mem.1 h1.1.1.2) e he
              simp only [hb, Bool.not_true, Bool.false_or, decide_eq_true_eq] at h2
              exact ih e.on h2 (by omega)
            rw [hr] at hmem
            cases hmem
      have hmem : init.length ∈ Region.ready .any ops listed := by
        rw [mem_ready]
        refine ⟨hun, last, hlo, fun e he hb => ?_⟩
        have h2 := (Array.all_eq_true_iff_forall_mem.1 hlast.2) e he
        simp only [hb, Bool.not_true, Bool.false_or, decide_eq_true_eq] at h2
        exact all e.on h2
      rw [hr] at hmem
      cases hmem
    · obtain ⟨h0, o, ho, hall⟩ := mem_ready.1 hi
      have hilt := (Array.getElem?_eq_some_iff.1 ho).1
      by_cases him : i = init.length
      · subst him
        have hol : o = last := Option.some.inj (ho.symm.trans hlo)
        subst hol
        have hdone : ∀ (d j : Nat), init.length - j = d → j < init.length → listed.getD j false = true := fun d => by
          induction d using Nat.strongRecOn with
          | _ d ihd =>
            intro j hd hj
            have h1 := List.all_eq_true.1 hlast.1 j (List.mem_range.2 hj)
            obtain ⟨t, ht1, ht2⟩ := List.any_eq_true.1 h1
            simp only [Bool.and_eq_true, decide_eq_true_eq] at ht2
            obtain ⟨ot, hot, e, he, hb, hon⟩ := Region.waitsFor_spec ht2.2
            have htle : t ≤ init.length := by have := List.mem_range.1 ht1; omega
            rw [← hon]
            by_cases htm : t = init.length
            · subst htm
              have : ot = o := Option.some.inj (hot.symm.trans ho)
              subst this
              exact hall e he hb
            · exact inv.closed t ot hot (ihd (init.length - t) (by omega) t rfl (by omega)) e he hb
        replace hdone : ∀ j, j < init.length → listed.getD j false = true := fun j hj => hdone _ j rfl hj
        have hk : k = path.length := by
          rcases Nat.lt_or_ge k path.length with h | h
          · exfalso
            have h1 := ph.left k path[k] (Nat.le_refl _) (List.getElem?_eq_getElem h)
            rw [hdone _ (hpl _ (List.getElem_mem h))] at h1
            cases h1
          · have := ph.le; omega
        subst hk
        have hJ := ph.now
        have h1 : o.wp P a w (fun a' w' => Q .normal a' w') Q := rely_all (Q' := fun a w => o.wp P a w (fun a' w' => Q .normal a' w') Q) inv
          (fun k o hk => ⟨hpre k o hk, hdone k (List.getElem?_eq_some_iff.1 hk).1⟩) (fun j hj => by
            rcases Nat.lt_or_ge j init.length with h | h
            · exact h
            · rcases Nat.eq_or_lt_of_le h with h | h
              · subst h; rw [getD_both hun] at hj; cases hj
              · have : listed.getD j false = false := by simp [Array.getElem?_eq_none (show listed.size ≤ j by rw [inv.size]; omega)]
                rw [this] at hj; cases hj) hl (hE w inv.now hJ)
        have hK : ∀ a' w', Q .normal a' w' → wpAny P .any ops Q fuel (listed.setIfInBounds init.length true) a' w' := fun a' w' h => wpAny_done (ready_none fun j hj => by
          by_cases hj2 : j = init.length
          · subst hj2; simp [show init.length < listed.size by rw [inv.size]; exact hj]
          · exact getD_set_true (hdone j (by omega))) h _
        unfold wpOp
        simp only [hlo, Region.wanted, hg, if_true]
        exact .inl (Oper.wp_mono hK h1)
      · have hi' : i < init.length := by omega
        have hio : init[i]? = some o := by
          have := hpre i init[i] (List.getElem?_eq_getElem hi')
          rw [ho] at this
          rw [List.getElem?_eq_getElem hi', Option.some.inj this]
        obtain ⟨dp, g, h1, hstep⟩ := hat i o hio
        obtain ⟨hfacts, hguard, next⟩ := rely_next hn ht ho h1 h0 hall inv
        have i0 : listed.getD i false = false := getD_both h0
        have hs : if relyGuard g a then o.wp P a w (fun a' w' => wpAny P .any ops Q fuel (listed.setIfInBounds i true) a' w') Q else wpAny P .any ops Q fuel (listed.setIfInBounds i true) (a.put o.dst undef) w := by
          cases hf : path.findIdx? (· == i) with
          | none =>
            rw [hf] at hstep
            have hni : i ∉ path := fun hm => by
              rw [List.findIdx?_eq_none_iff] at hf
              have := hf i hm
              simp at this
            exact hstep a w inv.now hfacts (fun a' w' => wpAny P .any ops Q fuel (listed.setIfInBounds i true) a' w') (fun v w' hT hJ hv => ih _ _ w' k (by have := unl_set inv.size h0; omega) (by rw [getD_set_ne true him]; exact hun) (next v w' hT hv) (ph_other ph hni (hJ k ph.now)))
          | some j =>
            rw [hf] at hstep
            have hpj : path[j]? = some i := by
              obtain ⟨h1, h2, _⟩ := List.findIdx?_eq_some_iff_getElem.1 hf
              rw [List.getElem?_eq_getElem h1]
              simpa using h2
            have hkj : k = j := by
              rcases Nat.lt_trichotomy j k with h | h | h
              · have := ph.done j i h hpj
                rw [i0] at this; cases this
              · exact h.symm
              · exfalso
                obtain ⟨j', rfl⟩ : ∃ j', j = j' + 1 := ⟨j - 1, by omega⟩
                have hlj : j' < path.length := by have := (List.getElem?_eq_some_iff.1 hpj).1; omega
                have hw := pathB_at path j' path[j'] i hpath (List.getElem?_eq_getElem hlj) hpj
                obtain ⟨oi, hoi, e, he, hb, hon⟩ := Region.waitsFor_spec hw
                have : oi = o := Option.some.inj (hoi.symm.trans ho)
                subst this
                have h2 := hall e he hb
                rw [hon, ph.left j' _ (by omega) (List.getElem?_eq_getElem hlj)] at h2
                cases h2
            subst hkj
            exact hstep a w inv.now hfacts ph.now (fun a' w' => wpAny P .any ops Q fuel (listed.setIfInBounds i true) a' w') (fun v w' hT hJ hv => ih _ _ w' (k + 1) (by have := unl_set inv.size h0; omega) (by rw [getD_set_ne true him]; exact hun) (next v w' hT hv) (ph_own hnd (by rw [inv.size]; exact hilt) ph hpj hJ))
        unfold wpOp
        simp only [ho, hguard]
        split
        · rename_i hw; rw [if_pos hw] at hs; exact .inl hs
        · rename_i hw; rw [if_neg hw] at hs; exact hs
/-- **A region that draws its order and turns a state step by step.** -/
theorem wp_region_relyP {id : Nat} (T : World → World → Prop) (J : Nat → World → Prop) (V : List (SV T)) (D : Deps) (S : List (Option Nat)) (path : List Nat) (n : Nat) (hla : ops.toList.getLast? = some last) (hm : P.follows .mixedOrders = true) (hn : a0.tmps.size = n) (hB : relyB ops n 0 ops.toList.dropLast D = true)
    (hlast : lastB ops last ops.toList.dropLast.length = true) (hg : last.guard = none) (hpath : (pathB ops path && placesB path S && decide (S.length = ops.toList.dropLast.length) && path.all fun i => decide (i < ops.toList.dropLast.length)) = true)
    (ht : ∀ a b c : World, T a b → T b c → T a c) (hd : T w0 w0.drew) (hJ : J 0 w0.drew) (hl : ops.toList.dropLast.length ≤ V.length)
    (hA : relyAllP P Q T V J a0 w0 ops.toList.dropLast D V S) (hE : ∀ w, T w0 w → J path.length w → relyEnd (fun _ a w => last.wp P a w (fun a' w' => Q .normal a' w') Q) T ops.toList.dropLast V a0 w) : (Code.region id ops true).wp P Q a0 w0 := by
  have hsplit := split_last hla
  obtain ⟨_, hsz, _⟩ := last_at hsplit
  simp only [Bool.and_eq_true, decide_eq_true_eq] at hpath
  obtain ⟨⟨⟨h1, h2⟩, h3⟩, h4⟩ := hpath
  refine wp_region_any hm ?_
  exact wpAny_relyP hsplit hn hB hlast hg ht h1 h2 h3 (fun i hi => by simpa using List.all_eq_true.1 h4 i hi) hl hA hE ops.size _ a0 w0.drew 0 unl_start (by
    have hlt : ops.toList.dropLast.length < ops.size := by omega
    generalize ops.toList.dropLast.length = m at hlt
    simp [hlt]) (rely_start hd) ⟨Nat.zero_le _, fun j i hj => by omega, fun j i _ _ => getD_replicate_false .., hJ⟩
end
end Go.Proofs.YtphbjamfhmcjcaaDoor
/- A frontier takes one more: Add. -/
namespace Go.Proofs.YtphbjamfhmcjcaaDoor
open Go Go.RowKit
set_option maxRecDepth 8000
set_option linter.all false
theorem Tables.rt {g : Nat} {w w' : World} (h : Tables w) (hg : 1 < g) (hR : RT g w w') : Tables w' :=
  ⟨Nat.lt_of_lt_of_le h.size hR.size, fun i hi => hR.keep.cell (a := ⟨1, i, none⟩) (by simp; omega) (h.k i hi), fun i hi => hR.keep.cell (a := ⟨0, i, none⟩) (by simp; omega) (h.f i hi)⟩
/-- How a frontier stands in a region that takes one off. -/
def StJ (g B : Nat) (n : Int) (v v' : Value) (S S' : List Hs) (k : Nat) (w : World) : Prop := (k = 0 → w.rowIs g 35 2 (frF n v) ∧ OwnH w B v S) ∧ (k ≠ 0 → w.rowIs g 35 2 (frF n v') ∧ OwnH w B v' S')
theorem StJ.new {g B : Nat} {n : Int} {v v' : Value} {S S' : List Hs} {k : Nat} {w w' : World} (h : StJ g B n v v' S S' k w) (hN : NewT w w') : StJ g B n v v' S S' k w' :=
  ⟨fun e => ⟨hN.row (h.1 e).1, (h.1 e).2.new hN⟩, fun e => ⟨hN.row (h.2 e).1, (h.2 e).2.new hN⟩⟩
theorem and1 (m : Nat) (h : m ≤ 100000) : bits .and .i64 (m : Int) 1 = ((m % 2 : Nat) : Int) := by
  have h1 : (BitVec.ofInt 64 (m : Int)).toNat = m := by
    rw [BitVec.ofInt_natCast, BitVec.toNat_ofNat]; exact Nat.mod_eq_of_lt (by omega)
  have h2 : (BitVec.ofInt 64 1).toNat = 1 := by decide
  show IntKind.i64.wrap ((BitVec.ofInt 64 (m : Int) &&& BitVec.ofInt 64 1).toNat : Int) = _
  rw [BitVec.toNat_and, h1, h2, Nat.and_one_is_mod, IntKind.wrap_i64]
  omega
theorem own_late {g b B : Nat} {v : Value} {S : List Hs} {w w' : World} {hB : g < B} (h : OwnH w B v S) (hb : ∀ k, v.ownBlock = some k → k < b) (hR : RT b w w') : OwnH w' B v S := by
  refine ⟨h.1, ?_⟩
  rcases h.2 with h2 | ⟨k, cap, cur, hv, hk, hh, r⟩
  · exact .inl h2
  · have := hb k (by rw [hv]; rfl)
    exact .inr ⟨k, cap, cur, hv, hk, hR.keep.2 k _ (by simp; omega) hh rfl, r⟩
set_option maxHeartbeats 4000000 in
theorem Add_c {node : Hs → Hs → Hs} {z : Hs} (hX : TreeH node z) (g B n : Nat) (S : List Hs) (d : Hs) (w : World) (hT : Tables w) (h : FrAt w g B n S) (hg1 : 1 < g) (hn : S.length = onesN n) (hb : n ≤ 100000) :
    Calls Tryd.prog 17 #[.pointer (some ⟨g, 0, none⟩), .agg (rowA 32 (bF d))] w fun e w' => e = .returned (.tuple #[]) ∧ FT g B w w' ∧ FrAt w' g B ((n : Int) + 1) (addT node n d S.reverse).reverse := by
  have HT0 := Lib.hid hT
  obtain ⟨v, hg, ho, hB, hB2⟩ := h
  have c0 : w.cell? ⟨g, 0, none⟩ = some (.int .i64 (n : Int)) := hg.cell (i := 0) (by omega)
  have hgl := hg.lt
  have HG0 := Lib.hid hgl
  have HG1 := Lib.hid hg1
  have HNB := Lib.hid hb
  have HN0 := Lib.hid hn
  have HOB0 : Hid (∀ k, v.ownBlock = some k → k < w.heap.size) := Lib.hid (fun k hk => (ho.lt k hk).2)
  have HO0 := Lib.hid ho
  have HRG0 := Lib.hid hg
  have HB := Lib.hid hB
  have HB20 := Lib.hid hB2
  clear hT ho hB hB2 hg1 hg hb hn
  go_enter Tryd.func17, Tryd.ntmps17
  go_wp2
  clear c0
  go_loopw [4] (fun i wr => ∃ (m : Nat) (h' : Hs) (S' : List Hs), i = .int .i64 (m : Int) ∧ m ≤ 100000 ∧ S'.length = onesN m ∧ addT node m h' S'.reverse = addT node n d S.reverse ∧ RT g w wr ∧ wr.rowIs w.heap.size 24 32 (bF h') ∧ ∃ v', wr.rowIs g 35 2 (frF n v') ∧ OwnH wr B v' S' ∧ ∀ k, v'.ownBlock = some k → k < w.heap.size) (fun i _ => (intOf i).toNat)
  case atStart =>
    exact ⟨n, d, S, rfl, HNB.out, HN0.out, rfl, RT.new hgl (NewT.alloc _ _), rowIs_box w 24 32 (bF d), v, (NewT.alloc w _).row HRG0.out, HO0.out.new (NewT.alloc _ _), HOB0.out⟩
  case round =>
    clear HO0 HRG0 HOB0
    obtain ⟨m, h', S', rfl, hm, hS', hadd, hR, rH, v, rg, ho, hob⟩ := hrel
    have HT := Lib.hid (HT0.out.rt HG1.out hR)
    have hnew : w.heap.size < wr.heap.size := rH.lt
    have HNE : Hid (w.heap.size ≠ g) := Lib.hid (by omega)
    have HGL : Hid (g < wr.heap.size) := Lib.hid (by omega)
    have HB2 : Hid (B ≤ wr.heap.size) := Lib.hid (Nat.le_trans HB20.out (by omega))
    have HM := Lib.hid hm
    have hbit := and1 m hm
    by_cases hodd : m % 2 = 1
    · have HM2 := Lib.hid hodd
      have h1 := onesN_odd m hodd
      obtain ⟨S2, d2, rfl⟩ : ∃ S2 d2, S' = S2 ++ [d2] := by
        rcases List.eq_nil_or_concat S' with e | ⟨S2, d2, e⟩
        · subst e; simp at hS'; omega
        · exact ⟨S2, d2, by rw [e]; simp⟩
      obtain ⟨k, hk⟩ : ∃ k, S2.length = k := ⟨_, rfl⟩
      obtain ⟨A, c, hv, hc⟩ := ho.cap
      have hlen : (S2 ++ [d2]).length = k + 1 := by simp [hk]
      rw [hlen] at hv
      subst hv
      have HOB : Hid (∀ q, (Value.slice A k c).ownBlock = some q → q < w.heap.size) := Lib.hid (fun q hq => hob q (by cases A <;> simpa [Value.ownBlock] using hq))
      have HKB : Hid (k ≤ 100000) := Lib.hid (by have := onesN_le m; omega)
      have HK := Lib.hid hk
      have HS := Lib.hid hS'
      have HA := Lib.hid hadd
      have HR := Lib.hid hR
      have RH := Lib.hid rH
      have RG := Lib.hid rg
      have HO := Lib.hid ho
      rw [hodd] at hbit
      clear hS' hadd hR rH rg ho hob hm hodd h1 hk hlen hc hnew
      go_upto_region 5 with fail
      refine wp_region_relyP (RT g) (StJ g B n (.slice A (k + 1) c) (.slice A k c) (S2 ++ [d2]) S2) [SV.eq (.pointer (some ⟨g, 0, none⟩)), SV.eq (.pointer (some ⟨g, 0, none⟩)), SV.eq (.pointer (some ⟨g, 1, none⟩)), SV.eq (.agg (rowA 32 (bF (d2)))), SV.eq (.agg (rowA 32 (bF (h')))), SV.eq (.agg (rowA 32 (bF (node (d2) (h')))))] [([(0, none)], none), ([(16, some 0)], none), ([(17, some 1)], none), ([(18, some 2)], none), ([(3, none)], none), ([(19, some 3), (20, some 4)], none)] [none, none, none, some 0, none, none] [3] 34 rfl (by kernel_rfl) rfl (by kernel_rfl) (by kernel_rfl) rfl (by kernel_rfl) RT.trans (RT.drew _ _) ⟨fun _ => ⟨RG.out.drew, (HO.out).keep fun _ _ => rfl⟩, fun e => absurd rfl e⟩ (Nat.le_of_ble_eq_true rfl) ⟨?_, ?_, ?_, ?_, ?_, ?_, trivial⟩ ?_
      · intro a wx hT hF K hK
        replace hK := fun v w' (hN : NewT wx w') hv => hK v w' (RT.new (Nat.lt_of_lt_of_le HGL.out hT.size) hN) (fun k h => StJ.new h hN) hv
        obtain ⟨f0, _⟩ := hF
        have f0 : a.tmps.getD 0 undef = .pointer (some ⟨g, 0, none⟩) := f0
        refine rely_wp rfl ?_
        exact opr_move (.inl rfl) (hK _ _ (NewT.refl _) f0)
      · intro a wx hT hF K hK
        replace hK := fun v w' (hN : NewT wx w') hv => hK v w' (RT.new (Nat.lt_of_lt_of_le HGL.out hT.size) hN) (fun k h => StJ.new h hN) hv
        obtain ⟨f16, _⟩ := hF
        have f16 : a.tmps.getD 16 undef = .pointer (some ⟨g, 0, none⟩) := f16
        refine rely_wp rfl ?_
        exact opr_nilc rfl f16 (hK _ _ (NewT.refl _) rfl)
      · intro a wx hT hF K hK
        replace hK := fun v w' (hN : NewT wx w') hv => hK v w' (RT.new (Nat.lt_of_lt_of_le HGL.out hT.size) hN) (fun k h => StJ.new h hN) hv
        obtain ⟨f17, _⟩ := hF
        have f17 : a.tmps.getD 17 undef = .pointer (some ⟨g, 0, none⟩) := f17
        refine rely_wp rfl ?_
        exact opr_fldF1 rfl f17 (hK _ _ (NewT.refl _) rfl)
      · intro a wx hT hF hJ K hK
        obtain ⟨f18, _⟩ := hF
        have f18 : a.tmps.getD 18 undef = .pointer (some ⟨g, 1, none⟩) := f18
        refine rely_wp rfl ?_
        refine opr_call rfl Tryd.func30 (by kernel_rfl) (by kernel_rfl) (by simp only [List.map_toArray, List.map_cons, List.map_nil, eval_tmp, f18]) ((pop_c g B k c n A S2 d2 wx HK.out (by have := HKB.out; omega) (hJ.1 rfl).1 (hJ.1 rfl).2 HB.out).mono ?_)
        rintro e w' ⟨rfl, q1, q2, q3⟩
        exact ⟨_, rfl, hK _ _ q1 ⟨fun e => absurd e (by decide), fun _ => ⟨q2, q3⟩⟩ rfl⟩
      · intro a wx hT hF K hK
        replace hK := fun v w' (hN : NewT wx w') hv => hK v w' (RT.new (Nat.lt_of_lt_of_le HGL.out hT.size) hN) (fun k h => StJ.new h hN) hv
        obtain ⟨f3, _⟩ := hF
        have f3 : a.tmps.getD 3 undef = .pointer (some ⟨w.heap.size, 0, none⟩) := f3
        refine rely_wp rfl ?_
        exact opr_load_hash rfl f3 (hT.row HNE.out RH.out) (hK _ _ (NewT.refl _) rfl)
      · intro a wx hT hF K hK
        replace hK := fun v w' (hN : NewT wx w') hv => hK v w' (RT.new (Nat.lt_of_lt_of_le HGL.out hT.size) hN) (fun k h => StJ.new h hN) hv
        obtain ⟨f19, f20, _⟩ := hF
        have f19 : a.tmps.getD 19 undef = .agg (rowA 32 (bF (d2))) := f19
        have f20 : a.tmps.getD 20 undef = .agg (rowA 32 (bF (h'))) := f20
        refine rely_wp rfl ?_
        exact opr_cv (Node_cv hX (d2) (h') wx (HT.out.rt HG1.out hT)) rfl Tryd.func12 (by kernel_rfl) (by kernel_rfl) (by simp only [List.map_toArray, List.map_cons, List.map_nil, eval_tmp, f19, f20]) hK
      · intro w5 k5 hJ
        intro u h; obtain rfl := Eq.symm (h (by simp)); clear h
        intro u h; obtain rfl := Eq.symm (h (by simp)); clear h
        intro u h; obtain rfl := Eq.symm (h (by simp)); clear h
        intro u h; obtain rfl := Eq.symm (h (by simp)); clear h
        intro u h; obtain rfl := Eq.symm (h (by simp)); clear h
        intro u h; obtain rfl := Eq.symm (h (by simp)); clear h
        refine relyEnd_nil rfl ?_
        simp only [Act.put, List.setIfInBounds_toArray, List.set_cons_zero, List.set_cons_succ]
        refine opr_putm (F := bF (node d2 h')) rfl rfl rfl (k5.row HNE.out RH.out) (by decide) info31 (fun _ => rfl) (fun i hi => by rw [if_pos (by omega), Nat.sub_zero]) ?_
        intro w6 hR6 r6
        go_simp
        go_wp2
        go_roundw
        case rel =>
          refine ⟨m / 2, node d2 h', S2, by go_num, by have := HM.out; omega, ?_, ?_, RT.late2 (RT.trans _ _ _ HR.out k5) (Nat.le_refl _) HG0.out hR6, r6, ?_⟩
          · have e1 := HS.out; have e2 := onesN_odd m HM2.out; simp at e1; omega
          · have e3 := HA.out
            rw [List.reverse_append, List.reverse_cons, List.reverse_nil, List.nil_append, List.singleton_append, addT_odd node m h' d2 _ HM2.out] at e3
            exact e3
          · have q := hJ.2 (by decide)
            exact ⟨_, hR6.row (by have := HG0.out; omega) q.1, own_late (hB := HB.out) q.2 HOB.out hR6, HOB.out⟩
        case measure => simp [intOf]; have := HM2.out; omega
    · have he : m % 2 = 0 := by omega
      have HM2 := Lib.hid he
      rw [he] at hbit
      have HS := Lib.hid hS'
      have HA := Lib.hid hadd
      have HR := Lib.hid hR
      have RH := Lib.hid rH
      have RG := Lib.hid rg
      have HO := Lib.hid ho
      clear hS' hadd hR rH rg ho hob hm hodd he hnew
      go_upto_region 6 with fail
      refine wp_region_rely (NewT) [SV.eq (.pointer (some ⟨g, 0, none⟩)), SV.eq (.pointer (some ⟨g, 0, none⟩)), SV.eq (.pointer (some ⟨g, 1, none⟩)), SV.eq (.agg (rowA 32 (bF (h'))))] [([(0, none)], none), ([(22, some 0)], none), ([(23, some 1)], none), ([(3, none)], none)] 34 rfl (by kernel_rfl) rfl (by kernel_rfl) (by kernel_rfl) rfl NewT.trans (NewT.drew _) (Nat.le_of_ble_eq_true rfl) ⟨?_, ?_, ?_, ?_, trivial⟩ ?_
      · intro a wx hT hF K hK
        obtain ⟨f0, _⟩ := hF
        have f0 : a.tmps.getD 0 undef = .pointer (some ⟨g, 0, none⟩) := f0
        refine rely_wp rfl ?_
        exact opr_move (.inl rfl) (hK _ _ (NewT.refl _) f0)
      · intro a wx hT hF K hK
        obtain ⟨f22, _⟩ := hF
        have f22 : a.tmps.getD 22 undef = .pointer (some ⟨g, 0, none⟩) := f22
        refine rely_wp rfl ?_
        exact opr_nilc rfl f22 (hK _ _ (NewT.refl _) rfl)
      · intro a wx hT hF K hK
        obtain ⟨f23, _⟩ := hF
        have f23 : a.tmps.getD 23 undef = .pointer (some ⟨g, 0, none⟩) := f23
        refine rely_wp rfl ?_
        exact opr_fldF1 rfl f23 (hK _ _ (NewT.refl _) rfl)
      · intro a wx hT hF K hK
        obtain ⟨f3, _⟩ := hF
        have f3 : a.tmps.getD 3 undef = .pointer (some ⟨w.heap.size, 0, none⟩) := f3
        refine rely_wp rfl ?_
        exact opr_load_hash rfl f3 (hT.row RH.out) (hK _ _ (NewT.refl _) rfl)
      · intro w6 k6
        intro u h; obtain rfl := Eq.symm (h (by simp)); clear h
        intro u h; obtain rfl := Eq.symm (h (by simp)); clear h
        intro u h; obtain rfl := Eq.symm (h (by simp)); clear h
        intro u h; obtain rfl := Eq.symm (h (by simp)); clear h
        refine relyEnd_nil rfl ?_
        simp only [Act.put, List.setIfInBounds_toArray, List.set_cons_zero, List.set_cons_succ]
        refine opr_call rfl Tryd.func31 (by kernel_rfl) (by kernel_rfl) (by simp only [List.map_toArray, List.map_cons, List.map_nil, eval_tmp]; rfl) ((push_c g B n v S' h' w6 (k6.row RG.out) (HO.out.new k6) HB.out (Nat.le_trans HB2.out k6.out.size) (by have := HS.out; have := onesN_le m; have := HM.out; omega)).mono ?_)
        rintro e w7 ⟨rfl, q1, v7, q2, q3⟩
        refine ⟨_, rfl, ?_⟩
        have c0 : w7.cell? ⟨g, 0, none⟩ = some (.int .i64 (n : Int)) := q2.cell (i := 0) (by omega)
        have f0 := q2.frozen 0
        simp only [Act.put, List.setIfInBounds_toArray, List.set_cons_zero, List.set_cons_succ]
        go_simp
        go_wp2
        go_end0
        have hRs : RT g w7 (w7.setCell ⟨g, 0, none⟩ (.int .i64 (wrap64 ((n : Int) + 1)))) := RT.setCell w7 0 _
        have e1 : wrap64 ((n : Int) + 1) = (n : Int) + 1 := by unfold wrap64; have := HNB.out; omega
        refine ⟨rfl, ?_, ?_⟩
        · exact (FT.of_rt (RT.trans _ _ _ HR.out (RT.new HGL.out k6))).trans (q1.trans (FT.of_rt hRs))
        · refine ⟨v7, (q2.set 0 _).congr fun i hi => ?_, ?_, HB.out, ?_⟩
          · rw [e1]; exact (frF_set0 n _ v7 i).symm
          · rw [← HA.out, addT_even node m h' _ (by have := HM2.out; omega), List.reverse_cons, List.reverse_reverse]
            exact q3.rt HB.out hRs
          · have := q1.below.size; have := k6.out.size; have := HB2.out; simp; omega
end Go.Proofs.YtphbjamfhmcjcaaDoor
/- A region that draws its order, at the wide fence: all operations but a forced tail read alone. No program is named here. -/
namespace Go.Proofs.YtphbjamfhmcjcaaDoor
open Go.RowKit
set_option maxRecDepth 8000
set_option linter.all false
variable {P : Program} {ops : Array Oper} {md : Region.Mode} {w : World} {n : Nat}

theorem wpOpIn_of_stOp2 (hnd : noDefer ops = true) {i : Nat} {a : Act} {K : Act → Prop} {K' : Act → World → Prop} {Q' : Exit → Act → World → Prop} (h : ∀ a, K a → K' a w) (hh : stOp P ops w i K a) :
    wpOpIn Fence.wide n P ops Q' i K' a w := by
  unfold stOp at hh
  unfold wpOpIn
  cases ho : ops[i]? with
  | none => simp only [ho] at hh ⊢; exact h _ hh
  | some o =>
    simp only [ho] at hh ⊢
    split
    · rename_i hw
      simp only [hw, if_true] at hh
      refine ⟨fun _ _ => trivial, ?_⟩
      rw [Oper.semAt_eq _ _ _ (noDefer_at hnd ho)]
      unfold Oper.still at hh
      generalize (execOp a.eval o).run P w = r at *
      cases r with
      | ok x w' =>
        cases x <;> simp only [Oper.stillUpon] at hh <;> simp only [Oper.uponIn]
        case enter f args =>
          obtain ⟨rfl, v, hc, hn⟩ := hh
          refine ⟨fun hd => by simp [Fence.wide] at hd, ((callsIn_wide.2 hc).mono fun e w'' he => ?_)⟩
          obtain ⟨rfl, rfl⟩ := he
          exact h _ hn
        all_goals (obtain ⟨rfl, h2⟩ := hh; exact h _ h2)
      | halt x w' => simp only [Oper.stillUpon] at hh
    · rename_i hw
      simp only [hw] at hh
      exact ⟨fun _ _ => trivial, h _ hh⟩
theorem wpAnyIn_of_head2 (hnd : noDefer ops = true) {m g : Nat} {L : Array Bool → Act → Prop} {Q' : Exit → Act → World → Prop} (hL : ∀ listed a, L listed a → wpAnyIn Fence.wide n P md ops Q' g listed a w) :
    ∀ (f : Nat) (listed : Array Bool) (a : Act), wpAnyL P md ops w m L f listed a → wpAnyIn Fence.wide n P md ops Q' (f + g) listed a w
  | 0, listed, a, h => by rw [Nat.zero_add]; exact hL _ _ h
  | f + 1, listed, a, h => by
    rw [show f + 1 + g = (f + g) + 1 by omega]
    exact ⟨fun h0 => absurd h0 h.1, fun i hi => wpOpIn_of_stOp2 hnd (fun a' h' => wpAnyIn_of_head2 hnd hL f _ a' h') (h.2 i hi).2⟩
theorem wpAnyIn_of_seq2 {Q' : Exit → Act → World → Prop} : ∀ (l : List Oper) (k : Nat) (listed : Array Bool) (a : Act) (w : World), (∀ j, l[j]? = ops[k + j]?) →
    Region.seqB md ops l.length k listed = true → wpListIn Fence.wide n P ops Q' l a w → wpAnyIn Fence.wide n P md ops Q' l.length listed a w
  | [], _, _, _, _, _, hB, h => ⟨by simpa [Region.seqB] using hB, h⟩
  | o :: l, k, listed, a, w, hl, hB, h => by
    have h0 : ops[k]? = some o := by simpa using (hl 0).symm
    simp only [List.length_cons, Region.seqB, Bool.and_eq_true, decide_eq_true_eq] at hB
    refine ⟨fun h1 => (by rw [hB.1] at h1; cases h1), fun i hi => ?_⟩
    rw [hB.1] at hi
    have hik : i = k := by simpa using hi
    subst hik
    have hw : wpOpIn Fence.wide n P ops Q' i (wpListIn Fence.wide n P ops Q' l) a w := by unfold wpOpIn; simp only [h0]; exact h
    exact wpOpIn_mono (fun a' w' h' => wpAnyIn_of_seq2 l (i + 1) _ a' w' (fun j => by have := hl (j + 1); simpa [Nat.add_assoc, Nat.add_comm 1 j] using this) hB.2 h') hw

/-- All operations but a forced tail read alone: in the text's order, at the wide fence. -/
theorem region_in_tail {id : Nat} {Q : Exit → Act → World → Prop} {a : Act} {w : World} {l : List Oper} (m : Nat) (hm : P.follows .mixedOrders = true) (hB : Region.lexTailB .any l.toArray m = true) (hnd : noDefer l.toArray = true)
    (h : wpStill P l.toArray w.drew (fun a' => wpListIn Fence.wide n P l.toArray Q (l.drop m) a' w.drew) (l.take m) a) : (Code.region id l.toArray true).wpIn Fence.wide n P Q a w := by
  simp only [Region.lexTailB, Bool.and_eq_true, decide_eq_true_eq] at hB
  obtain ⟨⟨⟨⟨hsel, hn⟩, hs⟩, hc⟩, hlex⟩ := hB
  have hn' : m < l.length := by simpa using hn
  have htl : (l.take m).length = m := by simp; omega
  have hdl : (l.drop m).length = l.toArray.size - m := by simp
  have inv0 : HeadInv .any l.toArray m (Array.replicate l.toArray.size false) :=
    ⟨by simp, fun j oj _ hl => (by rw [getD_replicate_false] at hl; cases hl), fun t _ ht => getD_in (by simpa using ht) (getD_replicate_false _ _)⟩
  have H := wpAnyL_lex (md := .any) (g := l.toArray.size - m) hsel hs hc hn (l.take m) 0 _ a (fun j hj => by
    have hj' : j < m := by rw [htl] at hj; exact hj
    simp [hj']) (by simpa using htl) inv0 (by rw [htl]; exact hlex) h
  refine wpIn_region_any hm ?_
  have := wpAnyIn_of_head2 (n := n) hnd (Q' := Q) (g := l.toArray.size - m) (fun listed a' hL => by
    have := wpAnyIn_of_seq2 (n := n) (md := .any) (Q' := Q) (l.drop m) m listed a' w.drew (fun j => by simp [List.getElem?_drop]) (by rw [hdl]; exact hL.1) hL.2
    rwa [hdl] at this) _ _ _ H
  rw [htl, show m + (l.toArray.size - m) = l.toArray.size by omega] at this
  exact this
end Go.Proofs.YtphbjamfhmcjcaaDoor
/- A frontier's stack: its things from the top down, handed on by an iterator. -/
namespace Go.Proofs.YtphbjamfhmcjcaaDoor
open Go Go.RowKit Go.Shelf
attribute [local go_sem] Oper.semAt_some
set_option maxRecDepth 8000
set_option linter.all false
set_option maxHeartbeats 400000 in
theorem Size_cv (g B : Nat) (n : Int) (S : List Hs) (w : World) (h : FrAt w g B n S) : Cv 18 #[.pointer (some ⟨g, 0, none⟩)] w (.eq (.int .i64 n)) := by
  obtain ⟨v, h1, _⟩ := h
  have c0 : w.cell? ⟨g, 0, none⟩ = some (.int .i64 n) := h1.cell (i := 0) (by omega)
  unfold Cv
  go_enter Tryd.func18, Tryd.ntmps18
  go_wp2
  go_ret
  exact ⟨_, rfl, NewT.refl _, rfl⟩
set_option maxHeartbeats 400000 in
theorem fromTop_any (a : Addr) (w : World) : Calls Tryd.prog 32 #[.pointer (some a)] w fun e w' => e = .returned (.func (.func 41) #[] #[.pointer (some ⟨w.heap.size, 0, none⟩)]) ∧ w.alloc (.cells #[.pointer (some a)] 69) = w' := by
  go_enter Tryd.func32, Tryd.ntmps32
  go_wp2
  go_ret
  exact ⟨rfl, rfl⟩
theorem still_ldH {a : Act} {w : World} {o : Oper} {K : Act → Prop} {x : Operand} {b off : Nat} {d : Hs} (ho : o.op = .load 24 x) (hx : a.eval x = .pointer (some ⟨b, off, none⟩)) (hc : ∀ j, j < 32 → w.cell? ⟨b, off + j, none⟩ = some (bF d j)) (h : K (a.put o.dst (.agg (rowA 32 (bF d))))) : o.still Tryd.prog a w K := by
  obtain ⟨dst, op, type, pos, after, guard⟩ := o
  simp only at ho
  subst ho
  unfold Oper.still
  have e : (execOp a.eval ({ dst := dst, op := .load 24 x, type := type, pos := pos, after := after, guard := guard } : Oper)).run Tryd.prog w = .ok (.value (.agg (rowA 32 (bF d)))) w := by
    show (do pure (Next.value (← Instr.loadAt 24 (a.eval x)))).run Tryd.prog w = _
    rw [hx, Sem.run_bind, run_ldH_at hc]; rfl
  rw [e]
  exact ⟨rfl, h⟩
/-- What the iterator hands on: each thing behind how many lie above it. -/
def topL (S : List Hs) (k : Nat) : List (Nat × Hs) := (List.range k).map fun i => (i, S.getD (S.length - 1 - i) fun _ => 0)
theorem topL_succ (S : List Hs) (k : Nat) (d : Hs) (hd : S[S.length - 1 - k]? = some d) : topL S (k + 1) = topL S k ++ [(k, d)] := by
  unfold topL
  rw [List.range_succ, List.map_append]
  simp [List.getD, hd]
set_option maxHeartbeats 2000000 in
theorem fromTop1_seq (L : List Nat) (pb g B : Nat) (n : Int) (v : Value) (S : List Hs) (w : World) (hpb : pb ∉ L) (hgL : g ∉ L) (hbox : w.cell? ⟨pb, 0, none⟩ = some (.pointer (some ⟨g, 1, none⟩))) (hg : w.rowIs g 35 2 (frF n v)) (ho : OwnH w B v S) (hno : ∀ k ∈ L, v.ownBlock ≠ some k) (hl : S.length ≤ 100000) :
    SeqG Tryd.prog 41 #[.pointer (some ⟨pb, 0, none⟩)] (fun x : Nat × Hs => #[.int .i64 (x.1 : Int), .agg (rowA 32 (bF x.2))]) (KeepBut L) (fun pre x _ => pre = topL S x.1 ∧ S[S.length - 1 - x.1]? = some x.2 ∧ x.1 < S.length) (fun xs => xs = topL S S.length) (fun _ => True) w := by
  intro l J Jx W hW hJ hJx hY h0
  have hbox' := KeepBut.cell (KeepBut.below hW) hpb hbox
  have hg' := NewT.row (NewT.of hW) hg
  have ho' := ho.new (NewT.of hW)
  have HG := Lib.hid hg'
  have HO := Lib.hid ho'
  have HBX := Lib.hid hbox'
  have c1 : W.cell? ⟨g, 1, none⟩ = some v := hg'.cell (i := 1) (by omega)
  obtain ⟨A, c, hv, hc⟩ := ho'.cap
  subst hv
  clear hg ho hbox hg' ho'
  refine callsIn_of_wp Tryd.func41 rfl trivial ?_ rfl
  simp only [Tryd.ntmps41, List.size_toArray, List.length_cons, List.length_nil, Nat.reduceAdd, Nat.reduceSub, Array.replicate_succ, Array.replicate_zero, List.push_toArray, List.append_toArray, List.nil_append, List.cons_append]
  gi_wp2
  gi_loopw [9] (fun i wr => ∃ k : Nat, k ≤ S.length ∧ i = .int .i64 (k : Int) ∧ J (topL S k) wr ∧ KeepBut L W wr) (fun i _ => S.length - (intOf i).toNat)
  case atStart => exact ⟨0, by omega, rfl, h0, KeepBut.refl _ _⟩
  case round =>
    clear c1
    obtain ⟨k, hk, rfl, hJs, hKs⟩ := hrel
    by_cases hlt : k < S.length
    · have hd0 : S[S.length - 1 - k]? = some S[S.length - 1 - k] := List.getElem?_eq_getElem (by omega)
      obtain ⟨d, hd⟩ : ∃ d, S[S.length - 1 - k]? = some d := ⟨_, hd0⟩
      clear hd0
      have bx : wr.cell? ⟨pb, 0, none⟩ = some (.pointer (some ⟨g, 1, none⟩)) := hKs.cell (a := ⟨pb, 0, none⟩) hpb HBX.out
      have c1 : wr.cell? ⟨g, 1, none⟩ = some (.slice A S.length c) := hKs.cell (a := ⟨g, 1, none⟩) hgL (HG.out.cell (i := 1) (by omega))
      have hrd := HO.out.rd
      obtain ⟨A', c', hv', _, _, h3⟩ := hrd
      cases hv'
      obtain ⟨b, o, rfl, hcell⟩ := h3 (by omega)
      have hbL : b ∉ L := fun hm => hno b hm rfl
      obtain ⟨j, hj⟩ : ∃ j, S.length - 1 - k = j := ⟨_, rfl⟩
      rw [hj] at hd
      have HC : Hid (∀ q, q < 32 → wr.drew.cell? ⟨b, o + j * 32 + q, none⟩ = some (bF d q)) := Lib.hid fun q hq => hKs.cell (a := ⟨b, o + j * 32 + q, none⟩) hbL (hcell j d hd q hq)
      have hidx : ∀ w : World, (Instr.indexAt 31 (.slice (some ⟨b, o, none⟩) S.length c) (.int .i64 (j : Int))).run Tryd.prog w = .ok (.pointer (some ⟨b, o + j * 32, none⟩)) w := fun w => run_idxH w (by omega)
      have hjj : (S.length : Int) - 1 - (k : Int) = (j : Int) := by omega
      have it : (k : Int) < (S.length : Int) := by omega
      have hy0 := hY (topL S k) (k, d) wr.drew (hJ _ _ _ hJs (Below.refl _ _).drew) ⟨rfl, by rw [hj]; exact hd, hlt⟩
      obtain ⟨fn, tmps, assign, body, hy, hR⟩ := hy0
      have HR := Lib.hid hR
      have HD := Lib.hid hd
      clear hR hcell h3 hd
      gi_wp2
      refine region_in_tail 16 (by kernel_rfl) (by kernel_rfl) (by kernel_rfl) ?_
      simp only [List.take_succ_cons, List.take_zero, List.drop_succ_cons, List.drop_zero]
      iterate 15 (refine wpStill_step (fun K hK => ?_); go_simp; (try go_bits); refine hK _ ?_; clear hK K)
      refine wpStill_step (fun K hK => ?_)
      rw [if_pos (show Region.wanted _ _ = true from rfl)]
      refine still_ldH rfl rfl HC.out (hK _ ?_)
      clear hK K hidx bx c1
      simp only [Act.put, List.setIfInBounds_toArray, List.set_cons_zero, List.set_cons_succ]
      refine wpStill_nil ?_
      gi_wp2
      refine ⟨rfl, HR.out.mono ?_⟩
      rintro e W3 (⟨rfl, hJ3, hk3, _⟩ | ⟨rfl, hJx3, _⟩)
      · gi_wp2
        go_roundw
        case rel => exact ⟨k + 1, by omega, by go_num, by rw [topL_succ S k d (by rw [hj]; exact HD.out)]; exact hJ3, hKs.trans (KeepBut.trans (KeepBut.drew _) hk3)⟩
        case measure => simp [intOf]; omega
      · gi_wp2
        refine bodyPost_ret (results_none rfl _ _ _) rfl ?_
        exact ⟨⟨_, rfl⟩, .inr ⟨_, trivial, hJx3⟩⟩
    · obtain rfl : k = S.length := by omega
      gi_wp2
      refine bodyPost_end (results_none rfl _ _ _) rfl ?_
      exact ⟨⟨_, rfl⟩, .inl ⟨_, rfl, hJs⟩⟩
end Go.Proofs.YtphbjamfhmcjcaaDoor
/- A range over a function whose variables are laid into new memory ahead of the body. No program is named here. -/
namespace Go.Proofs.YtphbjamfhmcjcaaDoor
open Go.RowKit
set_option maxRecDepth 8000
set_option linter.all false

/-- **The statement 'for x := range g { .. }' by an iterator's promise; what is handed on may be laid into new memory ahead of the body.** -/
theorem range_law2 {P : Program} {α : Type} {g : Operand} {ps : Array Tmp} {assign body : Code} {Q : Exit → Act → World → Prop} {a : Act} {w : World} {n : Nat}
    {gf : Nat} {lb : Array Value} (hg : a.eval g = .func (.func gf) #[] lb) (eg : ∀ args w, (callFunc gf args).run P w = .ok (.enter gf args) w)
    {encs : α → Array Value} {Kp : World → World → Prop} {G : List α → α → World → Prop} {S Sp : List α → Prop} {w0 : World} (hseq : SeqG P gf lb encs Kp G S Sp w0) (hb0 : Below w0.heap.size w0 w)
    (hKt : ∀ {A B C : World}, Kp A B → Kp B C → Kp A C) (hKb : ∀ (W : World) (l : Nat) (o o' : Obj), w.heap.size ≤ l → W.heap[l]? = some o → o.isCells = false → Kp W (W.putObj l o'))
    (hGb : ∀ (pre : List α) (x : α) (W : World) (l : Nat) (o o' : Obj), w.heap.size ≤ l → W.heap[l]? = some o → o.isCells = false → G pre x W → G pre x (W.putObj l o'))
    (hps : ∀ x, (encs x).size = ps.size)
    (I : List α → World → Prop) (Ix : Code → List α → World → Prop) (hI : ∀ pre A B, I pre A → Below w.heap.size A B → I pre B) (hIx : ∀ c pre A B, Ix c pre A → Below w.heap.size A B → Ix c pre B) (h0 : I [] w) (As : α → Act → World → Prop)
    (hKn : ∀ A B : World, Below A.heap.size A B → Kp A B) (hGn : ∀ pre x A B, G pre x A → Below A.heap.size A B → G pre x B)
    (hAs : ∀ (x : α) (a1 : Act) (W : World) (l : Nat) (o o' : Obj), w.heap.size ≤ l → W.heap[l]? = some o → o.isCells = false → As x a1 W → As x a1 (W.putObj l o'))
    (hassign : ∀ (l : Nat) (x : α) (W : World) (K : Act → World → Prop), (∀ a1 W', Below W.heap.size W W' → As x a1 W' → K a1 W') →
      assign.wpIn (Fence.wide.inRound l) 0 P (Exit.then K (fun _ _ _ => False)) { tmps := (ps.zip (encs x)).foldl (fun t (p, v) => t.setIfInBounds p v) a.tmps, defers := [] } W)
    (hbody : ∀ (l : Nat) (pre : List α) (x : α) (a1 : Act) (W : World), w.heap.size ≤ l → I pre W → G pre x W → As x a1 W → body.wpIn (Fence.wide.inRound l) 0 P (ownPostG w.heap.size Kp I Ix (pre ++ [x]) W) a1 W)
    (hdone : ∀ (D : Nat) (xs : List α) (W : World), w.heap.size ≤ D → S xs → I xs W → W.heap[D]? = some (.deferred (some [])) → Q .normal { a with defers := { target := .collected D, args := #[] } :: a.defers } W)
    (hstop : ∀ (D : Nat) (c : Code) (pre : List α) (W : World), w.heap.size ≤ D → Sp pre → Ix c pre W → W.heap[D]? = some (.deferred (some [])) → c.wpIn Fence.wide n P Q { a with defers := { target := .collected D, args := #[] } :: a.defers } W) :
    (Code.rangeFunc g ps assign body).wpIn Fence.wide n P Q a w := by
  refine wpIn_rangeFunc ?_
  intro fn hfn
  obtain ⟨rec, hrec⟩ : ∃ rec : LoopState → Option Code → Loop, rec = fun st pe => { state := st, pending := pe, fn, tmps := a.tmps, params := ps, assign, body, defers := w.heap.size } := ⟨_, rfl⟩
  obtain ⟨W1, hW1⟩ : ∃ W1, (w.alloc (.deferred (some []))).alloc (.loop (rec .ready none)) = W1 := ⟨_, rfl⟩
  have hsz : W1.heap.size = w.heap.size + 2 := by rw [← hW1]; simp
  have hL1 : W1.heap[w.heap.size + 1]? = some (.loop (rec .ready none)) := by
    rw [← hW1]; have := World.alloc_heap_new (w.alloc (.deferred (some []))) (.loop (rec .ready none)); rwa [World.size_alloc] at this
  have hK1 : W1.heap[w.heap.size]? = some (.deferred (some [])) := by
    rw [← hW1]; exact (Below.heap_alloc _ _ _ (by simp)).trans (World.alloc_heap_new w _)
  have hbw : Below w.heap.size w W1 := by rw [← hW1]; exact ((Below.refl _ w).alloc (Nat.le_refl _) _).alloc (by simp) _
  have put : ∀ (W : World) (l : Nat) (o o' : Obj), w.heap.size ≤ l → W.heap[l]? = some o → Below w.heap.size W (W.putObj l o') := fun W l o o' hl h =>
    ⟨rfl, rfl, rfl, by simp, fun k hk => World.putObj_heap_other (by omega)⟩
  refine ⟨w.heap.size + 1, [{ target := .collected w.heap.size, args := #[] }], W1, { target := .fn (.func gf) lb, args := #[.func (.yield (w.heap.size + 1)) #[] #[]] }, W1, gf,
    #[.func (.yield (w.heap.size + 1)) #[] #[]] ++ lb, W1, ?_, ?_, fun _ _ => trivial, ?_, fun h => by simp [Fence.wide] at h, ?_⟩
  · rw [← hW1, hrec]; exact run_enterLoop_outer _ _ _ _ _
  · simp only [resolve, hg]
    simp [go_sem]
  · simp [invoke, go_sem, eg]
  · have hcall := hseq (w.heap.size + 1)
      (fun pre W => I pre W ∧ W.heap[w.heap.size + 1]? = some (.loop (rec .ready none)) ∧ W.heap[w.heap.size]? = some (.deferred (some [])))
      (fun pre W => ∃ c, Ix c pre W ∧ W.heap[w.heap.size + 1]? = some (.loop (rec .done (some c))) ∧ W.heap[w.heap.size]? = some (.deferred (some [])))
      W1 (hb0.trans (hbw.mono hb0.size))
      (fun pre A B hs hB => ⟨hI pre A B hs.1 (hB.mono (by omega)), (hB.block _ (by omega)).trans hs.2.1, (hB.block _ (by omega)).trans hs.2.2⟩)
      (fun pre A B hs hB => by
        obtain ⟨c, hc, hl, hk⟩ := hs
        exact ⟨c, hIx c pre A B hc (hB.mono (by omega)), (hB.block _ (by omega)).trans hl, (hB.block _ (by omega)).trans hk⟩)
      ?_ ⟨hI _ _ _ h0 hbw, hL1, hK1⟩
    · have hcall' : CallsIn Fence.wide (n - 1) P gf (#[.func (.yield (w.heap.size + 1)) #[] #[]] ++ lb) W1 _ := callsIn_wide.2 (callsIn_wide.1 hcall)
      refine hcall'.mono ?_
      rintro e W2 ⟨⟨v, rfl⟩, (⟨xs, hS, hi, hl, hk⟩ | ⟨pre, hSp, c, hi, hl, hk⟩)⟩
      · exact ⟨none, _, by have := run_endLoop (P := P) hl (by rw [hrec]; simp); rw [hrec] at this; exact this, hdone _ xs _ (Nat.le_refl _) hS (hI _ _ _ hi (put _ _ _ _ (by omega) hl)) ((World.putObj_heap_other (by omega)).trans hk)⟩
      · exact ⟨some c, _, by have := run_endLoop (P := P) hl (by rw [hrec]; simp); rw [hrec] at this; exact this, hstop _ c pre _ (Nat.le_refl _) hSp (hIx _ _ _ _ hi (put _ _ _ _ (by omega) hl)) ((World.putObj_heap_other (by omega)).trans hk)⟩
    · rintro pre x W0 ⟨hi, hl, hk⟩ hG
      have hlt : w.heap.size + 1 < W0.heap.size := (Array.getElem?_eq_some_iff.1 hl).1
      have hy := run_yield (P := P) (args := encs x) hl (by rw [hrec]; exact hps x)
      rw [hrec] at hy
      refine ⟨fn, _, assign, body, hy, roundIn_of_wpIn hfn (hassign _ x W0 _ ?_)⟩
      clear hy
      intro a1 W hB0 hA
      have kp0 := hKn _ _ hB0
      have kf0 : KeepsFrom W1.heap.size W0 W := (keepsOthers_below hB0).from _
      replace hi := hI _ _ _ hi (hB0.mono (by omega))
      replace hl := (hB0.block _ hlt).trans hl
      replace hk := (hB0.block _ (by omega)).trans hk
      replace hG := hGn _ _ _ _ hG hB0
      replace hlt : w.heap.size + 1 < W.heap.size := Nat.lt_of_lt_of_le hlt hB0.size
      clear hB0
      refine ⟨_, run_beginRound hl (by rw [hrec]), ?_⟩
      have hl2 : (W.putObj (w.heap.size + 1) (.loop { rec .ready none with state := .busy })).heap[w.heap.size + 1]? = some (.loop { rec .ready none with state := .busy }) := World.putObj_heap_same hlt
      have hk2 : (W.putObj (w.heap.size + 1) (.loop { rec .ready none with state := .busy })).heap[w.heap.size]? = some (.deferred (some [])) := (World.putObj_heap_other (by omega)).trans hk
      have hw2 : Kp W (W.putObj (w.heap.size + 1) (.loop { rec .ready none with state := .busy })) := hKb _ _ _ _ (by omega) hl rfl
      refine wpIn_mono (hbody _ pre x a1 _ (by omega) (hI _ _ _ hi (put _ _ _ _ (by omega) hl)) (hGb _ _ _ _ _ _ (by omega) hl rfl hG) (hAs _ _ _ _ _ _ (by omega) hl rfl hA)) ?_
      have fin : ∀ (jump : Option Code) (W3 : World), KeepsFrom w.heap.size (W.putObj (w.heap.size + 1) (.loop { rec .ready none with state := .busy })) W3 →
          (Instr.endRound (w.heap.size + 1) jump).run P W3 = .ok (.bool jump.isNone) (W3.putObj (w.heap.size + 1) (.loop (rec (if jump.isNone then .ready else .done) jump))) ∧
          W3.heap[w.heap.size + 1]? = some (.loop { rec .ready none with state := .busy }) ∧
          (W3.putObj (w.heap.size + 1) (.loop (rec (if jump.isNone then .ready else .done) jump))).heap[w.heap.size + 1]? = some (.loop (rec (if jump.isNone then .ready else .done) jump)) ∧
          (W3.putObj (w.heap.size + 1) (.loop (rec (if jump.isNone then .ready else .done) jump))).heap[w.heap.size]? = some (.deferred (some [])) := fun jump W3 hk3 => by
        have hl3 := hk3.same _ _ (by omega) hl2 rfl
        have := run_endRound (P := P) jump hl3
        rw [hrec] at this ⊢
        exact ⟨this, by rw [hrec] at hl3; exact hl3, World.putObj_heap_same (Array.getElem?_eq_some_iff.1 hl3).1, (World.putObj_heap_other (by omega)).trans (hk3.same _ _ (Nat.le_refl _) hk2 rfl)⟩
      have whole : ∀ (W3 : World) (o : Obj), KeepsFrom w.heap.size (W.putObj (w.heap.size + 1) (.loop { rec .ready none with state := .busy })) W3 → KeepsFrom W1.heap.size W (W3.putObj (w.heap.size + 1) o) := fun W3 o hk3 =>
        ((keepsFrom_low _ (by omega)).trans (keepsFrom_mono hk3 (by omega))).trans (keepsFrom_low _ (by omega))
      rintro e a3 W3 hp
      cases e with
      | normal =>
        obtain ⟨hk3, hkp3, hi3⟩ := hp
        obtain ⟨hr, hl3, hl4, hk4⟩ := fin none W3 hk3
        exact ⟨_, _, hr, .inl ⟨rfl, ⟨hI _ _ _ hi3 (put _ _ _ _ (by omega) hl3), hl4, hk4⟩, hKt kp0 (hKt (hKt hw2 hkp3) (hKb _ _ _ _ (by omega) hl3 rfl)), kf0.trans (whole _ _ hk3)⟩⟩
      | ret =>
        obtain ⟨hk3, hi3⟩ := hp
        obtain ⟨hr, hl3, hl4, hk4⟩ := fin (some .ret) W3 hk3
        exact ⟨_, _, hr, .inr ⟨rfl, ⟨.ret, hIx _ _ _ _ hi3 (put _ _ _ _ (by omega) hl3), hl4, hk4⟩, kf0.trans (whole _ _ hk3)⟩⟩
      | exit id =>
        obtain ⟨hk3, hi3⟩ := hp
        obtain ⟨hr, hl3, hl4, hk4⟩ := fin (some (.exit id)) W3 hk3
        exact ⟨_, _, hr, .inr ⟨rfl, ⟨.exit id, hIx _ _ _ _ hi3 (put _ _ _ _ (by omega) hl3), hl4, hk4⟩, kf0.trans (whole _ _ hk3)⟩⟩
      | goto t =>
        obtain ⟨hk3, hi3⟩ := hp
        obtain ⟨hr, hl3, hl4, hk4⟩ := fin (some (.goto t)) W3 hk3
        exact ⟨_, _, hr, .inr ⟨rfl, ⟨.goto t, hIx _ _ _ _ hi3 (put _ _ _ _ (by omega) hl3), hl4, hk4⟩, kf0.trans (whole _ _ hk3)⟩⟩
      | panic ch => exact hp.elim
      | outgrown => exact hp.elim
end Go.Proofs.YtphbjamfhmcjcaaDoor
/- A region in the text's order, within a round of a range over a function: each operation gone through once. No program is named here. -/
namespace Go.Proofs.YtphbjamfhmcjcaaDoor
open Go
set_option maxRecDepth 8000
set_option linter.all false

theorem rowsIn_w {n : Nat} {P : Program} {row : String} {args : Array Value} {w : World} {R : Value → World → Prop} (h : Rows P row args w R) : RowsIn Fence.wide n P row args w R := fun c cs _ => let ⟨v, w', r, s⟩ := h c cs; ⟨v, w', r, stepsIn_wide.2 s⟩
theorem wpIn_of_wp {P : Program} {o : Oper} {a : Act} {w : World} {K : Act → World → Prop} {Q : Exit → Act → World → Prop} {l₀ nn : Nat} (hnd : ∀ c, o.op ≠ .defer c) (h : o.wp P a w K Q) : o.wpIn (Fence.wide.inRound l₀) nn P a w K Q := by
  refine ⟨fun _ _ => trivial, ?_⟩
  rw [Oper.semAt_eq _ _ _ hnd]
  unfold Oper.wp at h
  generalize (execOp a.eval o).run P w = r at *
  cases r with
  | ok x w' =>
    cases x <;> simp only [Oper.upon] at h <;> simp only [Oper.uponIn]
    case enter f args => exact ⟨fun hd => by simp [Fence.inRound, Fence.wide] at hd, CallsIn.inRound l₀ (callsIn_wide.2 h)⟩
    case row r args => exact ⟨fun hd => by simp [Fence.inRound, Fence.wide] at hd, rowsIn_w h⟩
    all_goals exact h
  | halt x w' =>
    cases x <;> simp only [Oper.upon] at h <;> simp only [Oper.uponIn]
    exact h
section
variable {P : Program} {ops : Array Oper} {Q : Exit → Act → World → Prop} {T : World → World → Prop} {V : List (SV T)} {J : Nat → World → Prop} {a0 : Act} {w0 : World} {n m : Nat} {D : Deps} {init tail : List Oper} {l₀ nn : Nat}
theorem seq_opI (hnd : noDefer ops = true) (hn : a0.tmps.size = n) (ht : ∀ a b c : World, T a b → T b c → T a c) {i : Nat} {o : Oper} {dp : List (Tmp × Option Nat)} {g : Option (Tmp × Bool)} {a : Act} {w : World}
    (him : i < m) (ho : ops[i]? = some o) (h1 : seqOne ops n m i o dp g = true) (hstep : seqStep P Q T V J a0 w0 i o dp g (V.getD i SV.any)) (inv : SeqInv ops T V J a0 w0 i a w) :
    wpOpIn (Fence.wide.inRound l₀) nn P ops Q i (fun a' w' => SeqInv ops T V J a0 w0 (i + 1) a' w') a w := by
  simp only [seqOne, Bool.and_eq_true] at h1
  obtain ⟨⟨hdst, hdp⟩, hg⟩ := h1
  have hfacts : relyFacts V a0 a w dp := by
    clear hstep
    induction dp with
    | nil => trivial
    | cons x r ih2 =>
      simp only [List.all_cons, Bool.and_eq_true] at hdp
      obtain ⟨hx, hr⟩ := hdp
      obtain ⟨d, j⟩ := x
      cases j with
      | some j =>
        simp only [Bool.and_eq_true, beq_iff_eq, decide_eq_true_eq] at hx
        exact ⟨inv.new j d hx.2 hx.1, ih2 hr⟩
      | none =>
        refine ⟨inv.old d fun j hj => ?_, ih2 hr⟩
        simpa using List.all_eq_true.1 hx j (List.mem_range.2 hj)
  have hguard : Region.wanted o (yielded ops a.tmps) = relyGuard g a := by
    unfold Region.wanted
    cases hgo : o.guard with
    | none =>
      rw [hgo] at hg
      cases g with
      | none => rfl
      | some x => cases hg
    | some kb =>
      obtain ⟨k, b⟩ := kb
      rw [hgo] at hg
      cases g with
      | none => cases hg
      | some x =>
        obtain ⟨d, b'⟩ := x
        simp only [Bool.and_eq_true, beq_iff_eq, decide_eq_true_eq] at hg
        obtain ⟨⟨rfl, hd⟩, hlt⟩ := hg
        have hlt' : d < a.tmps.size := by rw [inv.slots, hn]; exact hlt
        have hd' : (ops[k]?).bind (·.dst) = some d := hd
        simp only [yielded, hd', Option.bind_some, relyGuard, Array.getD_eq_getD_getElem?, Array.getElem?_eq_getElem hlt', Option.getD_some]
        cases a.tmps[d] <;> simp
        all_goals (rename_i x; cases x <;> cases b <;> rfl)
  have next : ∀ v w', T w w' → J (i + 1) w' → (V.getD i SV.any).pred v w' → SeqInv ops T V J a0 w0 (i + 1) (a.put o.dst v) w' := fun v w' hT hJ hv => by
    refine ⟨ht _ _ _ inv.now hT, hJ, by cases o.dst <;> simp [Act.put, inv.slots], by cases o.dst <;> simp [Act.put, inv.defers], fun j d hji hj => ?_, fun d hno => ?_⟩
    · by_cases hij : i = j
      · subst hij
        have hd : o.dst = some d := by simpa [relyDst, ho] using hj
        rw [hd] at hdst
        simp only [Bool.and_eq_true, decide_eq_true_eq] at hdst
        have hlt : d < a.tmps.size := by rw [inv.slots, hn]; exact hdst.1
        rw [hd]
        simpa [Act.put, hlt] using hv
      · have h3 := (V.getD j SV.any).stable _ _ _ (inv.new j d (by omega) hj) hT
        cases hod : o.dst with
        | none => exact h3
        | some d0 =>
          rw [hod] at hdst
          simp only [Bool.and_eq_true, decide_eq_true_eq] at hdst
          have h4 := List.all_eq_true.1 hdst.2 j (List.mem_range.2 (by omega))
          simp only [Bool.or_eq_true, decide_eq_true_eq, bne_iff_ne, ne_eq] at h4
          have hne : d0 ≠ d := fun e => by
            subst e
            rcases h4 with h4 | h4
            · exact hij h4.symm
            · exact h4 hj
          simpa [Act.put, Array.getElem?_setIfInBounds_ne hne] using h3
    · have hni : o.dst ≠ some d := fun hd => hno i (by omega) (by simp [relyDst, ho, hd])
      have hold := inv.old d fun j hj => hno j (by omega)
      cases hod : o.dst with
      | none => exact hold
      | some d0 =>
        have hne : d0 ≠ d := fun e => hni (by rw [hod, e])
        simpa [Act.put, Array.getElem?_setIfInBounds_ne hne] using hold
  have hs := hstep a w inv.now hfacts inv.at_ _ next
  unfold wpOpIn
  simp only [ho, hguard]
  split
  · rename_i hw; rw [if_pos hw] at hs; exact wpIn_of_wp (noDefer_at hnd ho) hs
  · rename_i hw; rw [if_neg hw] at hs; exact ⟨fun _ _ => trivial, hs⟩
theorem wpOpsIn_tail : ∀ (t : List Oper) (k : Nat) (a : Act) (w : World), (∀ i : Nat, ops[k + i]? = t[i]?) → wpListIn (Fence.wide.inRound l₀) nn P ops Q t a w → wpOpsIn (Fence.wide.inRound l₀) nn P ops Q (List.range' k t.length) a w
  | [], k, a, w, _, h => by simpa [wpOpsIn, wpListIn] using h
  | o :: t, k, a, w, hk, h => by
    have hi : ops[k]? = some o := by simpa using hk 0
    rw [List.length_cons, List.range'_succ, wpOpsIn_cons]
    refine wpOpIn_mono (fun a' w' h' => wpOpsIn_tail t (k + 1) a' w' (fun i => by have := hk (i + 1); rw [show k + 1 + i = k + (i + 1) by omega]; simpa using this) h') ?_
    unfold wpOpIn
    simp only [hi]
    simpa only [wpListIn] using h
theorem wpOpsIn_seq (hnd : noDefer ops = true) (hsplit : ops.toList = init ++ tail) (hn : a0.tmps.size = n) (hB : seqB ops n init.length 0 init D = true) (ht : ∀ a b c : World, T a b → T b c → T a c)
    (hl : init.length ≤ V.length) (hA : seqAll P Q T V J a0 w0 0 init D V) (hE : ∀ w, T w0 w → J init.length w → relyEnd (fun _ a w => wpListIn (Fence.wide.inRound l₀) nn P ops Q tail a w) T init V a0 w) :
    ∀ (f k : Nat) (a : Act) (w : World), k + f = init.length → SeqInv ops T V J a0 w0 k a w → wpOpsIn (Fence.wide.inRound l₀) nn P ops Q (List.range' k (f + tail.length)) a w := by
  obtain ⟨hsz, hpre, htl⟩ := split_at hsplit
  intro f
  induction f with
  | zero =>
    intro k a w hk inv
    obtain rfl : k = init.length := by omega
    rw [Nat.zero_add]
    refine wpOpsIn_tail tail init.length a w htl ?_
    refine relyEnd_of (Q := fun _ a w => wpListIn (Fence.wide.inRound l₀) nn P ops Q tail a w) init V a0 inv.slots.symm inv.defers.symm hl (fun d hnd => ?_) (fun k o d hk hd => ?_) (hE w inv.now inv.at_)
    · refine (inv.old d fun j hj hjd => ?_).symm
      have hj2 := hpre j init[j] (List.getElem?_eq_getElem hj)
      simp [relyDst, hj2] at hjd
      exact hnd init[j] (List.getElem_mem hj) hjd
    · exact inv.new k d (List.getElem?_eq_some_iff.1 hk).1 (by simp [relyDst, hpre k o hk, hd])
  | succ f ih =>
    intro k a w hk inv
    rw [show f + 1 + tail.length = (f + tail.length) + 1 by omega, List.range'_succ, wpOpsIn_cons]
    have hklt : k < init.length := by omega
    have hio : init[k]? = some init[k] := List.getElem?_eq_getElem hklt
    obtain ⟨dp, g, hD, h1⟩ := seqB_at init D 0 k _ hB hio
    have hstep := seqAll_at _ _ _ 0 k _ dp g hA hio hD
    rw [Nat.zero_add] at h1 hstep
    exact wpOpIn_mono (fun a' w' inv' => ih (k + 1) a' w' (by omega) inv') (seq_opI hnd hn ht hklt (hpre k _ hio) h1 hstep inv)
/-- **A region in the text's order; the operations from place m on are left as they stand.** -/
theorem wpIn_region_steps {id : Nat} (T : World → World → Prop) (J : Nat → World → Prop) (V : List (SV T)) (D : Deps) (n m : Nat) (hnd : noDefer ops = true) (hn : a0.tmps.size = n) (hlen : (ops.toList.take m).length = m) (hB : seqB ops n m 0 (ops.toList.take m) D = true)
    (ht : ∀ a b c : World, T a b → T b c → T a c) (hd : T w0 w0) (hJ : J 0 w0) (hl : m ≤ V.length)
    (hA : seqAll P Q T V J a0 w0 0 (ops.toList.take m) D V) (hE : ∀ w, T w0 w → J m w → relyEnd (fun _ a w => wpListIn (Fence.wide.inRound l₀) nn P ops Q (ops.toList.drop m) a w) T (ops.toList.take m) V a0 w) : (Code.region id ops false).wpIn (Fence.wide.inRound l₀) nn P Q a0 w0 := by
  refine wpIn_region ?_
  have hs := split_at (List.take_append_drop m ops.toList).symm
  rw [List.range_eq_range', hs.1]
  exact wpOpsIn_seq hnd (List.take_append_drop m ops.toList).symm hn (by rw [hlen]; exact hB) ht (by rw [hlen]; exact hl) hA (by rw [hlen]; exact hE) _ 0 a0 w0 (by omega) ⟨hd, hJ, rfl, rfl, fun j d hj => absurd hj (by omega), fun _ _ => rfl⟩
theorem wpIn_region_steps0 {id : Nat} (T : World → World → Prop) (V : List (SV T)) (D : Deps) (n m : Nat) (hnd : noDefer ops = true) (hn : a0.tmps.size = n) (hlen : (ops.toList.take m).length = m) (hB : seqB ops n m 0 (ops.toList.take m) D = true)
    (ht : ∀ a b c : World, T a b → T b c → T a c) (hd : T w0 w0) (hl : m ≤ V.length)
    (hA : relyAll P Q T V a0 w0 (ops.toList.take m) D V) (hE : ∀ w, T w0 w → relyEnd (fun _ a w => wpListIn (Fence.wide.inRound l₀) nn P ops Q (ops.toList.drop m) a w) T (ops.toList.take m) V a0 w) : (Code.region id ops false).wpIn (Fence.wide.inRound l₀) nn P Q a0 w0 :=
  wpIn_region_steps T (fun _ _ => True) V D n m hnd hn hlen hB ht hd trivial hl (seqAll_of 0 _ _ _ hA) fun w hT _ => hE w hT
theorem wpListIn_end {a : Act} {w : World} {l : List Oper} (hl : l = []) (h : Q .normal a w) : wpListIn (Fence.wide.inRound l₀) nn P ops Q l a w := by subst hl; exact h
theorem wpListIn_wp {a : Act} {w : World} {o : Oper} {l : List Oper} (hnd : noDefer ops = true) (hm : o ∈ ops) (hg : o.guard = none) (h : ∀ K : Act → World → Prop, (∀ a w, wpListIn (Fence.wide.inRound l₀) nn P ops Q l a w → K a w) → o.wp P a w K Q) : wpListIn (Fence.wide.inRound l₀) nn P ops Q (o :: l) a w :=
  wpListIn_plain hg fun K hK => wpIn_of_wp (fun c e => by
    have := Array.all_eq_true_iff_forall_mem.1 hnd o hm
    rw [e] at this; cases this) (h K hK)
end
end Go.Proofs.YtphbjamfhmcjcaaDoor
