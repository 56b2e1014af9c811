import Derived.Test.YtpoebajpmkcjdaaDoorA4
namespace Go.Proofs.YtpoebajpmkcjdaaDoor
open Go.RowKit
attribute [local go_sem] u32_add u32_xor u32_and u32_or u32_not signed_u32 wrap_uN uF_at u32_shr u32_u8

/-- Bytes as the model has them. -/
def bF (f : Nat → UInt8) : Nat → Value := fun i => .int .u8 (bN (f i))
theorem bF_at (s : Nat → UInt8) (i : Nat) : bF s i = .int .u8 (bN (s i)) := rfl
def dig (s : Nat → BitVec 32) (n : Nat) : UInt8 := UInt8.ofBitVec ((s (n / 4) >>> (24 - 8 * (n % 4))).setWidth 8)
def digTo (s : Nat → BitVec 32) (m n : Nat) : UInt8 := if n < m then dig s n else 0
theorem digTo_set (s : Nat → BitVec 32) (k j i : Nat) (hj : j < 4) :
    (if i = 4 * k + j then Value.int .u8 (bN (UInt8.ofBitVec ((s k >>> (24 - 8 * j)).setWidth 8))) else bF (digTo s (4 * k + j)) i) = bF (digTo s (4 * k + (j + 1))) i := by
  simp only [bF, digTo]
  by_cases h : i = 4 * k + j
  · subst h
    rw [if_pos rfl, if_pos (by omega), dig, show (4 * k + j) / 4 = k by omega, show (4 * k + j) % 4 = j by omega]
  · by_cases h2 : i < 4 * k + j
    · rw [if_neg h, if_pos h2, if_pos (by omega)]
    · rw [if_neg h, if_neg h2, if_neg (by omega)]
theorem info31 : (Tryd.prog.info? 31).map (·.size) = some 32 := by kernel_rfl

set_option maxHeartbeats 1000000 in
theorem digest_any (s : Nat → BitVec 32) (w : World) :
    Calls Tryd.prog 41 #[.agg (rowA 8 (uF s))] w fun e w' => e = .returned (.agg (rowA 32 (bF (dig s)))) ∧ Below w.heap.size w w' := by
  go_enter Tryd.func41, Tryd.ntmps41
  go_upto_region 2 with fail
  have r0 := ((rowIs_box w 23 8 (uF s)).alloc (.cells (rowA 32 (bF fun _ => 0)) 31)).alloc (.cells (rowA 32 (bF fun _ => 0)) 31)
  have r1 := (rowIs_box (w.alloc (.cells (rowA 8 (uF s)) 23)) 31 32 (bF fun _ => 0)).alloc (.cells (rowA 32 (bF fun _ => 0)) 31)
  have r2 := rowIs_box ((w.alloc (.cells (rowA 8 (uF s)) 23)).alloc (.cells (rowA 32 (bF fun _ => 0)) 31)) 31 32 (bF fun _ => 0)
  have hB : Below w.heap.size w (((w.alloc (.cells (rowA 8 (uF s)) 23)).alloc (.cells (rowA 32 (bF fun _ => 0)) 31)).alloc (.cells (rowA 32 (bF fun _ => 0)) 31)) :=
    (((Below.refl _ w).alloc (Nat.le_refl _) _).alloc (by simp) _).alloc (by simp; omega) _
  rw [World.size_alloc] at r1 r2
  rw [World.size_alloc] at r2
  change Code.wp _ _ _ _ (((w.alloc (.cells (rowA 8 (uF s)) 23)).alloc (.cells (rowA 32 (bF fun _ => 0)) 31)).alloc (.cells (rowA 32 (bF fun _ => 0)) 31))
  generalize (((w.alloc (.cells (rowA 8 (uF s)) 23)).alloc (.cells (rowA 32 (bF fun _ => 0)) 31)).alloc (.cells (rowA 32 (bF fun _ => 0)) 31)) = W0 at r0 r1 r2 hB ⊢
  have hR := rangeAt_row r0
  go_wp2_with (refine wpList_load_mid rfl 23 (.tmp 1) rfl w.heap.size 0 rfl (rowA 8 (uF s)).toList _ hR Tryd.underlying23 rfl (by rw [rowA_toList]; simpa using info23) ?_)
  clear hR r0
  go_loopw [8] (fun i wr => ∃ k : Nat, k ≤ 8 ∧ i = .int .i64 k ∧ wr.rowIs (w.heap.size + 1) 31 32 (bF fun _ => 0) ∧ wr.rowIs (w.heap.size + 1 + 1) 31 32 (bF (digTo s (4 * k))) ∧ Below w.heap.size w wr) (fun i _ => 8 - (intOf i).toNat)
  case atStart => exact ⟨0, by omega, rfl, r1, r2, hB⟩
  case round =>
    obtain ⟨k, hk, rfl, q1, q2, qB⟩ := hrel
    clear r1 r2 hB
    by_cases hlt : k < 8
    · have hix := index_row (P := Tryd.prog) 23 22 _ Tryd.underlying23 Tryd.underlying22 rfl (by kernel_rfl) (uF s) .i64 k hlt
      go_wp2
      clear hix
      go_loopw [12] (fun i wr => ∃ j : Nat, j ≤ 4 ∧ i = .int .i64 j ∧ wr.rowIs (w.heap.size + 1) 31 32 (bF fun _ => 0) ∧ wr.rowIs (w.heap.size + 1 + 1) 31 32 (bF (digTo s (4 * k + j))) ∧ Below w.heap.size w wr) (fun i _ => 4 - (intOf i).toNat)
      case atStart => exact ⟨0, by omega, rfl, q1, q2, qB⟩
      case round =>
        obtain ⟨j, hj, rfl, z1, z2, zB⟩ := hrel
        clear q1 q2 qB
        by_cases hj4 : j < 4
        · have c0 := z2.cell (i := 4 * k + j) (by omega)
          have f0 := z2.frozen (4 * k + j)
          have e24 : ((24 : Int) - 8 * (j : Int)).toNat = 24 - 8 * j := by omega
          go_wp2
          go_roundw
          case rel => exact ⟨j + 1, by omega, by go_num, z1.setOther (by simp) _, (z2.set (4 * k + j) _).congr fun i _ => digTo_set s k j i hj4, (zB.setCell (p := ⟨w.heap.size + 1 + 1, 4 * k + j, none⟩) (by simp; omega) _)⟩
          case measure => simp [intOf]; omega
        · obtain rfl : j = 4 := by omega
          go_wp2
          go_roundw
          case rel => exact ⟨k + 1, by omega, by go_num, z1, z2, zB⟩
          case measure => simp [intOf]; omega
    · obtain rfl : k = 8 := by omega
      have hR := rangeAt_row q2
      go_wp2_with (first
            | (refine wpList_load_mid rfl 31 (.tmp 3) rfl (w.heap.size + 1 + 1) 0 rfl (rowA 32 (bF (digTo s (4 * 8)))).toList _ hR Tryd.underlying31 rfl (by rw [rowA_toList]; simpa using info31) ?_)
            | (refine wpList_store_mid rfl 31 (.tmp 2) (.tmp 28) rfl (w.heap.size + 1) 0 (rowA 32 (bF (digTo s (4 * 8)))) rfl rfl (by rw [rowA_size]; exact there_row q1) (by rw [rowA_size]; exact info31) (rowA_one _ _ fun _ => rfl) ?_))
      refine bodyPost_ret (results_row rfl _ rfl (rowIs_setAll q1 (bF (digTo s (4 * 8)))) Tryd.underlying31 info31) rfl ⟨?_, below_setCells _ (by omega) _ _ _ qB⟩
      exact congrArg (fun z => Ending.returned (.agg z)) (rowA_congr fun i hi => by simp [bF, digTo, hi])
end Go.Proofs.YtpoebajpmkcjdaaDoor
