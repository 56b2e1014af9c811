/- The reference's Hex. -/
import Derived.Test.YtpoebajpmkcjdaaDoorA7
import Derived.Test.YtpoebajpmkcjdaaDoorG1
namespace Go.Proofs.YtpoebajpmkcjdaaDoor
open Go.RowKit
attribute [local go_sem] bF_at

theorem ext_dig (k : Nat) (hk : k < 16) : ({ data := #[48, 49, 50, 51, 52, 53, 54, 55, 56, 57, 97, 98, 99, 100, 101, 102] } : ByteArray).extract k (k + 1) = ⟨#[hx k]⟩ := by
  have : ∀ k : Fin 16, ({ data := #[48, 49, 50, 51, 52, 53, 54, 55, 56, 57, 97, 98, 99, 100, 101, 102] } : ByteArray).extract k.val (k.val + 1) = ⟨#[hx k.val]⟩ := by decide +kernel
  exact this ⟨k, hk⟩
theorem slice_dig (k : Nat) (hk : k < 16) (w : World) : (Instr.slice 9 (.string { data := #[48, 49, 50, 51, 52, 53, 54, 55, 56, 57, 97, 98, 99, 100, 101, 102] }) (some (.int .u8 (k : Int))) (some (.int .u8 ((k : Int) + 1))) none).run Tryd.prog w = .ok (.string ⟨#[hx k]⟩) w := by
  have hs : ({ data := #[48, 49, 50, 51, 52, 53, 54, 55, 56, 57, 97, 98, 99, 100, 101, 102] } : ByteArray).size = 16 := rfl
  have h3 : ((({ data := #[48, 49, 50, 51, 52, 53, 54, 55, 56, 57, 97, 98, 99, 100, 101, 102] } : ByteArray).size : Nat) : Int) = 16 := by rw [hs]; rfl
  have h6 : ((k : Int) + 1).toNat = k + 1 := by omega
  simp [Instr.slice, run_underlying Tryd.underlying9, Instr.sliceBounds, Instr.sliceBound, asIntOf, h6, ext_dig k hk]
  intro hh
  rw [h3] at hh
  exact absurd (hh (by omega)) (by omega)
/-- The digits of the first n bytes, as a text. -/
def hexT (d : Nat → UInt8) (n : Nat) : ByteArray := ⟨(hexL d n).toArray⟩
theorem hexT_next (d : Nat → UInt8) (n : Nat) : hexT d n ++ ⟨#[hx (hiN (d n))]⟩ ++ ⟨#[hx (loN (d n))]⟩ = hexT d (n + 1) := by
  apply ByteArray.ext
  simp [hexT, hexL, ByteArray.data_append]
set_option maxHeartbeats 1000000 in
theorem RHex_any (d : Nat → UInt8) (w : World) :
    Calls Tryd.prog 24 #[.agg (rowA 32 (bF d))] w fun e w' => e = .returned (.string ⟨(hexL d 32).toArray⟩) ∧ Below w.heap.size w w' := by
  have hB : Below w.heap.size w (w.alloc (.cells (rowA 32 (bF d)) 31)) := (Below.refl _ w).alloc (Nat.le_refl _) _
  have r0 := rowIs_box w 31 32 (bF d)
  go_enter Tryd.func24, Tryd.ntmps24
  go_wp2
  change Code.wp _ _ _ _ (w.alloc (.cells (rowA 32 (bF d)) 31))
  generalize w.alloc (.cells (rowA 32 (bF d)) 31) = W0 at r0 hB ⊢
  go_loopw [4, 5] (fun s i wr => ∃ k : Nat, k ≤ 32 ∧ i = .int .i64 k ∧ s = .string (hexT d k) ∧ wr.rowIs w.heap.size 31 32 (bF d) ∧ Below w.heap.size w wr) (fun _ i _ => 32 - (intOf i).toNat)
  case atStart => exact ⟨0, by omega, rfl, rfl, r0, hB⟩
  case round =>
    clear r0 hB
    obtain ⟨k, hk, rfl, rfl, r0, hB⟩ := hrel
    by_cases hlt : k < 32
    · have c0 := r0.cell (i := k) hlt
      obtain ⟨b, hb, hbN⟩ : ∃ b : Nat, b < 256 ∧ bN (d k) = (b : Int) := ⟨(d k).toNat, UInt8.toNat_lt _, rfl⟩
      rw [bF_at, hbN] at c0
      have hhi : hiN (d k) = b / 16 := by unfold bN at hbN; unfold hiN; omega
      have hlo : loN (d k) = b % 16 := by unfold bN at hbN; unfold loN; omega
      have hnx := hexT_next d k
      rw [hhi, hlo] at hnx
      have hs1 := slice_dig (b / 16) (by omega)
      have hs2 := slice_dig (b % 16) (by omega)
      have e1 : ((b / 16 : Nat) : Int) = (b : Int) / 16 := by omega
      have e2 : ((b % 16 : Nat) : Int) = (b : Int) % 16 := by omega
      rw [e1] at hs1
      rw [e2] at hs2
      generalize hx (b / 16) = x1 at hs1 hnx
      generalize hx (b % 16) = x2 at hs2 hnx
      have Hnx := Lib.hid hnx
      clear hnx hhi hlo hbN e1 e2
      obtain ⟨S, HS⟩ : ∃ S, Hid (hexT d k = S) := ⟨_, Lib.hid rfl⟩
      rw [HS.out]
      have hSz : S.size = 2 * k := by rw [← HS.out]; show (hexL d k).toArray.size = _; simp [hexL_length]
      have z1 : ¬ 9223372036854775807 < S.size + 1 := by omega
      have z2 : ¬ 9223372036854775807 < S.size + 1 + 1 := by omega
      have HSz := Lib.hid hSz
      clear hSz
      have it : (k : Int) < 32 := by omega
      go_wp2
      refine wp_region_still_lit (by kernel_rfl) (by kernel_rfl) ?_
      repeat (refine wpStill_step (fun K hK => ?_); go_simp; (try go_bits); refine hK _ ?_; clear hK K)
      refine wpStill_nil ?_
      go_wp2
      go_roundw
      case rel => exact ⟨k + 1, by omega, by go_num, by rw [← Hnx.out, HS.out], r0.drew, hB.drew⟩
      case measure => simp [intOf]; omega
    · obtain rfl : k = 32 := by omega
      go_wp2
      go_ret
      exact ⟨rfl, hB⟩
end Go.Proofs.YtpoebajpmkcjdaaDoor
