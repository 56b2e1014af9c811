/- Package mac's small functions: numbers as bytes, the key's block, its masks: what each call returns, and that it makes new memory alone. -/
import Derived.Test.YtpoebajpmkcjdaaDoorOpr
import Derived.Test.YtpoebajpmkcjdaaDoorG1
import Derived.Laws.CopyOwn
namespace Go.Proofs.YtpoebajpmkcjdaaDoor
open Go Go.RowKit

theorem u8_xor (x y : UInt8) : bits .xor .u8 (bN x) (bN y) = bN (x ^^^ y) := by
  have h : ∀ a b : BitVec 8, bits .xor .u8 ((a.toNat : Nat) : Int) ((b.toNat : Nat) : Int) = (((a ^^^ b).toNat : Nat) : Int) := by
    intro a b
    show IntKind.u8.wrap ((BitVec.ofInt 8 ((a.toNat : Nat) : Int) ^^^ BitVec.ofInt 8 ((b.toNat : Nat) : Int)).toNat : Int) = _
    simp only [BitVec.ofInt_natCast, BitVec.ofNat_toNat, BitVec.setWidth_eq]
    rw [wrap_u8]; have := (a ^^^ b).isLt; omega
  exact h x.toBitVec y.toBitVec
/-- It reads as l, in a row that is new since W. -/
def svRdN (W : World) (l : List UInt8) : SV NewT := ⟨fun v w => ∀ L, (∀ k ∈ L, k < W.heap.size) → RdV w L v l, fun _ _ _ h hT L hL => hT.rd (h L hL)⟩
/-- The lowest s bytes of a number, the highest first. -/
def hiB (n s i : Nat) : UInt8 := UInt8.ofNat (n / 2 ^ (8 * (s - 1 - i)))
def hiL (n s : Nat) : List UInt8 := (List.range s).map (hiB n s)
theorem hiL_length (n s : Nat) : (hiL n s).length = s := by simp [hiL]
theorem hiB_eq (n s i : Nat) : IntKind.u8.wrap ((n : Int) / 2 ^ (8 * (s - 1 - i))) = bN (hiB n s i) := by
  rw [wrap_u8, hiB, bN, UInt8.toNat_ofNat']
  have h2 : ((2 : Int) ^ (8 * (s - 1 - i))) = ((2 ^ (8 * (s - 1 - i)) : Nat) : Int) := by simp
  rw [h2, ← Int.natCast_ediv]
  omega
theorem make_bytes (i0 : TypeInfo) (hi : Tryd.prog.info? 5 = some i0) (hz0 : i0.zero = some (.int .u8 0)) (hz1 : i0.size = 1) (hz2 : i0.bytes = 1) (r : Nat) (hr : r ≤ 64) (W : World) :
    (Instr.makeSlice 24 (.int .i64 (r : Int)) (.int .i64 (r : Int))).run Tryd.prog W = .ok (.slice (some ⟨W.heap.size, 0, none⟩) r r) (W.alloc (.cells (rowA r (bF fun _ => 0)) 5)) := by
  have := run_make (P := Tryd.prog) W 24 5 i0 _ Tryd.underlying24 hi hz0 .i64 .i64 (r : Int) (r : Int) (by omega) (by omega) (by rw [hz2]; omega) (by omega)
  rw [this, hz1, Int.toNat_natCast, Nat.mul_one]
  have e : madeCells (Value.int .u8 0).cells r = rowA r (bF fun _ => 0) := made_row r (.int .u8 0)
  rw [e]
def putTo (f : Nat → UInt8) (k i : Nat) : UInt8 := if i < k then f i else 0
theorem putTo_set (f : Nat → UInt8) (k i : Nat) : (if i = k then Value.int .u8 (bN (f k)) else bF (putTo f k) i) = bF (putTo f (k + 1)) i := by
  simp only [bF, putTo]
  by_cases h : i = k
  · subst h; simp
  · by_cases h2 : i < k
    · rw [if_neg h, if_pos h2, if_pos (by omega)]
    · rw [if_neg h, if_neg h2, if_neg (by omega)]
set_option maxHeartbeats 1000000 in
theorem hiF_any (n s : Nat) (hs : 1 ≤ s) (hs2 : s ≤ 8) (w : World) :
    Cv 60 #[.int .u64 (n : Int), .int .i64 (s : Int)] w (svRdN w (hiL n s)) := by
  unfold Cv
  obtain ⟨i0, hi, hz0, hz1, hz2⟩ := info_parts info5
  have hmk : ∀ W : World, (Instr.makeSlice 24 (.int .i64 (s : Int)) (.int .i64 (s : Int))).run Tryd.prog W = .ok (.slice (some ⟨W.heap.size, 0, none⟩) s s) (W.alloc (.cells (rowA s (bF fun _ => 0)) 5)) := make_bytes i0 hi hz0 hz1 hz2 s (by omega)
  have HB := Lib.hid (hiB_eq n s)
  clear hi hz0 hz1 hz2
  go_enter Tryd.func60, Tryd.ntmps60
  go_wp2
  have r0 := rowIs_box w 5 s (bF fun _ => 0)
  have hB : Below w.heap.size w (w.alloc (.cells (rowA s (bF fun _ => 0)) 5)) := (Below.refl _ w).alloc (Nat.le_refl _) _
  generalize w.alloc (.cells (rowA s (bF fun _ => 0)) 5) = W0 at r0 hB ⊢
  clear hmk
  go_loopw [11] (fun i wr => ∃ k : Nat, k ≤ s ∧ i = .int .i64 k ∧ wr.rowIs w.heap.size 5 s (bF (putTo (hiB n s) k)) ∧ Below w.heap.size w wr) (fun i _ => s - (intOf i).toNat)
  case atStart => exact ⟨0, by omega, rfl, r0.congr fun i _ => by simp [bF, putTo], hB⟩
  case round =>
    obtain ⟨k, hk, rfl, q0, qB⟩ := hrel
    clear r0 hB
    by_cases hlt : k < s
    · have c0 := q0.cell (i := k) hlt
      have f0 := q0.frozen k
      have e8 : ((8 : Int) * ((s : Int) - 1 - (k : Int))).toNat = 8 * (s - 1 - k) := by omega
      have hb8 := HB.out k
      go_wp2
      go_roundw
      case rel => exact ⟨k + 1, by omega, by go_num, (q0.set k _).congr fun i _ => putTo_set _ k i, qB.setCell (by simp) _⟩
      case measure => simp [intOf]; omega
    · obtain rfl : k = s := by omega
      go_wp2
      go_ret
      refine ⟨_, rfl, qB, fun L hL => ?_⟩
      have := rd_row (L := L) q0 (fun hm => by have := hL _ hm; omega) (by omega)
      have e : (List.range k).map (putTo (hiB n k) k) = hiL n k := List.map_congr_left fun i hi => by simp at hi; simp [putTo, hi]
      rw [e] at this
      exact this
theorem hiF_4 (n : Nat) (w : World) : Cv 60 #[.int .u64 (n : Int), .int .i64 4] w (svRdN w (hiL n 4)) := hiF_any n 4 (by omega) (by omega) w
theorem hiF_8 (n : Nat) (w : World) : Cv 60 #[.int .u64 (n : Int), .int .i64 8] w (svRdN w (hiL n 8)) := hiF_any n 8 (by omega) (by omega) w
end Go.Proofs.YtpoebajpmkcjdaaDoor
