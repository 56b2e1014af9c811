import Derived.Test.YtpoebajpmkcjdaaDoorA6
import Derived.Laws.BytesArg
import Derived.Deep.AppendLies
namespace Go.Proofs.YtpoebajpmkcjdaaDoor
open Go.RowKit

def hexS : ByteArray := { data := #[48, 49, 50, 51, 52, 53, 54, 55, 56, 57, 97, 98, 99, 100, 101, 102] }
def hx (k : Nat) : UInt8 := [48, 49, 50, 51, 52, 53, 54, 55, 56, 57, 97, 98, 99, 100, 101, 102].getD k 0
def hiN (b : UInt8) : Nat := b.toNat / 16
def loN (b : UInt8) : Nat := b.toNat % 16
theorem hiN_lt (b : UInt8) : hiN b < 16 := by unfold hiN; have := b.toNat_lt; omega
theorem loN_lt (b : UInt8) : loN b < 16 := by unfold loN; omega
theorem u8_div16 (b : UInt8) : bN b / (16 : Int) = ((hiN b : Nat) : Int) := by unfold bN hiN; omega
theorem u8_and15 (b : UInt8) : bits .and .u8 (bN b) 15 = ((loN b : Nat) : Int) := by
  have h : ∀ n : Fin 256, bits .and .u8 ((n.val : Nat) : Int) 15 = ((n.val % 16 : Nat) : Int) := by decide +kernel
  exact h ⟨b.toNat, b.toNat_lt⟩
theorem index_hex (k : Nat) (hk : k < 16) (w : World) : (Instr.index 9 (.string hexS) (.int .u8 (k : Int))).run Tryd.prog w = .ok (.int .u8 (bN (hx k))) w := by
  have h : ∀ n : Fin 16, hexS[n.val]? = some (hx n.val) := by decide
  have := h ⟨k, hk⟩
  simp only [] at this
  simp [Instr.index, asIntOf, run_underlying Tryd.underlying9, this, bN]
attribute [local go_sem] bF_at rowA_at u8_div16 u8_and15

def hexL (d : Nat → UInt8) : Nat → List UInt8
  | 0 => []
  | k + 1 => hexL d k ++ [hx (hiN (d k)), hx (loN (d k))]
theorem make_none (i0 : TypeInfo) (hi : Tryd.prog.info? 5 = some i0) (hz0 : i0.zero = some (.int .u8 0)) (hz1 : i0.size = 1) (hz2 : i0.bytes = 1) (W : World) :
    (Instr.makeSlice 24 (.int .i64 0) (.int .i64 64)).run Tryd.prog W = .ok (.slice (some ⟨W.heap.size, 0, none⟩) 0 64) (W.alloc (.cells (rowA 64 (bF fun _ => 0)) 5)) := by
  have := run_make (P := Tryd.prog) W 24 5 i0 _ Tryd.underlying24 hi hz0 .i64 .i64 0 64 (by omega) (by omega) (by rw [hz2]; omega) (by omega)
  rw [this, hz1]
  have e : madeCells (Value.int .u8 0).cells 64 = rowA 64 (bF fun _ => 0) := made_row 64 (.int .u8 0)
  exact congrArg (fun z => Result.ok _ (W.alloc (.cells z 5))) e
theorem two_cell (w : World) (u v : Value) (t : TypeId) : ∀ (j : Nat) (x : Value), [u, v][j]? = some x → (w.alloc (.cells #[u, v] t)).cell? ((⟨w.heap.size, 0, none⟩ : Addr).add j) = some x := by
  intro j x h
  rw [Addr.add_lit, World.cell?_alloc_at _ _ _ _ rfl]
  simpa using h
theorem hexL_length (d : Nat → UInt8) (k : Nat) : (hexL d k).length = 2 * k := by
  induction k with
  | zero => rfl
  | succ k ih => simp [hexL, ih]; omega
/-- A row of bytes of the call's own, as a string. -/
theorem conv_own {w : World} {base g n cap : Nat} {l : List UInt8} (h : w.ownsRow base 5 1 (.slice (some ⟨g, 0, none⟩) n cap) n (l.map fun b => .int .u8 (bN b))) (hl : l.length = n) :
    (convert 24 9 (.slice (some ⟨g, 0, none⟩) n cap)).run Tryd.prog w = .ok (.string ⟨l.toArray⟩) w := by
  have hc := h.cells (g := g) rfl
  have := run_convert_bytes_arg (P := Tryd.prog) w 24 5 Tryd.underlying24 Tryd.underlying5 g 0 n cap (l.map bN) (by simpa using hl) (fun i hi => by
    have := hc i (.int .u8 (bN (bAt l i))) (by simp [bAt, show i < l.length by omega])
    rw [Addr.add_mid] at this
    rw [this]
    simp [bAt, show i < l.length by omega]) 9 Tryd.underlying9
  rw [this]
  have e : strOfNums (l.map bN) = ⟨l.toArray⟩ := by
    unfold strOfNums
    congr 2
    rw [List.map_map]
    conv => rhs; rw [← List.map_id l]
    exact List.map_congr_left fun b _ => by simp [bN]
  rw [e]
set_option maxHeartbeats 1000000 in
theorem Hex_any (d : Nat → UInt8) (w : World) :
    Calls Tryd.prog 23 #[.agg (rowA 32 (bF d))] w fun e w' => e = .returned (.string ⟨(hexL d 32).toArray⟩) ∧ Below w.heap.size w w' := by
  obtain ⟨i0, hi, hz0, hz1, hz2⟩ := info_parts info5
  have hmk : ∀ W : World, (Instr.makeSlice 24 (.int .i64 0) (.int .i64 64)).run Tryd.prog W = .ok (.slice (some ⟨W.heap.size, 0, none⟩) 0 64) (W.alloc (.cells (rowA 64 (bF fun _ => 0)) 5)) := make_none i0 hi hz0 hz1 hz2
  go_enter Tryd.func23, Tryd.ntmps23
  go_upto_region 2 with fail
  have r0 := (rowIs_box w 31 32 (bF d)).alloc (.cells (rowA 64 (bF fun _ => 0)) 5)
  have r1 := rowIs_box (w.alloc (.cells (rowA 32 (bF d)) 31)) 5 64 (bF fun _ => 0)
  have hB : Below w.heap.size w ((w.alloc (.cells (rowA 32 (bF d)) 31)).alloc (.cells (rowA 64 (bF fun _ => 0)) 5)) := ((Below.refl _ w).alloc (Nat.le_refl _) _).alloc (by simp) _
  rw [World.size_alloc] at r1
  have ho := ownsRow_row r1 w.heap.size 0 (by omega) (by unfold maxLen; omega) (by omega)
  have hR := rangeAt_row r0
  clear r0 r1 hmk
  generalize ((w.alloc (.cells (rowA 32 (bF d)) 31)).alloc (.cells (rowA 64 (bF fun _ => 0)) 5)) = W0 at ho hB hR ⊢
  go_wp2_with (refine wpList_load_mid rfl 31 (.tmp 1) rfl w.heap.size 0 rfl (rowA 32 (bF d)).toList _ hR Tryd.underlying31 rfl (by rw [rowA_toList]; simpa using info31) ?_)
  clear hR
  go_loopw [3, 8] (fun v i wr => ∃ k : Nat, k ≤ 32 ∧ i = .int .i64 k ∧ wr.ownsRow w.heap.size 5 1 v (2 * k) ((hexL d k).map fun b => .int .u8 (bN b)) ∧ Below w.heap.size w wr) (fun _ i _ => 32 - (intOf i).toNat)
  case atStart => exact ⟨0, by omega, rfl, by simpa [hexL] using ho, hB⟩
  case round =>
    obtain ⟨k, hk, rfl, hown, qB⟩ := hrel
    clear ho hB
    by_cases hlt : k < 32
    · have hix := index_row (P := Tryd.prog) 31 5 _ Tryd.underlying31 Tryd.underlying5 rfl (by kernel_rfl) (bF d) .i64 k hlt
      have ih1 := fun W => index_hex (hiN (d k)) (hiN_lt _) W
      have ih2 := fun W => index_hex (loN (d k)) (loN_lt _) W
      unfold hexS at ih1 ih2
      go_wp2
      go_region_held3 (fun _ => True) (exact trivial)
        ((refine step_append_lies _ (by rfl) (.tmp 11) (.tmp 18) 24 (by rfl) w.heap.size 5 i0 _ 1 1 Tryd.underlying24 hi hz0 hz1 hz2 rfl (by omega) u3 (2 * k) _ (by rfl) ((hown.alloc _).drew) ⟨wr.heap.size, 0, none⟩ 2 2 [.int .u8 (bN (hx (hiN (d k)))), .int .u8 (bN (hx (loN (d k))))] (by rfl) (by rfl) (two_cell _ _ _ _) (by simp [Value.oneCell']) (by omega) (by unfold maxLen; omega) (by omega) (by have := qB.size; simp; omega) (wr.heap.size + 1) (by simp) ?_; intro g' cap' w2 hown' hg1 hat hlt2))
      all_goals
        clear ih1 ih2
        go_wp2
        go_roundw
        case rel =>
          refine ⟨k + 1, by omega, by go_num, ?_, ((qB.alloc qB.size _).drew).grown hg1 (by have := qB.size; simp; omega) (fun g e => (hown.lt g e).1)⟩
          rw [hexL, List.map_append, Nat.mul_add]
          exact hown'
        case measure => simp [intOf]; omega
    · obtain rfl : k = 32 := by omega
      obtain ⟨g, cap, rfl, _, hlt2⟩ := hown.form (by omega)
      have hcv := conv_own hown (by rw [hexL_length])
      go_wp2
      go_ret
      exact ⟨rfl, qB⟩
end Go.Proofs.YtpoebajpmkcjdaaDoor
