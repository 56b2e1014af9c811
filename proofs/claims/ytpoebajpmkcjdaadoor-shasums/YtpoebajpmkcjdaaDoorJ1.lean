/- For ShaSums: the reference's Sum and both Hex, near a world that is kept. -/
import Derived.Test.YtpoebajpmkcjdaaDoorI1
import Derived.Test.YtpoebajpmkcjdaaDoorI2
namespace Go.Proofs.YtpoebajpmkcjdaaDoor
open Go.RowKit
theorem info5w : (Tryd.prog.info? 5).map (·.size) = some 1 := by kernel_rfl
theorem equal_hash2 (w : World) (d : Nat → UInt8) : (Op.equalIn 10000 31 (.agg (rowA 32 (bF d))) (.agg (rowA 32 (bF d)))).run Tryd.prog w = .ok true w :=
  equalIn_same w 9998 31 5 32 .u8 Tryd.underlying31 Tryd.underlying5 info5w (fun i => bN (d i))
attribute [local go_sem] equal_hash2
theorem RSum_near (v : Value) (l : List UInt8) (D : Nat → UInt8) (W0 w : World) (hT : Tables W0) (hr : RdV W0 [] v l) (hl : l.length ≤ 1000) (hD : shaL Kc Fc l = D) (hB : Below W0.heap.size W0 w) :
    Calls Tryd.prog 22 #[v] w fun e w' => e = .returned (.agg (rowA 32 (bF D))) ∧ Below W0.heap.size W0 w' := by
  refine (RSum_any v l w (hT.below hB) (hr.keep (KeepBut.below hB)) hl).mono ?_
  rintro e w' ⟨rfl, hb⟩
  exact ⟨by rw [hD], hB.trans (hb.mono hB.size)⟩
theorem Hex_near (d : Nat → UInt8) (L : List Value) (hL : (rowA 32 (bF d)).toList = L) (S : ByteArray) (hS : (⟨(hexL d 32).toArray⟩ : ByteArray) = S) (W0 w : World) (hB : Below W0.heap.size W0 w) :
    Calls Tryd.prog 23 #[.agg L.toArray] w fun e w' => e = .returned (.string S) ∧ Below W0.heap.size W0 w' := by
  subst hL
  refine (Hex_any d w).mono ?_
  rintro e w' ⟨rfl, hb⟩
  exact ⟨by rw [hS], hB.trans (hb.mono hB.size)⟩
theorem RHex_near (d : Nat → UInt8) (L : List Value) (hL : (rowA 32 (bF d)).toList = L) (S : ByteArray) (hS : (⟨(hexL d 32).toArray⟩ : ByteArray) = S) (W0 w : World) (hB : Below W0.heap.size W0 w) :
    Calls Tryd.prog 24 #[.agg L.toArray] w fun e w' => e = .returned (.string S) ∧ Below W0.heap.size W0 w' := by
  subst hL
  refine (RHex_any d w).mono ?_
  rintro e w' ⟨rfl, hb⟩
  exact ⟨by rw [hS], hB.trans (hb.mono hB.size)⟩

end Go.Proofs.YtpoebajpmkcjdaaDoor
