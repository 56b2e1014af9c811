/- Slices of numbers that read as lists. -/
import Derived.Test.YteelddmegmojpaaCore2
namespace Go.Proofs.Yteelddmegmojpaa
open Go Go.RowKit
/-- A slice of numbers reads as is. -/
def RdI (W : World) (v : Value) (is : List Int) : Prop :=
  ∃ A cap, v = .slice A is.length cap ∧ is.length ≤ cap ∧ cap ≤ maxLen ∧ (0 < is.length → ∃ b o, A = some ⟨b, o, none⟩ ∧ ∀ i, i < is.length → W.cell? ⟨b, o + i, none⟩ = some (.int .i64 (is.getD i 0)))
theorem NewT.ints {w w' : World} (h : NewT w w') {v : Value} {is : List Int} (hr : RdI w v is) : RdI w' v is := by
  obtain ⟨A, cap, hv, h1, h2, h3⟩ := hr
  refine ⟨A, cap, hv, h1, h2, fun h0 => ?_⟩
  obtain ⟨b, o, hA, hc⟩ := h3 h0
  refine ⟨b, o, hA, fun i hi => (h.out.cell (p := ⟨b, o + i, none⟩) (World.block_lt_of_cell? _ _ (hc i hi))).trans (hc i hi)⟩
def svInts (is : List Int) : SV NewT := ⟨fun v w => RdI w v is, fun _ _ _ h hT => hT.ints h⟩
end Go.Proofs.Yteelddmegmojpaa
