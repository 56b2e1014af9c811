/-
  DERIVED. GIVEN WITH THE SEED: THE CARDS: each row of YtilmeffmdgcblaaDoorRows.lean that lists a variable, with what it lists TIED to the program's text (the seventh form; the later family's looks); each row that meets fmt, with fmt's text TOLD by the authors' own Lean function (tested against real Go, not proved from fmt's source: count such statements apart). THE CARD IS WHAT COUNTS. Prove the row's statement (the work); the ties are given (YtilmeffmdgcblaaDoorTie.lean); close each card by the builder's one call (the guide's Derived/Test/ToyasCard.lean, 'card_holds'). Laid BY PROGRAM, IN A SANDBOX (cutbox-door.mjs). By AI agents, Wed Nov 11 2026. No macro, syntax, notation, axiom, sorry.
-/
import Derived.Test.YtilmeffmdgcblaaDoorRows
import GoSem.ClaimSeven
namespace Go.Proofs.YtilmeffmdgcblaaDoor
namespace Rows

/-- THE TIED CARD OF 'inspeximuslaw12.BookGone'. -/
def bookGoneCard : Claim7 := { stood := { row := bookGoneRow, standIns := [], harness := (true, "02d7af5af8d5a163691a9ed11ea5734dbb558ee2a5e4839a05dc113c87dbc480"), looks := false }, kinds := [], alts := [], laidByText := true, laidKinds := [.data, .data], laidTests := true, laidLooks := .later }
def BookGoneCardSaid : Prop := Claim7.holds Tryd.pinned (.plain (OpenSpec.ofChange bookGoneSpec)) bookGoneCard

/-- THE SECOND FORM's CARD OF 'inspeximuslaw12.BookGone'. -/
def bookGoneUptoCard : Claim7 := { stood := { row := bookGoneUptoRow, standIns := [], harness := (true, "02d7af5af8d5a163691a9ed11ea5734dbb558ee2a5e4839a05dc113c87dbc480"), looks := false }, kinds := [], alts := [], laidByText := true, laidKinds := [.data, .data], laidTests := true, laidLooks := .later }
def BookGoneUptoCardSaid : Prop := Claim7.holds Tryd.pinned (.plain (OpenSpec.upto bookGoneSpec)) bookGoneUptoCard
end Rows
end Go.Proofs.YtilmeffmdgcblaaDoor
