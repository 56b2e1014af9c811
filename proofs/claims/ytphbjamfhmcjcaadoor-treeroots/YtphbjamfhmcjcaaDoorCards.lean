/-
  DERIVED. GIVEN WITH THE SEED: THE CARDS: each row of YtphbjamfhmcjcaaDoorRows.lean that lists a variable, with what it lists TIED to the program's text (the seventh form; the later family's looks); each row that meets fmt, with fmt's text TOLD by the authors' own Lean function (tested against real Go, not proved from fmt's source: count such statements apart). THE CARD IS WHAT COUNTS. Prove the row's statement (the work); the ties are given (YtphbjamfhmcjcaaDoorTie.lean); close each card by the builder's one call (the guide's Derived/Test/ToyasCard.lean, 'card_holds'). Laid BY PROGRAM, IN A SANDBOX (cutbox-door.mjs). By AI agents, Wed Nov 11 2026. No macro, syntax, notation, axiom, sorry.
-/
import Derived.Test.YtphbjamfhmcjcaaDoorRows
import GoSem.ClaimSeven
namespace Go.Proofs.YtphbjamfhmcjcaaDoor
namespace Rows

/-- THE TIED CARD OF 'inspeximuslaw05.TreeHashes'. -/
def treeHashesCard : Claim7 := { stood := { row := treeHashesRow, standIns := [], harness := (true, "c61b00752c85557b32594bc2b7bdaa1c32582645a5781f123558abb8e7033014"), looks := false }, kinds := [], alts := [], laidByText := true, laidKinds := [.data, .data], laidTests := true, laidLooks := .later }
def TreeHashesCardSaid : Prop := Claim7.holds Tryd.pinned (.plain (OpenSpec.ofChange treeHashesSpec)) treeHashesCard

/-- THE TIED CARD OF 'inspeximuslaw05.TreeRoots'. -/
def treeRootsCard : Claim7 := { stood := { row := treeRootsRow, standIns := [], harness := (true, "c61b00752c85557b32594bc2b7bdaa1c32582645a5781f123558abb8e7033014"), looks := false }, kinds := [], alts := [], laidByText := true, laidKinds := [.data, .data], laidTests := true, laidLooks := .later }
def TreeRootsCardSaid : Prop := Claim7.holds Tryd.pinned (.plain (OpenSpec.ofChange treeRootsSpec)) treeRootsCard

/-- THE TIED CARD OF 'inspeximuslaw05.TreeFronts'. -/
def treeFrontsCard : Claim7 := { stood := { row := treeFrontsRow, standIns := [], harness := (true, "c61b00752c85557b32594bc2b7bdaa1c32582645a5781f123558abb8e7033014"), looks := false }, kinds := [], alts := [], laidByText := true, laidKinds := [.data, .data], laidTests := true, laidLooks := .later }
def TreeFrontsCardSaid : Prop := Claim7.holds Tryd.pinned (.plain (OpenSpec.ofChange treeFrontsSpec)) treeFrontsCard

/-- THE TIED CARD OF 'inspeximuslaw05.TreeHalves'. -/
def treeHalvesCard : Claim7 := { stood := { row := treeHalvesRow, standIns := [], harness := (true, "c61b00752c85557b32594bc2b7bdaa1c32582645a5781f123558abb8e7033014"), looks := false }, kinds := [], alts := [], laidByText := true, laidKinds := [.data, .data], laidTests := true, laidLooks := .later }
def TreeHalvesCardSaid : Prop := Claim7.holds Tryd.pinned (.plain (OpenSpec.ofChange treeHalvesSpec)) treeHalvesCard

/-- THE TIED CARD OF 'inspeximuslaw05.TreeGrows'. -/
def treeGrowsCard : Claim7 := { stood := { row := treeGrowsRow, standIns := [], harness := (true, "c61b00752c85557b32594bc2b7bdaa1c32582645a5781f123558abb8e7033014"), looks := false }, kinds := [], alts := [], laidByText := true, laidKinds := [.data, .data], laidTests := true, laidLooks := .later }
def TreeGrowsCardSaid : Prop := Claim7.holds Tryd.pinned (.plain (OpenSpec.ofChange treeGrowsSpec)) treeGrowsCard

/-- THE TIED CARD OF 'inspeximuslaw05.TreePairs'. -/
def treePairsCard : Claim7 := { stood := { row := treePairsRow, standIns := [], harness := (true, "c61b00752c85557b32594bc2b7bdaa1c32582645a5781f123558abb8e7033014"), looks := false }, kinds := [], alts := [], laidByText := true, laidKinds := [.data, .data], laidTests := true, laidLooks := .later }
def TreePairsCardSaid : Prop := Claim7.holds Tryd.pinned (.plain (OpenSpec.ofChange treePairsSpec)) treePairsCard

/-- THE SECOND FORM's CARD OF 'inspeximuslaw05.TreeHashes'. -/
def treeHashesUptoCard : Claim7 := { stood := { row := treeHashesUptoRow, standIns := [], harness := (true, "c61b00752c85557b32594bc2b7bdaa1c32582645a5781f123558abb8e7033014"), looks := false }, kinds := [], alts := [], laidByText := true, laidKinds := [.data, .data], laidTests := true, laidLooks := .later }
def TreeHashesUptoCardSaid : Prop := Claim7.holds Tryd.pinned (.plain (OpenSpec.upto treeHashesSpec)) treeHashesUptoCard

/-- THE SECOND FORM's CARD OF 'inspeximuslaw05.TreeRoots'. -/
def treeRootsUptoCard : Claim7 := { stood := { row := treeRootsUptoRow, standIns := [], harness := (true, "c61b00752c85557b32594bc2b7bdaa1c32582645a5781f123558abb8e7033014"), looks := false }, kinds := [], alts := [], laidByText := true, laidKinds := [.data, .data], laidTests := true, laidLooks := .later }
def TreeRootsUptoCardSaid : Prop := Claim7.holds Tryd.pinned (.plain (OpenSpec.upto treeRootsSpec)) treeRootsUptoCard

/-- THE SECOND FORM's CARD OF 'inspeximuslaw05.TreeFronts'. -/
def treeFrontsUptoCard : Claim7 := { stood := { row := treeFrontsUptoRow, standIns := [], harness := (true, "c61b00752c85557b32594bc2b7bdaa1c32582645a5781f123558abb8e7033014"), looks := false }, kinds := [], alts := [], laidByText := true, laidKinds := [.data, .data], laidTests := true, laidLooks := .later }
def TreeFrontsUptoCardSaid : Prop := Claim7.holds Tryd.pinned (.plain (OpenSpec.upto treeFrontsSpec)) treeFrontsUptoCard

/-- THE SECOND FORM's CARD OF 'inspeximuslaw05.TreeHalves'. -/
def treeHalvesUptoCard : Claim7 := { stood := { row := treeHalvesUptoRow, standIns := [], harness := (true, "c61b00752c85557b32594bc2b7bdaa1c32582645a5781f123558abb8e7033014"), looks := false }, kinds := [], alts := [], laidByText := true, laidKinds := [.data, .data], laidTests := true, laidLooks := .later }
def TreeHalvesUptoCardSaid : Prop := Claim7.holds Tryd.pinned (.plain (OpenSpec.upto treeHalvesSpec)) treeHalvesUptoCard

/-- THE SECOND FORM's CARD OF 'inspeximuslaw05.TreeGrows'. -/
def treeGrowsUptoCard : Claim7 := { stood := { row := treeGrowsUptoRow, standIns := [], harness := (true, "c61b00752c85557b32594bc2b7bdaa1c32582645a5781f123558abb8e7033014"), looks := false }, kinds := [], alts := [], laidByText := true, laidKinds := [.data, .data], laidTests := true, laidLooks := .later }
def TreeGrowsUptoCardSaid : Prop := Claim7.holds Tryd.pinned (.plain (OpenSpec.upto treeGrowsSpec)) treeGrowsUptoCard

/-- THE SECOND FORM's CARD OF 'inspeximuslaw05.TreePairs'. -/
def treePairsUptoCard : Claim7 := { stood := { row := treePairsUptoRow, standIns := [], harness := (true, "c61b00752c85557b32594bc2b7bdaa1c32582645a5781f123558abb8e7033014"), looks := false }, kinds := [], alts := [], laidByText := true, laidKinds := [.data, .data], laidTests := true, laidLooks := .later }
def TreePairsUptoCardSaid : Prop := Claim7.holds Tryd.pinned (.plain (OpenSpec.upto treePairsSpec)) treePairsUptoCard
end Rows
end Go.Proofs.YtphbjamfhmcjcaaDoor
