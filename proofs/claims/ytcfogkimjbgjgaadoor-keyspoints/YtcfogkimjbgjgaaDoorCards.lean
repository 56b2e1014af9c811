/-
  DERIVED. GIVEN WITH THE SEED: THE CARDS: each row of YtcfogkimjbgjgaaDoorRows.lean that lists a variable, with what it lists TIED to the program's text (the seventh form; the later family's looks); each row that meets fmt, with fmt's text TOLD by the authors' own Lean function (tested against real Go, not proved from fmt's source: count such statements apart). THE CARD IS WHAT COUNTS. Prove the row's statement (the work); the ties are given (YtcfogkimjbgjgaaDoorTie.lean); close each card by the builder's one call (the guide's Derived/Test/ToyasCard.lean, 'card_holds'). Laid BY PROGRAM, IN A SANDBOX (cutbox-door.mjs). By AI agents, Wed Nov 11 2026. No macro, syntax, notation, axiom, sorry.
-/
import Derived.Test.YtcfogkimjbgjgaaDoorRows
import GoSem.ClaimSeven
namespace Go.Proofs.YtcfogkimjbgjgaaDoor
namespace Rows

/-- THE TIED CARD OF 'inspeximuslaw10.KeysTags'. -/
def keysTagsCard : Claim7 := { stood := { row := keysTagsRow, standIns := [], harness := (true, "7e4d7fdb4aa202060f71832508d80a469edcdbc41cd7c90e40a3084f40a3c355"), looks := false }, kinds := [], alts := [], laidByText := true, laidKinds := [.data, .data], laidTests := true, laidLooks := .later }
def KeysTagsCardSaid : Prop := Claim7.holds Tryd.pinned (.plain (OpenSpec.ofChange keysTagsSpec)) keysTagsCard

/-- THE TIED CARD OF 'inspeximuslaw10.KeysPoints'. -/
def keysPointsCard : Claim7 := { stood := { row := keysPointsRow, standIns := [], harness := (true, "7e4d7fdb4aa202060f71832508d80a469edcdbc41cd7c90e40a3084f40a3c355"), looks := false }, kinds := [], alts := [], laidByText := true, laidKinds := [.data, .data], laidTests := true, laidLooks := .later }
def KeysPointsCardSaid : Prop := Claim7.holds Tryd.pinned (.plain (OpenSpec.ofChange keysPointsSpec)) keysPointsCard

/-- THE TIED CARD OF 'inspeximuslaw10.KeysHold'. -/
def keysHoldCard : Claim7 := { stood := { row := keysHoldRow, standIns := [], harness := (true, "7e4d7fdb4aa202060f71832508d80a469edcdbc41cd7c90e40a3084f40a3c355"), looks := false }, kinds := [], alts := [], laidByText := true, laidKinds := [.data, .data], laidTests := true, laidLooks := .later }
def KeysHoldCardSaid : Prop := Claim7.holds Tryd.pinned (.plain (OpenSpec.ofChange keysHoldSpec)) keysHoldCard

/-- THE TIED CARD OF 'inspeximuslaw10.KeysEnough'. -/
def keysEnoughCard : Claim7 := { stood := { row := keysEnoughRow, standIns := [], harness := (true, "7e4d7fdb4aa202060f71832508d80a469edcdbc41cd7c90e40a3084f40a3c355"), looks := false }, kinds := [], alts := [], laidByText := true, laidKinds := [.data, .data], laidTests := true, laidLooks := .later }
def KeysEnoughCardSaid : Prop := Claim7.holds Tryd.pinned (.plain (OpenSpec.ofChange keysEnoughSpec)) keysEnoughCard

/-- THE TIED CARD OF 'inspeximuslaw10.KeysApart'. -/
def keysApartCard : Claim7 := { stood := { row := keysApartRow, standIns := [], harness := (true, "7e4d7fdb4aa202060f71832508d80a469edcdbc41cd7c90e40a3084f40a3c355"), looks := false }, kinds := [], alts := [], laidByText := true, laidKinds := [.data, .data], laidTests := true, laidLooks := .later }
def KeysApartCardSaid : Prop := Claim7.holds Tryd.pinned (.plain (OpenSpec.ofChange keysApartSpec)) keysApartCard

/-- THE TIED CARD OF 'inspeximuslaw10.KeysBare'. -/
def keysBareCard : Claim7 := { stood := { row := keysBareRow, standIns := [], harness := (true, "7e4d7fdb4aa202060f71832508d80a469edcdbc41cd7c90e40a3084f40a3c355"), looks := false }, kinds := [], alts := [], laidByText := true, laidKinds := [.data, .data], laidTests := true, laidLooks := .later }
def KeysBareCardSaid : Prop := Claim7.holds Tryd.pinned (.plain (OpenSpec.ofChange keysBareSpec)) keysBareCard

/-- THE TIED CARD OF 'inspeximuslaw10.KeysNone'. -/
def keysNoneCard : Claim7 := { stood := { row := keysNoneRow, standIns := [], harness := (true, "7e4d7fdb4aa202060f71832508d80a469edcdbc41cd7c90e40a3084f40a3c355"), looks := false }, kinds := [], alts := [], laidByText := true, laidKinds := [.data, .data], laidTests := true, laidLooks := .later }
def KeysNoneCardSaid : Prop := Claim7.holds Tryd.pinned (.plain (OpenSpec.ofChange keysNoneSpec)) keysNoneCard

/-- THE SECOND FORM's CARD OF 'inspeximuslaw10.KeysTags'. -/
def keysTagsUptoCard : Claim7 := { stood := { row := keysTagsUptoRow, standIns := [], harness := (true, "7e4d7fdb4aa202060f71832508d80a469edcdbc41cd7c90e40a3084f40a3c355"), looks := false }, kinds := [], alts := [], laidByText := true, laidKinds := [.data, .data], laidTests := true, laidLooks := .later }
def KeysTagsUptoCardSaid : Prop := Claim7.holds Tryd.pinned (.plain (OpenSpec.upto keysTagsSpec)) keysTagsUptoCard

/-- THE SECOND FORM's CARD OF 'inspeximuslaw10.KeysPoints'. -/
def keysPointsUptoCard : Claim7 := { stood := { row := keysPointsUptoRow, standIns := [], harness := (true, "7e4d7fdb4aa202060f71832508d80a469edcdbc41cd7c90e40a3084f40a3c355"), looks := false }, kinds := [], alts := [], laidByText := true, laidKinds := [.data, .data], laidTests := true, laidLooks := .later }
def KeysPointsUptoCardSaid : Prop := Claim7.holds Tryd.pinned (.plain (OpenSpec.upto keysPointsSpec)) keysPointsUptoCard

/-- THE SECOND FORM's CARD OF 'inspeximuslaw10.KeysHold'. -/
def keysHoldUptoCard : Claim7 := { stood := { row := keysHoldUptoRow, standIns := [], harness := (true, "7e4d7fdb4aa202060f71832508d80a469edcdbc41cd7c90e40a3084f40a3c355"), looks := false }, kinds := [], alts := [], laidByText := true, laidKinds := [.data, .data], laidTests := true, laidLooks := .later }
def KeysHoldUptoCardSaid : Prop := Claim7.holds Tryd.pinned (.plain (OpenSpec.upto keysHoldSpec)) keysHoldUptoCard

/-- THE SECOND FORM's CARD OF 'inspeximuslaw10.KeysEnough'. -/
def keysEnoughUptoCard : Claim7 := { stood := { row := keysEnoughUptoRow, standIns := [], harness := (true, "7e4d7fdb4aa202060f71832508d80a469edcdbc41cd7c90e40a3084f40a3c355"), looks := false }, kinds := [], alts := [], laidByText := true, laidKinds := [.data, .data], laidTests := true, laidLooks := .later }
def KeysEnoughUptoCardSaid : Prop := Claim7.holds Tryd.pinned (.plain (OpenSpec.upto keysEnoughSpec)) keysEnoughUptoCard

/-- THE SECOND FORM's CARD OF 'inspeximuslaw10.KeysApart'. -/
def keysApartUptoCard : Claim7 := { stood := { row := keysApartUptoRow, standIns := [], harness := (true, "7e4d7fdb4aa202060f71832508d80a469edcdbc41cd7c90e40a3084f40a3c355"), looks := false }, kinds := [], alts := [], laidByText := true, laidKinds := [.data, .data], laidTests := true, laidLooks := .later }
def KeysApartUptoCardSaid : Prop := Claim7.holds Tryd.pinned (.plain (OpenSpec.upto keysApartSpec)) keysApartUptoCard

/-- THE SECOND FORM's CARD OF 'inspeximuslaw10.KeysBare'. -/
def keysBareUptoCard : Claim7 := { stood := { row := keysBareUptoRow, standIns := [], harness := (true, "7e4d7fdb4aa202060f71832508d80a469edcdbc41cd7c90e40a3084f40a3c355"), looks := false }, kinds := [], alts := [], laidByText := true, laidKinds := [.data, .data], laidTests := true, laidLooks := .later }
def KeysBareUptoCardSaid : Prop := Claim7.holds Tryd.pinned (.plain (OpenSpec.upto keysBareSpec)) keysBareUptoCard

/-- THE SECOND FORM's CARD OF 'inspeximuslaw10.KeysNone'. -/
def keysNoneUptoCard : Claim7 := { stood := { row := keysNoneUptoRow, standIns := [], harness := (true, "7e4d7fdb4aa202060f71832508d80a469edcdbc41cd7c90e40a3084f40a3c355"), looks := false }, kinds := [], alts := [], laidByText := true, laidKinds := [.data, .data], laidTests := true, laidLooks := .later }
def KeysNoneUptoCardSaid : Prop := Claim7.holds Tryd.pinned (.plain (OpenSpec.upto keysNoneSpec)) keysNoneUptoCard
end Rows
end Go.Proofs.YtcfogkimjbgjgaaDoor
