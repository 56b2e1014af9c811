/-
  DERIVED. GIVEN WITH THE SEED: THE CARDS: each row of YtchpmdcacpjojaaDoorRows.lean that lists a variable, with what it lists TIED to the program's text (the seventh form; the later family's looks); each row that meets fmt, with fmt's text TOLD by the authors' own Lean function (tested against real Go, not proved from fmt's source: count such statements apart). THE CARD IS WHAT COUNTS. Prove the row's statement (the work); the ties are given (YtchpmdcacpjojaaDoorTie.lean); close each card by the builder's one call (the guide's Derived/Test/ToyasCard.lean, 'card_holds'). Laid BY PROGRAM, IN A SANDBOX (cutbox-door.mjs). By AI agents, Wed Nov 11 2026. No macro, syntax, notation, axiom, sorry.
-/
import Derived.Test.YtchpmdcacpjojaaDoorRows
import GoSem.ClaimSeven
namespace Go.Proofs.YtchpmdcacpjojaaDoor
namespace Rows

/-- THE TIED CARD OF 'inspeximuslaw13.PartActs'. -/
def partActsCard : Claim7 := { stood := { row := partActsRow, standIns := [], harness := (true, "0b27bb2578eb69dbf1583f298ba19f000666b0c76e07997f010c8d711dd49e4e"), looks := false }, kinds := [], alts := [], laidByText := true, laidKinds := [.data, .data], laidTests := true, laidLooks := .later }
def PartActsCardSaid : Prop := Claim7.holds Tryd.pinned (.plain (OpenSpec.ofChange partActsSpec)) partActsCard

/-- THE TIED CARD OF 'inspeximuslaw13.PartReceipts'. -/
def partReceiptsCard : Claim7 := { stood := { row := partReceiptsRow, standIns := [], harness := (true, "0b27bb2578eb69dbf1583f298ba19f000666b0c76e07997f010c8d711dd49e4e"), looks := false }, kinds := [], alts := [], laidByText := true, laidKinds := [.data, .data], laidTests := true, laidLooks := .later }
def PartReceiptsCardSaid : Prop := Claim7.holds Tryd.pinned (.plain (OpenSpec.ofChange partReceiptsSpec)) partReceiptsCard

/-- THE TIED CARD OF 'inspeximuslaw13.PartOnce'. -/
def partOnceCard : Claim7 := { stood := { row := partOnceRow, standIns := [], harness := (true, "0b27bb2578eb69dbf1583f298ba19f000666b0c76e07997f010c8d711dd49e4e"), looks := false }, kinds := [], alts := [], laidByText := true, laidKinds := [.data, .data], laidTests := true, laidLooks := .later }
def PartOnceCardSaid : Prop := Claim7.holds Tryd.pinned (.plain (OpenSpec.ofChange partOnceSpec)) partOnceCard

/-- THE TIED CARD OF 'inspeximuslaw13.PartAgain'. -/
def partAgainCard : Claim7 := { stood := { row := partAgainRow, standIns := [], harness := (true, "0b27bb2578eb69dbf1583f298ba19f000666b0c76e07997f010c8d711dd49e4e"), looks := false }, kinds := [], alts := [], laidByText := true, laidKinds := [.data, .data], laidTests := true, laidLooks := .later }
def PartAgainCardSaid : Prop := Claim7.holds Tryd.pinned (.plain (OpenSpec.ofChange partAgainSpec)) partAgainCard

/-- THE TIED CARD OF 'inspeximuslaw13.PartApart'. -/
def partApartCard : Claim7 := { stood := { row := partApartRow, standIns := [], harness := (true, "0b27bb2578eb69dbf1583f298ba19f000666b0c76e07997f010c8d711dd49e4e"), looks := false }, kinds := [], alts := [], laidByText := true, laidKinds := [.data, .data], laidTests := true, laidLooks := .later }
def PartApartCardSaid : Prop := Claim7.holds Tryd.pinned (.plain (OpenSpec.ofChange partApartSpec)) partApartCard

/-- THE TIED CARD OF 'inspeximuslaw13.PartRefuses'. -/
def partRefusesCard : Claim7 := { stood := { row := partRefusesRow, standIns := [], harness := (true, "0b27bb2578eb69dbf1583f298ba19f000666b0c76e07997f010c8d711dd49e4e"), looks := false }, kinds := [], alts := [], laidByText := true, laidKinds := [.data, .data], laidTests := true, laidLooks := .later }
def PartRefusesCardSaid : Prop := Claim7.holds Tryd.pinned (.plain (OpenSpec.ofChange partRefusesSpec)) partRefusesCard

/-- THE SECOND FORM's CARD OF 'inspeximuslaw13.PartActs'. -/
def partActsUptoCard : Claim7 := { stood := { row := partActsUptoRow, standIns := [], harness := (true, "0b27bb2578eb69dbf1583f298ba19f000666b0c76e07997f010c8d711dd49e4e"), looks := false }, kinds := [], alts := [], laidByText := true, laidKinds := [.data, .data], laidTests := true, laidLooks := .later }
def PartActsUptoCardSaid : Prop := Claim7.holds Tryd.pinned (.plain (OpenSpec.upto partActsSpec)) partActsUptoCard

/-- THE SECOND FORM's CARD OF 'inspeximuslaw13.PartReceipts'. -/
def partReceiptsUptoCard : Claim7 := { stood := { row := partReceiptsUptoRow, standIns := [], harness := (true, "0b27bb2578eb69dbf1583f298ba19f000666b0c76e07997f010c8d711dd49e4e"), looks := false }, kinds := [], alts := [], laidByText := true, laidKinds := [.data, .data], laidTests := true, laidLooks := .later }
def PartReceiptsUptoCardSaid : Prop := Claim7.holds Tryd.pinned (.plain (OpenSpec.upto partReceiptsSpec)) partReceiptsUptoCard

/-- THE SECOND FORM's CARD OF 'inspeximuslaw13.PartOnce'. -/
def partOnceUptoCard : Claim7 := { stood := { row := partOnceUptoRow, standIns := [], harness := (true, "0b27bb2578eb69dbf1583f298ba19f000666b0c76e07997f010c8d711dd49e4e"), looks := false }, kinds := [], alts := [], laidByText := true, laidKinds := [.data, .data], laidTests := true, laidLooks := .later }
def PartOnceUptoCardSaid : Prop := Claim7.holds Tryd.pinned (.plain (OpenSpec.upto partOnceSpec)) partOnceUptoCard

/-- THE SECOND FORM's CARD OF 'inspeximuslaw13.PartAgain'. -/
def partAgainUptoCard : Claim7 := { stood := { row := partAgainUptoRow, standIns := [], harness := (true, "0b27bb2578eb69dbf1583f298ba19f000666b0c76e07997f010c8d711dd49e4e"), looks := false }, kinds := [], alts := [], laidByText := true, laidKinds := [.data, .data], laidTests := true, laidLooks := .later }
def PartAgainUptoCardSaid : Prop := Claim7.holds Tryd.pinned (.plain (OpenSpec.upto partAgainSpec)) partAgainUptoCard

/-- THE SECOND FORM's CARD OF 'inspeximuslaw13.PartApart'. -/
def partApartUptoCard : Claim7 := { stood := { row := partApartUptoRow, standIns := [], harness := (true, "0b27bb2578eb69dbf1583f298ba19f000666b0c76e07997f010c8d711dd49e4e"), looks := false }, kinds := [], alts := [], laidByText := true, laidKinds := [.data, .data], laidTests := true, laidLooks := .later }
def PartApartUptoCardSaid : Prop := Claim7.holds Tryd.pinned (.plain (OpenSpec.upto partApartSpec)) partApartUptoCard

/-- THE SECOND FORM's CARD OF 'inspeximuslaw13.PartRefuses'. -/
def partRefusesUptoCard : Claim7 := { stood := { row := partRefusesUptoRow, standIns := [], harness := (true, "0b27bb2578eb69dbf1583f298ba19f000666b0c76e07997f010c8d711dd49e4e"), looks := false }, kinds := [], alts := [], laidByText := true, laidKinds := [.data, .data], laidTests := true, laidLooks := .later }
def PartRefusesUptoCardSaid : Prop := Claim7.holds Tryd.pinned (.plain (OpenSpec.upto partRefusesSpec)) partRefusesUptoCard
end Rows
end Go.Proofs.YtchpmdcacpjojaaDoor
