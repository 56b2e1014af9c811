/-
  DERIVED. GIVEN WITH THE SEED: THE CARDS: each row of YtbejolbknimmmaaDoorRows.lean that lists a variable, with what it lists TIED to the program's text (the seventh form; the later family's looks); each row that meets fmt, with fmt's text TOLD by the authors' own Lean function (tested against real Go, not proved from fmt's source: count such statements apart). THE CARD IS WHAT COUNTS. Prove the row's statement (the work); the ties are given (YtbejolbknimmmaaDoorTie.lean); close each card by the builder's one call (the guide's Derived/Test/ToyasCard.lean, 'card_holds'). Laid BY PROGRAM, IN A SANDBOX (cutbox-door.mjs). By AI agents, Wed Nov 11 2026. No macro, syntax, notation, axiom, sorry.
-/
import Derived.Test.YtbejolbknimmmaaDoorRows
import GoSem.ClaimSeven
namespace Go.Proofs.YtbejolbknimmmaaDoor
namespace Rows

/-- THE TIED CARD OF 'inspeximuslaw09.LogActs'. -/
def logActsCard : Claim7 := { stood := { row := logActsRow, standIns := [], harness := (true, "1460bdeb970365909939cf28f1139b455bb56554a84dbe1e13661bcb5e35c208"), looks := false }, kinds := [], alts := [], laidByText := true, laidKinds := [.data, .data], laidTests := true, laidLooks := .later }
def LogActsCardSaid : Prop := Claim7.holds Tryd.pinned (.plain (OpenSpec.ofChange logActsSpec)) logActsCard

/-- THE TIED CARD OF 'inspeximuslaw09.LogCrash'. -/
def logCrashCard : Claim7 := { stood := { row := logCrashRow, standIns := [], harness := (true, "1460bdeb970365909939cf28f1139b455bb56554a84dbe1e13661bcb5e35c208"), looks := false }, kinds := [], alts := [], laidByText := true, laidKinds := [.data, .data], laidTests := true, laidLooks := .later }
def LogCrashCardSaid : Prop := Claim7.holds Tryd.pinned (.plain (OpenSpec.ofChange logCrashSpec)) logCrashCard

/-- THE TIED CARD OF 'inspeximuslaw09.LogAgain'. -/
def logAgainCard : Claim7 := { stood := { row := logAgainRow, standIns := [], harness := (true, "1460bdeb970365909939cf28f1139b455bb56554a84dbe1e13661bcb5e35c208"), looks := false }, kinds := [], alts := [], laidByText := true, laidKinds := [.data, .data], laidTests := true, laidLooks := .later }
def LogAgainCardSaid : Prop := Claim7.holds Tryd.pinned (.plain (OpenSpec.ofChange logAgainSpec)) logAgainCard

/-- THE TIED CARD OF 'inspeximuslaw09.LogSize'. -/
def logSizeCard : Claim7 := { stood := { row := logSizeRow, standIns := [], harness := (true, "1460bdeb970365909939cf28f1139b455bb56554a84dbe1e13661bcb5e35c208"), looks := false }, kinds := [], alts := [], laidByText := true, laidKinds := [.data, .data], laidTests := true, laidLooks := .later }
def LogSizeCardSaid : Prop := Claim7.holds Tryd.pinned (.plain (OpenSpec.ofChange logSizeSpec)) logSizeCard

/-- THE TIED CARD OF 'inspeximuslaw09.LogChained'. -/
def logChainedCard : Claim7 := { stood := { row := logChainedRow, standIns := [], harness := (true, "1460bdeb970365909939cf28f1139b455bb56554a84dbe1e13661bcb5e35c208"), looks := false }, kinds := [], alts := [], laidByText := true, laidKinds := [.data, .data], laidTests := true, laidLooks := .later }
def LogChainedCardSaid : Prop := Claim7.holds Tryd.pinned (.plain (OpenSpec.ofChange logChainedSpec)) logChainedCard

/-- THE TIED CARD OF 'inspeximuslaw09.LogTorn'. -/
def logTornCard : Claim7 := { stood := { row := logTornRow, standIns := [], harness := (true, "1460bdeb970365909939cf28f1139b455bb56554a84dbe1e13661bcb5e35c208"), looks := false }, kinds := [], alts := [], laidByText := true, laidKinds := [.data, .data], laidTests := true, laidLooks := .later }
def LogTornCardSaid : Prop := Claim7.holds Tryd.pinned (.plain (OpenSpec.ofChange logTornSpec)) logTornCard

/-- THE SECOND FORM's CARD OF 'inspeximuslaw09.LogActs'. -/
def logActsUptoCard : Claim7 := { stood := { row := logActsUptoRow, standIns := [], harness := (true, "1460bdeb970365909939cf28f1139b455bb56554a84dbe1e13661bcb5e35c208"), looks := false }, kinds := [], alts := [], laidByText := true, laidKinds := [.data, .data], laidTests := true, laidLooks := .later }
def LogActsUptoCardSaid : Prop := Claim7.holds Tryd.pinned (.plain (OpenSpec.upto logActsSpec)) logActsUptoCard

/-- THE SECOND FORM's CARD OF 'inspeximuslaw09.LogCrash'. -/
def logCrashUptoCard : Claim7 := { stood := { row := logCrashUptoRow, standIns := [], harness := (true, "1460bdeb970365909939cf28f1139b455bb56554a84dbe1e13661bcb5e35c208"), looks := false }, kinds := [], alts := [], laidByText := true, laidKinds := [.data, .data], laidTests := true, laidLooks := .later }
def LogCrashUptoCardSaid : Prop := Claim7.holds Tryd.pinned (.plain (OpenSpec.upto logCrashSpec)) logCrashUptoCard

/-- THE SECOND FORM's CARD OF 'inspeximuslaw09.LogAgain'. -/
def logAgainUptoCard : Claim7 := { stood := { row := logAgainUptoRow, standIns := [], harness := (true, "1460bdeb970365909939cf28f1139b455bb56554a84dbe1e13661bcb5e35c208"), looks := false }, kinds := [], alts := [], laidByText := true, laidKinds := [.data, .data], laidTests := true, laidLooks := .later }
def LogAgainUptoCardSaid : Prop := Claim7.holds Tryd.pinned (.plain (OpenSpec.upto logAgainSpec)) logAgainUptoCard

/-- THE SECOND FORM's CARD OF 'inspeximuslaw09.LogSize'. -/
def logSizeUptoCard : Claim7 := { stood := { row := logSizeUptoRow, standIns := [], harness := (true, "1460bdeb970365909939cf28f1139b455bb56554a84dbe1e13661bcb5e35c208"), looks := false }, kinds := [], alts := [], laidByText := true, laidKinds := [.data, .data], laidTests := true, laidLooks := .later }
def LogSizeUptoCardSaid : Prop := Claim7.holds Tryd.pinned (.plain (OpenSpec.upto logSizeSpec)) logSizeUptoCard

/-- THE SECOND FORM's CARD OF 'inspeximuslaw09.LogChained'. -/
def logChainedUptoCard : Claim7 := { stood := { row := logChainedUptoRow, standIns := [], harness := (true, "1460bdeb970365909939cf28f1139b455bb56554a84dbe1e13661bcb5e35c208"), looks := false }, kinds := [], alts := [], laidByText := true, laidKinds := [.data, .data], laidTests := true, laidLooks := .later }
def LogChainedUptoCardSaid : Prop := Claim7.holds Tryd.pinned (.plain (OpenSpec.upto logChainedSpec)) logChainedUptoCard

/-- THE SECOND FORM's CARD OF 'inspeximuslaw09.LogTorn'. -/
def logTornUptoCard : Claim7 := { stood := { row := logTornUptoRow, standIns := [], harness := (true, "1460bdeb970365909939cf28f1139b455bb56554a84dbe1e13661bcb5e35c208"), looks := false }, kinds := [], alts := [], laidByText := true, laidKinds := [.data, .data], laidTests := true, laidLooks := .later }
def LogTornUptoCardSaid : Prop := Claim7.holds Tryd.pinned (.plain (OpenSpec.upto logTornSpec)) logTornUptoCard
end Rows
end Go.Proofs.YtbejolbknimmmaaDoor
