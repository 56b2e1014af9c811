/-
  NARROWER THAN 'FOR EVERY INPUT', by the rows' own cells (each row's printed sentence says how): PartActs: laid · PartReceipts: laid · PartOnce: laid · PartAgain: laid · PartApart: laid · PartRefuses: laid.
  DERIVED. THE GIVEN ROWS OF THIS SEAT. 6 by the template 'for every input the law returns true; each argument reads behind the call as it read before'; 0 by the template 'total and deterministic' (their statements: YtchpmdcacpjojaaDoorTotals.lean).
  GIVEN WITH THE SEED: the statements are not yours to turn. If you find one false, say at which input.
  Laid BY PROGRAM, IN A SANDBOX (cutbox-rows.mjs): the forced cells as the released guide's own fill.sh prints them over the translation 49a785a5893b3b66… (all of the seat's roots in one cut). By AI agents, Wed Nov 11 2026. No macro, syntax, notation, axiom, sorry.
-/
import Derived.Test.YtchpmdcacpjojaaDoorChecked
import GoSem.Claim
import GoSem.ClaimJoined
import GoSem.ClaimMapViews
import Derived.JoinedTies
import Derived.KernelRfl
namespace Go.Proofs.YtchpmdcacpjojaaDoor
/- THE CELL 'sum', in the pinned program and in every row, IS THE sha256 OF THE DUMP (.gsa) THAT YtchpmdcacpjojaaDoorProg.lean LOADS. Nothing in Lean hashes anything: it is a label: what it is worth is what the hold of that sum in a sandbox is worth. -/
noncomputable def Tryd.pinned : Pinned := { name := "ytchpmdcacpjojaadoor", sum := "49a785a5893b3b66ba0a172c3cc3d78e6240c74af02e3c1e04e9c924538fd2ec", checked := Tryd.checked }
namespace Rows
def none {H : Type} : Left H := { results := [], args := [] }

/- WHAT THE LISTED PACKAGE-LEVEL VARIABLES READ AS WHEN THE CALL BEGINS. Each datum BY PROGRAM (the guide's laid-datum.mjs) off the statement by which the dump's own 'gosem.cut.vars' lays the variable. In a bare row this is a premise. The card (YtchpmdcacpjojaaDoorCards.lean) ties it to the program's text. -/
def laid_inspeximus_api_K {H : Type} : DataW H := .agg [.lit (.int .u32 1116352408), .lit (.int .u32 1899447441), .lit (.int .u32 3049323471), .lit (.int .u32 3921009573), .lit (.int .u32 961987163), .lit (.int .u32 1508970993), .lit (.int .u32 2453635748), .lit (.int .u32 2870763221), .lit (.int .u32 3624381080), .lit (.int .u32 310598401), .lit (.int .u32 607225278), .lit (.int .u32 1426881987), .lit (.int .u32 1925078388), .lit (.int .u32 2162078206), .lit (.int .u32 2614888103), .lit (.int .u32 3248222580), .lit (.int .u32 3835390401), .lit (.int .u32 4022224774), .lit (.int .u32 264347078), .lit (.int .u32 604807628), .lit (.int .u32 770255983), .lit (.int .u32 1249150122), .lit (.int .u32 1555081692), .lit (.int .u32 1996064986), .lit (.int .u32 2554220882), .lit (.int .u32 2821834349), .lit (.int .u32 2952996808), .lit (.int .u32 3210313671), .lit (.int .u32 3336571891), .lit (.int .u32 3584528711), .lit (.int .u32 113926993), .lit (.int .u32 338241895), .lit (.int .u32 666307205), .lit (.int .u32 773529912), .lit (.int .u32 1294757372), .lit (.int .u32 1396182291), .lit (.int .u32 1695183700), .lit (.int .u32 1986661051), .lit (.int .u32 2177026350), .lit (.int .u32 2456956037), .lit (.int .u32 2730485921), .lit (.int .u32 2820302411), .lit (.int .u32 3259730800), .lit (.int .u32 3345764771), .lit (.int .u32 3516065817), .lit (.int .u32 3600352804), .lit (.int .u32 4094571909), .lit (.int .u32 275423344), .lit (.int .u32 430227734), .lit (.int .u32 506948616), .lit (.int .u32 659060556), .lit (.int .u32 883997877), .lit (.int .u32 958139571), .lit (.int .u32 1322822218), .lit (.int .u32 1537002063), .lit (.int .u32 1747873779), .lit (.int .u32 1955562222), .lit (.int .u32 2024104815), .lit (.int .u32 2227730452), .lit (.int .u32 2361852424), .lit (.int .u32 2428436474), .lit (.int .u32 2756734187), .lit (.int .u32 3204031479), .lit (.int .u32 3329325298)]
def laid_inspeximus_api_First {H : Type} : DataW H := .agg [.lit (.int .u32 1779033703), .lit (.int .u32 3144134277), .lit (.int .u32 1013904242), .lit (.int .u32 2773480762), .lit (.int .u32 1359893119), .lit (.int .u32 2600822924), .lit (.int .u32 528734635), .lit (.int .u32 1541459225)]

/-- 'inspeximuslaw13.PartActs': WHATEVER THE INPUT: true; the input reads as it did. -/
def partActsSpec : ChangeSpec := { name := "partActs", fn := fun _ => fun
  | [d1, d2, d3] => { results := [.lit (.bool true)], args := [d1, d2, d3] }
  | _ => none }
def partActsRow : OpenClaim := { program := "ytchpmdcacpjojaadoor", sum := "49a785a5893b3b66ba0a172c3cc3d78e6240c74af02e3c1e04e9c924538fd2ec", func := "inspeximus/inspeximuslaw13.PartActs", spec := "partActs", unfollowed := true, recurses := true, named := ["inspeximus/api.First", "inspeximus/api.K"], plainKeys := false, apart := false, laid := [("inspeximus/api.K", laid_inspeximus_api_K), ("inspeximus/api.First", laid_inspeximus_api_First)] }
def PartActsSaid : Prop := partActsRow.holds Tryd.pinned (OpenSpec.ofChange partActsSpec)

/-- ITS FALSE NEIGHBOUR: 'it returns false'. Refute it at one input. -/
def partActsWrong : ChangeSpec := { name := "partActs", fn := fun _ => fun
  | [d1, d2, d3] => { results := [.lit (.bool false)], args := [d1, d2, d3] }
  | _ => none }
def PartActsWrongFalsely : Prop := partActsRow.holds Tryd.pinned (OpenSpec.ofChange partActsWrong)

/-- 'inspeximuslaw13.PartReceipts': WHATEVER THE INPUT: true; the input reads as it did. -/
def partReceiptsSpec : ChangeSpec := { name := "partReceipts", fn := fun _ => fun
  | [d1, d2, d3, d4, d5] => { results := [.lit (.bool true)], args := [d1, d2, d3, d4, d5] }
  | _ => none }
def partReceiptsRow : OpenClaim := { program := "ytchpmdcacpjojaadoor", sum := "49a785a5893b3b66ba0a172c3cc3d78e6240c74af02e3c1e04e9c924538fd2ec", func := "inspeximus/inspeximuslaw13.PartReceipts", spec := "partReceipts", unfollowed := true, recurses := true, named := ["inspeximus/api.First", "inspeximus/api.K"], plainKeys := false, apart := false, laid := [("inspeximus/api.K", laid_inspeximus_api_K), ("inspeximus/api.First", laid_inspeximus_api_First)] }
def PartReceiptsSaid : Prop := partReceiptsRow.holds Tryd.pinned (OpenSpec.ofChange partReceiptsSpec)

/-- ITS FALSE NEIGHBOUR: 'it returns false'. Refute it at one input. -/
def partReceiptsWrong : ChangeSpec := { name := "partReceipts", fn := fun _ => fun
  | [d1, d2, d3, d4, d5] => { results := [.lit (.bool false)], args := [d1, d2, d3, d4, d5] }
  | _ => none }
def PartReceiptsWrongFalsely : Prop := partReceiptsRow.holds Tryd.pinned (OpenSpec.ofChange partReceiptsWrong)

/-- 'inspeximuslaw13.PartOnce': WHATEVER THE INPUT: true; the input reads as it did. -/
def partOnceSpec : ChangeSpec := { name := "partOnce", fn := fun _ => fun
  | [d1, d2, d3] => { results := [.lit (.bool true)], args := [d1, d2, d3] }
  | _ => none }
def partOnceRow : OpenClaim := { program := "ytchpmdcacpjojaadoor", sum := "49a785a5893b3b66ba0a172c3cc3d78e6240c74af02e3c1e04e9c924538fd2ec", func := "inspeximus/inspeximuslaw13.PartOnce", spec := "partOnce", unfollowed := true, recurses := true, named := ["inspeximus/api.First", "inspeximus/api.K"], plainKeys := false, apart := false, laid := [("inspeximus/api.K", laid_inspeximus_api_K), ("inspeximus/api.First", laid_inspeximus_api_First)] }
def PartOnceSaid : Prop := partOnceRow.holds Tryd.pinned (OpenSpec.ofChange partOnceSpec)

/-- ITS FALSE NEIGHBOUR: 'it returns false'. Refute it at one input. -/
def partOnceWrong : ChangeSpec := { name := "partOnce", fn := fun _ => fun
  | [d1, d2, d3] => { results := [.lit (.bool false)], args := [d1, d2, d3] }
  | _ => none }
def PartOnceWrongFalsely : Prop := partOnceRow.holds Tryd.pinned (OpenSpec.ofChange partOnceWrong)

/-- 'inspeximuslaw13.PartAgain': WHATEVER THE INPUT: true; the input reads as it did. -/
def partAgainSpec : ChangeSpec := { name := "partAgain", fn := fun _ => fun
  | [d1, d2, d3, d4] => { results := [.lit (.bool true)], args := [d1, d2, d3, d4] }
  | _ => none }
def partAgainRow : OpenClaim := { program := "ytchpmdcacpjojaadoor", sum := "49a785a5893b3b66ba0a172c3cc3d78e6240c74af02e3c1e04e9c924538fd2ec", func := "inspeximus/inspeximuslaw13.PartAgain", spec := "partAgain", unfollowed := true, recurses := true, named := ["inspeximus/api.First", "inspeximus/api.K"], plainKeys := false, apart := false, laid := [("inspeximus/api.K", laid_inspeximus_api_K), ("inspeximus/api.First", laid_inspeximus_api_First)] }
def PartAgainSaid : Prop := partAgainRow.holds Tryd.pinned (OpenSpec.ofChange partAgainSpec)

/-- ITS FALSE NEIGHBOUR: 'it returns false'. Refute it at one input. -/
def partAgainWrong : ChangeSpec := { name := "partAgain", fn := fun _ => fun
  | [d1, d2, d3, d4] => { results := [.lit (.bool false)], args := [d1, d2, d3, d4] }
  | _ => none }
def PartAgainWrongFalsely : Prop := partAgainRow.holds Tryd.pinned (OpenSpec.ofChange partAgainWrong)

/-- 'inspeximuslaw13.PartApart': WHATEVER THE INPUT: true; the input reads as it did. -/
def partApartSpec : ChangeSpec := { name := "partApart", fn := fun _ => fun
  | [d1, d2, d3, d4] => { results := [.lit (.bool true)], args := [d1, d2, d3, d4] }
  | _ => none }
def partApartRow : OpenClaim := { program := "ytchpmdcacpjojaadoor", sum := "49a785a5893b3b66ba0a172c3cc3d78e6240c74af02e3c1e04e9c924538fd2ec", func := "inspeximus/inspeximuslaw13.PartApart", spec := "partApart", unfollowed := true, recurses := true, named := ["inspeximus/api.First", "inspeximus/api.K"], plainKeys := false, apart := false, laid := [("inspeximus/api.K", laid_inspeximus_api_K), ("inspeximus/api.First", laid_inspeximus_api_First)] }
def PartApartSaid : Prop := partApartRow.holds Tryd.pinned (OpenSpec.ofChange partApartSpec)

/-- ITS FALSE NEIGHBOUR: 'it returns false'. Refute it at one input. -/
def partApartWrong : ChangeSpec := { name := "partApart", fn := fun _ => fun
  | [d1, d2, d3, d4] => { results := [.lit (.bool false)], args := [d1, d2, d3, d4] }
  | _ => none }
def PartApartWrongFalsely : Prop := partApartRow.holds Tryd.pinned (OpenSpec.ofChange partApartWrong)

/-- 'inspeximuslaw13.PartRefuses': WHATEVER THE INPUT: true; the input reads as it did. -/
def partRefusesSpec : ChangeSpec := { name := "partRefuses", fn := fun _ => fun
  | [d1, d2, d3] => { results := [.lit (.bool true)], args := [d1, d2, d3] }
  | _ => none }
def partRefusesRow : OpenClaim := { program := "ytchpmdcacpjojaadoor", sum := "49a785a5893b3b66ba0a172c3cc3d78e6240c74af02e3c1e04e9c924538fd2ec", func := "inspeximus/inspeximuslaw13.PartRefuses", spec := "partRefuses", unfollowed := true, recurses := true, named := ["inspeximus/api.First", "inspeximus/api.K"], plainKeys := false, apart := false, laid := [("inspeximus/api.K", laid_inspeximus_api_K), ("inspeximus/api.First", laid_inspeximus_api_First)] }
def PartRefusesSaid : Prop := partRefusesRow.holds Tryd.pinned (OpenSpec.ofChange partRefusesSpec)

/-- ITS FALSE NEIGHBOUR: 'it returns false'. Refute it at one input. -/
def partRefusesWrong : ChangeSpec := { name := "partRefuses", fn := fun _ => fun
  | [d1, d2, d3] => { results := [.lit (.bool false)], args := [d1, d2, d3] }
  | _ => none }
def PartRefusesWrongFalsely : Prop := partRefusesRow.holds Tryd.pinned (OpenSpec.ofChange partRefusesWrong)

/- THE SECOND FORM. 'bulk': how many values and letters a reading holds, each counted each time it is reached (what is shared counts as often as it is met; a slice's spare places count too). A statement '..UptoSaid' is the law's where the arguments, and the package variables that the reading takes, are together of bulk at most 1048576: NARROWER than '..Said'. Prove '..Said' where nothing that the law and all that it calls make is longer than what came in: it says more and counts as full. Else prove '..UptoSaid'. A law counts once. -/
mutual
def uptoBulk {H : Type} : DataW H → Nat
  | .lit (.string bytes) => bytes.length + 1
  | .lit _ => 1
  | .nil => 1
  | .ptr d => uptoBulk d + 1
  | .slice elems spare => uptoBulkAll elems + uptoBulkAll spare + 1
  | .agg parts => uptoBulkAll parts + 1
  | .iface _ d => uptoBulk d + 1
  | .map entries => uptoBulkEntries entries + 1
  | .held _ => 1
def uptoBulkAll {H : Type} : List (DataW H) → Nat
  | [] => 0
  | d :: r => uptoBulk d + uptoBulkAll r
def uptoBulkEntries {H : Type} : List (Lit × DataW H) → Nat
  | [] => 0
  | x :: r => uptoBulkEntry x + uptoBulkEntries r
def uptoBulkEntry {H : Type} : Lit × DataW H → Nat
  | (.string bytes, d) => bytes.length + uptoBulk d + 1
  | (_, d) => uptoBulk d + 1
 end
def uptoSmall : (H : Type) → List (DataW H) → Bool := fun _ ds => decide (uptoBulkAll ds ≤ 1048576)
def OpenSpec.upto (s : _root_.Go.ChangeSpec) : _root_.Go.OpenSpec := { _root_.Go.OpenSpec.ofChange s with cond := some uptoSmall }

/-- 'inspeximuslaw13.PartActs', WHERE WHAT IT READS IS OF BULK AT MOST 1048576: true; the input reads as it did. -/
def partActsUptoRow : OpenClaim := { program := "ytchpmdcacpjojaadoor", sum := "49a785a5893b3b66ba0a172c3cc3d78e6240c74af02e3c1e04e9c924538fd2ec", func := "inspeximus/inspeximuslaw13.PartActs", spec := "partActs", unfollowed := true, recurses := true, named := ["inspeximus/api.First", "inspeximus/api.K"], plainKeys := false, apart := false, laid := [("inspeximus/api.K", laid_inspeximus_api_K), ("inspeximus/api.First", laid_inspeximus_api_First)], narrowed := true }
def PartActsUptoSaid : Prop := partActsUptoRow.holds Tryd.pinned (OpenSpec.upto partActsSpec)

/-- 'inspeximuslaw13.PartReceipts', WHERE WHAT IT READS IS OF BULK AT MOST 1048576: true; the input reads as it did. -/
def partReceiptsUptoRow : OpenClaim := { program := "ytchpmdcacpjojaadoor", sum := "49a785a5893b3b66ba0a172c3cc3d78e6240c74af02e3c1e04e9c924538fd2ec", func := "inspeximus/inspeximuslaw13.PartReceipts", spec := "partReceipts", unfollowed := true, recurses := true, named := ["inspeximus/api.First", "inspeximus/api.K"], plainKeys := false, apart := false, laid := [("inspeximus/api.K", laid_inspeximus_api_K), ("inspeximus/api.First", laid_inspeximus_api_First)], narrowed := true }
def PartReceiptsUptoSaid : Prop := partReceiptsUptoRow.holds Tryd.pinned (OpenSpec.upto partReceiptsSpec)

/-- 'inspeximuslaw13.PartOnce', WHERE WHAT IT READS IS OF BULK AT MOST 1048576: true; the input reads as it did. -/
def partOnceUptoRow : OpenClaim := { program := "ytchpmdcacpjojaadoor", sum := "49a785a5893b3b66ba0a172c3cc3d78e6240c74af02e3c1e04e9c924538fd2ec", func := "inspeximus/inspeximuslaw13.PartOnce", spec := "partOnce", unfollowed := true, recurses := true, named := ["inspeximus/api.First", "inspeximus/api.K"], plainKeys := false, apart := false, laid := [("inspeximus/api.K", laid_inspeximus_api_K), ("inspeximus/api.First", laid_inspeximus_api_First)], narrowed := true }
def PartOnceUptoSaid : Prop := partOnceUptoRow.holds Tryd.pinned (OpenSpec.upto partOnceSpec)

/-- 'inspeximuslaw13.PartAgain', WHERE WHAT IT READS IS OF BULK AT MOST 1048576: true; the input reads as it did. -/
def partAgainUptoRow : OpenClaim := { program := "ytchpmdcacpjojaadoor", sum := "49a785a5893b3b66ba0a172c3cc3d78e6240c74af02e3c1e04e9c924538fd2ec", func := "inspeximus/inspeximuslaw13.PartAgain", spec := "partAgain", unfollowed := true, recurses := true, named := ["inspeximus/api.First", "inspeximus/api.K"], plainKeys := false, apart := false, laid := [("inspeximus/api.K", laid_inspeximus_api_K), ("inspeximus/api.First", laid_inspeximus_api_First)], narrowed := true }
def PartAgainUptoSaid : Prop := partAgainUptoRow.holds Tryd.pinned (OpenSpec.upto partAgainSpec)

/-- 'inspeximuslaw13.PartApart', WHERE WHAT IT READS IS OF BULK AT MOST 1048576: true; the input reads as it did. -/
def partApartUptoRow : OpenClaim := { program := "ytchpmdcacpjojaadoor", sum := "49a785a5893b3b66ba0a172c3cc3d78e6240c74af02e3c1e04e9c924538fd2ec", func := "inspeximus/inspeximuslaw13.PartApart", spec := "partApart", unfollowed := true, recurses := true, named := ["inspeximus/api.First", "inspeximus/api.K"], plainKeys := false, apart := false, laid := [("inspeximus/api.K", laid_inspeximus_api_K), ("inspeximus/api.First", laid_inspeximus_api_First)], narrowed := true }
def PartApartUptoSaid : Prop := partApartUptoRow.holds Tryd.pinned (OpenSpec.upto partApartSpec)

/-- 'inspeximuslaw13.PartRefuses', WHERE WHAT IT READS IS OF BULK AT MOST 1048576: true; the input reads as it did. -/
def partRefusesUptoRow : OpenClaim := { program := "ytchpmdcacpjojaadoor", sum := "49a785a5893b3b66ba0a172c3cc3d78e6240c74af02e3c1e04e9c924538fd2ec", func := "inspeximus/inspeximuslaw13.PartRefuses", spec := "partRefuses", unfollowed := true, recurses := true, named := ["inspeximus/api.First", "inspeximus/api.K"], plainKeys := false, apart := false, laid := [("inspeximus/api.K", laid_inspeximus_api_K), ("inspeximus/api.First", laid_inspeximus_api_First)], narrowed := true }
def PartRefusesUptoSaid : Prop := partRefusesUptoRow.holds Tryd.pinned (OpenSpec.upto partRefusesSpec)

end Rows
end Go.Proofs.YtchpmdcacpjojaaDoor
