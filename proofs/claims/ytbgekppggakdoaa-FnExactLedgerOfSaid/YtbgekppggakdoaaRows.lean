/-
  No cell of these rows narrows 'for every input' (looked for: loops, veiled, ifaces, maps, wideKeys, modest, calm, conditions, laid).
  DERIVED. THE GIVEN ROWS OF THIS SEAT. 4 by the template 'for every input the law returns true; each argument reads behind the call as it read before'; 0 by the template 'total and deterministic' (their statements: YtbgekppggakdoaaTotals.lean).
  GIVEN WITH THE SEED: the statements are not yours to turn. If you find one false, say at which input.
  Laid BY PROGRAM, IN A SANDBOX (cutbox-rows.mjs): the forced cells as the released guide's own fill.sh prints them over the translation 39f73b46fb2613ac… (all of the seat's roots in one cut). By AI agents, Wed Nov 11 2026. No macro, syntax, notation, axiom, sorry.
-/
import Derived.Test.YtbgekppggakdoaaChecked
import GoSem.Claim
import GoSem.ClaimJoined
import GoSem.ClaimMapViews
import Derived.JoinedTies
import Derived.KernelRfl
namespace Go.Proofs.Ytbgekppggakdoaa
/- THE CELL 'sum', in the pinned program and in every row, IS THE sha256 OF THE DUMP (.gsa) THAT YtbgekppggakdoaaProg.lean LOADS. Nothing in Lean hashes anything: it is a label: what it is worth is what the hold of that sum in a sandbox is worth. -/
noncomputable def Try.pinned : Pinned := { name := "ytbgekppggakdoaa", sum := "39f73b46fb2613acbd608eed0a4ad7767e7b7b1b61bfccb41f52a573b24e21e1", checked := Try.checked }
namespace Rows
def none {H : Type} : Left H := { results := [], args := [] }

/-- 'laws.FnExactShopOK': WHATEVER THE INPUT: true; the input reads as it did. -/
def fnExactShopOKSpec : ChangeSpec := { name := "fnExactShopOK", fn := fun _ => fun
  | [d1, d2] => { results := [.lit (.bool true)], args := [d1, d2] }
  | _ => none }
def fnExactShopOKRow : OpenClaim := { program := "ytbgekppggakdoaa", sum := "39f73b46fb2613acbd608eed0a4ad7767e7b7b1b61bfccb41f52a573b24e21e1", func := "loop.example/g00056/laws.FnExactShopOK", spec := "fnExactShopOK", unfollowed := true, recurses := true, apart := false }
def FnExactShopOKSaid : Prop := fnExactShopOKRow.holds Try.pinned (OpenSpec.ofChange fnExactShopOKSpec)

/-- ITS FALSE NEIGHBOUR: 'it returns false'. Refute it at one input. -/
def fnExactShopOKWrong : ChangeSpec := { name := "fnExactShopOK", fn := fun _ => fun
  | [d1, d2] => { results := [.lit (.bool false)], args := [d1, d2] }
  | _ => none }
def FnExactShopOKWrongFalsely : Prop := fnExactShopOKRow.holds Try.pinned (OpenSpec.ofChange fnExactShopOKWrong)

/-- 'laws.FnExactPlanCode': WHATEVER THE INPUT: true; the input reads as it did. -/
def fnExactPlanCodeSpec : ChangeSpec := { name := "fnExactPlanCode", fn := fun _ => fun
  | [d1, d2, d3] => { results := [.lit (.bool true)], args := [d1, d2, d3] }
  | _ => none }
def fnExactPlanCodeRow : OpenClaim := { program := "ytbgekppggakdoaa", sum := "39f73b46fb2613acbd608eed0a4ad7767e7b7b1b61bfccb41f52a573b24e21e1", func := "loop.example/g00056/laws.FnExactPlanCode", spec := "fnExactPlanCode", unfollowed := true, recurses := true, apart := false }
def FnExactPlanCodeSaid : Prop := fnExactPlanCodeRow.holds Try.pinned (OpenSpec.ofChange fnExactPlanCodeSpec)

/-- ITS FALSE NEIGHBOUR: 'it returns false'. Refute it at one input. -/
def fnExactPlanCodeWrong : ChangeSpec := { name := "fnExactPlanCode", fn := fun _ => fun
  | [d1, d2, d3] => { results := [.lit (.bool false)], args := [d1, d2, d3] }
  | _ => none }
def FnExactPlanCodeWrongFalsely : Prop := fnExactPlanCodeRow.holds Try.pinned (OpenSpec.ofChange fnExactPlanCodeWrong)

/-- 'laws.FnExactLedgerOf': WHATEVER THE INPUT: true; the input reads as it did. -/
def fnExactLedgerOfSpec : ChangeSpec := { name := "fnExactLedgerOf", fn := fun _ => fun
  | [d1, d2, d3] => { results := [.lit (.bool true)], args := [d1, d2, d3] }
  | _ => none }
def fnExactLedgerOfRow : OpenClaim := { program := "ytbgekppggakdoaa", sum := "39f73b46fb2613acbd608eed0a4ad7767e7b7b1b61bfccb41f52a573b24e21e1", func := "loop.example/g00056/laws.FnExactLedgerOf", spec := "fnExactLedgerOf", unfollowed := true, recurses := true, apart := false }
def FnExactLedgerOfSaid : Prop := fnExactLedgerOfRow.holds Try.pinned (OpenSpec.ofChange fnExactLedgerOfSpec)

/-- ITS FALSE NEIGHBOUR: 'it returns false'. Refute it at one input. -/
def fnExactLedgerOfWrong : ChangeSpec := { name := "fnExactLedgerOf", fn := fun _ => fun
  | [d1, d2, d3] => { results := [.lit (.bool false)], args := [d1, d2, d3] }
  | _ => none }
def FnExactLedgerOfWrongFalsely : Prop := fnExactLedgerOfRow.holds Try.pinned (OpenSpec.ofChange fnExactLedgerOfWrong)

/-- 'laws.FnExactBound': WHATEVER THE INPUT: true; the input reads as it did. -/
def fnExactBoundSpec : ChangeSpec := { name := "fnExactBound", fn := fun _ => fun
  | [d1, d2] => { results := [.lit (.bool true)], args := [d1, d2] }
  | _ => none }
def fnExactBoundRow : OpenClaim := { program := "ytbgekppggakdoaa", sum := "39f73b46fb2613acbd608eed0a4ad7767e7b7b1b61bfccb41f52a573b24e21e1", func := "loop.example/g00056/laws.FnExactBound", spec := "fnExactBound", unfollowed := true, recurses := true, apart := false }
def FnExactBoundSaid : Prop := fnExactBoundRow.holds Try.pinned (OpenSpec.ofChange fnExactBoundSpec)

/-- ITS FALSE NEIGHBOUR: 'it returns false'. Refute it at one input. -/
def fnExactBoundWrong : ChangeSpec := { name := "fnExactBound", fn := fun _ => fun
  | [d1, d2] => { results := [.lit (.bool false)], args := [d1, d2] }
  | _ => none }
def FnExactBoundWrongFalsely : Prop := fnExactBoundRow.holds Try.pinned (OpenSpec.ofChange fnExactBoundWrong)

/- THE SECOND FORM. 'bulk': how many values and letters a reading holds, each counted each time it is reached (what is shared counts as often as it is met; a slice's spare places count too). A statement '..UptoSaid' is the law's where the arguments, and the package variables that the reading takes, are together of bulk at most 1048576: NARROWER than '..Said'. Prove '..Said' where nothing that the law and all that it calls make is longer than what came in: it says more and counts as full. Else prove '..UptoSaid'. A law counts once. -/
mutual
def uptoBulk {H : Type} : DataW H → Nat
  | .lit (.string bytes) => bytes.length + 1
  | .lit _ => 1
  | .nil => 1
  | .ptr d => uptoBulk d + 1
  | .slice elems spare => uptoBulkAll elems + uptoBulkAll spare + 1
  | .agg parts => uptoBulkAll parts + 1
  | .iface _ d => uptoBulk d + 1
  | .map entries => uptoBulkEntries entries + 1
  | .held _ => 1
def uptoBulkAll {H : Type} : List (DataW H) → Nat
  | [] => 0
  | d :: r => uptoBulk d + uptoBulkAll r
def uptoBulkEntries {H : Type} : List (Lit × DataW H) → Nat
  | [] => 0
  | x :: r => uptoBulkEntry x + uptoBulkEntries r
def uptoBulkEntry {H : Type} : Lit × DataW H → Nat
  | (.string bytes, d) => bytes.length + uptoBulk d + 1
  | (_, d) => uptoBulk d + 1
 end
def uptoSmall : (H : Type) → List (DataW H) → Bool := fun _ ds => decide (uptoBulkAll ds ≤ 1048576)
def OpenSpec.upto (s : _root_.Go.ChangeSpec) : _root_.Go.OpenSpec := { _root_.Go.OpenSpec.ofChange s with cond := some uptoSmall }

/-- 'laws.FnExactShopOK', WHERE WHAT IT READS IS OF BULK AT MOST 1048576: true; the input reads as it did. -/
def fnExactShopOKUptoRow : OpenClaim := { program := "ytbgekppggakdoaa", sum := "39f73b46fb2613acbd608eed0a4ad7767e7b7b1b61bfccb41f52a573b24e21e1", func := "loop.example/g00056/laws.FnExactShopOK", spec := "fnExactShopOK", unfollowed := true, recurses := true, apart := false, narrowed := true }
def FnExactShopOKUptoSaid : Prop := fnExactShopOKUptoRow.holds Try.pinned (OpenSpec.upto fnExactShopOKSpec)

/-- 'laws.FnExactPlanCode', WHERE WHAT IT READS IS OF BULK AT MOST 1048576: true; the input reads as it did. -/
def fnExactPlanCodeUptoRow : OpenClaim := { program := "ytbgekppggakdoaa", sum := "39f73b46fb2613acbd608eed0a4ad7767e7b7b1b61bfccb41f52a573b24e21e1", func := "loop.example/g00056/laws.FnExactPlanCode", spec := "fnExactPlanCode", unfollowed := true, recurses := true, apart := false, narrowed := true }
def FnExactPlanCodeUptoSaid : Prop := fnExactPlanCodeUptoRow.holds Try.pinned (OpenSpec.upto fnExactPlanCodeSpec)

/-- 'laws.FnExactLedgerOf', WHERE WHAT IT READS IS OF BULK AT MOST 1048576: true; the input reads as it did. -/
def fnExactLedgerOfUptoRow : OpenClaim := { program := "ytbgekppggakdoaa", sum := "39f73b46fb2613acbd608eed0a4ad7767e7b7b1b61bfccb41f52a573b24e21e1", func := "loop.example/g00056/laws.FnExactLedgerOf", spec := "fnExactLedgerOf", unfollowed := true, recurses := true, apart := false, narrowed := true }
def FnExactLedgerOfUptoSaid : Prop := fnExactLedgerOfUptoRow.holds Try.pinned (OpenSpec.upto fnExactLedgerOfSpec)

/-- 'laws.FnExactBound', WHERE WHAT IT READS IS OF BULK AT MOST 1048576: true; the input reads as it did. -/
def fnExactBoundUptoRow : OpenClaim := { program := "ytbgekppggakdoaa", sum := "39f73b46fb2613acbd608eed0a4ad7767e7b7b1b61bfccb41f52a573b24e21e1", func := "loop.example/g00056/laws.FnExactBound", spec := "fnExactBound", unfollowed := true, recurses := true, apart := false, narrowed := true }
def FnExactBoundUptoSaid : Prop := fnExactBoundUptoRow.holds Try.pinned (OpenSpec.upto fnExactBoundSpec)

end Rows
end Go.Proofs.Ytbgekppggakdoaa
