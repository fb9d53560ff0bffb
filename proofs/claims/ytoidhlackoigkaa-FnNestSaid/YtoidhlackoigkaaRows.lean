/-
  No cell of these rows narrows 'for every input' (looked for: loops, veiled, ifaces, maps, wideKeys, modest, calm, conditions, laid).
  DERIVED. THE GIVEN ROWS OF THIS SEAT. 3 by the template 'for every input the law returns true; each argument reads behind the call as it read before'; 0 by the template 'total and deterministic' (their statements: YtoidhlackoigkaaTotals.lean).
  GIVEN WITH THE SEED: the statements are not yours to turn. If you find one false, say at which input.
  Laid BY PROGRAM, IN A SANDBOX (cutbox-rows.mjs): the forced cells as the released guide's own fill.sh prints them over the translation 138f2634ebbb082e… (all of the seat's roots in one cut). By AI agents, Wed Nov 11 2026. No macro, syntax, notation, axiom, sorry.
-/
import Derived.Test.YtoidhlackoigkaaChecked
import GoSem.Claim
import GoSem.ClaimJoined
import GoSem.ClaimMapViews
import Derived.JoinedTies
import Derived.KernelRfl
namespace Go.Proofs.Ytoidhlackoigkaa
/- THE CELL 'sum', in the pinned program and in every row, IS THE sha256 OF THE DUMP (.gsa) THAT YtoidhlackoigkaaProg.lean LOADS. Nothing in Lean hashes anything: it is a label: what it is worth is what the hold of that sum in a sandbox is worth. -/
noncomputable def Try.pinned : Pinned := { name := "ytoidhlackoigkaa", sum := "138f2634ebbb082ec78fd70d3a9afdecab36d6ad47a74183970692169425a823", checked := Try.checked }
namespace Rows
def none {H : Type} : Left H := { results := [], args := [] }

/-- 'laws.FnNest': WHATEVER THE INPUT: true; the input reads as it did. -/
def fnNestSpec : ChangeSpec := { name := "fnNest", fn := fun _ => fun
  | [d] => { results := [.lit (.bool true)], args := [d] }
  | _ => none }
def fnNestRow : OpenClaim := { program := "ytoidhlackoigkaa", sum := "138f2634ebbb082ec78fd70d3a9afdecab36d6ad47a74183970692169425a823", func := "loop.example/g00056/laws.FnNest", spec := "fnNest", unfollowed := true, recurses := true, apart := false }
def FnNestSaid : Prop := fnNestRow.holds Try.pinned (OpenSpec.ofChange fnNestSpec)

/-- ITS FALSE NEIGHBOUR: 'it returns false'. Refute it at one input. -/
def fnNestWrong : ChangeSpec := { name := "fnNest", fn := fun _ => fun
  | [d] => { results := [.lit (.bool false)], args := [d] }
  | _ => none }
def FnNestWrongFalsely : Prop := fnNestRow.holds Try.pinned (OpenSpec.ofChange fnNestWrong)

/-- 'laws.FnExactNest': WHATEVER THE INPUT: true; the input reads as it did. -/
def fnExactNestSpec : ChangeSpec := { name := "fnExactNest", fn := fun _ => fun
  | [d1, d2] => { results := [.lit (.bool true)], args := [d1, d2] }
  | _ => none }
def fnExactNestRow : OpenClaim := { program := "ytoidhlackoigkaa", sum := "138f2634ebbb082ec78fd70d3a9afdecab36d6ad47a74183970692169425a823", func := "loop.example/g00056/laws.FnExactNest", spec := "fnExactNest", unfollowed := true, recurses := true, apart := false }
def FnExactNestSaid : Prop := fnExactNestRow.holds Try.pinned (OpenSpec.ofChange fnExactNestSpec)

/-- ITS FALSE NEIGHBOUR: 'it returns false'. Refute it at one input. -/
def fnExactNestWrong : ChangeSpec := { name := "fnExactNest", fn := fun _ => fun
  | [d1, d2] => { results := [.lit (.bool false)], args := [d1, d2] }
  | _ => none }
def FnExactNestWrongFalsely : Prop := fnExactNestRow.holds Try.pinned (OpenSpec.ofChange fnExactNestWrong)

/-- 'laws.FnExactNestBest': WHATEVER THE INPUT: true; the input reads as it did. -/
def fnExactNestBestSpec : ChangeSpec := { name := "fnExactNestBest", fn := fun _ => fun
  | [d1, d2] => { results := [.lit (.bool true)], args := [d1, d2] }
  | _ => none }
def fnExactNestBestRow : OpenClaim := { program := "ytoidhlackoigkaa", sum := "138f2634ebbb082ec78fd70d3a9afdecab36d6ad47a74183970692169425a823", func := "loop.example/g00056/laws.FnExactNestBest", spec := "fnExactNestBest", unfollowed := true, recurses := true, apart := false }
def FnExactNestBestSaid : Prop := fnExactNestBestRow.holds Try.pinned (OpenSpec.ofChange fnExactNestBestSpec)

/-- ITS FALSE NEIGHBOUR: 'it returns false'. Refute it at one input. -/
def fnExactNestBestWrong : ChangeSpec := { name := "fnExactNestBest", fn := fun _ => fun
  | [d1, d2] => { results := [.lit (.bool false)], args := [d1, d2] }
  | _ => none }
def FnExactNestBestWrongFalsely : Prop := fnExactNestBestRow.holds Try.pinned (OpenSpec.ofChange fnExactNestBestWrong)

/- THE SECOND FORM. 'bulk': how many values and letters a reading holds, each counted each time it is reached (what is shared counts as often as it is met; a slice's spare places count too). A statement '..UptoSaid' is the law's where the arguments, and the package variables that the reading takes, are together of bulk at most 1048576: NARROWER than '..Said'. Prove '..Said' where nothing that the law and all that it calls make is longer than what came in: it says more and counts as full. Else prove '..UptoSaid'. A law counts once. -/
mutual
def uptoBulk {H : Type} : DataW H → Nat
  | .lit (.string bytes) => bytes.length + 1
  | .lit _ => 1
  | .nil => 1
  | .ptr d => uptoBulk d + 1
  | .slice elems spare => uptoBulkAll elems + uptoBulkAll spare + 1
  | .agg parts => uptoBulkAll parts + 1
  | .iface _ d => uptoBulk d + 1
  | .map entries => uptoBulkEntries entries + 1
  | .held _ => 1
def uptoBulkAll {H : Type} : List (DataW H) → Nat
  | [] => 0
  | d :: r => uptoBulk d + uptoBulkAll r
def uptoBulkEntries {H : Type} : List (Lit × DataW H) → Nat
  | [] => 0
  | x :: r => uptoBulkEntry x + uptoBulkEntries r
def uptoBulkEntry {H : Type} : Lit × DataW H → Nat
  | (.string bytes, d) => bytes.length + uptoBulk d + 1
  | (_, d) => uptoBulk d + 1
 end
def uptoSmall : (H : Type) → List (DataW H) → Bool := fun _ ds => decide (uptoBulkAll ds ≤ 1048576)
def OpenSpec.upto (s : _root_.Go.ChangeSpec) : _root_.Go.OpenSpec := { _root_.Go.OpenSpec.ofChange s with cond := some uptoSmall }

/-- 'laws.FnNest', WHERE WHAT IT READS IS OF BULK AT MOST 1048576: true; the input reads as it did. -/
def fnNestUptoRow : OpenClaim := { program := "ytoidhlackoigkaa", sum := "138f2634ebbb082ec78fd70d3a9afdecab36d6ad47a74183970692169425a823", func := "loop.example/g00056/laws.FnNest", spec := "fnNest", unfollowed := true, recurses := true, apart := false, narrowed := true }
def FnNestUptoSaid : Prop := fnNestUptoRow.holds Try.pinned (OpenSpec.upto fnNestSpec)

/-- 'laws.FnExactNest', WHERE WHAT IT READS IS OF BULK AT MOST 1048576: true; the input reads as it did. -/
def fnExactNestUptoRow : OpenClaim := { program := "ytoidhlackoigkaa", sum := "138f2634ebbb082ec78fd70d3a9afdecab36d6ad47a74183970692169425a823", func := "loop.example/g00056/laws.FnExactNest", spec := "fnExactNest", unfollowed := true, recurses := true, apart := false, narrowed := true }
def FnExactNestUptoSaid : Prop := fnExactNestUptoRow.holds Try.pinned (OpenSpec.upto fnExactNestSpec)

/-- 'laws.FnExactNestBest', WHERE WHAT IT READS IS OF BULK AT MOST 1048576: true; the input reads as it did. -/
def fnExactNestBestUptoRow : OpenClaim := { program := "ytoidhlackoigkaa", sum := "138f2634ebbb082ec78fd70d3a9afdecab36d6ad47a74183970692169425a823", func := "loop.example/g00056/laws.FnExactNestBest", spec := "fnExactNestBest", unfollowed := true, recurses := true, apart := false, narrowed := true }
def FnExactNestBestUptoSaid : Prop := fnExactNestBestUptoRow.holds Try.pinned (OpenSpec.upto fnExactNestBestSpec)

end Rows
end Go.Proofs.Ytoidhlackoigkaa
