/-
  No cell of these rows narrows 'for every input' (looked for: loops, veiled, ifaces, maps, wideKeys, modest, calm, conditions, laid).
  DERIVED. THE GIVEN ROWS OF THIS SEAT. 4 by the template 'for every input the law returns true; each argument reads behind the call as it read before'; 0 by the template 'total and deterministic' (their statements: YtimkinpbimangaaTotals.lean).
  GIVEN WITH THE SEED: the statements are not yours to turn. If you find one false, say at which input.
  Laid BY PROGRAM, IN A SANDBOX (cutbox-rows.mjs): the forced cells as the released guide's own fill.sh prints them over the translation 6f0803505aacb589… (all of the seat's roots in one cut). By AI agents, Wed Nov 11 2026. No macro, syntax, notation, axiom, sorry.
-/
import Derived.Test.YtimkinpbimangaaChecked
import GoSem.Claim
import GoSem.ClaimJoined
import GoSem.ClaimMapViews
import Derived.JoinedTies
import Derived.KernelRfl
namespace Go.Proofs.Ytimkinpbimangaa
/- THE CELL 'sum', in the pinned program and in every row, IS THE sha256 OF THE DUMP (.gsa) THAT YtimkinpbimangaaProg.lean LOADS. Nothing in Lean hashes anything: it is a label: what it is worth is what the hold of that sum in a sandbox is worth. -/
noncomputable def Try.pinned : Pinned := { name := "ytimkinpbimangaa", sum := "6f0803505aacb589c206efe47a03108140ba469bf1d8fdc9297e44b6307a7cee", checked := Try.checked }
namespace Rows
def none {H : Type} : Left H := { results := [], args := [] }

/-- 'laws.FnBent': WHATEVER THE INPUT: true; the input reads as it did. -/
def fnBentSpec : ChangeSpec := { name := "fnBent", fn := fun _ => fun
  | [d1, d2] => { results := [.lit (.bool true)], args := [d1, d2] }
  | _ => none }
def fnBentRow : OpenClaim := { program := "ytimkinpbimangaa", sum := "6f0803505aacb589c206efe47a03108140ba469bf1d8fdc9297e44b6307a7cee", func := "loop.example/g00056/laws.FnBent", spec := "fnBent", unfollowed := true, recurses := true, apart := false }
def FnBentSaid : Prop := fnBentRow.holds Try.pinned (OpenSpec.ofChange fnBentSpec)

/-- ITS FALSE NEIGHBOUR: 'it returns false'. Refute it at one input. -/
def fnBentWrong : ChangeSpec := { name := "fnBent", fn := fun _ => fun
  | [d1, d2] => { results := [.lit (.bool false)], args := [d1, d2] }
  | _ => none }
def FnBentWrongFalsely : Prop := fnBentRow.holds Try.pinned (OpenSpec.ofChange fnBentWrong)

/-- 'laws.FnExactBent': WHATEVER THE INPUT: true; the input reads as it did. -/
def fnExactBentSpec : ChangeSpec := { name := "fnExactBent", fn := fun _ => fun
  | [d1, d2] => { results := [.lit (.bool true)], args := [d1, d2] }
  | _ => none }
def fnExactBentRow : OpenClaim := { program := "ytimkinpbimangaa", sum := "6f0803505aacb589c206efe47a03108140ba469bf1d8fdc9297e44b6307a7cee", func := "loop.example/g00056/laws.FnExactBent", spec := "fnExactBent", unfollowed := true, recurses := true, apart := false }
def FnExactBentSaid : Prop := fnExactBentRow.holds Try.pinned (OpenSpec.ofChange fnExactBentSpec)

/-- ITS FALSE NEIGHBOUR: 'it returns false'. Refute it at one input. -/
def fnExactBentWrong : ChangeSpec := { name := "fnExactBent", fn := fun _ => fun
  | [d1, d2] => { results := [.lit (.bool false)], args := [d1, d2] }
  | _ => none }
def FnExactBentWrongFalsely : Prop := fnExactBentRow.holds Try.pinned (OpenSpec.ofChange fnExactBentWrong)

/-- 'laws.FnExactFlat': WHATEVER THE INPUT: true; the input reads as it did. -/
def fnExactFlatSpec : ChangeSpec := { name := "fnExactFlat", fn := fun _ => fun
  | [d] => { results := [.lit (.bool true)], args := [d] }
  | _ => none }
def fnExactFlatRow : OpenClaim := { program := "ytimkinpbimangaa", sum := "6f0803505aacb589c206efe47a03108140ba469bf1d8fdc9297e44b6307a7cee", func := "loop.example/g00056/laws.FnExactFlat", spec := "fnExactFlat", unfollowed := true, recurses := true, apart := false }
def FnExactFlatSaid : Prop := fnExactFlatRow.holds Try.pinned (OpenSpec.ofChange fnExactFlatSpec)

/-- ITS FALSE NEIGHBOUR: 'it returns false'. Refute it at one input. -/
def fnExactFlatWrong : ChangeSpec := { name := "fnExactFlat", fn := fun _ => fun
  | [d] => { results := [.lit (.bool false)], args := [d] }
  | _ => none }
def FnExactFlatWrongFalsely : Prop := fnExactFlatRow.holds Try.pinned (OpenSpec.ofChange fnExactFlatWrong)

/-- 'laws.FnExactFlatLength': WHATEVER THE INPUT: true; the input reads as it did. -/
def fnExactFlatLengthSpec : ChangeSpec := { name := "fnExactFlatLength", fn := fun _ => fun
  | [d1, d2, d3, d4] => { results := [.lit (.bool true)], args := [d1, d2, d3, d4] }
  | _ => none }
def fnExactFlatLengthRow : OpenClaim := { program := "ytimkinpbimangaa", sum := "6f0803505aacb589c206efe47a03108140ba469bf1d8fdc9297e44b6307a7cee", func := "loop.example/g00056/laws.FnExactFlatLength", spec := "fnExactFlatLength", unfollowed := true, recurses := true, apart := false }
def FnExactFlatLengthSaid : Prop := fnExactFlatLengthRow.holds Try.pinned (OpenSpec.ofChange fnExactFlatLengthSpec)

/-- ITS FALSE NEIGHBOUR: 'it returns false'. Refute it at one input. -/
def fnExactFlatLengthWrong : ChangeSpec := { name := "fnExactFlatLength", fn := fun _ => fun
  | [d1, d2, d3, d4] => { results := [.lit (.bool false)], args := [d1, d2, d3, d4] }
  | _ => none }
def FnExactFlatLengthWrongFalsely : Prop := fnExactFlatLengthRow.holds Try.pinned (OpenSpec.ofChange fnExactFlatLengthWrong)

/- THE SECOND FORM. 'bulk': how many values and letters a reading holds, each counted each time it is reached (what is shared counts as often as it is met; a slice's spare places count too). A statement '..UptoSaid' is the law's where the arguments, and the package variables that the reading takes, are together of bulk at most 1048576: NARROWER than '..Said'. Prove '..Said' where nothing that the law and all that it calls make is longer than what came in: it says more and counts as full. Else prove '..UptoSaid'. A law counts once. -/
mutual
def uptoBulk {H : Type} : DataW H → Nat
  | .lit (.string bytes) => bytes.length + 1
  | .lit _ => 1
  | .nil => 1
  | .ptr d => uptoBulk d + 1
  | .slice elems spare => uptoBulkAll elems + uptoBulkAll spare + 1
  | .agg parts => uptoBulkAll parts + 1
  | .iface _ d => uptoBulk d + 1
  | .map entries => uptoBulkEntries entries + 1
  | .held _ => 1
def uptoBulkAll {H : Type} : List (DataW H) → Nat
  | [] => 0
  | d :: r => uptoBulk d + uptoBulkAll r
def uptoBulkEntries {H : Type} : List (Lit × DataW H) → Nat
  | [] => 0
  | x :: r => uptoBulkEntry x + uptoBulkEntries r
def uptoBulkEntry {H : Type} : Lit × DataW H → Nat
  | (.string bytes, d) => bytes.length + uptoBulk d + 1
  | (_, d) => uptoBulk d + 1
 end
def uptoSmall : (H : Type) → List (DataW H) → Bool := fun _ ds => decide (uptoBulkAll ds ≤ 1048576)
def OpenSpec.upto (s : _root_.Go.ChangeSpec) : _root_.Go.OpenSpec := { _root_.Go.OpenSpec.ofChange s with cond := some uptoSmall }

/-- 'laws.FnBent', WHERE WHAT IT READS IS OF BULK AT MOST 1048576: true; the input reads as it did. -/
def fnBentUptoRow : OpenClaim := { program := "ytimkinpbimangaa", sum := "6f0803505aacb589c206efe47a03108140ba469bf1d8fdc9297e44b6307a7cee", func := "loop.example/g00056/laws.FnBent", spec := "fnBent", unfollowed := true, recurses := true, apart := false, narrowed := true }
def FnBentUptoSaid : Prop := fnBentUptoRow.holds Try.pinned (OpenSpec.upto fnBentSpec)

/-- 'laws.FnExactBent', WHERE WHAT IT READS IS OF BULK AT MOST 1048576: true; the input reads as it did. -/
def fnExactBentUptoRow : OpenClaim := { program := "ytimkinpbimangaa", sum := "6f0803505aacb589c206efe47a03108140ba469bf1d8fdc9297e44b6307a7cee", func := "loop.example/g00056/laws.FnExactBent", spec := "fnExactBent", unfollowed := true, recurses := true, apart := false, narrowed := true }
def FnExactBentUptoSaid : Prop := fnExactBentUptoRow.holds Try.pinned (OpenSpec.upto fnExactBentSpec)

/-- 'laws.FnExactFlat', WHERE WHAT IT READS IS OF BULK AT MOST 1048576: true; the input reads as it did. -/
def fnExactFlatUptoRow : OpenClaim := { program := "ytimkinpbimangaa", sum := "6f0803505aacb589c206efe47a03108140ba469bf1d8fdc9297e44b6307a7cee", func := "loop.example/g00056/laws.FnExactFlat", spec := "fnExactFlat", unfollowed := true, recurses := true, apart := false, narrowed := true }
def FnExactFlatUptoSaid : Prop := fnExactFlatUptoRow.holds Try.pinned (OpenSpec.upto fnExactFlatSpec)

/-- 'laws.FnExactFlatLength', WHERE WHAT IT READS IS OF BULK AT MOST 1048576: true; the input reads as it did. -/
def fnExactFlatLengthUptoRow : OpenClaim := { program := "ytimkinpbimangaa", sum := "6f0803505aacb589c206efe47a03108140ba469bf1d8fdc9297e44b6307a7cee", func := "loop.example/g00056/laws.FnExactFlatLength", spec := "fnExactFlatLength", unfollowed := true, recurses := true, apart := false, narrowed := true }
def FnExactFlatLengthUptoSaid : Prop := fnExactFlatLengthUptoRow.holds Try.pinned (OpenSpec.upto fnExactFlatLengthSpec)

end Rows
end Go.Proofs.Ytimkinpbimangaa
