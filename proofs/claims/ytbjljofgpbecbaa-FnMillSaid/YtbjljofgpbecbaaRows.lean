/-
  No cell of these rows narrows 'for every input' (looked for: loops, veiled, ifaces, maps, wideKeys, modest, calm, conditions, laid).
  DERIVED. THE GIVEN ROWS OF THIS SEAT. 6 by the template 'for every input the law returns true; each argument reads behind the call as it read before'; 0 by the template 'total and deterministic' (their statements: YtbjljofgpbecbaaTotals.lean).
  GIVEN WITH THE SEED: the statements are not yours to turn. If you find one false, say at which input.
  Laid BY PROGRAM, IN A SANDBOX (cutbox-rows.mjs): the forced cells as the released guide's own fill.sh prints them over the translation 855fe40bd19bbfaa… (all of the seat's roots in one cut). By AI agents, Wed Nov 11 2026. No macro, syntax, notation, axiom, sorry.
-/
import Derived.Test.YtbjljofgpbecbaaChecked
import GoSem.Claim
import GoSem.ClaimJoined
import GoSem.ClaimMapViews
import Derived.JoinedTies
import Derived.KernelRfl
namespace Go.Proofs.Ytbjljofgpbecbaa
/- THE CELL 'sum', in the pinned program and in every row, IS THE sha256 OF THE DUMP (.gsa) THAT YtbjljofgpbecbaaProg.lean LOADS. Nothing in Lean hashes anything: it is a label: what it is worth is what the hold of that sum in a sandbox is worth. -/
noncomputable def Try.pinned : Pinned := { name := "ytbjljofgpbecbaa", sum := "855fe40bd19bbfaae54678314fb42fdd1e5fdd8c11c07e21647dafccd6e6efef", checked := Try.checked }
namespace Rows
def none {H : Type} : Left H := { results := [], args := [] }

/-- 'laws.FnMill': WHATEVER THE INPUT: true; the input reads as it did. -/
def fnMillSpec : ChangeSpec := { name := "fnMill", fn := fun _ => fun
  | [d1, d2] => { results := [.lit (.bool true)], args := [d1, d2] }
  | _ => none }
def fnMillRow : OpenClaim := { program := "ytbjljofgpbecbaa", sum := "855fe40bd19bbfaae54678314fb42fdd1e5fdd8c11c07e21647dafccd6e6efef", func := "loop.example/g00056/laws.FnMill", spec := "fnMill", unfollowed := true, recurses := true, apart := false }
def FnMillSaid : Prop := fnMillRow.holds Try.pinned (OpenSpec.ofChange fnMillSpec)

/-- ITS FALSE NEIGHBOUR: 'it returns false'. Refute it at one input. -/
def fnMillWrong : ChangeSpec := { name := "fnMill", fn := fun _ => fun
  | [d1, d2] => { results := [.lit (.bool false)], args := [d1, d2] }
  | _ => none }
def FnMillWrongFalsely : Prop := fnMillRow.holds Try.pinned (OpenSpec.ofChange fnMillWrong)

/-- 'laws.FnFloor': WHATEVER THE INPUT: true; the input reads as it did. -/
def fnFloorSpec : ChangeSpec := { name := "fnFloor", fn := fun _ => fun
  | [d1, d2] => { results := [.lit (.bool true)], args := [d1, d2] }
  | _ => none }
def fnFloorRow : OpenClaim := { program := "ytbjljofgpbecbaa", sum := "855fe40bd19bbfaae54678314fb42fdd1e5fdd8c11c07e21647dafccd6e6efef", func := "loop.example/g00056/laws.FnFloor", spec := "fnFloor", unfollowed := true, recurses := true, apart := false }
def FnFloorSaid : Prop := fnFloorRow.holds Try.pinned (OpenSpec.ofChange fnFloorSpec)

/-- ITS FALSE NEIGHBOUR: 'it returns false'. Refute it at one input. -/
def fnFloorWrong : ChangeSpec := { name := "fnFloor", fn := fun _ => fun
  | [d1, d2] => { results := [.lit (.bool false)], args := [d1, d2] }
  | _ => none }
def FnFloorWrongFalsely : Prop := fnFloorRow.holds Try.pinned (OpenSpec.ofChange fnFloorWrong)

/-- 'laws.FnExactFieldOK': WHATEVER THE INPUT: true; the input reads as it did. -/
def fnExactFieldOKSpec : ChangeSpec := { name := "fnExactFieldOK", fn := fun _ => fun
  | [d] => { results := [.lit (.bool true)], args := [d] }
  | _ => none }
def fnExactFieldOKRow : OpenClaim := { program := "ytbjljofgpbecbaa", sum := "855fe40bd19bbfaae54678314fb42fdd1e5fdd8c11c07e21647dafccd6e6efef", func := "loop.example/g00056/laws.FnExactFieldOK", spec := "fnExactFieldOK", unfollowed := true, recurses := true, apart := false }
def FnExactFieldOKSaid : Prop := fnExactFieldOKRow.holds Try.pinned (OpenSpec.ofChange fnExactFieldOKSpec)

/-- ITS FALSE NEIGHBOUR: 'it returns false'. Refute it at one input. -/
def fnExactFieldOKWrong : ChangeSpec := { name := "fnExactFieldOK", fn := fun _ => fun
  | [d] => { results := [.lit (.bool false)], args := [d] }
  | _ => none }
def FnExactFieldOKWrongFalsely : Prop := fnExactFieldOKRow.holds Try.pinned (OpenSpec.ofChange fnExactFieldOKWrong)

/-- 'laws.FnExactMill': WHATEVER THE INPUT: true; the input reads as it did. -/
def fnExactMillSpec : ChangeSpec := { name := "fnExactMill", fn := fun _ => fun
  | [d1, d2, d3, d4] => { results := [.lit (.bool true)], args := [d1, d2, d3, d4] }
  | _ => none }
def fnExactMillRow : OpenClaim := { program := "ytbjljofgpbecbaa", sum := "855fe40bd19bbfaae54678314fb42fdd1e5fdd8c11c07e21647dafccd6e6efef", func := "loop.example/g00056/laws.FnExactMill", spec := "fnExactMill", unfollowed := true, recurses := true, apart := false }
def FnExactMillSaid : Prop := fnExactMillRow.holds Try.pinned (OpenSpec.ofChange fnExactMillSpec)

/-- ITS FALSE NEIGHBOUR: 'it returns false'. Refute it at one input. -/
def fnExactMillWrong : ChangeSpec := { name := "fnExactMill", fn := fun _ => fun
  | [d1, d2, d3, d4] => { results := [.lit (.bool false)], args := [d1, d2, d3, d4] }
  | _ => none }
def FnExactMillWrongFalsely : Prop := fnExactMillRow.holds Try.pinned (OpenSpec.ofChange fnExactMillWrong)

/-- 'laws.FnExactFloor': WHATEVER THE INPUT: true; the input reads as it did. -/
def fnExactFloorSpec : ChangeSpec := { name := "fnExactFloor", fn := fun _ => fun
  | [d1, d2] => { results := [.lit (.bool true)], args := [d1, d2] }
  | _ => none }
def fnExactFloorRow : OpenClaim := { program := "ytbjljofgpbecbaa", sum := "855fe40bd19bbfaae54678314fb42fdd1e5fdd8c11c07e21647dafccd6e6efef", func := "loop.example/g00056/laws.FnExactFloor", spec := "fnExactFloor", unfollowed := true, recurses := true, apart := false }
def FnExactFloorSaid : Prop := fnExactFloorRow.holds Try.pinned (OpenSpec.ofChange fnExactFloorSpec)

/-- ITS FALSE NEIGHBOUR: 'it returns false'. Refute it at one input. -/
def fnExactFloorWrong : ChangeSpec := { name := "fnExactFloor", fn := fun _ => fun
  | [d1, d2] => { results := [.lit (.bool false)], args := [d1, d2] }
  | _ => none }
def FnExactFloorWrongFalsely : Prop := fnExactFloorRow.holds Try.pinned (OpenSpec.ofChange fnExactFloorWrong)

/-- 'laws.FnExactRest': WHATEVER THE INPUT: true; the input reads as it did. -/
def fnExactRestSpec : ChangeSpec := { name := "fnExactRest", fn := fun _ => fun
  | [d1, d2] => { results := [.lit (.bool true)], args := [d1, d2] }
  | _ => none }
def fnExactRestRow : OpenClaim := { program := "ytbjljofgpbecbaa", sum := "855fe40bd19bbfaae54678314fb42fdd1e5fdd8c11c07e21647dafccd6e6efef", func := "loop.example/g00056/laws.FnExactRest", spec := "fnExactRest", unfollowed := true, recurses := true, apart := false }
def FnExactRestSaid : Prop := fnExactRestRow.holds Try.pinned (OpenSpec.ofChange fnExactRestSpec)

/-- ITS FALSE NEIGHBOUR: 'it returns false'. Refute it at one input. -/
def fnExactRestWrong : ChangeSpec := { name := "fnExactRest", fn := fun _ => fun
  | [d1, d2] => { results := [.lit (.bool false)], args := [d1, d2] }
  | _ => none }
def FnExactRestWrongFalsely : Prop := fnExactRestRow.holds Try.pinned (OpenSpec.ofChange fnExactRestWrong)

/- THE SECOND FORM. 'bulk': how many values and letters a reading holds, each counted each time it is reached (what is shared counts as often as it is met; a slice's spare places count too). A statement '..UptoSaid' is the law's where the arguments, and the package variables that the reading takes, are together of bulk at most 1048576: NARROWER than '..Said'. Prove '..Said' where nothing that the law and all that it calls make is longer than what came in: it says more and counts as full. Else prove '..UptoSaid'. A law counts once. -/
mutual
def uptoBulk {H : Type} : DataW H → Nat
  | .lit (.string bytes) => bytes.length + 1
  | .lit _ => 1
  | .nil => 1
  | .ptr d => uptoBulk d + 1
  | .slice elems spare => uptoBulkAll elems + uptoBulkAll spare + 1
  | .agg parts => uptoBulkAll parts + 1
  | .iface _ d => uptoBulk d + 1
  | .map entries => uptoBulkEntries entries + 1
  | .held _ => 1
def uptoBulkAll {H : Type} : List (DataW H) → Nat
  | [] => 0
  | d :: r => uptoBulk d + uptoBulkAll r
def uptoBulkEntries {H : Type} : List (Lit × DataW H) → Nat
  | [] => 0
  | x :: r => uptoBulkEntry x + uptoBulkEntries r
def uptoBulkEntry {H : Type} : Lit × DataW H → Nat
  | (.string bytes, d) => bytes.length + uptoBulk d + 1
  | (_, d) => uptoBulk d + 1
 end
def uptoSmall : (H : Type) → List (DataW H) → Bool := fun _ ds => decide (uptoBulkAll ds ≤ 1048576)
def OpenSpec.upto (s : _root_.Go.ChangeSpec) : _root_.Go.OpenSpec := { _root_.Go.OpenSpec.ofChange s with cond := some uptoSmall }

/-- 'laws.FnMill', WHERE WHAT IT READS IS OF BULK AT MOST 1048576: true; the input reads as it did. -/
def fnMillUptoRow : OpenClaim := { program := "ytbjljofgpbecbaa", sum := "855fe40bd19bbfaae54678314fb42fdd1e5fdd8c11c07e21647dafccd6e6efef", func := "loop.example/g00056/laws.FnMill", spec := "fnMill", unfollowed := true, recurses := true, apart := false, narrowed := true }
def FnMillUptoSaid : Prop := fnMillUptoRow.holds Try.pinned (OpenSpec.upto fnMillSpec)

/-- 'laws.FnFloor', WHERE WHAT IT READS IS OF BULK AT MOST 1048576: true; the input reads as it did. -/
def fnFloorUptoRow : OpenClaim := { program := "ytbjljofgpbecbaa", sum := "855fe40bd19bbfaae54678314fb42fdd1e5fdd8c11c07e21647dafccd6e6efef", func := "loop.example/g00056/laws.FnFloor", spec := "fnFloor", unfollowed := true, recurses := true, apart := false, narrowed := true }
def FnFloorUptoSaid : Prop := fnFloorUptoRow.holds Try.pinned (OpenSpec.upto fnFloorSpec)

/-- 'laws.FnExactFieldOK', WHERE WHAT IT READS IS OF BULK AT MOST 1048576: true; the input reads as it did. -/
def fnExactFieldOKUptoRow : OpenClaim := { program := "ytbjljofgpbecbaa", sum := "855fe40bd19bbfaae54678314fb42fdd1e5fdd8c11c07e21647dafccd6e6efef", func := "loop.example/g00056/laws.FnExactFieldOK", spec := "fnExactFieldOK", unfollowed := true, recurses := true, apart := false, narrowed := true }
def FnExactFieldOKUptoSaid : Prop := fnExactFieldOKUptoRow.holds Try.pinned (OpenSpec.upto fnExactFieldOKSpec)

/-- 'laws.FnExactMill', WHERE WHAT IT READS IS OF BULK AT MOST 1048576: true; the input reads as it did. -/
def fnExactMillUptoRow : OpenClaim := { program := "ytbjljofgpbecbaa", sum := "855fe40bd19bbfaae54678314fb42fdd1e5fdd8c11c07e21647dafccd6e6efef", func := "loop.example/g00056/laws.FnExactMill", spec := "fnExactMill", unfollowed := true, recurses := true, apart := false, narrowed := true }
def FnExactMillUptoSaid : Prop := fnExactMillUptoRow.holds Try.pinned (OpenSpec.upto fnExactMillSpec)

/-- 'laws.FnExactFloor', WHERE WHAT IT READS IS OF BULK AT MOST 1048576: true; the input reads as it did. -/
def fnExactFloorUptoRow : OpenClaim := { program := "ytbjljofgpbecbaa", sum := "855fe40bd19bbfaae54678314fb42fdd1e5fdd8c11c07e21647dafccd6e6efef", func := "loop.example/g00056/laws.FnExactFloor", spec := "fnExactFloor", unfollowed := true, recurses := true, apart := false, narrowed := true }
def FnExactFloorUptoSaid : Prop := fnExactFloorUptoRow.holds Try.pinned (OpenSpec.upto fnExactFloorSpec)

/-- 'laws.FnExactRest', WHERE WHAT IT READS IS OF BULK AT MOST 1048576: true; the input reads as it did. -/
def fnExactRestUptoRow : OpenClaim := { program := "ytbjljofgpbecbaa", sum := "855fe40bd19bbfaae54678314fb42fdd1e5fdd8c11c07e21647dafccd6e6efef", func := "loop.example/g00056/laws.FnExactRest", spec := "fnExactRest", unfollowed := true, recurses := true, apart := false, narrowed := true }
def FnExactRestUptoSaid : Prop := fnExactRestUptoRow.holds Try.pinned (OpenSpec.upto fnExactRestSpec)

end Rows
end Go.Proofs.Ytbjljofgpbecbaa
