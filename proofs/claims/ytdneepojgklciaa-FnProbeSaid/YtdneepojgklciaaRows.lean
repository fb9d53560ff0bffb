/-
  No cell of these rows narrows 'for every input' (looked for: loops, veiled, ifaces, maps, wideKeys, modest, calm, conditions, laid).
  DERIVED. THE GIVEN ROWS OF THIS SEAT. 3 by the template 'for every input the law returns true; each argument reads behind the call as it read before'; 0 by the template 'total and deterministic' (their statements: YtdneepojgklciaaTotals.lean).
  GIVEN WITH THE SEED: the statements are not yours to turn. If you find one false, say at which input.
  Laid BY PROGRAM, IN A SANDBOX (cutbox-rows.mjs): the forced cells as the released guide's own fill.sh prints them over the translation 71415e63805849a9… (all of the seat's roots in one cut). By AI agents, Wed Nov 11 2026. No macro, syntax, notation, axiom, sorry.
-/
import Derived.Test.YtdneepojgklciaaChecked
import GoSem.Claim
import GoSem.ClaimJoined
import GoSem.ClaimMapViews
import Derived.JoinedTies
import Derived.KernelRfl
namespace Go.Proofs.Ytdneepojgklciaa
/- THE CELL 'sum', in the pinned program and in every row, IS THE sha256 OF THE DUMP (.gsa) THAT YtdneepojgklciaaProg.lean LOADS. Nothing in Lean hashes anything: it is a label: what it is worth is what the hold of that sum in a sandbox is worth. -/
noncomputable def Try.pinned : Pinned := { name := "ytdneepojgklciaa", sum := "71415e63805849a965171de7e17ab4b18bc77c1cc89dc7809b99c12af5c41dd9", checked := Try.checked }
namespace Rows
def none {H : Type} : Left H := { results := [], args := [] }

/-- 'laws.FnProbe': WHATEVER THE INPUT: true; the input reads as it did. -/
def fnProbeSpec : ChangeSpec := { name := "fnProbe", fn := fun _ => fun
  | [d1, d2] => { results := [.lit (.bool true)], args := [d1, d2] }
  | _ => none }
def fnProbeRow : OpenClaim := { program := "ytdneepojgklciaa", sum := "71415e63805849a965171de7e17ab4b18bc77c1cc89dc7809b99c12af5c41dd9", func := "loop.example/g00056/laws.FnProbe", spec := "fnProbe", unfollowed := true, recurses := true, apart := false }
def FnProbeSaid : Prop := fnProbeRow.holds Try.pinned (OpenSpec.ofChange fnProbeSpec)

/-- ITS FALSE NEIGHBOUR: 'it returns false'. Refute it at one input. -/
def fnProbeWrong : ChangeSpec := { name := "fnProbe", fn := fun _ => fun
  | [d1, d2] => { results := [.lit (.bool false)], args := [d1, d2] }
  | _ => none }
def FnProbeWrongFalsely : Prop := fnProbeRow.holds Try.pinned (OpenSpec.ofChange fnProbeWrong)

/-- 'laws.FnExactJudge': WHATEVER THE INPUT: true; the input reads as it did. -/
def fnExactJudgeSpec : ChangeSpec := { name := "fnExactJudge", fn := fun _ => fun
  | [d1, d2, d3, d4] => { results := [.lit (.bool true)], args := [d1, d2, d3, d4] }
  | _ => none }
def fnExactJudgeRow : OpenClaim := { program := "ytdneepojgklciaa", sum := "71415e63805849a965171de7e17ab4b18bc77c1cc89dc7809b99c12af5c41dd9", func := "loop.example/g00056/laws.FnExactJudge", spec := "fnExactJudge", apart := false }
def FnExactJudgeSaid : Prop := fnExactJudgeRow.holds Try.pinned (OpenSpec.ofChange fnExactJudgeSpec)

/-- ITS FALSE NEIGHBOUR: 'it returns false'. Refute it at one input. -/
def fnExactJudgeWrong : ChangeSpec := { name := "fnExactJudge", fn := fun _ => fun
  | [d1, d2, d3, d4] => { results := [.lit (.bool false)], args := [d1, d2, d3, d4] }
  | _ => none }
def FnExactJudgeWrongFalsely : Prop := fnExactJudgeRow.holds Try.pinned (OpenSpec.ofChange fnExactJudgeWrong)

/-- 'laws.FnExactProbing': WHATEVER THE INPUT: true; the input reads as it did. -/
def fnExactProbingSpec : ChangeSpec := { name := "fnExactProbing", fn := fun _ => fun
  | [d1, d2] => { results := [.lit (.bool true)], args := [d1, d2] }
  | _ => none }
def fnExactProbingRow : OpenClaim := { program := "ytdneepojgklciaa", sum := "71415e63805849a965171de7e17ab4b18bc77c1cc89dc7809b99c12af5c41dd9", func := "loop.example/g00056/laws.FnExactProbing", spec := "fnExactProbing", unfollowed := true, recurses := true, apart := false }
def FnExactProbingSaid : Prop := fnExactProbingRow.holds Try.pinned (OpenSpec.ofChange fnExactProbingSpec)

/-- ITS FALSE NEIGHBOUR: 'it returns false'. Refute it at one input. -/
def fnExactProbingWrong : ChangeSpec := { name := "fnExactProbing", fn := fun _ => fun
  | [d1, d2] => { results := [.lit (.bool false)], args := [d1, d2] }
  | _ => none }
def FnExactProbingWrongFalsely : Prop := fnExactProbingRow.holds Try.pinned (OpenSpec.ofChange fnExactProbingWrong)

/- THE SECOND FORM. 'bulk': how many values and letters a reading holds, each counted each time it is reached (what is shared counts as often as it is met; a slice's spare places count too). A statement '..UptoSaid' is the law's where the arguments, and the package variables that the reading takes, are together of bulk at most 1048576: NARROWER than '..Said'. Prove '..Said' where nothing that the law and all that it calls make is longer than what came in: it says more and counts as full. Else prove '..UptoSaid'. A law counts once. -/
mutual
def uptoBulk {H : Type} : DataW H → Nat
  | .lit (.string bytes) => bytes.length + 1
  | .lit _ => 1
  | .nil => 1
  | .ptr d => uptoBulk d + 1
  | .slice elems spare => uptoBulkAll elems + uptoBulkAll spare + 1
  | .agg parts => uptoBulkAll parts + 1
  | .iface _ d => uptoBulk d + 1
  | .map entries => uptoBulkEntries entries + 1
  | .held _ => 1
def uptoBulkAll {H : Type} : List (DataW H) → Nat
  | [] => 0
  | d :: r => uptoBulk d + uptoBulkAll r
def uptoBulkEntries {H : Type} : List (Lit × DataW H) → Nat
  | [] => 0
  | x :: r => uptoBulkEntry x + uptoBulkEntries r
def uptoBulkEntry {H : Type} : Lit × DataW H → Nat
  | (.string bytes, d) => bytes.length + uptoBulk d + 1
  | (_, d) => uptoBulk d + 1
 end
def uptoSmall : (H : Type) → List (DataW H) → Bool := fun _ ds => decide (uptoBulkAll ds ≤ 1048576)
def OpenSpec.upto (s : _root_.Go.ChangeSpec) : _root_.Go.OpenSpec := { _root_.Go.OpenSpec.ofChange s with cond := some uptoSmall }

/-- 'laws.FnProbe', WHERE WHAT IT READS IS OF BULK AT MOST 1048576: true; the input reads as it did. -/
def fnProbeUptoRow : OpenClaim := { program := "ytdneepojgklciaa", sum := "71415e63805849a965171de7e17ab4b18bc77c1cc89dc7809b99c12af5c41dd9", func := "loop.example/g00056/laws.FnProbe", spec := "fnProbe", unfollowed := true, recurses := true, apart := false, narrowed := true }
def FnProbeUptoSaid : Prop := fnProbeUptoRow.holds Try.pinned (OpenSpec.upto fnProbeSpec)

/-- 'laws.FnExactJudge', WHERE WHAT IT READS IS OF BULK AT MOST 1048576: true; the input reads as it did. -/
def fnExactJudgeUptoRow : OpenClaim := { program := "ytdneepojgklciaa", sum := "71415e63805849a965171de7e17ab4b18bc77c1cc89dc7809b99c12af5c41dd9", func := "loop.example/g00056/laws.FnExactJudge", spec := "fnExactJudge", apart := false, narrowed := true }
def FnExactJudgeUptoSaid : Prop := fnExactJudgeUptoRow.holds Try.pinned (OpenSpec.upto fnExactJudgeSpec)

/-- 'laws.FnExactProbing', WHERE WHAT IT READS IS OF BULK AT MOST 1048576: true; the input reads as it did. -/
def fnExactProbingUptoRow : OpenClaim := { program := "ytdneepojgklciaa", sum := "71415e63805849a965171de7e17ab4b18bc77c1cc89dc7809b99c12af5c41dd9", func := "loop.example/g00056/laws.FnExactProbing", spec := "fnExactProbing", unfollowed := true, recurses := true, apart := false, narrowed := true }
def FnExactProbingUptoSaid : Prop := fnExactProbingUptoRow.holds Try.pinned (OpenSpec.upto fnExactProbingSpec)

end Rows
end Go.Proofs.Ytdneepojgklciaa
