/-
  No cell of these rows narrows 'for every input' (looked for: loops, veiled, ifaces, maps, wideKeys, modest, calm, conditions, laid).
  DERIVED. THE GIVEN ROWS OF THIS SEAT. 6 by the template 'for every input the law returns true; each argument reads behind the call as it read before'; 0 by the template 'total and deterministic' (their statements: YtlanpmdekbjgeaaTotals.lean).
  GIVEN WITH THE SEED: the statements are not yours to turn. If you find one false, say at which input.
  Laid BY PROGRAM, IN A SANDBOX (cutbox-rows.mjs): the forced cells as the released guide's own fill.sh prints them over the translation ed7dd8264a661d47… (all of the seat's roots in one cut). By AI agents, Wed Nov 11 2026. No macro, syntax, notation, axiom, sorry.
-/
import Derived.Test.YtlanpmdekbjgeaaChecked
import GoSem.Claim
import GoSem.ClaimJoined
import GoSem.ClaimMapViews
import Derived.JoinedTies
import Derived.KernelRfl
namespace Go.Proofs.Ytlanpmdekbjgeaa
/- THE CELL 'sum', in the pinned program and in every row, IS THE sha256 OF THE DUMP (.gsa) THAT YtlanpmdekbjgeaaProg.lean LOADS. Nothing in Lean hashes anything: it is a label: what it is worth is what the hold of that sum in a sandbox is worth. -/
noncomputable def Try.pinned : Pinned := { name := "ytlanpmdekbjgeaa", sum := "ed7dd8264a661d475b589ab749aed555a2c8aedebbd68f876bad73b9f28092bb", checked := Try.checked }
namespace Rows
def none {H : Type} : Left H := { results := [], args := [] }

/-- 'laws.FnChain': WHATEVER THE INPUT: true; the input reads as it did. -/
def fnChainSpec : ChangeSpec := { name := "fnChain", fn := fun _ => fun
  | [d1, d2] => { results := [.lit (.bool true)], args := [d1, d2] }
  | _ => none }
def fnChainRow : OpenClaim := { program := "ytlanpmdekbjgeaa", sum := "ed7dd8264a661d475b589ab749aed555a2c8aedebbd68f876bad73b9f28092bb", func := "loop.example/g00056/laws.FnChain", spec := "fnChain", unfollowed := true, recurses := true, apart := false }
def FnChainSaid : Prop := fnChainRow.holds Try.pinned (OpenSpec.ofChange fnChainSpec)

/-- ITS FALSE NEIGHBOUR: 'it returns false'. Refute it at one input. -/
def fnChainWrong : ChangeSpec := { name := "fnChain", fn := fun _ => fun
  | [d1, d2] => { results := [.lit (.bool false)], args := [d1, d2] }
  | _ => none }
def FnChainWrongFalsely : Prop := fnChainRow.holds Try.pinned (OpenSpec.ofChange fnChainWrong)

/-- 'laws.FnShare': WHATEVER THE INPUT: true; the input reads as it did. -/
def fnShareSpec : ChangeSpec := { name := "fnShare", fn := fun _ => fun
  | [d1, d2] => { results := [.lit (.bool true)], args := [d1, d2] }
  | _ => none }
def fnShareRow : OpenClaim := { program := "ytlanpmdekbjgeaa", sum := "ed7dd8264a661d475b589ab749aed555a2c8aedebbd68f876bad73b9f28092bb", func := "loop.example/g00056/laws.FnShare", spec := "fnShare", unfollowed := true, recurses := true, apart := false }
def FnShareSaid : Prop := fnShareRow.holds Try.pinned (OpenSpec.ofChange fnShareSpec)

/-- ITS FALSE NEIGHBOUR: 'it returns false'. Refute it at one input. -/
def fnShareWrong : ChangeSpec := { name := "fnShare", fn := fun _ => fun
  | [d1, d2] => { results := [.lit (.bool false)], args := [d1, d2] }
  | _ => none }
def FnShareWrongFalsely : Prop := fnShareRow.holds Try.pinned (OpenSpec.ofChange fnShareWrong)

/-- 'laws.FnExactChainOf': WHATEVER THE INPUT: true; the input reads as it did. -/
def fnExactChainOfSpec : ChangeSpec := { name := "fnExactChainOf", fn := fun _ => fun
  | [d] => { results := [.lit (.bool true)], args := [d] }
  | _ => none }
def fnExactChainOfRow : OpenClaim := { program := "ytlanpmdekbjgeaa", sum := "ed7dd8264a661d475b589ab749aed555a2c8aedebbd68f876bad73b9f28092bb", func := "loop.example/g00056/laws.FnExactChainOf", spec := "fnExactChainOf", unfollowed := true, recurses := true, apart := false }
def FnExactChainOfSaid : Prop := fnExactChainOfRow.holds Try.pinned (OpenSpec.ofChange fnExactChainOfSpec)

/-- ITS FALSE NEIGHBOUR: 'it returns false'. Refute it at one input. -/
def fnExactChainOfWrong : ChangeSpec := { name := "fnExactChainOf", fn := fun _ => fun
  | [d] => { results := [.lit (.bool false)], args := [d] }
  | _ => none }
def FnExactChainOfWrongFalsely : Prop := fnExactChainOfRow.holds Try.pinned (OpenSpec.ofChange fnExactChainOfWrong)

/-- 'laws.FnExactChainSafe': WHATEVER THE INPUT: true; the input reads as it did. -/
def fnExactChainSafeSpec : ChangeSpec := { name := "fnExactChainSafe", fn := fun _ => fun
  | [d1, d2, d3] => { results := [.lit (.bool true)], args := [d1, d2, d3] }
  | _ => none }
def fnExactChainSafeRow : OpenClaim := { program := "ytlanpmdekbjgeaa", sum := "ed7dd8264a661d475b589ab749aed555a2c8aedebbd68f876bad73b9f28092bb", func := "loop.example/g00056/laws.FnExactChainSafe", spec := "fnExactChainSafe", unfollowed := true, recurses := true, apart := false }
def FnExactChainSafeSaid : Prop := fnExactChainSafeRow.holds Try.pinned (OpenSpec.ofChange fnExactChainSafeSpec)

/-- ITS FALSE NEIGHBOUR: 'it returns false'. Refute it at one input. -/
def fnExactChainSafeWrong : ChangeSpec := { name := "fnExactChainSafe", fn := fun _ => fun
  | [d1, d2, d3] => { results := [.lit (.bool false)], args := [d1, d2, d3] }
  | _ => none }
def FnExactChainSafeWrongFalsely : Prop := fnExactChainSafeRow.holds Try.pinned (OpenSpec.ofChange fnExactChainSafeWrong)

/-- 'laws.FnExactChainShare': WHATEVER THE INPUT: true; the input reads as it did. -/
def fnExactChainShareSpec : ChangeSpec := { name := "fnExactChainShare", fn := fun _ => fun
  | [d1, d2] => { results := [.lit (.bool true)], args := [d1, d2] }
  | _ => none }
def fnExactChainShareRow : OpenClaim := { program := "ytlanpmdekbjgeaa", sum := "ed7dd8264a661d475b589ab749aed555a2c8aedebbd68f876bad73b9f28092bb", func := "loop.example/g00056/laws.FnExactChainShare", spec := "fnExactChainShare", unfollowed := true, recurses := true, apart := false }
def FnExactChainShareSaid : Prop := fnExactChainShareRow.holds Try.pinned (OpenSpec.ofChange fnExactChainShareSpec)

/-- ITS FALSE NEIGHBOUR: 'it returns false'. Refute it at one input. -/
def fnExactChainShareWrong : ChangeSpec := { name := "fnExactChainShare", fn := fun _ => fun
  | [d1, d2] => { results := [.lit (.bool false)], args := [d1, d2] }
  | _ => none }
def FnExactChainShareWrongFalsely : Prop := fnExactChainShareRow.holds Try.pinned (OpenSpec.ofChange fnExactChainShareWrong)

/-- 'laws.FnExactChainLikely': WHATEVER THE INPUT: true; the input reads as it did. -/
def fnExactChainLikelySpec : ChangeSpec := { name := "fnExactChainLikely", fn := fun _ => fun
  | [d1, d2, d3] => { results := [.lit (.bool true)], args := [d1, d2, d3] }
  | _ => none }
def fnExactChainLikelyRow : OpenClaim := { program := "ytlanpmdekbjgeaa", sum := "ed7dd8264a661d475b589ab749aed555a2c8aedebbd68f876bad73b9f28092bb", func := "loop.example/g00056/laws.FnExactChainLikely", spec := "fnExactChainLikely", unfollowed := true, recurses := true, apart := false }
def FnExactChainLikelySaid : Prop := fnExactChainLikelyRow.holds Try.pinned (OpenSpec.ofChange fnExactChainLikelySpec)

/-- ITS FALSE NEIGHBOUR: 'it returns false'. Refute it at one input. -/
def fnExactChainLikelyWrong : ChangeSpec := { name := "fnExactChainLikely", fn := fun _ => fun
  | [d1, d2, d3] => { results := [.lit (.bool false)], args := [d1, d2, d3] }
  | _ => none }
def FnExactChainLikelyWrongFalsely : Prop := fnExactChainLikelyRow.holds Try.pinned (OpenSpec.ofChange fnExactChainLikelyWrong)

/- THE SECOND FORM. 'bulk': how many values and letters a reading holds, each counted each time it is reached (what is shared counts as often as it is met; a slice's spare places count too). A statement '..UptoSaid' is the law's where the arguments, and the package variables that the reading takes, are together of bulk at most 1048576: NARROWER than '..Said'. Prove '..Said' where nothing that the law and all that it calls make is longer than what came in: it says more and counts as full. Else prove '..UptoSaid'. A law counts once. -/
mutual
def uptoBulk {H : Type} : DataW H → Nat
  | .lit (.string bytes) => bytes.length + 1
  | .lit _ => 1
  | .nil => 1
  | .ptr d => uptoBulk d + 1
  | .slice elems spare => uptoBulkAll elems + uptoBulkAll spare + 1
  | .agg parts => uptoBulkAll parts + 1
  | .iface _ d => uptoBulk d + 1
  | .map entries => uptoBulkEntries entries + 1
  | .held _ => 1
def uptoBulkAll {H : Type} : List (DataW H) → Nat
  | [] => 0
  | d :: r => uptoBulk d + uptoBulkAll r
def uptoBulkEntries {H : Type} : List (Lit × DataW H) → Nat
  | [] => 0
  | x :: r => uptoBulkEntry x + uptoBulkEntries r
def uptoBulkEntry {H : Type} : Lit × DataW H → Nat
  | (.string bytes, d) => bytes.length + uptoBulk d + 1
  | (_, d) => uptoBulk d + 1
 end
def uptoSmall : (H : Type) → List (DataW H) → Bool := fun _ ds => decide (uptoBulkAll ds ≤ 1048576)
def OpenSpec.upto (s : _root_.Go.ChangeSpec) : _root_.Go.OpenSpec := { _root_.Go.OpenSpec.ofChange s with cond := some uptoSmall }

/-- 'laws.FnChain', WHERE WHAT IT READS IS OF BULK AT MOST 1048576: true; the input reads as it did. -/
def fnChainUptoRow : OpenClaim := { program := "ytlanpmdekbjgeaa", sum := "ed7dd8264a661d475b589ab749aed555a2c8aedebbd68f876bad73b9f28092bb", func := "loop.example/g00056/laws.FnChain", spec := "fnChain", unfollowed := true, recurses := true, apart := false, narrowed := true }
def FnChainUptoSaid : Prop := fnChainUptoRow.holds Try.pinned (OpenSpec.upto fnChainSpec)

/-- 'laws.FnShare', WHERE WHAT IT READS IS OF BULK AT MOST 1048576: true; the input reads as it did. -/
def fnShareUptoRow : OpenClaim := { program := "ytlanpmdekbjgeaa", sum := "ed7dd8264a661d475b589ab749aed555a2c8aedebbd68f876bad73b9f28092bb", func := "loop.example/g00056/laws.FnShare", spec := "fnShare", unfollowed := true, recurses := true, apart := false, narrowed := true }
def FnShareUptoSaid : Prop := fnShareUptoRow.holds Try.pinned (OpenSpec.upto fnShareSpec)

/-- 'laws.FnExactChainOf', WHERE WHAT IT READS IS OF BULK AT MOST 1048576: true; the input reads as it did. -/
def fnExactChainOfUptoRow : OpenClaim := { program := "ytlanpmdekbjgeaa", sum := "ed7dd8264a661d475b589ab749aed555a2c8aedebbd68f876bad73b9f28092bb", func := "loop.example/g00056/laws.FnExactChainOf", spec := "fnExactChainOf", unfollowed := true, recurses := true, apart := false, narrowed := true }
def FnExactChainOfUptoSaid : Prop := fnExactChainOfUptoRow.holds Try.pinned (OpenSpec.upto fnExactChainOfSpec)

/-- 'laws.FnExactChainSafe', WHERE WHAT IT READS IS OF BULK AT MOST 1048576: true; the input reads as it did. -/
def fnExactChainSafeUptoRow : OpenClaim := { program := "ytlanpmdekbjgeaa", sum := "ed7dd8264a661d475b589ab749aed555a2c8aedebbd68f876bad73b9f28092bb", func := "loop.example/g00056/laws.FnExactChainSafe", spec := "fnExactChainSafe", unfollowed := true, recurses := true, apart := false, narrowed := true }
def FnExactChainSafeUptoSaid : Prop := fnExactChainSafeUptoRow.holds Try.pinned (OpenSpec.upto fnExactChainSafeSpec)

/-- 'laws.FnExactChainShare', WHERE WHAT IT READS IS OF BULK AT MOST 1048576: true; the input reads as it did. -/
def fnExactChainShareUptoRow : OpenClaim := { program := "ytlanpmdekbjgeaa", sum := "ed7dd8264a661d475b589ab749aed555a2c8aedebbd68f876bad73b9f28092bb", func := "loop.example/g00056/laws.FnExactChainShare", spec := "fnExactChainShare", unfollowed := true, recurses := true, apart := false, narrowed := true }
def FnExactChainShareUptoSaid : Prop := fnExactChainShareUptoRow.holds Try.pinned (OpenSpec.upto fnExactChainShareSpec)

/-- 'laws.FnExactChainLikely', WHERE WHAT IT READS IS OF BULK AT MOST 1048576: true; the input reads as it did. -/
def fnExactChainLikelyUptoRow : OpenClaim := { program := "ytlanpmdekbjgeaa", sum := "ed7dd8264a661d475b589ab749aed555a2c8aedebbd68f876bad73b9f28092bb", func := "loop.example/g00056/laws.FnExactChainLikely", spec := "fnExactChainLikely", unfollowed := true, recurses := true, apart := false, narrowed := true }
def FnExactChainLikelyUptoSaid : Prop := fnExactChainLikelyUptoRow.holds Try.pinned (OpenSpec.upto fnExactChainLikelySpec)

end Rows
end Go.Proofs.Ytlanpmdekbjgeaa
