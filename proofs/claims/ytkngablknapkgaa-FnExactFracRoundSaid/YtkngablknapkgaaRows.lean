/-
  No cell of these rows narrows 'for every input' (looked for: loops, veiled, ifaces, maps, wideKeys, modest, calm, conditions, laid).
  DERIVED. THE GIVEN ROWS OF THIS SEAT. 6 by the template 'for every input the law returns true; each argument reads behind the call as it read before'; 0 by the template 'total and deterministic' (their statements: YtkngablknapkgaaTotals.lean).
  GIVEN WITH THE SEED: the statements are not yours to turn. If you find one false, say at which input.
  Laid BY PROGRAM, IN A SANDBOX (cutbox-rows.mjs): the forced cells as the released guide's own fill.sh prints them over the translation 009a6bfc2e9350f2… (all of the seat's roots in one cut). By AI agents, Wed Nov 11 2026. No macro, syntax, notation, axiom, sorry.
-/
import Derived.Test.YtkngablknapkgaaChecked
import GoSem.Claim
import GoSem.ClaimJoined
import GoSem.ClaimMapViews
import Derived.JoinedTies
import Derived.KernelRfl
namespace Go.Proofs.Ytkngablknapkgaa
/- THE CELL 'sum', in the pinned program and in every row, IS THE sha256 OF THE DUMP (.gsa) THAT YtkngablknapkgaaProg.lean LOADS. Nothing in Lean hashes anything: it is a label: what it is worth is what the hold of that sum in a sandbox is worth. -/
noncomputable def Try.pinned : Pinned := { name := "ytkngablknapkgaa", sum := "009a6bfc2e9350f2d16a48b960f5adf929421874575450389a91a2857a2a1552", checked := Try.checked }
namespace Rows
def none {H : Type} : Left H := { results := [], args := [] }

/-- 'laws.FnExactFracOK': WHATEVER THE INPUT: true; the input reads as it did. -/
def fnExactFracOKSpec : ChangeSpec := { name := "fnExactFracOK", fn := fun _ => fun
  | [d] => { results := [.lit (.bool true)], args := [d] }
  | _ => none }
def fnExactFracOKRow : OpenClaim := { program := "ytkngablknapkgaa", sum := "009a6bfc2e9350f2d16a48b960f5adf929421874575450389a91a2857a2a1552", func := "loop.example/g00056/laws.FnExactFracOK", spec := "fnExactFracOK", apart := false }
def FnExactFracOKSaid : Prop := fnExactFracOKRow.holds Try.pinned (OpenSpec.ofChange fnExactFracOKSpec)

/-- ITS FALSE NEIGHBOUR: 'it returns false'. Refute it at one input. -/
def fnExactFracOKWrong : ChangeSpec := { name := "fnExactFracOK", fn := fun _ => fun
  | [d] => { results := [.lit (.bool false)], args := [d] }
  | _ => none }
def FnExactFracOKWrongFalsely : Prop := fnExactFracOKRow.holds Try.pinned (OpenSpec.ofChange fnExactFracOKWrong)

/-- 'laws.FnExactFracOf': WHATEVER THE INPUT: true; the input reads as it did. -/
def fnExactFracOfSpec : ChangeSpec := { name := "fnExactFracOf", fn := fun _ => fun
  | [d1, d2] => { results := [.lit (.bool true)], args := [d1, d2] }
  | _ => none }
def fnExactFracOfRow : OpenClaim := { program := "ytkngablknapkgaa", sum := "009a6bfc2e9350f2d16a48b960f5adf929421874575450389a91a2857a2a1552", func := "loop.example/g00056/laws.FnExactFracOf", spec := "fnExactFracOf", apart := false }
def FnExactFracOfSaid : Prop := fnExactFracOfRow.holds Try.pinned (OpenSpec.ofChange fnExactFracOfSpec)

/-- ITS FALSE NEIGHBOUR: 'it returns false'. Refute it at one input. -/
def fnExactFracOfWrong : ChangeSpec := { name := "fnExactFracOf", fn := fun _ => fun
  | [d1, d2] => { results := [.lit (.bool false)], args := [d1, d2] }
  | _ => none }
def FnExactFracOfWrongFalsely : Prop := fnExactFracOfRow.holds Try.pinned (OpenSpec.ofChange fnExactFracOfWrong)

/-- 'laws.FnExactFracAdd': WHATEVER THE INPUT: true; the input reads as it did. -/
def fnExactFracAddSpec : ChangeSpec := { name := "fnExactFracAdd", fn := fun _ => fun
  | [d1, d2] => { results := [.lit (.bool true)], args := [d1, d2] }
  | _ => none }
def fnExactFracAddRow : OpenClaim := { program := "ytkngablknapkgaa", sum := "009a6bfc2e9350f2d16a48b960f5adf929421874575450389a91a2857a2a1552", func := "loop.example/g00056/laws.FnExactFracAdd", spec := "fnExactFracAdd", apart := false }
def FnExactFracAddSaid : Prop := fnExactFracAddRow.holds Try.pinned (OpenSpec.ofChange fnExactFracAddSpec)

/-- ITS FALSE NEIGHBOUR: 'it returns false'. Refute it at one input. -/
def fnExactFracAddWrong : ChangeSpec := { name := "fnExactFracAdd", fn := fun _ => fun
  | [d1, d2] => { results := [.lit (.bool false)], args := [d1, d2] }
  | _ => none }
def FnExactFracAddWrongFalsely : Prop := fnExactFracAddRow.holds Try.pinned (OpenSpec.ofChange fnExactFracAddWrong)

/-- 'laws.FnExactFracMul': WHATEVER THE INPUT: true; the input reads as it did. -/
def fnExactFracMulSpec : ChangeSpec := { name := "fnExactFracMul", fn := fun _ => fun
  | [d1, d2] => { results := [.lit (.bool true)], args := [d1, d2] }
  | _ => none }
def fnExactFracMulRow : OpenClaim := { program := "ytkngablknapkgaa", sum := "009a6bfc2e9350f2d16a48b960f5adf929421874575450389a91a2857a2a1552", func := "loop.example/g00056/laws.FnExactFracMul", spec := "fnExactFracMul", apart := false }
def FnExactFracMulSaid : Prop := fnExactFracMulRow.holds Try.pinned (OpenSpec.ofChange fnExactFracMulSpec)

/-- ITS FALSE NEIGHBOUR: 'it returns false'. Refute it at one input. -/
def fnExactFracMulWrong : ChangeSpec := { name := "fnExactFracMul", fn := fun _ => fun
  | [d1, d2] => { results := [.lit (.bool false)], args := [d1, d2] }
  | _ => none }
def FnExactFracMulWrongFalsely : Prop := fnExactFracMulRow.holds Try.pinned (OpenSpec.ofChange fnExactFracMulWrong)

/-- 'laws.FnExactFracLess': WHATEVER THE INPUT: true; the input reads as it did. -/
def fnExactFracLessSpec : ChangeSpec := { name := "fnExactFracLess", fn := fun _ => fun
  | [d1, d2] => { results := [.lit (.bool true)], args := [d1, d2] }
  | _ => none }
def fnExactFracLessRow : OpenClaim := { program := "ytkngablknapkgaa", sum := "009a6bfc2e9350f2d16a48b960f5adf929421874575450389a91a2857a2a1552", func := "loop.example/g00056/laws.FnExactFracLess", spec := "fnExactFracLess", apart := false }
def FnExactFracLessSaid : Prop := fnExactFracLessRow.holds Try.pinned (OpenSpec.ofChange fnExactFracLessSpec)

/-- ITS FALSE NEIGHBOUR: 'it returns false'. Refute it at one input. -/
def fnExactFracLessWrong : ChangeSpec := { name := "fnExactFracLess", fn := fun _ => fun
  | [d1, d2] => { results := [.lit (.bool false)], args := [d1, d2] }
  | _ => none }
def FnExactFracLessWrongFalsely : Prop := fnExactFracLessRow.holds Try.pinned (OpenSpec.ofChange fnExactFracLessWrong)

/-- 'laws.FnExactFracRound': WHATEVER THE INPUT: true; the input reads as it did. -/
def fnExactFracRoundSpec : ChangeSpec := { name := "fnExactFracRound", fn := fun _ => fun
  | [d1, d2] => { results := [.lit (.bool true)], args := [d1, d2] }
  | _ => none }
def fnExactFracRoundRow : OpenClaim := { program := "ytkngablknapkgaa", sum := "009a6bfc2e9350f2d16a48b960f5adf929421874575450389a91a2857a2a1552", func := "loop.example/g00056/laws.FnExactFracRound", spec := "fnExactFracRound", unfollowed := true, recurses := true, apart := false }
def FnExactFracRoundSaid : Prop := fnExactFracRoundRow.holds Try.pinned (OpenSpec.ofChange fnExactFracRoundSpec)

/-- ITS FALSE NEIGHBOUR: 'it returns false'. Refute it at one input. -/
def fnExactFracRoundWrong : ChangeSpec := { name := "fnExactFracRound", fn := fun _ => fun
  | [d1, d2] => { results := [.lit (.bool false)], args := [d1, d2] }
  | _ => none }
def FnExactFracRoundWrongFalsely : Prop := fnExactFracRoundRow.holds Try.pinned (OpenSpec.ofChange fnExactFracRoundWrong)

/- THE SECOND FORM. 'bulk': how many values and letters a reading holds, each counted each time it is reached (what is shared counts as often as it is met; a slice's spare places count too). A statement '..UptoSaid' is the law's where the arguments, and the package variables that the reading takes, are together of bulk at most 1048576: NARROWER than '..Said'. Prove '..Said' where nothing that the law and all that it calls make is longer than what came in: it says more and counts as full. Else prove '..UptoSaid'. A law counts once. -/
mutual
def uptoBulk {H : Type} : DataW H → Nat
  | .lit (.string bytes) => bytes.length + 1
  | .lit _ => 1
  | .nil => 1
  | .ptr d => uptoBulk d + 1
  | .slice elems spare => uptoBulkAll elems + uptoBulkAll spare + 1
  | .agg parts => uptoBulkAll parts + 1
  | .iface _ d => uptoBulk d + 1
  | .map entries => uptoBulkEntries entries + 1
  | .held _ => 1
def uptoBulkAll {H : Type} : List (DataW H) → Nat
  | [] => 0
  | d :: r => uptoBulk d + uptoBulkAll r
def uptoBulkEntries {H : Type} : List (Lit × DataW H) → Nat
  | [] => 0
  | x :: r => uptoBulkEntry x + uptoBulkEntries r
def uptoBulkEntry {H : Type} : Lit × DataW H → Nat
  | (.string bytes, d) => bytes.length + uptoBulk d + 1
  | (_, d) => uptoBulk d + 1
 end
def uptoSmall : (H : Type) → List (DataW H) → Bool := fun _ ds => decide (uptoBulkAll ds ≤ 1048576)
def OpenSpec.upto (s : _root_.Go.ChangeSpec) : _root_.Go.OpenSpec := { _root_.Go.OpenSpec.ofChange s with cond := some uptoSmall }

/-- 'laws.FnExactFracOK', WHERE WHAT IT READS IS OF BULK AT MOST 1048576: true; the input reads as it did. -/
def fnExactFracOKUptoRow : OpenClaim := { program := "ytkngablknapkgaa", sum := "009a6bfc2e9350f2d16a48b960f5adf929421874575450389a91a2857a2a1552", func := "loop.example/g00056/laws.FnExactFracOK", spec := "fnExactFracOK", apart := false, narrowed := true }
def FnExactFracOKUptoSaid : Prop := fnExactFracOKUptoRow.holds Try.pinned (OpenSpec.upto fnExactFracOKSpec)

/-- 'laws.FnExactFracOf', WHERE WHAT IT READS IS OF BULK AT MOST 1048576: true; the input reads as it did. -/
def fnExactFracOfUptoRow : OpenClaim := { program := "ytkngablknapkgaa", sum := "009a6bfc2e9350f2d16a48b960f5adf929421874575450389a91a2857a2a1552", func := "loop.example/g00056/laws.FnExactFracOf", spec := "fnExactFracOf", apart := false, narrowed := true }
def FnExactFracOfUptoSaid : Prop := fnExactFracOfUptoRow.holds Try.pinned (OpenSpec.upto fnExactFracOfSpec)

/-- 'laws.FnExactFracAdd', WHERE WHAT IT READS IS OF BULK AT MOST 1048576: true; the input reads as it did. -/
def fnExactFracAddUptoRow : OpenClaim := { program := "ytkngablknapkgaa", sum := "009a6bfc2e9350f2d16a48b960f5adf929421874575450389a91a2857a2a1552", func := "loop.example/g00056/laws.FnExactFracAdd", spec := "fnExactFracAdd", apart := false, narrowed := true }
def FnExactFracAddUptoSaid : Prop := fnExactFracAddUptoRow.holds Try.pinned (OpenSpec.upto fnExactFracAddSpec)

/-- 'laws.FnExactFracMul', WHERE WHAT IT READS IS OF BULK AT MOST 1048576: true; the input reads as it did. -/
def fnExactFracMulUptoRow : OpenClaim := { program := "ytkngablknapkgaa", sum := "009a6bfc2e9350f2d16a48b960f5adf929421874575450389a91a2857a2a1552", func := "loop.example/g00056/laws.FnExactFracMul", spec := "fnExactFracMul", apart := false, narrowed := true }
def FnExactFracMulUptoSaid : Prop := fnExactFracMulUptoRow.holds Try.pinned (OpenSpec.upto fnExactFracMulSpec)

/-- 'laws.FnExactFracLess', WHERE WHAT IT READS IS OF BULK AT MOST 1048576: true; the input reads as it did. -/
def fnExactFracLessUptoRow : OpenClaim := { program := "ytkngablknapkgaa", sum := "009a6bfc2e9350f2d16a48b960f5adf929421874575450389a91a2857a2a1552", func := "loop.example/g00056/laws.FnExactFracLess", spec := "fnExactFracLess", apart := false, narrowed := true }
def FnExactFracLessUptoSaid : Prop := fnExactFracLessUptoRow.holds Try.pinned (OpenSpec.upto fnExactFracLessSpec)

/-- 'laws.FnExactFracRound', WHERE WHAT IT READS IS OF BULK AT MOST 1048576: true; the input reads as it did. -/
def fnExactFracRoundUptoRow : OpenClaim := { program := "ytkngablknapkgaa", sum := "009a6bfc2e9350f2d16a48b960f5adf929421874575450389a91a2857a2a1552", func := "loop.example/g00056/laws.FnExactFracRound", spec := "fnExactFracRound", unfollowed := true, recurses := true, apart := false, narrowed := true }
def FnExactFracRoundUptoSaid : Prop := fnExactFracRoundUptoRow.holds Try.pinned (OpenSpec.upto fnExactFracRoundSpec)

end Rows
end Go.Proofs.Ytkngablknapkgaa
