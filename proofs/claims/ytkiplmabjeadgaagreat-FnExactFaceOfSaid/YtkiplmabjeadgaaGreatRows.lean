/-
  No cell of these rows narrows 'for every input' (looked for: loops, veiled, ifaces, maps, wideKeys, modest, calm, conditions, laid).
  DERIVED. THE GIVEN ROWS OF THIS SEAT. 6 by the template 'for every input the law returns true; each argument reads behind the call as it read before'; 0 by the template 'total and deterministic' (their statements: YtkiplmabjeadgaaGreatTotals.lean).
  GIVEN WITH THE SEED: the statements are not yours to turn. If you find one false, say at which input.
  Laid BY PROGRAM, IN A SANDBOX (cutbox-rows.mjs): the forced cells as the released guide's own fill.sh prints them over the translation 73450e0b71814064… (all of the seat's roots in one cut). By AI agents, Wed Nov 11 2026. No macro, syntax, notation, axiom, sorry.
-/
import Derived.Test.YtkiplmabjeadgaaGreatChecked
import GoSem.Claim
import GoSem.ClaimJoined
import GoSem.ClaimMapViews
import Derived.JoinedTies
import Derived.KernelRfl
namespace Go.Proofs.YtkiplmabjeadgaaGreat
/- THE CELL 'sum', in the pinned program and in every row, IS THE sha256 OF THE DUMP (.gsa) THAT YtkiplmabjeadgaaGreatProg.lean LOADS. Nothing in Lean hashes anything: it is a label: what it is worth is what the hold of that sum in a sandbox is worth. -/
noncomputable def Tryz.pinned : Pinned := { name := "ytkiplmabjeadgaagreat", sum := "73450e0b718140644b8bb428dca8c5beb7c963a8d18d4bcc4a928819da89caa8", checked := Tryz.checked }
namespace Rows
def none {H : Type} : Left H := { results := [], args := [] }

/-- 'laws.FnExactRebuild': WHATEVER THE INPUT: true; the input reads as it did. -/
def fnExactRebuildSpec : ChangeSpec := { name := "fnExactRebuild", fn := fun _ => fun
  | [d1, d2] => { results := [.lit (.bool true)], args := [d1, d2] }
  | _ => none }
def fnExactRebuildRow : OpenClaim := { program := "ytkiplmabjeadgaagreat", sum := "73450e0b718140644b8bb428dca8c5beb7c963a8d18d4bcc4a928819da89caa8", func := "loop.example/g00056/laws.FnExactRebuild", spec := "fnExactRebuild", unfollowed := true, recurses := true, plainKeys := false, apart := false }
def FnExactRebuildSaid : Prop := fnExactRebuildRow.holds Tryz.pinned (OpenSpec.ofChange fnExactRebuildSpec)

/-- ITS FALSE NEIGHBOUR: 'it returns false'. Refute it at one input. -/
def fnExactRebuildWrong : ChangeSpec := { name := "fnExactRebuild", fn := fun _ => fun
  | [d1, d2] => { results := [.lit (.bool false)], args := [d1, d2] }
  | _ => none }
def FnExactRebuildWrongFalsely : Prop := fnExactRebuildRow.holds Tryz.pinned (OpenSpec.ofChange fnExactRebuildWrong)

/-- 'laws.FnExactFaceOf': WHATEVER THE INPUT: true; the input reads as it did. -/
def fnExactFaceOfSpec : ChangeSpec := { name := "fnExactFaceOf", fn := fun _ => fun
  | [d1, d2, d3, d4] => { results := [.lit (.bool true)], args := [d1, d2, d3, d4] }
  | _ => none }
def fnExactFaceOfRow : OpenClaim := { program := "ytkiplmabjeadgaagreat", sum := "73450e0b718140644b8bb428dca8c5beb7c963a8d18d4bcc4a928819da89caa8", func := "loop.example/g00056/laws.FnExactFaceOf", spec := "fnExactFaceOf", unfollowed := true, recurses := true, plainKeys := false, apart := false }
def FnExactFaceOfSaid : Prop := fnExactFaceOfRow.holds Tryz.pinned (OpenSpec.ofChange fnExactFaceOfSpec)

/-- ITS FALSE NEIGHBOUR: 'it returns false'. Refute it at one input. -/
def fnExactFaceOfWrong : ChangeSpec := { name := "fnExactFaceOf", fn := fun _ => fun
  | [d1, d2, d3, d4] => { results := [.lit (.bool false)], args := [d1, d2, d3, d4] }
  | _ => none }
def FnExactFaceOfWrongFalsely : Prop := fnExactFaceOfRow.holds Tryz.pinned (OpenSpec.ofChange fnExactFaceOfWrong)

/-- 'laws.FnExactSection': WHATEVER THE INPUT: true; the input reads as it did. -/
def fnExactSectionSpec : ChangeSpec := { name := "fnExactSection", fn := fun _ => fun
  | [d1, d2, d3] => { results := [.lit (.bool true)], args := [d1, d2, d3] }
  | _ => none }
def fnExactSectionRow : OpenClaim := { program := "ytkiplmabjeadgaagreat", sum := "73450e0b718140644b8bb428dca8c5beb7c963a8d18d4bcc4a928819da89caa8", func := "loop.example/g00056/laws.FnExactSection", spec := "fnExactSection", unfollowed := true, recurses := true, plainKeys := false, apart := false }
def FnExactSectionSaid : Prop := fnExactSectionRow.holds Tryz.pinned (OpenSpec.ofChange fnExactSectionSpec)

/-- ITS FALSE NEIGHBOUR: 'it returns false'. Refute it at one input. -/
def fnExactSectionWrong : ChangeSpec := { name := "fnExactSection", fn := fun _ => fun
  | [d1, d2, d3] => { results := [.lit (.bool false)], args := [d1, d2, d3] }
  | _ => none }
def FnExactSectionWrongFalsely : Prop := fnExactSectionRow.holds Tryz.pinned (OpenSpec.ofChange fnExactSectionWrong)

/-- 'laws.FnExactLayers': WHATEVER THE INPUT: true; the input reads as it did. -/
def fnExactLayersSpec : ChangeSpec := { name := "fnExactLayers", fn := fun _ => fun
  | [d1, d2] => { results := [.lit (.bool true)], args := [d1, d2] }
  | _ => none }
def fnExactLayersRow : OpenClaim := { program := "ytkiplmabjeadgaagreat", sum := "73450e0b718140644b8bb428dca8c5beb7c963a8d18d4bcc4a928819da89caa8", func := "loop.example/g00056/laws.FnExactLayers", spec := "fnExactLayers", unfollowed := true, recurses := true, plainKeys := false, apart := false }
def FnExactLayersSaid : Prop := fnExactLayersRow.holds Tryz.pinned (OpenSpec.ofChange fnExactLayersSpec)

/-- ITS FALSE NEIGHBOUR: 'it returns false'. Refute it at one input. -/
def fnExactLayersWrong : ChangeSpec := { name := "fnExactLayers", fn := fun _ => fun
  | [d1, d2] => { results := [.lit (.bool false)], args := [d1, d2] }
  | _ => none }
def FnExactLayersWrongFalsely : Prop := fnExactLayersRow.holds Tryz.pinned (OpenSpec.ofChange fnExactLayersWrong)

/-- 'laws.FnExactProps': WHATEVER THE INPUT: true; the input reads as it did. -/
def fnExactPropsSpec : ChangeSpec := { name := "fnExactProps", fn := fun _ => fun
  | [d1, d2] => { results := [.lit (.bool true)], args := [d1, d2] }
  | _ => none }
def fnExactPropsRow : OpenClaim := { program := "ytkiplmabjeadgaagreat", sum := "73450e0b718140644b8bb428dca8c5beb7c963a8d18d4bcc4a928819da89caa8", func := "loop.example/g00056/laws.FnExactProps", spec := "fnExactProps", unfollowed := true, recurses := true, plainKeys := false, apart := false }
def FnExactPropsSaid : Prop := fnExactPropsRow.holds Tryz.pinned (OpenSpec.ofChange fnExactPropsSpec)

/-- ITS FALSE NEIGHBOUR: 'it returns false'. Refute it at one input. -/
def fnExactPropsWrong : ChangeSpec := { name := "fnExactProps", fn := fun _ => fun
  | [d1, d2] => { results := [.lit (.bool false)], args := [d1, d2] }
  | _ => none }
def FnExactPropsWrongFalsely : Prop := fnExactPropsRow.holds Tryz.pinned (OpenSpec.ofChange fnExactPropsWrong)

/-- 'laws.FnExactPrint': WHATEVER THE INPUT: true; the input reads as it did. -/
def fnExactPrintSpec : ChangeSpec := { name := "fnExactPrint", fn := fun _ => fun
  | [d1, d2] => { results := [.lit (.bool true)], args := [d1, d2] }
  | _ => none }
def fnExactPrintRow : OpenClaim := { program := "ytkiplmabjeadgaagreat", sum := "73450e0b718140644b8bb428dca8c5beb7c963a8d18d4bcc4a928819da89caa8", func := "loop.example/g00056/laws.FnExactPrint", spec := "fnExactPrint", unfollowed := true, recurses := true, plainKeys := false, apart := false }
def FnExactPrintSaid : Prop := fnExactPrintRow.holds Tryz.pinned (OpenSpec.ofChange fnExactPrintSpec)

/-- ITS FALSE NEIGHBOUR: 'it returns false'. Refute it at one input. -/
def fnExactPrintWrong : ChangeSpec := { name := "fnExactPrint", fn := fun _ => fun
  | [d1, d2] => { results := [.lit (.bool false)], args := [d1, d2] }
  | _ => none }
def FnExactPrintWrongFalsely : Prop := fnExactPrintRow.holds Tryz.pinned (OpenSpec.ofChange fnExactPrintWrong)

/- THE SECOND FORM. 'bulk': how many values and letters a reading holds, each counted each time it is reached (what is shared counts as often as it is met; a slice's spare places count too). A statement '..UptoSaid' is the law's where the arguments, and the package variables that the reading takes, are together of bulk at most 1048576: NARROWER than '..Said'. Prove '..Said' where nothing that the law and all that it calls make is longer than what came in: it says more and counts as full. Else prove '..UptoSaid'. A law counts once. -/
mutual
def uptoBulk {H : Type} : DataW H → Nat
  | .lit (.string bytes) => bytes.length + 1
  | .lit _ => 1
  | .nil => 1
  | .ptr d => uptoBulk d + 1
  | .slice elems spare => uptoBulkAll elems + uptoBulkAll spare + 1
  | .agg parts => uptoBulkAll parts + 1
  | .iface _ d => uptoBulk d + 1
  | .map entries => uptoBulkEntries entries + 1
  | .held _ => 1
def uptoBulkAll {H : Type} : List (DataW H) → Nat
  | [] => 0
  | d :: r => uptoBulk d + uptoBulkAll r
def uptoBulkEntries {H : Type} : List (Lit × DataW H) → Nat
  | [] => 0
  | x :: r => uptoBulkEntry x + uptoBulkEntries r
def uptoBulkEntry {H : Type} : Lit × DataW H → Nat
  | (.string bytes, d) => bytes.length + uptoBulk d + 1
  | (_, d) => uptoBulk d + 1
 end
def uptoSmall : (H : Type) → List (DataW H) → Bool := fun _ ds => decide (uptoBulkAll ds ≤ 1048576)
def OpenSpec.upto (s : _root_.Go.ChangeSpec) : _root_.Go.OpenSpec := { _root_.Go.OpenSpec.ofChange s with cond := some uptoSmall }

/-- 'laws.FnExactRebuild', WHERE WHAT IT READS IS OF BULK AT MOST 1048576: true; the input reads as it did. -/
def fnExactRebuildUptoRow : OpenClaim := { program := "ytkiplmabjeadgaagreat", sum := "73450e0b718140644b8bb428dca8c5beb7c963a8d18d4bcc4a928819da89caa8", func := "loop.example/g00056/laws.FnExactRebuild", spec := "fnExactRebuild", unfollowed := true, recurses := true, plainKeys := false, apart := false, narrowed := true }
def FnExactRebuildUptoSaid : Prop := fnExactRebuildUptoRow.holds Tryz.pinned (OpenSpec.upto fnExactRebuildSpec)

/-- 'laws.FnExactFaceOf', WHERE WHAT IT READS IS OF BULK AT MOST 1048576: true; the input reads as it did. -/
def fnExactFaceOfUptoRow : OpenClaim := { program := "ytkiplmabjeadgaagreat", sum := "73450e0b718140644b8bb428dca8c5beb7c963a8d18d4bcc4a928819da89caa8", func := "loop.example/g00056/laws.FnExactFaceOf", spec := "fnExactFaceOf", unfollowed := true, recurses := true, plainKeys := false, apart := false, narrowed := true }
def FnExactFaceOfUptoSaid : Prop := fnExactFaceOfUptoRow.holds Tryz.pinned (OpenSpec.upto fnExactFaceOfSpec)

/-- 'laws.FnExactSection', WHERE WHAT IT READS IS OF BULK AT MOST 1048576: true; the input reads as it did. -/
def fnExactSectionUptoRow : OpenClaim := { program := "ytkiplmabjeadgaagreat", sum := "73450e0b718140644b8bb428dca8c5beb7c963a8d18d4bcc4a928819da89caa8", func := "loop.example/g00056/laws.FnExactSection", spec := "fnExactSection", unfollowed := true, recurses := true, plainKeys := false, apart := false, narrowed := true }
def FnExactSectionUptoSaid : Prop := fnExactSectionUptoRow.holds Tryz.pinned (OpenSpec.upto fnExactSectionSpec)

/-- 'laws.FnExactLayers', WHERE WHAT IT READS IS OF BULK AT MOST 1048576: true; the input reads as it did. -/
def fnExactLayersUptoRow : OpenClaim := { program := "ytkiplmabjeadgaagreat", sum := "73450e0b718140644b8bb428dca8c5beb7c963a8d18d4bcc4a928819da89caa8", func := "loop.example/g00056/laws.FnExactLayers", spec := "fnExactLayers", unfollowed := true, recurses := true, plainKeys := false, apart := false, narrowed := true }
def FnExactLayersUptoSaid : Prop := fnExactLayersUptoRow.holds Tryz.pinned (OpenSpec.upto fnExactLayersSpec)

/-- 'laws.FnExactProps', WHERE WHAT IT READS IS OF BULK AT MOST 1048576: true; the input reads as it did. -/
def fnExactPropsUptoRow : OpenClaim := { program := "ytkiplmabjeadgaagreat", sum := "73450e0b718140644b8bb428dca8c5beb7c963a8d18d4bcc4a928819da89caa8", func := "loop.example/g00056/laws.FnExactProps", spec := "fnExactProps", unfollowed := true, recurses := true, plainKeys := false, apart := false, narrowed := true }
def FnExactPropsUptoSaid : Prop := fnExactPropsUptoRow.holds Tryz.pinned (OpenSpec.upto fnExactPropsSpec)

/-- 'laws.FnExactPrint', WHERE WHAT IT READS IS OF BULK AT MOST 1048576: true; the input reads as it did. -/
def fnExactPrintUptoRow : OpenClaim := { program := "ytkiplmabjeadgaagreat", sum := "73450e0b718140644b8bb428dca8c5beb7c963a8d18d4bcc4a928819da89caa8", func := "loop.example/g00056/laws.FnExactPrint", spec := "fnExactPrint", unfollowed := true, recurses := true, plainKeys := false, apart := false, narrowed := true }
def FnExactPrintUptoSaid : Prop := fnExactPrintUptoRow.holds Tryz.pinned (OpenSpec.upto fnExactPrintSpec)

end Rows
end Go.Proofs.YtkiplmabjeadgaaGreat
