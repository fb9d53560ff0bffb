/- Small laws that drawn statements' texts want. -/
import Derived.Test.YtkiplmabjeadgaaGreatBdTcQ
namespace Go.Proofs.YtkiplmabjeadgaaGreat
set_option maxRecDepth 100000
set_option maxHeartbeats 16000000
open Go.ChangeShapes Go.WideShapes Go.ChangeAt Go.RowKit
set_option linter.unusedVariables false
theorem zf {p : Prop} (h : false = true) : p := nomatch h
theorem zt {p : Prop} (h : true = false) : p := nomatch h
theorem znb {b : Bool} (h : b = true → false = true) : b = false := by
 cases b with
 | false => rfl
 | true => exact nomatch h rfl
noncomputable def regOfZ (id : Nat) : Go.Code → Option Go.Code
 | .region i ops b => if i = id then some (.region i ops b) else none
 | .seq a b => match regOfZ id a with | some c => some c | none => regOfZ id b
 | .cond _ a b => match regOfZ id a with | some c => some c | none => regOfZ id b
 | .block _ c => regOfZ id c
 | .loop c => regOfZ id c
 | .scope c => regOfZ id c
 | _ => none
end Go.Proofs.YtkiplmabjeadgaaGreat
