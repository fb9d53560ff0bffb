/-
  ReadFrac of the program answers as the model at every text, a fraction's or not, of whatever length; the tables and the two errors of the library that its road reads are tied to the program's text.
-/
import Derived.Test.YtidafleegkofkaiDoorLaw
import Derived.Test.YtidafleegkofkaiDoorTie
import Derived.Test.YtidafleegkofkaiDoorCards
import Derived.ChangeOld
import Derived.Lib.SmallJoins
import Derived.Lib.LaidTab
import Derived.LaidMore
import Derived.Stop.Joined
import Derived.Stop.LaidErr
import Derived.SevenTiedAt
namespace Go.Proofs.YtidafleegkofkaiDoor
open Go.ChangeShapes Go.WideShapes Go.ChangeAt Go.RowKit Go.Joins
open Go.ChangeMaps (open_string shut_string)
set_option linter.unusedVariables false
set_option linter.unusedSimpArgs false

theorem rf_own : ownKnob Tryd.prog.godebug = none := by kernel_rfl
abbrev laid5 : List (String × DataW Unit) := [("math/bits.deBruijn32tab", Rows.laid_math_bits_deBruijn32tab), ("math/bits.deBruijn64tab", Rows.laid_math_bits_deBruijn64tab), ("internal/strconv.uint64pow10", Rows.laid_internal_strconv_uint64pow10), ("strconv.ErrRange", Rows.laid_strconv_ErrRange), ("strconv.ErrSyntax", Rows.laid_strconv_ErrSyntax)]
theorem rfPow : Tryd.prog.globalNamed "internal/strconv.uint64pow10" = some 3 := by kernel_rfl
theorem rtPow : (Tryd.prog.globals[3]?).map (·.type) = some 76 := by kernel_rfl
theorem rfRange : Tryd.prog.globalNamed "strconv.ErrRange" = some 2 := by kernel_rfl
theorem rtRange : (Tryd.prog.globals[2]?).map (·.type) = some 42 := by kernel_rfl
theorem rfSyntax : Tryd.prog.globalNamed "strconv.ErrSyntax" = some 1 := by kernel_rfl
theorem rtSyntax : (Tryd.prog.globals[1]?).map (·.type) = some 42 := by kernel_rfl
theorem rfCells87 : Tryd.prog.cellsOf 87 = 1 := by kernel_rfl
theorem rfCells9 : Tryd.prog.cellsOf 9 = 1 := by kernel_rfl
theorem rfStar : "*" ++ "errors.errorString" = "*errors.errorString" := by decide
theorem rfRow85 (u : TypeId) (h : Tryd.prog.typeName? 3 u = some "*errors.errorString") : u = 85 :=
  typeName_ptr_named (nm := "errors.errorString") (by rw [rfStar]; kernel_rfl) (by kernel_rfl) (by decide) u (by rw [rfStar]; exact h)

/-- the heap that the start-up code of the variables leaves meets the condition -/
theorem rf_met (os : Os) (args : Array Value) : laidMetH Tryd.prog laid5 ((World.doorLaid Tryd.prog 400 os).forCall (fun _ _ => 0) ⟨#[], args, []⟩).memory :=
  laidMetH_of_parts3 (fuel := 8) (laidMet_of_run' 8 (by kernel_rfl) (by kernel_rfl)) (by kernel_rfl) (by kernel_rfl)

theorem rf_laid {W : World} (h : laidMetH Tryd.prog laid5 W) : Tab W.heap.size W ∧ Sent W.heap.size W := by
  rw [MakeChecks.laidMetH_plain _ _ _ (by kernel_rfl)] at h
  have h2 : laidMet Tryd.prog [("internal/strconv.uint64pow10", Lib.tabData .u64 Lib.pow10Tab), ("strconv.ErrRange", Rows.laid_strconv_ErrRange), ("strconv.ErrSyntax", Rows.laid_strconv_ErrSyntax)] W := laidMet.tail (laidMet.tail h)
  refine ⟨Lib.tabBelow_of_tabIs (Lib.tabIs_of_head rfPow rtPow Tryd.underlying76 Tryd.underlying68 (by kernel_rfl) (by kernel_rfl) h2), ?_⟩
  obtain ⟨a0, s0, hv0, hc0, hs0, hz0⟩ := laid_sentinel (laidMet.tail h2) rfRange rtRange Tryd.underlying42 rfRow85 Tryd.underlying85 Tryd.underlying87 rfl rfl Tryd.underlying9 rfCells87 rfCells9
  obtain ⟨a1, s1, hv1, hc1, hs1, hz1⟩ := laid_sentinel (laidMet.tail (laidMet.tail h2)) rfSyntax rtSyntax Tryd.underlying42 rfRow85 Tryd.underlying85 Tryd.underlying87 rfl rfl Tryd.underlying9 rfCells87 rfCells9
  have g0 : W.cell? ⟨2, 0, none⟩ = some (.iface 85 (.pointer (some a0))) := by simpa using World.var?_cell rfRange hv0 0
  have g1 : W.cell? ⟨1, 0, none⟩ = some (.iface 85 (.pointer (some a1))) := by simpa using World.var?_cell rfSyntax hv1 0
  exact ⟨⟨cell_lt g1, _, g1, Or.inr ⟨_, _, rfl⟩⟩, ⟨cell_lt g0, _, g0, Or.inr ⟨_, _, rfl⟩⟩⟩

set_option maxRecDepth 100000 in
theorem rf_lifted (os : Os) (started : os.Started) (H : Type) (enc : TypeId × Value → H) :
    ReturnsInHanded {} Tryd.checked os 4 .any (fun w args => (Rows.fnExactReadFracSpec.pre enc Tryd.prog Tryd.f4 [] false w args ∧ laidMetH Tryd.prog laid5 w) ∧ sizedMet enc Tryd.prog Tryd.f4 (OpenSpec.ofChange Rows.fnExactReadFracSpec) false w args)
      (Rows.fnExactReadFracSpec.post enc Tryd.prog Tryd.f4 false true false false) := by
  refine returnsInHanded_of_change_and (C := Tryd.checked) (X := fun w _ => laidMetH Tryd.prog laid5 w) (fun _ _ _ hh h => h.of_heap hh) rf_own started (by kernel_rfl) Tryd.func4
    (ChangeSpec.witness_shaped (enc := enc) (C := Tryd.checked) (os := os) (X := fun w _ => laidMetH Tryd.prog laid5 w) false (World.doorLaid Tryd.prog 400 os) #[.string ⟨#[]⟩] 8 rfl (World.shaped_of_RefB (by kernel_rfl) (by kernel_rfl)) (by kernel_rfl) (by kernel_rfl) (by kernel_rfl) (rf_met os _)) ?_
  intro W base args ds gs before hval0 hW _ _ hL _
  have hval : ∀ (j : Nat) t v, Tryd.f4.params[j]? = some t → args[j]? = some v → Value.okWide Tryd.prog W .any base t v := hval0
  have hW' := hW
  obtain ⟨p, q, hA0, hV, rfl, hfz, hnd⟩ := hW
  have hA : DataW.TrodAll enc Tryd.prog W 0 (fun _ => true) true Tryd.f4.params.toList args.toList ds p := hA0
  rw [Tryd.params4] at hA hval
  obtain ⟨v0, d0, rfl, rfl, h0⟩ := trodAll_one hA
  obtain ⟨rfl, rfl⟩ := trodVars_none hV
  obtain ⟨T, rfl, rfl, rfl, wT⟩ := open_string Tryd.underlying9 (hval 0 9 v0 rfl rfl) h0
  obtain ⟨ht, hS⟩ := rf_laid hL
  clear hA0 hval0 hL
  simp only [List.append_nil] at hW'
  refine (fnExactReadFrac_walk T W (by unfold maxLen at wT; omega) ht hS).mono fun e W' ⟨he, bel⟩ => ?_
  subst he
  exact ⟨_, rfl, _, _, _, [], [], [], hW', trodAll_mk1 (shut_bool Tryd.underlying4 _), trodAll_mk1 (shut_string Tryd.underlying9 wT), rfl, bel.frame _, fun h => by cases h⟩

theorem fnExactReadFrac_row : Rows.FnExactReadFracSaid :=
  OpenClaim.holds_of_wide 4 Tryd.f4 rfl rfl rfl rfl rfl rfl rfl ⟨rfl, rfl, rfl, rfl, rfl⟩ rfl rfl rfl rfl rfl (by kernel_rfl) Tryd.func4 (by kernel_rfl)
    (of_decide_eq_true (by kernel_rfl)) (by unfold Func.isWrapper; first | (rw [if_pos (by decide +kernel)]; kernel_rfl) | (rw [if_neg (by decide +kernel)]; exact ⟨rfl, rfl⟩))
    (fun os started H enc _ => rf_lifted os started H enc)

/-- The statement, as it was given: the tied card. -/
theorem fnExactReadFrac_holds : Rows.FnExactReadFracCardSaid :=
  Claim7.holds_tied_plain_at .later [] [.data, .data, .data, .sentinel, .sentinel] true (true, "7eb4ea7170fb850d5fcc2ea69b996992709383b1bfb9fa8debcdb6a48cb4abd2") true
    fnExactReadFrac_row (fun _ h => by cases h) (by kernel_rfl) (fun _ h => by cases h) fnExactReadFrac_row_tie rfl ⟨rfl, rfl⟩ (by kernel_rfl) rfl
    (fun f fn hf hfn => by
      obtain rfl : f = 4 := Option.some.inj ((show Tryd.prog.funcNamed "loop.example/g00056/laws.FnExactReadFrac" = some 4 by kernel_rfl).symm.trans hf) |>.symm
      obtain rfl : fn = Tryd.f4 := (Option.some.inj (Tryd.func4.symm.trans hfn)).symm
      exact ⟨by kernel_rfl, fun j t ht => by
        rw [Tryd.params4] at ht
        have hm : t ∈ [9] := by simpa using Array.mem_of_getElem? ht
        have hall : ([9].all fun u => !Tryd.prog.wantsStandIn u) = true := by kernel_rfl
        exact (show Tryd.prog.wantsStandIn t = false by simpa using List.all_eq_true.1 hall t hm)⟩)
    (by kernel_rfl)
#print axioms fnExactReadFrac_holds
end Go.Proofs.YtidafleegkofkaiDoor
