/-
  The law for a statement that draws its order, where an edge that binds no order may point forward.
-/
import Derived.Test.YtkkmikgeppkhiaaInv
namespace Go.Proofs.Ytkkmikgeppkhiaa
open Go.ChangeShapes Go.WideShapes Go.ChangeAt Go.RowKit
set_option linter.unusedVariables false

/-- each operation waits for earlier ones alone -/
def forward2 (ops : Array Oper) : Bool := (List.range ops.size).all fun i => ((ops[i]?).map (·.after.all fun e => !Region.binds .any e || decide (e.on < i))).getD true
section
variable {P : Program} {ops : Array Oper} {Q : Exit → Act → World → Prop} {I : Array Bool → Act → World → Prop}
theorem wpAny_inv2 (hfw : forward2 ops = true)
    (hstep : ∀ listed a w, I listed a w → RSteps P ops Q I listed a w 0 ops.toList)
    (hend : ∀ listed a w, I listed a w → listed = Array.replicate ops.size true → Q .normal a w) :
    ∀ (n : Nat) (listed : Array Bool) (a : Act) (w : World), listed.size = ops.size → listed.toList.count false ≤ n → I listed a w → wpAny P .any ops Q n listed a w := by
  have alltrue : ∀ listed : Array Bool, listed.size = ops.size → (∀ i, i < ops.size → listed.getD i true = true) → listed = Array.replicate ops.size true := by
    intro listed hs h
    apply Array.ext
    · simp [hs]
    · intro i h1 h2
      have := h i (by omega)
      simp [h1] at this
      simp [this]
  have fin : ∀ listed : Array Bool, listed.size = ops.size → Region.ready .any ops listed = [] → listed = Array.replicate ops.size true := by
    intro listed hs hr
    refine alltrue listed hs ?_
    intro i
    induction i using Nat.strongRecOn with
    | _ i ih =>
      intro hi
      cases hl : listed.getD i true with
      | true => rfl
      | false =>
        have : i ∈ Region.ready .any ops listed := by
          rw [mem_ready]
          refine ⟨hl, ops[i], Array.getElem?_eq_getElem hi, fun e he hb => ?_⟩
          have hlt : e.on < i := by
            have h1 := hfw
            unfold forward2 at h1
            rw [List.all_eq_true] at h1
            have h2 := h1 i (by simpa using hi)
            rw [Array.getElem?_eq_getElem hi] at h2
            simp only [Option.map_some, Option.getD_some, Array.all_eq_true_iff_forall_mem] at h2
            have h3 := h2 e he
            rw [hb] at h3
            simpa using h3
          have h3 := ih e.on hlt (by omega)
          have : e.on < listed.size := by omega
          simp [this] at h3 ⊢
          exact h3
        rw [hr] at this
        cases this
  intro n
  induction n with
  | zero =>
    intro listed a w hs hc hI
    have e : listed = Array.replicate ops.size true := by
      refine alltrue listed hs fun i hi => ?_
      have := count_none (l := listed.toList) (by omega) (i := i) (by simp; omega)
      rw [Array.getElem?_toList] at this
      simp [this]
    refine ⟨?_, hend _ _ _ hI e⟩
    rw [e]
    apply List.eq_nil_iff_forall_not_mem.2
    intro i hi
    rw [mem_ready] at hi
    obtain ⟨h0, o, ho, _⟩ := hi
    have : i < ops.size := (Array.getElem?_eq_some_iff.1 ho).1
    simp [this] at h0
  | succ n ih =>
    intro listed a w hs hc hI
    refine ⟨fun hr => hend _ _ _ hI (fin listed hs hr), fun i hi => ?_⟩
    obtain ⟨h0, o, ho, hall⟩ := mem_ready.1 hi
    have hlt : i < listed.size := by
      have := (Array.getElem?_eq_some_iff.1 ho).1
      omega
    have hst := RSteps.at ops.toList 0 i o (hstep _ _ _ hI) (by rw [Array.getElem?_toList]; exact ho) (by rw [Nat.zero_add]; exact h0) (by
      rw [Array.all_eq_true_iff_forall_mem]
      intro e he
      cases hb : Region.binds .any e
      · rfl
      · rw [hall e he hb]; rfl)
    rw [Nat.zero_add] at hst
    refine wpOp_step ho (fun K' hK => hst K' (fun a' w' h => hK a' w' (ih _ a' w' (by simpa using hs) ?_ h)))
    rw [Array.toList_setIfInBounds]
    have := count_set listed.toList i (by
      rw [Array.getElem?_toList]
      simp [hlt] at h0 ⊢
      exact h0)
    omega
/-- the statement, by an invariant -/
theorem wp_region_inv2 {id : Nat} {a : Act} {w : World} (I : Array Bool → Act → World → Prop) (hm : P.follows .mixedOrders = true) (hfw : forward2 ops = true)
    (h0 : I (Array.replicate ops.size false) a w.drew)
    (hstep : ∀ listed a w, I listed a w → RSteps P ops Q I listed a w 0 ops.toList)
    (hend : ∀ listed a w, I listed a w → listed = Array.replicate ops.size true → Q .normal a w) : (Code.region id ops true).wp P Q a w := by
  refine wp_region_any hm (wpAny_inv2 hfw hstep hend _ _ _ _ (by simp) ?_ h0)
  simp
end
theorem zu {p : Prop} (h : Hid p) : p := h
theorem zf {p : Prop} (h : false = true) : p := nomatch h
theorem zt {p : Prop} (h : true = false) : p := nomatch h
theorem znb {b : Bool} (h : b = true → false = true) : b = false := by
  cases b with
  | false => rfl
  | true => exact nomatch h rfl
noncomputable def regOfZ (id : Nat) : Go.Code → Option Go.Code
  | .region i ops b => if i = id then some (.region i ops b) else none
  | .seq a b => match regOfZ id a with | some c => some c | none => regOfZ id b
  | .cond _ a b => match regOfZ id a with | some c => some c | none => regOfZ id b
  | .block _ c => regOfZ id c
  | .loop c => regOfZ id c
  | .scope c => regOfZ id c
  | _ => none
end Go.Proofs.Ytkkmikgeppkhiaa
