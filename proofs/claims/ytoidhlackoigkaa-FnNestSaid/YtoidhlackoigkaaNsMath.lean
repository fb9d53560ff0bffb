/-
  Plates on a strip: the lowest place, there the leftmost, is one; a plate that is pushed out of the way comes to the leftmost place of its level.
-/
import Derived.ProofKit
import Derived.IntWalk
namespace Go.Proofs.Ytoidhlackoigkaa

/-- a plate that lies: x, y, width, height -/
structure Rc where
  x : Int
  y : Int
  w : Int
  h : Int
deriving DecidableEq
/-- one lies over the other -/
def ovr (a b : Rc) : Bool := decide (a.x < b.x + b.w) && (decide (b.x < a.x + a.w) && (decide (a.y < b.y + b.h) && decide (b.y < a.y + a.h)))
theorem ovr_iff {a b : Rc} : ovr a b = true ↔ a.x < b.x + b.w ∧ b.x < a.x + a.w ∧ a.y < b.y + b.h ∧ b.y < a.y + a.h := by
  unfold ovr; simp only [Bool.and_eq_true, decide_eq_true_eq]
theorem ovr_comm (a b : Rc) : ovr a b = ovr b a := by
  cases h : ovr a b with
  | true => rw [ovr_iff] at h; symm; rw [ovr_iff]; omega
  | false =>
    cases h2 : ovr b a with
    | false => rfl
    | true => rw [ovr_iff] at h2; have : ovr a b = true := ovr_iff.2 (by omega); rw [h] at this; cases this
/-- over none of those that lie -/
def free (R : List Rc) (a : Rc) : Bool := R.all fun b => !ovr a b
theorem free_iff {R : List Rc} {a : Rc} : free R a = true ↔ ∀ b ∈ R, ovr a b = false := by
  unfold free
  rw [List.all_eq_true]
  constructor
  · intro h b hb; have := h b hb; simpa using this
  · intro h b hb; simp [h b hb]
def tops (R : List Rc) : List Int := 0 :: R.map fun b => b.y + b.h
def rights (R : List Rc) : List Int := 0 :: R.map fun b => b.x + b.w
/-- a place that could be taken -/
structure Can (W : Int) (R : List Rc) (w h x y : Int) : Prop where
  tp : y ∈ tops R
  rt : x ∈ rights R
  inn : x + w ≤ W
  fr : free R ⟨x, y, w, h⟩ = true
/-- the lowest one, there the leftmost -/
structure Low (W : Int) (R : List Rc) (w h x y : Int) : Prop where
  can : Can W R w h x y
  le : ∀ x' y', Can W R w h x' y' → y < y' ∨ (y = y' ∧ x ≤ x')
theorem Low.uniq {W : Int} {R : List Rc} {w h x y x' y' : Int} (a : Low W R w h x y) (b : Low W R w h x' y') : x = x' ∧ y = y' := by
  have h1 := a.le _ _ b.can
  have h2 := b.le _ _ a.can
  omega
/-- all that lie have a size and lie right of 0 and above 0 -/
def Good (R : List Rc) : Prop := ∀ b ∈ R, 0 ≤ b.x ∧ 0 ≤ b.y ∧ 1 ≤ b.w ∧ 1 ≤ b.h
theorem good_tops {R : List Rc} (h : Good R) : ∀ y ∈ tops R, 0 ≤ y := by
  intro y hy
  rcases List.mem_cons.1 hy with rfl | hy
  · omega
  · obtain ⟨b, hb, rfl⟩ := List.mem_map.1 hy
    have := h b hb; omega
/-- where nothing is any more -/
theorem high_free {R : List Rc} {w h x y : Int} (hy : ∀ t ∈ tops R, t ≤ y) : free R ⟨x, y, w, h⟩ = true := by
  rw [free_iff]
  intro b hb
  cases ho : ovr ⟨x, y, w, h⟩ b with
  | false => rfl
  | true =>
    rw [ovr_iff] at ho
    have := hy (b.y + b.h) (List.mem_cons.2 (Or.inr (List.mem_map.2 ⟨b, hb, rfl⟩)))
    simp only at ho
    omega
/-- nothing to the left of x is free on this level -/
def Blk (R : List Rc) (w h y x : Int) : Prop := ∀ x', 0 ≤ x' → x' < x → free R ⟨x', y, w, h⟩ = false
theorem blk_zero (R : List Rc) (w h y : Int) : Blk R w h y 0 := fun x' h0 h1 => by omega
/-- pushed out of the way of one that it lies over -/
theorem blk_push {R : List Rc} {w h y x : Int} {b : Rc} (hb : b ∈ R) (ho : ovr ⟨x, y, w, h⟩ b = true) (hk : Blk R w h y x) : Blk R w h y (b.x + b.w) ∧ x < b.x + b.w ∧ b.x + b.w ∈ rights R := by
  have ho' := ovr_iff.1 ho
  simp only at ho'
  refine ⟨?_, by omega, List.mem_cons.2 (Or.inr (List.mem_map.2 ⟨b, hb, rfl⟩))⟩
  intro x' h0 h1
  by_cases hx : x' < x
  · exact hk x' h0 hx
  · cases hf : free R ⟨x', y, w, h⟩ with
    | false => rfl
    | true =>
      have h2 := free_iff.1 hf b hb
      have h3 : ovr ⟨x', y, w, h⟩ b = true := ovr_iff.2 (by simp only; omega)
      rw [h2] at h3
      cases h3
/-- what pushing ends with: the leftmost free place of the level -/
structure Psh (R : List Rc) (w h y x : Int) : Prop where
  blk : Blk R w h y x
  rt : x ∈ rights R
  fr : free R ⟨x, y, w, h⟩ = true
/-- the first level, from below, on which it is within the strip -/
theorem low_of {W : Int} {R : List Rc} {w h x y : Int} (hg : Good R) (hp : Psh R w h y x) (hy : y ∈ tops R) (hW : x + w ≤ W)
    (hlow : ∀ y' ∈ tops R, y' < y → ∃ x', Psh R w h y' x' ∧ W < x' + w) : Low W R w h x y := by
  refine ⟨⟨hy, hp.rt, hW, hp.fr⟩, ?_⟩
  intro x' y' hc
  have hx0 : 0 ≤ x' := by
    rcases List.mem_cons.1 hc.rt with h0 | h0
    · omega
    · obtain ⟨b, hb, rfl⟩ := List.mem_map.1 h0
      have := hg b hb; omega
  by_cases h1 : y < y'
  · exact Or.inl h1
  · by_cases h2 : y' = y
    · subst h2
      refine Or.inr ⟨rfl, ?_⟩
      apply Int.le_of_not_gt
      intro hlt
      have := hp.blk x' hx0 hlt
      rw [hc.fr] at this
      cases this
    · obtain ⟨x2, hp2, hw2⟩ := hlow y' hc.tp (by omega)
      have hlt : x' < x2 := by have := hc.inn; omega
      have := hp2.blk x' hx0 hlt
      rw [hc.fr] at this
      cases this
/-- the model's search: the best so far among the places that were looked at -/
def Bst (W : Int) (R : List Rc) (w h : Int) (seen : Int → Int → Prop) (o : Option (Int × Int)) : Prop :=
  match o with
  | none => ∀ x y, seen x y → ¬ Can W R w h x y
  | some p => Can W R w h p.1 p.2 ∧ ∀ x y, seen x y → Can W R w h x y → p.2 < y ∨ (p.2 = y ∧ p.1 ≤ x)
theorem bst_low {W : Int} {R : List Rc} {w h : Int} {p : Int × Int} (hb : Bst W R w h (fun x y => x ∈ rights R ∧ y ∈ tops R) (some p)) : Low W R w h p.1 p.2 :=
  ⟨hb.1, fun x y hc => hb.2 x y ⟨hc.rt, hc.tp⟩ hc⟩
/-- a place that is passed over -/
theorem bst_skip {W : Int} {R : List Rc} {w h : Int} {seen seen' : Int → Int → Prop} {o : Option (Int × Int)} {x y : Int} (hb : Bst W R w h seen o) (hs : ∀ a b, seen' a b → seen a b ∨ (a = x ∧ b = y)) (hx : ¬ Can W R w h x y ∨ ∃ p, o = some p ∧ (p.2 < y ∨ (p.2 = y ∧ p.1 ≤ x))) : Bst W R w h seen' o := by
  cases o with
  | none =>
    intro a b hab
    rcases hs a b hab with h1 | ⟨rfl, rfl⟩
    · exact hb a b h1
    · rcases hx with h2 | ⟨p, h2, _⟩
      · exact h2
      · cases h2
  | some p =>
    refine ⟨hb.1, fun a b hab hc => ?_⟩
    rcases hs a b hab with h1 | ⟨rfl, rfl⟩
    · exact hb.2 a b h1 hc
    · rcases hx with h2 | ⟨q, h2, h3⟩
      · exact absurd hc h2
      · cases h2; exact h3
/-- a place that is better -/
theorem bst_take {W : Int} {R : List Rc} {w h : Int} {seen seen' : Int → Int → Prop} {o : Option (Int × Int)} {x y : Int} (hb : Bst W R w h seen o) (hs : ∀ a b, seen' a b → seen a b ∨ (a = x ∧ b = y)) (hc : Can W R w h x y) (hbt : ∀ p, o = some p → y < p.2 ∨ (y = p.2 ∧ x < p.1)) : Bst W R w h seen' (some (x, y)) := by
  refine ⟨hc, fun a b hab hab2 => ?_⟩
  rcases hs a b hab with h1 | ⟨rfl, rfl⟩
  · cases o with
    | none => exact absurd hab2 (hb a b h1)
    | some p =>
      have h2 := hb.2 a b h1 hab2
      have h3 := hbt p rfl
      simp only
      omega
  · exact Or.inr ⟨rfl, Int.le_refl _⟩
/-- there is always a place -/
theorem some_can {W : Int} {R : List Rc} {w h : Int} (hw : w ≤ W) : ∃ y, Can W R w h 0 y := by
  have key : ∀ L : List Int, L ≠ [] → ∃ y ∈ L, ∀ t ∈ L, t ≤ y := by
    intro L
    induction L with
    | nil => intro h; exact absurd rfl h
    | cons a L ih =>
      intro _
      by_cases hL : L = []
      · subst hL; exact ⟨a, by simp, fun t ht => by simp at ht; omega⟩
      · obtain ⟨y, hy, hm⟩ := ih hL
        by_cases h2 : a ≤ y
        · exact ⟨y, by simp [hy], fun t ht => by rcases List.mem_cons.1 ht with rfl | ht; (exact h2); (exact hm t ht)⟩
        · exact ⟨a, by simp, fun t ht => by rcases List.mem_cons.1 ht with rfl | ht; (omega); (have := hm t ht; omega)⟩
  obtain ⟨y, hy, hm⟩ := key (tops R) (by simp [tops])
  exact ⟨y, hy, by simp [rights], by omega, high_free hm⟩
end Go.Proofs.Ytoidhlackoigkaa
