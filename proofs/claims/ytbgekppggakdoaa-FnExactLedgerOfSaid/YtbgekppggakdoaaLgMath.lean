/-
  The books of a right plan, in plain terms.
-/
import Derived.Test.YtbgekppggakdoaaHlI
import Derived.Test.YtbgekppggakdoaaBdMath
namespace Go.Proofs.Ytbgekppggakdoaa
set_option linter.unusedVariables false
set_option linter.unusedSimpArgs false

def lgE (P : List Slt) : Int := P.foldl (fun b x => max b x.ti) 0
def lgF (P : List Slt) : Nat → Int := P.foldl (fun f x => upd f x.mc.toNat (f x.mc.toNat + (x.ti - x.fr))) (fun _ => 0)
def lgT (P : List Slt) : Nat := P.foldl (fun b x => if x.fs then b + 1 else b) 0
/-- by how much the first k jobs end above their due -/
def lat (J : List Jb) (h : Hl) : Nat → Int
  | 0 => 0
  | k + 1 => lat J h k + max 0 ((h.pg.getD k (0, 0)).2 - (J[k]?.map Jb.due).getD 0)
theorem lgE_take {P : List Slt} {i : Nat} {x : Slt} (h : P[i]? = some x) : lgE (P.take (i + 1)) = max (lgE (P.take i)) x.ti := by unfold lgE; rw [List.take_add_one, h]; simp
theorem lgF_take {P : List Slt} {i : Nat} {x : Slt} (h : P[i]? = some x) : lgF (P.take (i + 1)) = upd (lgF (P.take i)) x.mc.toNat (lgF (P.take i) x.mc.toNat + (x.ti - x.fr)) := by unfold lgF; rw [List.take_add_one, h]; simp
theorem lgT_take {P : List Slt} {i : Nat} {x : Slt} (h : P[i]? = some x) : lgT (P.take (i + 1)) = if x.fs then lgT (P.take i) + 1 else lgT (P.take i) := by unfold lgT; rw [List.take_add_one, h]; simp
theorem pcC_zero {N S L : Int} {J : List Jb} {P : List Slt} (h : pcC N S L J P = 0) : shOk N S L J = true ∧ P.length ≤ 4096 ∧ J.length ≤ 4096 ∧ Up N S L J P P.length := by
  unfold pcC at h
  split at h
  · cases h
  · split at h
    · rename_i h1 h2
      refine ⟨h2, by omega, by omega, ?_⟩
      cases hf : fstB N S L J P with
      | some i =>
        rw [hf] at h
        unfold fstB at hf
        have := List.find?_some hf
        simp only [decide_eq_true_eq] at this
        exact absurd h this
      | none =>
        unfold fstB at hf
        rw [List.find?_eq_none] at hf
        intro k hk
        have := hf k (List.mem_range.2 hk)
        simpa using this
    · cases h
theorem slot_ok {N S L : Int} {J : List Jb} {P : List Slt} (hN : 1 ≤ N) (hS : 0 ≤ S ∧ S ≤ 1000) (hJ : ∀ j ∈ J, jbOk N L j = true) (hu : Up N S L J P P.length) {i : Nat} {x : Slt} (hx : P[i]? = some x) :
    0 ≤ x.mc ∧ x.mc < N ∧ 0 ≤ x.jb ∧ x.jb < J.length ∧ 0 ≤ x.fr ∧ x.fr ≤ 1000000000 ∧ x.fr < x.ti ∧ x.ti ≤ x.fr + 2000 ∧ (gAt (hal N J (P.take i)) x.jb).2 ≤ x.fr := by
  have hi : i < P.length := (List.getElem?_eq_some_iff.1 hx).1
  have hz := hu i hi
  rw [cAt_some hx] at hz
  obtain ⟨s, hs, hd, f0, f1, f2, f3, f4, f5⟩ := sCd_zero hz
  obtain ⟨a1, a2, hsm, j, hj, hsj⟩ := stOf_some hs
  have hjl : x.jb.toNat < J.length := (List.getElem?_eq_some_iff.1 hj).1
  obtain ⟨k1, k2, k3, k4, k5, k6, k7, k8⟩ := jbOk_st (hJ j (List.mem_of_getElem? hj)) (List.mem_of_getElem? hsj)
  have hlo : 1 ≤ lon S x.fs s ∧ lon S x.fs s ≤ 2000 := by unfold lon; split <;> omega
  exact ⟨by omega, by omega, a1, by omega, f0, f1, by omega, by omega, f2⟩
/-- what holds of the books on the way -/
structure Lk (P : List Slt) (i : Nat) : Prop where
  e0 : 0 ≤ lgE (P.take i) ∧ lgE (P.take i) ≤ 1000002000
  f0 : ∀ q, 0 ≤ lgF (P.take i) q ∧ lgF (P.take i) q ≤ 2000 * (i : Int)
  t0 : lgT (P.take i) ≤ i
theorem lk_all {N S L : Int} {J : List Jb} {P : List Slt} (hN : 1 ≤ N) (hS : 0 ≤ S ∧ S ≤ 1000) (hJ : ∀ j ∈ J, jbOk N L j = true) (hu : Up N S L J P P.length) : ∀ i, i ≤ P.length → Lk P i := by
  intro i
  induction i with
  | zero => intro _; exact ⟨by simp [lgE], by intro q; simp [lgF], by simp [lgT]⟩
  | succ i ih =>
    intro hi
    have h1 := ih (by omega)
    have hx : P[i]? = some (P[i]'(by omega)) := List.getElem?_eq_getElem _
    obtain ⟨a1, a2, a3, a4, a5, a6, a7, a8, _⟩ := slot_ok hN hS hJ hu hx
    refine ⟨?_, ?_, ?_⟩
    · rw [lgE_take hx]; have := h1.e0; omega
    · intro q
      rw [lgF_take hx]
      have hq := h1.f0 q
      have hm := h1.f0 P[i].mc.toNat
      unfold upd
      split <;> omega
    · rw [lgT_take hx]; have := h1.t0; split <;> omega
theorem lat_bd {J : List Jb} {h : Hl} (hg : ∀ g ∈ h.pg, 0 ≤ g.2 ∧ g.2 ≤ 1000002000) (hd : ∀ j ∈ J, 0 ≤ j.due) (hl : h.pg.length = J.length) : ∀ k, k ≤ J.length → 0 ≤ lat J h k ∧ lat J h k ≤ 1000002000 * (k : Int) := by
  intro k
  induction k with
  | zero => intro _; simp [lat]
  | succ k ih =>
    intro hk
    have := ih (by omega)
    have h1 : h.pg[k]? = some (h.pg[k]'(by omega)) := List.getElem?_eq_getElem _
    have h2 : J[k]? = some (J[k]'(by omega)) := List.getElem?_eq_getElem _
    have h3 := hg _ (List.mem_of_getElem? h1)
    have h4 := hd _ (List.mem_of_getElem? h2)
    simp only [lat]
    rw [getD_some h1, h2]
    simp only [Option.map_some, Option.getD_some]
    omega
theorem lat_succ {J : List Jb} {h : Hl} {k : Nat} {g : Nat × Int} {j : Jb} (h1 : h.pg[k]? = some g) (h2 : J[k]? = some j) : lat J h (k + 1) = lat J h k + max 0 (g.2 - j.due) := by
  simp only [lat]
  rw [getD_some h1, h2]
  rfl
/-- the ends of jobs behind the first slots -/
theorem ends_take {N S L : Int} {J : List Jb} {P : List Slt} {i : Nat} {x : Slt} (hx : P[i]? = some x) : (hal N J (P.take (i + 1))).pg = (hal N J (P.take i)).pg.set x.jb.toNat (x.st.toNat + 1, x.ti) := by
  rw [hal_take N J hx]
  rfl
end Go.Proofs.Ytbgekppggakdoaa
