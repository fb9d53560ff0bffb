/-
  What no plan's end can be below, in plain terms.
-/
import Derived.Test.YtbgekppggakdoaaJbRows
namespace Go.Proofs.Ytbgekppggakdoaa
open Go.ChangeShapes Go.WideShapes Go.ChangeAt Go.RowKit
set_option linter.unusedVariables false
set_option linter.unusedSimpArgs false

def upd {α : Type} (f : Nat → α) (k : Nat) (x : α) : Nat → α := fun i => if i = k then x else f i
theorem upd_same {α : Type} (f : Nat → α) (k : Nat) (x : α) : upd f k x k = x := by simp [upd]
theorem upd_self {α : Type} (f : Nat → α) (k : Nat) : upd f k (f k) = f := by
  funext i; unfold upd; split
  · rename_i h; rw [h]
  · rfl
theorem upd_upd {α : Type} (f : Nat → α) (k : Nat) (x y : α) : upd (upd f k x) k y = upd f k y := by
  funext i; unfold upd; split <;> rfl
def tab {α : Type} (n : Nat) (f : Nat → α) : List α := (List.range n).map f
theorem tab_len {α : Type} (n : Nat) (f : Nat → α) : (tab n f).length = n := by simp [tab]
theorem tab_at {α : Type} {n k : Nat} (f : Nat → α) (h : k < n) : (tab n f)[k]? = some (f k) := by simp [tab, h]
theorem tab_set {α : Type} (n k : Nat) (f : Nat → α) (x : α) : (tab n f).set k x = tab n (upd f k x) := by
  apply List.ext_getElem?
  intro i
  rw [List.getElem?_set]
  by_cases hi : i < n
  · rw [tab_at _ hi, tab_at _ hi, tab_len]
    by_cases e : k = i
    · subst e; simp [upd, hi]
    · rw [if_neg e]; simp [upd]; intro h; exact absurd h.symm e
  · rw [List.getElem?_eq_none (by rw [tab_len]; omega), List.getElem?_eq_none (by rw [tab_len]; omega), tab_len]
    split
    · split
      · omega
      · rfl
    · rfl
/-- loads of the machines, and which tools are used -/
structure Bs where
  f : Nat → Int
  g : Nat → Bool
def kAt (s : Stp) : Nat := 10 * s.m.toNat + s.l.toNat
def bst (S : Int) (b : Bs) (s : Stp) : Bs := ⟨upd b.f s.m.toNat (b.f s.m.toNat + s.t + if b.g (kAt s) then 0 else S), upd b.g (kAt s) true⟩
def bjb (S : Int) (b : Bs) (T : List Stp) : Bs := T.foldl (bst S) b
def bal (S : Int) (J : List Jb) : Bs := J.foldl (fun b j => bjb S b j.st) ⟨fun _ => 0, fun _ => false⟩
def tsm (T : List Stp) : Int := (T.map Stp.t).sum
def bsj (J : List Jb) : Int := J.foldl (fun b j => max b (tsm j.st)) 0
def top (b : Int) (f : Nat → Int) (n : Nat) : Int := (List.range n).foldl (fun b i => max b (f i)) b
noncomputable def bdV (N S L : Int) (J : List Jb) : Int := if 4096 < J.length then 0 else if shOk N S L J = true then top (bsj J) (bal S J).f N.toNat else 0
noncomputable def bdC (N S L : Int) (J : List Jb) : Int := if 4096 < J.length then 2 else if shOk N S L J = true then 0 else 1
theorem bjb_take (S : Int) (b : Bs) {T : List Stp} {k : Nat} {s : Stp} (h : T[k]? = some s) : bjb S b (T.take (k + 1)) = bst S (bjb S b (T.take k)) s := by
  unfold bjb; rw [List.take_add_one, h]; simp
theorem bal_take (S : Int) {J : List Jb} {k : Nat} {j : Jb} (h : J[k]? = some j) : bal S (J.take (k + 1)) = bjb S (bal S (J.take k)) j.st := by
  unfold bal; rw [List.take_add_one, h]; simp
theorem tsm_take {T : List Stp} {k : Nat} {s : Stp} (h : T[k]? = some s) : tsm (T.take (k + 1)) = tsm (T.take k) + s.t := by
  unfold tsm; rw [List.take_add_one, h]; simp
theorem bsj_take {J : List Jb} {k : Nat} {j : Jb} (h : J[k]? = some j) : bsj (J.take (k + 1)) = max (bsj (J.take k)) (tsm j.st) := by
  unfold bsj; rw [List.take_add_one, h]; simp
theorem top_succ (b : Int) (f : Nat → Int) (n : Nat) : top b f (n + 1) = max (top b f n) (f n) := by
  unfold top; rw [List.range_succ]; simp
theorem top_ge (b : Int) (f : Nat → Int) (n : Nat) : b ≤ top b f n := by
  induction n with
  | zero => simp [top]
  | succ n ih => rw [top_succ]; omega
theorem top_max (b : Int) (f : Nat → Int) (n : Nat) (hn : 0 < n) : max b (top (f 0) f n) = top b f n := by
  induction n with
  | zero => omega
  | succ n ih =>
    rw [top_succ, top_succ]
    by_cases h : n = 0
    · subst h; simp [top]
    · rw [← ih (by omega)]; omega
theorem top_zero (b : Int) (f : Nat → Int) (n m : Nat) (hb : 0 ≤ b) (hnm : n ≤ m) (hz : ∀ i, n ≤ i → f i = 0) : top b f m = top b f n := by
  induction m with
  | zero => have : n = 0 := by omega
            rw [this]
  | succ m ih =>
    by_cases e : n = m + 1
    · rw [e]
    · rw [top_succ, ih (by omega), hz m (by omega)]
      have := top_ge b f n
      omega
/-- what holds of loads: none is below 0 nor above c, and none beyond N is used -/
structure Bk (N : Int) (b : Bs) (c : Int) : Prop where
  lo : ∀ i, 0 ≤ b.f i
  hi : ∀ i, b.f i ≤ c
  zr : ∀ i : Nat, N ≤ (i : Int) → b.f i = 0
theorem Bk.step {N S L : Int} {b : Bs} {c : Int} (h : Bk N b c) {s : Stp} (hS : 0 ≤ S ∧ S ≤ 1000) (hs : 0 ≤ s.m ∧ s.m < N ∧ 1 ≤ s.t ∧ s.t ≤ 1000 ∧ 0 ≤ s.l ∧ s.l ≤ 9 ∧ 0 ≤ s.e ∧ s.e ≤ L) : Bk N (bst S b s) (c + 2000) := by
  have h1 := h.lo s.m.toNat
  have h2 := h.hi s.m.toNat
  refine ⟨fun i => ?_, fun i => ?_, fun i hi => ?_⟩
  · simp only [bst, upd]; split
    · split <;> omega
    · exact h.lo i
  · simp only [bst, upd]; split
    · split <;> omega
    · have := h.hi i; omega
  · simp only [bst, upd]; rw [if_neg (by omega)]; exact h.zr i hi
theorem Bk.run {N S L : Int} {T : List Stp} (hS : 0 ≤ S ∧ S ≤ 1000) (hT : ∀ s ∈ T, 0 ≤ s.m ∧ s.m < N ∧ 1 ≤ s.t ∧ s.t ≤ 1000 ∧ 0 ≤ s.l ∧ s.l ≤ 9 ∧ 0 ≤ s.e ∧ s.e ≤ L) {b : Bs} {c : Int} (h : Bk N b c) : ∀ k, k ≤ T.length → Bk N (bjb S b (T.take k)) (c + 2000 * (k : Int)) := by
  intro k
  induction k with
  | zero => intro _; simpa [bjb] using h
  | succ k ih =>
    intro hk
    have hx : T[k]? = some T[k] := List.getElem?_eq_getElem (by omega)
    rw [bjb_take S b hx, show c + 2000 * ((k + 1 : Nat) : Int) = c + 2000 * (k : Int) + 2000 by omega]
    exact (ih (by omega)).step hS (hT _ (List.mem_of_getElem? hx))
theorem Bk.mono {N : Int} {b : Bs} {c d : Int} (h : Bk N b c) (hd : c ≤ d) : Bk N b d := ⟨h.lo, fun i => Int.le_trans (h.hi i) hd, h.zr⟩
theorem Bk.jobs {N S L : Int} {J : List Jb} (hS : 0 ≤ S ∧ S ≤ 1000) (hJ : ∀ j ∈ J, jbOk N L j = true) : ∀ k, k ≤ J.length → Bk N (bal S (J.take k)) (16000 * (k : Int)) := by
  intro k
  induction k with
  | zero => intro _; exact ⟨fun _ => by simp [bal], fun _ => by simp [bal], fun _ _ => by simp [bal]⟩
  | succ k ih =>
    intro hk
    have hx : J[k]? = some J[k] := List.getElem?_eq_getElem (by omega)
    have hj := hJ _ (List.mem_of_getElem? hx)
    rw [bal_take S hx]
    have := Bk.run (T := J[k].st) hS (fun s hs => jbOk_st hj hs) (ih (by omega)) J[k].st.length (Nat.le_refl _)
    rw [List.take_length] at this
    have hl := jbOk_len hj
    exact this.mono (by omega)
theorem tsm_bd {N L : Int} {j : Jb} (hj : jbOk N L j = true) : ∀ k, k ≤ j.st.length → 0 ≤ tsm (j.st.take k) ∧ tsm (j.st.take k) ≤ 1000 * (k : Int) := by
  intro k
  induction k with
  | zero => intro _; simp [tsm]
  | succ k ih =>
    intro hk
    have hx : j.st[k]? = some j.st[k] := List.getElem?_eq_getElem (by omega)
    have := ih (by omega)
    have hs := jbOk_st hj (List.mem_of_getElem? hx)
    rw [tsm_take hx]
    omega
theorem bsj_bd {N L : Int} {J : List Jb} (hJ : ∀ j ∈ J, jbOk N L j = true) : ∀ k, k ≤ J.length → 0 ≤ bsj (J.take k) ∧ bsj (J.take k) ≤ 8000 := by
  intro k
  induction k with
  | zero => intro _; simp [bsj]
  | succ k ih =>
    intro hk
    have hx : J[k]? = some J[k] := List.getElem?_eq_getElem (by omega)
    have h1 := ih (by omega)
    have hj := hJ _ (List.mem_of_getElem? hx)
    have h2 := tsm_bd hj J[k].st.length (Nat.le_refl _)
    rw [List.take_length] at h2
    have hl := jbOk_len hj
    rw [bsj_take hx]
    omega
theorem bal_pl (S : Int) (J : List Jb) : bal S (J.map pl) = bal S J := by unfold bal; rw [List.foldl_map]; rfl
theorem bsj_pl (J : List Jb) : bsj (J.map pl) = bsj J := by unfold bsj; rw [List.foldl_map]; rfl
theorem Alike.bdV {J J' : List Jb} (h : Alike J J') (N S L : Int) : bdV N S L J' = bdV N S L J := by
  unfold Go.Proofs.Ytbgekppggakdoaa.bdV
  rw [h.shOk, h.len, ← bal_pl S J', ← bsj_pl J', show J'.map pl = J.map pl from h, bal_pl, bsj_pl]
theorem Alike.bdC {J J' : List Jb} (h : Alike J J') (N S L : Int) : bdC N S L J' = bdC N S L J := by
  unfold Go.Proofs.Ytbgekppggakdoaa.bdC
  rw [h.shOk, h.len]
end Go.Proofs.Ytbgekppggakdoaa
