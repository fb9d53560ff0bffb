/-
  The best nest: all orders and ways of turning, one after another; the first of those that are lowest.
-/
import Derived.Test.YtoidhlackoigkaaNsNm
namespace Go.Proofs.Ytoidhlackoigkaa
open Go.ChangeShapes Go.WideShapes Go.ChangeAt Go.RowKit
set_option linter.unusedVariables false
set_option linter.unusedSimpArgs false

theorem min_ex {α : Type} (p : α → Prop) (le : α → α → Prop) (tr : ∀ a b c, le a b → le b c → le a c) (tot : ∀ a b, le a b ∨ le b a) (S : List α) (h : ∃ a ∈ S, p a) : ∃ a ∈ S, p a ∧ ∀ b ∈ S, p b → le a b := by
  induction S with
  | nil => obtain ⟨a, ha, _⟩ := h; cases ha
  | cons c S ih =>
    by_cases hS : ∃ a ∈ S, p a
    · obtain ⟨a, ha, hp, hm⟩ := ih hS
      by_cases hc : p c ∧ le c a
      · refine ⟨c, by simp, hc.1, fun b hb hpb => ?_⟩
        rcases List.mem_cons.1 hb with rfl | hb
        · rcases tot b b with h1 | h1 <;> exact h1
        · exact tr _ _ _ hc.2 (hm b hb hpb)
      · refine ⟨a, by simp [ha], hp, fun b hb hpb => ?_⟩
        rcases List.mem_cons.1 hb with rfl | hb
        · rcases tot a b with h1 | h1
          · exact h1
          · exact absurd ⟨hpb, h1⟩ hc
        · exact hm b hb hpb
    · obtain ⟨a, ha, hp⟩ := h
      rcases List.mem_cons.1 ha with rfl | ha
      · refine ⟨a, by simp, hp, fun b hb hpb => ?_⟩
        rcases List.mem_cons.1 hb with rfl | hb
        · rcases tot b b with h1 | h1 <;> exact h1
        · exact absurd ⟨b, hb, hpb⟩ hS
      · exact absurd ⟨a, ha, hp⟩ hS
theorem low_ex {Wd : Int} (R : List Rc) {w : Int} (h : Int) (hw : w ≤ Wd) : ∃ x y, Low Wd R w h x y := by
  obtain ⟨y0, hc0⟩ := some_can (W := Wd) (R := R) (w := w) (h := h) hw
  obtain ⟨⟨x, y⟩, _, hp, hm⟩ := min_ex (fun q : Int × Int => Can Wd R w h q.1 q.2) (fun a b => a.2 < b.2 ∨ (a.2 = b.2 ∧ a.1 ≤ b.1)) (fun a b c h1 h2 => by omega) (fun a b => by omega) ((tops R).flatMap fun y => (rights R).map fun x => (x, y)) ⟨(0, y0), by
    rw [List.mem_flatMap]; exact ⟨y0, hc0.tp, List.mem_map.2 ⟨0, hc0.rt, rfl⟩⟩, hc0⟩
  refine ⟨x, y, hp, fun x' y' hc => hm (x', y') ?_ hc⟩
  rw [List.mem_flatMap]
  exact ⟨y', hc.tp, List.mem_map.2 ⟨x', hc.rt, rfl⟩⟩
theorem nest_ex {Wd : Int} (Q : List Itm) (h : ∀ q ∈ Q, q.w ≤ Wd) : ∃ L, Nst Wd L ∧ Fol Q L := by
  have key : ∀ n, n ≤ Q.length → ∃ L, Nst Wd L ∧ Fol (Q.take n) L := by
    intro n
    induction n with
    | zero => intro _; exact ⟨[], nst_nil _, by rw [List.take_zero]; exact fol_nil⟩
    | succ n ih =>
      intro hn
      obtain ⟨L, h1, h2⟩ := ih (by omega)
      obtain ⟨q, hq⟩ := get_some rfl (show n < Q.length by omega)
      obtain ⟨x, y, hl⟩ := low_ex (rcs L) q.h (h q (List.mem_of_getElem? hq))
      refine ⟨L ++ [⟨q.n, q.t, ⟨x, y, q.w, q.h⟩⟩], nst_snoc h1 hl, ?_⟩
      rw [List.take_add_one, hq]
      exact fol_snoc h2 ⟨rfl, rfl, rfl, rfl⟩
  obtain ⟨L, h1, h2⟩ := key Q.length (Nat.le_refl _)
  rw [List.take_length] at h2
  exact ⟨L, h1, h2⟩
/-- the one nest of a plan -/
noncomputable def nestOf (Wd : Int) (Q : List Itm) : List Ld := Classical.epsilon fun L => Nst Wd L ∧ Fol Q L
theorem nestOf_spec {Wd : Int} {Q : List Itm} (h : ∀ q ∈ Q, q.w ≤ Wd) : Nst Wd (nestOf Wd Q) ∧ Fol Q (nestOf Wd Q) := Classical.epsilon_spec (p := fun L => Nst Wd L ∧ Fol Q L) (nest_ex Q h)
theorem nestOf_eq {Wd : Int} {Q : List Itm} {L : List Ld} (h : Nst Wd L) (f : Fol Q L) : nestOf Wd Q = L := by
  have := Classical.epsilon_spec (p := fun L => Nst Wd L ∧ Fol Q L) ⟨L, h, f⟩
  exact nst_uniq this.1 h this.2 f
theorem hgt_app (L M : List Ld) : hgtOf L ≤ hgtOf (L ++ M) := by
  have key : ∀ (M : List Ld) (m : Int), m ≤ M.foldl (fun m l => max m (l.a.y + l.a.h)) m := by
    intro M
    induction M with
    | nil => intro m; exact Int.le_refl _
    | cons a M ih =>
      intro m
      simp only [List.foldl_cons]
      have := ih (max m (a.a.y + a.a.h))
      omega
  unfold hgtOf
  rw [List.foldl_append]
  exact key M _
theorem nst_take {Wd : Int} {L : List Ld} (h : Nst Wd L) (n : Nat) : Nst Wd (L.take n) := by
  intro i l hi
  have hin : i < n := by have := (List.getElem?_eq_some_iff.1 hi).1; rw [List.length_take] at this; omega
  rw [List.getElem?_take_of_lt hin] at hi
  rw [List.take_take, Nat.min_eq_left (by omega)]
  exact h i l hi
theorem fol_take {Q : List Itm} {L : List Ld} (h : Fol Q L) (n : Nat) : Fol (Q.take n) (L.take n) := by
  refine ⟨by rw [List.length_take, List.length_take, h.1], fun i l p hi hp => ?_⟩
  have hin : i < n := by have := (List.getElem?_eq_some_iff.1 hi).1; rw [List.length_take] at this; omega
  rw [List.getElem?_take_of_lt hin] at hi hp
  exact h.2 i l p hi hp
theorem pre_le {Wd : Int} {pre rest : List Itm} (h : ∀ q ∈ pre ++ rest, q.w ≤ Wd) : hgtOf (nestOf Wd pre) ≤ hgtOf (nestOf Wd (pre ++ rest)) := by
  obtain ⟨h1, h2⟩ := nestOf_spec h
  have e : nestOf Wd pre = (nestOf Wd (pre ++ rest)).take pre.length := nestOf_eq (nst_take h1 _) (by have := fol_take h2 pre.length; rwa [List.take_left'] at this; rfl)
  rw [e]
  have := hgt_app ((nestOf Wd (pre ++ rest)).take pre.length) ((nestOf Wd (pre ++ rest)).drop pre.length)
  rwa [List.take_append_drop] at this
def itmT (k : Nat) (t : Bool) (p : Pl) : Itm := ⟨(k : Int), t, twd t p.w p.h, twd t p.h p.w⟩
/-- all ways of turning, of what is left behind what is laid -/
def lv (Wd : Int) (P : List Pl) : List Nat → List Itm → List (List Itm)
  | [], pre => [pre]
  | k :: r, pre => match P[k]? with
    | none => []
    | some p => (if p.w ≤ Wd then lv Wd P r (pre ++ [itmT k false p]) else []) ++ (if p.h ≤ Wd then lv Wd P r (pre ++ [itmT k true p]) else [])
theorem lv_cons {Wd : Int} {P : List Pl} {k : Nat} {p : Pl} (h : P[k]? = some p) (r : List Nat) (pre : List Itm) : lv Wd P (k :: r) pre = (if p.w ≤ Wd then lv Wd P r (pre ++ [itmT k false p]) else []) ++ (if p.h ≤ Wd then lv Wd P r (pre ++ [itmT k true p]) else []) := by
  simp only [lv, h]
theorem lv_mem {Wd : Int} {P : List Pl} (r : List Nat) (pre Q : List Itm) (h : Q ∈ lv Wd P r pre) : ∃ rest, Q = pre ++ rest ∧ ∀ q ∈ rest, q.w ≤ Wd := by
  induction r generalizing pre with
  | nil => simp [lv] at h; exact ⟨[], by simp [h], by simp⟩
  | cons k r ih =>
    cases hp : P[k]? with
    | none => simp [lv, hp] at h
    | some p =>
      rw [lv_cons hp] at h
      rcases List.mem_append.1 h with h1 | h1
      · split at h1
        · rename_i hw
          obtain ⟨rest, e, hr⟩ := ih _ h1
          exact ⟨itmT k false p :: rest, by rw [e]; simp, fun q hq => by rcases List.mem_cons.1 hq with rfl | hq; (exact hw); (exact hr q hq)⟩
        · cases h1
      · split at h1
        · rename_i hw
          obtain ⟨rest, e, hr⟩ := ih _ h1
          exact ⟨itmT k true p :: rest, by rw [e]; simp, fun q hq => by rcases List.mem_cons.1 hq with rfl | hq; (exact hw); (exact hr q hq)⟩
        · cases h1
/-- one more that was tried -/
noncomputable def upd (Wd : Int) (b : Option (List Ld)) (Q : List Itm) : Option (List Ld) := match b with
  | none => some (nestOf Wd Q)
  | some B => if hgtOf (nestOf Wd Q) < hgtOf B then some (nestOf Wd Q) else some B
noncomputable def bst (Wd : Int) (b : Option (List Ld)) (Qs : List (List Itm)) : Option (List Ld) := Qs.foldl (upd Wd) b
theorem bst_app (Wd : Int) (b : Option (List Ld)) (A B : List (List Itm)) : bst Wd b (A ++ B) = bst Wd (bst Wd b A) B := List.foldl_append
theorem bst_none (Wd : Int) (b : Option (List Ld)) : bst Wd b [] = b := rfl
theorem bst_keep {Wd : Int} {B : List Ld} (Qs : List (List Itm)) (h : ∀ Q ∈ Qs, hgtOf B ≤ hgtOf (nestOf Wd Q)) : bst Wd (some B) Qs = some B := by
  induction Qs with
  | nil => rfl
  | cons Q Qs ih =>
    show bst Wd (upd Wd (some B) Q) Qs = _
    have h1 : upd Wd (some B) Q = some B := by
      unfold upd
      have := h Q (by simp)
      simp only
      rw [if_neg (by omega)]
    rw [h1]
    exact ih (fun Q' hQ' => h Q' (by simp [hQ']))
theorem prune {Wd : Int} {P : List Pl} {B : List Ld} (r : List Nat) (pre : List Itm) (hp : ∀ q ∈ pre, q.w ≤ Wd) (h : hgtOf B ≤ hgtOf (nestOf Wd pre)) : bst Wd (some B) (lv Wd P r pre) = some B := by
  refine bst_keep _ (fun Q hQ => ?_)
  obtain ⟨rest, rfl, hr⟩ := lv_mem r pre Q hQ
  have := pre_le (Wd := Wd) (pre := pre) (rest := rest) (fun q hq => by rcases List.mem_append.1 hq with h1 | h1; (exact hp q h1); (exact hr q h1))
  omega
/-- all orders that begin so -/
def ol (Wd : Int) (P : List Pl) : Nat → List Nat → List (List Itm)
  | 0, od => lv Wd P od []
  | m + 1, od => (List.range P.length).flatMap fun i => if od.contains i = true then [] else ol Wd P m (od ++ [i])
/-- those whose next one is below i -/
def olT (Wd : Int) (P : List Pl) (m : Nat) (od : List Nat) (i : Nat) : List (List Itm) := (List.range i).flatMap fun i => if od.contains i = true then [] else ol Wd P m (od ++ [i])
theorem olT_succ (Wd : Int) (P : List Pl) (m : Nat) (od : List Nat) (i : Nat) : olT Wd P m od (i + 1) = olT Wd P m od i ++ (if od.contains i = true then [] else ol Wd P m (od ++ [i])) := by
  unfold olT
  rw [List.range_succ, List.flatMap_append]
  simp
theorem olT_zero (Wd : Int) (P : List Pl) (m : Nat) (od : List Nat) : olT Wd P m od 0 = [] := rfl
theorem lv_ne {Wd : Int} {P : List Pl} (hf : ∀ p ∈ P, p.w ≤ Wd ∨ p.h ≤ Wd) (r : List Nat) (hr : ∀ k ∈ r, k < P.length) (pre : List Itm) : lv Wd P r pre ≠ [] := by
  induction r generalizing pre with
  | nil => simp [lv]
  | cons k r ih =>
    obtain ⟨p, hp⟩ := get_some rfl (hr k (by simp))
    have ih' := ih (fun j hj => hr j (by simp [hj]))
    rw [lv_cons hp]
    intro e
    rw [List.append_eq_nil_iff] at e
    rcases hf p (List.mem_of_getElem? hp) with h | h
    · rw [if_pos h] at e; exact ih' _ e.1
    · rw [if_pos h] at e; exact ih' _ e.2
theorem ol_ne {Wd : Int} {P : List Pl} (hf : ∀ p ∈ P, p.w ≤ Wd ∨ p.h ≤ Wd) (m j : Nat) (h : j + m = P.length) : ol Wd P m (List.range j) ≠ [] := by
  induction m generalizing j with
  | zero => exact lv_ne hf _ (fun k hk => by have := List.mem_range.1 hk; omega) _
  | succ m ih =>
    intro e
    simp only [ol] at e
    rw [List.flatMap_eq_nil_iff] at e
    have := e j (List.mem_range.2 (by omega))
    rw [if_neg (by simp), ← List.range_succ] at this
    exact ih (j + 1) (by omega) this
theorem bst_ne {Wd : Int} {Qs : List (List Itm)} (h : Qs ≠ []) : ∃ L, bst Wd none Qs = some L := by
  have key : ∀ (Qs : List (List Itm)) (B : List Ld), ∃ L, bst Wd (some B) Qs = some L := by
    intro Qs
    induction Qs with
    | nil => intro B; exact ⟨B, rfl⟩
    | cons Q Qs ih =>
      intro B
      show ∃ L, bst Wd (upd Wd (some B) Q) Qs = some L
      unfold upd
      simp only
      split
      · exact ih _
      · exact ih _
  cases Qs with
  | nil => exact absurd rfl h
  | cons Q Qs => exact key Qs _
/-- what NestBest's code is -/
def nbCode (Wd : Int) (P : List Pl) : Int := if nsCode Wd P = 0 then (if 5 < P.length then 10 else 0) else nsCode Wd P
/-- what NestBest answers: one -/
def NbA (Wd : Int) (P : List Pl) (L : List Ld) : Prop := if nbCode Wd P = 0 then bst Wd none (ol Wd P P.length []) = some L ∧ L.length ≤ 5 else L = []
end Go.Proofs.Ytoidhlackoigkaa
