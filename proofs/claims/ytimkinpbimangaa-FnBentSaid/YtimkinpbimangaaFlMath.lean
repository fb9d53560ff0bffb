/-
  How long a strip is when it is flat: fractions that are added one by one, with the code of the first that is too great.
-/
import Derived.Test.YtimkinpbimangaaFrPr
import Derived.Test.YtimkinpbimangaaWi
namespace Go.Proofs.Ytimkinpbimangaa
open Go.ChangeShapes Go.WideShapes Go.ChangeAt Go.RowKit
set_option linter.unusedVariables false

/-- a fraction and a code -/
abbrev Fc := Int × Int × Int
def tp3 (s : Fc) : Value := .tuple #[.agg #[.int .i64 s.1, .int .i64 s.2.1], .int .i64 s.2.2]
/-- the sum of two fractions, and its code -/
def add3 (n d a b : Int) : Fc := if frOk n d = true ∧ frOk a b = true then (frN (n * b + a * d) (d * b), frD (n * b + a * d) (d * b), frCode (n * b + a * d) (d * b)) else (0, 0, 1)
theorem pair_tp3 (n d a b : Int) : pairAns n d a b (n * b + a * d) (d * b) = tp3 (add3 n d a b) := by
  unfold pairAns add3 tp3
  split <;> rfl
/-- a length that grows by a fraction, or goes on with its code -/
def lng (s : Fc) (a b : Int) : Fc := if s.2.2 = 0 then add3 s.1 s.2.1 (frN a b) (frD a b) else (0, 0, s.2.2)
theorem lng_go {s : Fc} (h : s.2.2 = 0) (a b : Int) : lng s a b = add3 s.1 s.2.1 (frN a b) (frD a b) := by unfold lng; rw [if_pos h]
theorem lng_stop {s : Fc} (h : s.2.2 ≠ 0) (a b : Int) : lng s a b = (0, 0, s.2.2) := by unfold lng; rw [if_neg h]
/-- what a length is like on the way -/
def Bd3 (s : Fc) : Prop := (-1000000000 ≤ s.1 ∧ s.1 ≤ 1000000000) ∧ (0 ≤ s.2.1 ∧ s.2.1 ≤ 1000000000) ∧ (0 ≤ s.2.2 ∧ s.2.2 ≤ 12) ∧ (s.2.2 ≠ 0 → s.1 = 0 ∧ s.2.1 = 0)
theorem code_bd (n d : Int) : 0 ≤ frCode n d ∧ frCode n d ≤ 12 := by unfold frCode; split <;> (try split) <;> omega
theorem code_zero {n d : Int} (h : frCode n d ≠ 0) : frN n d = 0 ∧ frD n d = 0 := by
  unfold frCode at h
  unfold frN frD
  split at h
  · rename_i hd; rw [if_pos hd, if_pos hd]; exact ⟨rfl, rfl⟩
  · rename_i hd
    rw [if_neg hd, if_neg hd]
    split at h
    · exact absurd rfl h
    · rename_i hf; rw [if_neg hf, if_neg hf]; exact ⟨rfl, rfl⟩
theorem add3_bd (n d a b : Int) : Bd3 (add3 n d a b) := by
  unfold add3
  split
  · exact ⟨wf_N _ _, wf_D _ _, code_bd _ _, code_zero⟩
  · exact ⟨by decide, by decide, by decide, fun _ => ⟨rfl, rfl⟩⟩
theorem lng_bd {s : Fc} (h : Bd3 s) (a b : Int) : Bd3 (lng s a b) := by
  by_cases hc : s.2.2 = 0
  · rw [lng_go hc]; exact add3_bd _ _ _ _
  · rw [lng_stop hc]; exact ⟨⟨by simp, by simp⟩, ⟨by simp, by simp⟩, h.2.2.1, fun _ => ⟨rfl, rfl⟩⟩
theorem zero_bd : Bd3 (0, 1, 0) := ⟨by decide, by decide, by decide, fun h => absurd rfl h⟩
/-- whole numbers as fractions -/
theorem fr_whole (p : Int) (h0 : 0 ≤ p) (h1 : p ≤ 1000000000) : frN p 1 = p ∧ frD p 1 = 1 ∧ frCode p 1 = 0 := by
  have hok : frOk p 1 = true := by
    unfold frOk
    rw [decide_eq_true_iff]
    exact ⟨by decide, by decide, by omega, h1, by simp⟩
  obtain ⟨a, b, c⟩ := (ok_iff p 1).1 hok
  exact ⟨b, c, a⟩
/-- a bend's allowance, as a number of parts -/
def itm (r t a : Int) : Int := a * (2 * r + t) * 11
theorem itm_bd {r t a : Int} (ha : 0 ≤ a ∧ a ≤ 180) (hr : 0 ≤ r ∧ r ≤ 1000) (ht : 0 ≤ t ∧ t ≤ 1000) : (0 ≤ 2 * r + t ∧ 2 * r + t ≤ 3000) ∧ (0 ≤ a * (2 * r + t) ∧ a * (2 * r + t) ≤ 540000) ∧ 0 ≤ itm r t a ∧ itm r t a ≤ 5940000 := by
  have h1 : 0 ≤ a * (2 * r + t) := Int.mul_nonneg ha.1 (by omega)
  have h2 : a * (2 * r + t) ≤ 180 * 3000 := Int.mul_le_mul ha.2 (by omega) (by omega) (by omega)
  unfold itm
  refine ⟨by omega, by omega, by omega, by omega⟩
theorem itm_code {m : Int} (h : 0 ≤ m ∧ m ≤ 5940000) : frCode m 1260 = 0 := by
  have h1 := top_le m 1260
  have h2 := bot_le m 1260
  have hf : frFits m 1260 = true := by
    unfold frFits
    rw [decide_eq_true_iff]
    exact ⟨by omega, by omega⟩
  unfold frCode
  rw [if_neg (by decide), if_pos hf]
/-- the panels together -/
def lenP (ps : List Int) : Fc := ps.foldl (fun s p => lng s p 1) (0, 1, 0)
/-- and the bends -/
def lenA (s : Fc) (r t : Int) (al : List Int) : Fc := al.foldl (fun s a => lng s (itm r t a) 1260) s
theorem fold_take {α β : Type} (f : β → α → β) (s : β) {L : List α} {i : Nat} {x : α} (hx : L[i]? = some x) : (L.take (i + 1)).foldl f s = f ((L.take i).foldl f s) x := by
  rw [List.take_add_one, hx]
  simp
theorem lenP_bd (ps : List Int) : Bd3 (lenP ps) := by
  unfold lenP
  have : ∀ (ps : List Int) (s : Fc), Bd3 s → Bd3 (ps.foldl (fun s p => lng s p 1) s) := by
    intro ps
    induction ps with
    | nil => intro s h; exact h
    | cons p ps ih => intro s h; exact ih _ (lng_bd h _ _)
  exact this ps _ zero_bd
theorem lenA_bd {s : Fc} (h : Bd3 s) (r t : Int) (al : List Int) : Bd3 (lenA s r t al) := by
  unfold lenA
  induction al generalizing s with
  | nil => exact h
  | cons p ps ih => exact ih (lng_bd h _ _)
theorem bd3_zero {s : Fc} (h : Bd3 s) (hc : s.2.2 ≠ 0) : s = (0, 0, s.2.2) := by
  obtain ⟨a, b, c⟩ := s
  obtain ⟨h1, h2⟩ := h.2.2.2 hc
  simp only at h1 h2
  subst h1 h2
  rfl
/-- behind a code nothing changes -/
theorem fold_stuck (f : Int → Int) (b : Int) (L : List Int) {s : Fc} (h : Bd3 s) (hc : s.2.2 ≠ 0) : L.foldl (fun s p => lng s (f p) b) s = s := by
  induction L with
  | nil => rfl
  | cons p ps ih =>
    rw [List.foldl_cons, lng_stop hc, ← bd3_zero h hc]
    exact ih
theorem fold_rest (f : Int → Int) (b : Int) (L : List Int) (i : Nat) (s0 : Fc) (h : Bd3 ((L.take i).foldl (fun s p => lng s (f p) b) s0)) (hc : ((L.take i).foldl (fun s p => lng s (f p) b) s0).2.2 ≠ 0) : L.foldl (fun s p => lng s (f p) b) s0 = (L.take i).foldl (fun s p => lng s (f p) b) s0 := by
  conv => lhs; rw [← List.take_append_drop i L, List.foldl_append]
  exact fold_stuck f b _ h hc
/-- all arguments of a flat length are right -/
def flOk (ps al : List Int) (r t : Int) : Bool := pnl ps && decide ((al.length : Int) = (ps.length : Int) - 1) && al.all (inR 0 180) && inR 0 1000 r && inR 0 1000 t
/-- what FlatLength answers -/
def flA (ps al : List Int) (r t : Int) : Fc := if 4096 < ps.length ∨ 4096 < al.length then (0, 0, 2) else if flOk ps al r t = true then lenA (lenP ps) r t al else (0, 0, 1)
end Go.Proofs.Ytimkinpbimangaa
