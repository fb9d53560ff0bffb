/-
  Links that are right, what they come to at the least and at the most, and the sum of their squares.
-/
import Derived.Test.YtmhdodecofpchaaLkBase
import Derived.Test.YtmhdodecofpchaaNmMath
namespace Go.Proofs.Ytmhdodecofpchaa
open Go.ChangeShapes Go.WideShapes Go.ChangeAt Go.RowKit
set_option linter.unusedVariables false
set_option linter.unusedSimpArgs false

def szOk (n : Int) : Bool := decide (0 ≤ n ∧ n ≤ 100000)
def lkOk (l : Lk) : Bool := nameB l.nm && decide (l.sg = 1 ∨ l.sg = -1) && decide (-100000 ≤ l.sz ∧ l.sz ≤ 100000) && szOk l.pl && szOk l.mi
structure LOk (l : Lk) : Prop where
  nm : nameB l.nm = true
  sg : l.sg = 1 ∨ l.sg = -1
  sz0 : -100000 ≤ l.sz
  sz1 : l.sz ≤ 100000
  pl0 : 0 ≤ l.pl
  pl1 : l.pl ≤ 100000
  mi0 : 0 ≤ l.mi
  mi1 : l.mi ≤ 100000
theorem lkOk_iff (l : Lk) : lkOk l = true ↔ LOk l := by
  unfold lkOk szOk
  simp only [Bool.and_eq_true, decide_eq_true_eq]
  constructor
  · rintro ⟨⟨⟨⟨h1, h2⟩, h3⟩, h4⟩, h5⟩
    exact ⟨h1, h2, h3.1, h3.2, h4.1, h4.2, h5.1, h5.2⟩
  · rintro ⟨h1, h2, h3, h4, h5, h6, h7, h8⟩
    exact ⟨⟨⟨⟨h1, h2⟩, h3, h4⟩, h5, h6⟩, h7, h8⟩
def names (ls : List Lk) : List ByteArray := ls.map (·.nm)
/-- the first i links are right, and no two of one name -/
def okTo (ls : List Lk) (i : Nat) : Prop := (∀ l ∈ ls.take i, LOk l) ∧ (names (ls.take i)).Nodup
def Right (ls : List Lk) : Prop := 1 ≤ ls.length ∧ ls.length ≤ 40 ∧ (∀ l ∈ ls, LOk l) ∧ (names ls).Nodup
open Classical in
noncomputable def rightB (ls : List Lk) : Bool := decide (Right ls)
open Classical in
theorem rightB_true {ls : List Lk} (h : Right ls) : rightB ls = true := by unfold rightB; exact decide_eq_true h
open Classical in
theorem rightB_false {ls : List Lk} (h : ¬ Right ls) : rightB ls = false := by unfold rightB; exact decide_eq_false h
open Classical in
theorem of_rightB {ls : List Lk} (h : rightB ls = true) : Right ls := by unfold rightB at h; exact of_decide_eq_true h
open Classical in
theorem of_rightB_false {ls : List Lk} (h : rightB ls = false) : ¬ Right ls := by unfold rightB at h; exact of_decide_eq_false h
theorem okTo_zero (ls : List Lk) : okTo ls 0 := by simp [okTo, names]
theorem names_take_succ {ls : List Lk} {i : Nat} {l : Lk} (h : ls[i]? = some l) : names (ls.take (i + 1)) = names (ls.take i) ++ [l.nm] := by
  unfold names
  rw [List.take_add_one, h]
  simp
theorem take_succ_mem {ls : List Lk} {i : Nat} {l : Lk} (h : ls[i]? = some l) (P : Lk → Prop) : (∀ x ∈ ls.take (i + 1), P x) ↔ (∀ x ∈ ls.take i, P x) ∧ P l := by
  rw [List.take_add_one, h]
  simp only [Option.toList_some, List.mem_append, List.mem_singleton]
  exact ⟨fun hh => ⟨fun x hx => hh x (.inl hx), hh l (.inr rfl)⟩, fun ⟨h1, h2⟩ x hx => hx.elim (h1 x) (fun e => e ▸ h2)⟩
/-- none of the first k has this name -/
def freshTo (ls : List Lk) (k : Nat) (nm : ByteArray) : Prop := ∀ l ∈ ls.take k, l.nm ≠ nm
theorem okTo_step {ls : List Lk} {i : Nat} {l : Lk} (h : ls[i]? = some l) (ho : okTo ls i) (hl : LOk l) (hf : freshTo ls i l.nm) : okTo ls (i + 1) := by
  refine ⟨(take_succ_mem h LOk).2 ⟨ho.1, hl⟩, ?_⟩
  rw [names_take_succ h, List.nodup_append]
  refine ⟨ho.2, by simp, ?_⟩
  intro a ha b hb
  simp only [List.mem_singleton] at hb
  subst hb
  obtain ⟨x, hx, rfl⟩ := List.mem_map.1 ha
  exact hf x hx
theorem right_of_okTo {ls : List Lk} (h0 : 1 ≤ ls.length) (h1 : ls.length ≤ 40) (ho : okTo ls ls.length) : Right ls := by
  have := ho
  unfold okTo at this
  rw [List.take_length] at this
  exact ⟨h0, h1, this.1, this.2⟩
theorem not_right_bad {ls : List Lk} {i : Nat} {l : Lk} (h : ls[i]? = some l) (hl : ¬ LOk l) : ¬ Right ls := fun hr => hl (hr.2.2.1 l (List.mem_of_getElem? h))
theorem not_right_twin {ls : List Lk} {i k : Nat} {l x : Lk} (h : ls[i]? = some l) (hk : ls[k]? = some x) (hki : k < i) (he : x.nm = l.nm) : ¬ Right ls := by
  intro hr
  have h1 : (names ls)[i]? = some l.nm := by simp [names, h]
  have h2 : (names ls)[k]? = some l.nm := by simp [names, hk, he]
  obtain ⟨hi, e1⟩ := List.getElem?_eq_some_iff.1 h1
  obtain ⟨hj, e2⟩ := List.getElem?_eq_some_iff.1 h2
  exact List.pairwise_iff_getElem.1 hr.2.2.2 k i hj hi hki (by rw [e1, e2])
theorem freshTo_zero (ls : List Lk) (nm : ByteArray) : freshTo ls 0 nm := by simp [freshTo]
theorem freshTo_step {ls : List Lk} {k : Nat} {x : Lk} {nm : ByteArray} (h : ls[k]? = some x) (hf : freshTo ls k nm) (he : x.nm ≠ nm) : freshTo ls (k + 1) nm := (take_succ_mem h _).2 ⟨hf, he⟩

/-- what a link gives at the least, and at the most -/
def lo (l : Lk) : Int := if l.sg < 0 then -l.sz - l.pl else l.sz - l.mi
def hi (l : Lk) : Int := if l.sg < 0 then -l.sz + l.mi else l.sz + l.pl
def tol (l : Lk) : Int := l.pl + l.mi
def sq (l : Lk) : Int := (l.pl + l.mi) * (l.pl + l.mi)
def sumL (L : List Int) : Int := L.foldl (· + ·) 0
theorem sumL_snoc (L : List Int) (x : Int) : sumL (L ++ [x]) = sumL L + x := by simp [sumL]
def sumBy (f : Lk → Int) (ls : List Lk) : Int := sumL (ls.map f)
theorem sumBy_succ {f : Lk → Int} {ls : List Lk} {i : Nat} {l : Lk} (h : ls[i]? = some l) : sumBy f (ls.take (i + 1)) = sumBy f (ls.take i) + f l := by
  unfold sumBy
  rw [List.take_add_one, h]
  simp only [Option.toList_some, List.map_append, List.map_cons, List.map_nil]
  exact sumL_snoc _ _
theorem sumBy_zero (f : Lk → Int) (ls : List Lk) : sumBy f (ls.take 0) = 0 := by simp [sumBy, sumL]
theorem sumBy_bound {f : Lk → Int} {a b : Int} {ls : List Lk} (hf : ∀ l ∈ ls, a ≤ f l ∧ f l ≤ b) : ∀ i, i ≤ ls.length → a * (i : Int) ≤ sumBy f (ls.take i) ∧ sumBy f (ls.take i) ≤ b * (i : Int) := by
  intro i
  induction i with
  | zero => intro _; rw [sumBy_zero]; simp
  | succ i ih =>
    intro hi'
    have hx : ls[i]? = some ls[i] := List.getElem?_eq_getElem (by omega)
    rw [sumBy_succ hx]
    have h1 := ih (by omega)
    have h2 := hf _ (List.getElem_mem (by omega : i < ls.length))
    have e1 : a * ((i + 1 : Nat) : Int) = a * (i : Int) + a := by rw [Int.natCast_add, Int.mul_add]; simp
    have e2 : b * ((i + 1 : Nat) : Int) = b * (i : Int) + b := by rw [Int.natCast_add, Int.mul_add]; simp
    rw [e1, e2]
    omega
theorem lo_bound {l : Lk} (h : LOk l) : -200000 ≤ lo l ∧ lo l ≤ 100000 := by
  obtain ⟨_, h1, h2, h3, h4, h5, h6, h7⟩ := h
  unfold lo
  split <;> omega
theorem hi_bound {l : Lk} (h : LOk l) : -100000 ≤ hi l ∧ hi l ≤ 200000 := by
  obtain ⟨_, h1, h2, h3, h4, h5, h6, h7⟩ := h
  unfold hi
  split <;> omega
theorem sqr_bound {a : Int} (h0 : 0 ≤ a) (h1 : a ≤ 200000) : 0 ≤ a * a ∧ a * a ≤ 40000000000 := by
  refine ⟨Int.mul_nonneg h0 h0, ?_⟩
  have := Int.mul_le_mul h1 h1 h0 (by omega)
  omega
theorem sq_bound {l : Lk} (h : LOk l) : 0 ≤ sq l ∧ sq l ≤ 40000000000 := by
  obtain ⟨_, h1, h2, h3, h4, h5, h6, h7⟩ := h
  unfold sq
  exact sqr_bound (by omega) (by omega)
/-- sums of right links stay small -/
theorem sum_small {ls : List Lk} (hr : Right ls) (i : Nat) (h : i ≤ ls.length) :
    -8000000 ≤ sumBy lo (ls.take i) ∧ sumBy lo (ls.take i) ≤ 4000000 ∧ -4000000 ≤ sumBy hi (ls.take i) ∧ sumBy hi (ls.take i) ≤ 8000000 ∧ 0 ≤ sumBy sq (ls.take i) ∧ sumBy sq (ls.take i) ≤ 1600000000000 := by
  have h0 := sumBy_bound (f := lo) (ls := ls) (fun l hl => lo_bound (hr.2.2.1 l hl)) i h
  have h1 := sumBy_bound (f := hi) (ls := ls) (fun l hl => hi_bound (hr.2.2.1 l hl)) i h
  have h2 := sumBy_bound (f := sq) (ls := ls) (fun l hl => sq_bound (hr.2.2.1 l hl)) i h
  have h3 := hr.2.1
  omega
noncomputable def chL (ls : List Lk) : Int := if rightB ls = true then sumBy lo ls else 0
noncomputable def chM (ls : List Lk) : Int := if rightB ls = true then sumBy hi ls else 0
noncomputable def chQ (ls : List Lk) : Int := if rightB ls = true then sumBy sq ls else 0
/-- the code of links: too many, not right, right -/
noncomputable def lkCode (ls : List Lk) : Int := if 4096 < ls.length then 2 else if rightB ls = true then 0 else 1
theorem not_right_long {ls : List Lk} (h : 40 < ls.length) : ¬ Right ls := fun hr => by have := hr.2.1; omega
noncomputable def chv (ls : List Lk) : Value := .agg #[.int .i64 (chL ls), .int .i64 (chM ls), .int .i64 (chL ls + chM ls), .int .i64 (chQ ls)]
end Go.Proofs.Ytmhdodecofpchaa
