/-
  What is left out, in lists.
-/
import Derived.Test.YtbenhicdhiichaaMpF
import Derived.Test.YtbenhicdhiichaaFoM
namespace Go.Proofs.Ytbenhicdhiichaa
open Go.ChangeShapes Go.WideShapes Go.ChangeAt Go.RowKit Go.Maps Go.WideMaps
set_option linter.unusedVariables false
set_option linter.unusedSimpArgs false

/-- k is left out, too, if one that it names is -/
def lstep (nm : List (List Nat)) (G : List Nat) (k : Nat) : List Nat := if G.contains k || (nm.getD k []).any (fun p => G.contains p) then G ++ [k] else G
def lft (nm : List (List Nat)) (S P : List Nat) : List Nat := P.foldl (lstep nm) S
theorem lft_snoc (nm : List (List Nat)) (S P : List Nat) (k : Nat) : lft nm S (P ++ [k]) = lstep nm (lft nm S P) k := by simp [lft, List.foldl_append]
theorem bl_ext {n : Nat} {o o' : List Nat} (h : ∀ i, i < n → o.contains i = o'.contains i) : bl n o = bl n o' := by
  apply List.ext_getElem?
  intro j
  by_cases hj : j < n
  · rw [bl_at hj, bl_at hj, h j hj]
  · rw [List.getElem?_eq_none (by rw [bl_len]; omega), List.getElem?_eq_none (by rw [bl_len]; omega)]
theorem bl_same {n : Nat} {o : List Nat} {i : Nat} (h : i < n) : (bl n o).set i (.bool (o.contains i)) = bl n o := by
  apply List.ext_getElem?
  intro j
  rw [List.getElem?_set]
  split
  · rename_i e
    subst e
    rw [if_pos (by rw [bl_len]; exact h), bl_at h]
  · rfl
theorem contains_snoc (o : List Nat) (i j : Nat) : (o ++ [i]).contains j = (o.contains j || (j == i)) := by
  rw [Bool.eq_iff_iff]
  simp
theorem lstep_has (nm : List (List Nat)) (G : List Nat) (k j : Nat) : (lstep nm G k).contains j = (G.contains j || ((j == k) && (nm.getD k []).any (fun p => G.contains p))) := by
  unfold lstep
  by_cases hk : G.contains k = true
  · rw [if_pos (by rw [hk]; rfl), contains_snoc]
    by_cases e : j = k
    · subst e; rw [hk]; simp
    · have : (j == k) = false := by simpa using e
      rw [this]; simp
  · have hk : G.contains k = false := by simpa using hk
    cases ha : (nm.getD k []).any (fun p => G.contains p)
    · rw [if_neg (by rw [hk]; simp)]; simp
    · rw [if_pos (by rw [hk]; rfl), contains_snoc]; simp
/-- what the model marks, along an order -/
def mgo (nm : List (List Nat)) (sd : Nat → Bool) (G : List Nat) (k : Nat) : List Nat := if sd k || (nm.getD k []).any (fun p => G.contains p) then G ++ [k] else G
def mrk (nm : List (List Nat)) (sd : Nat → Bool) (P : List Nat) : List Nat := P.foldl (mgo nm sd) []
theorem mrk_snoc (nm : List (List Nat)) (sd : Nat → Bool) (P : List Nat) (k : Nat) : mrk nm sd (P ++ [k]) = mgo nm sd (mrk nm sd P) k := by simp [mrk, List.foldl_append]
/-- both ways of marking along the order are one -/
theorem marks_one {nm : List (List Nat)} (ho : Oneful nm) (S : List Nat) (sd : Nat → Bool) (hsd : ∀ k, k < nm.length → S.contains k = sd k) (m : Nat) :
    (∀ x ∈ mrk nm sd (wo nm m), x ∈ wo nm m) ∧ (∀ j, j ∈ wo nm m → (lft nm S (wo nm m)).contains j = (mrk nm sd (wo nm m)).contains j) ∧ (∀ j, j ∉ wo nm m → (lft nm S (wo nm m)).contains j = S.contains j) ∧ mrk nm sd (wo nm m) = (wo nm m).filter (fun j => (mrk nm sd (wo nm m)).contains j) := by
  induction m with
  | zero => exact ⟨by simp [wo, mrk], by simp [wo], by simp [wo, lft], by simp [wo, mrk]⟩
  | succ m ih =>
    obtain ⟨i1, i2, i3, i4⟩ := ih
    cases h : ff nm (wo nm m) with
    | none => rw [wo_none h (m + 1) (by omega)]; exact ⟨i1, i2, i3, i4⟩
    | some k =>
      obtain ⟨hk, hkn, hkp, _⟩ := ff_some h
      rw [wo_some h, mrk_snoc, lft_snoc]
      generalize hM : mrk nm sd (wo nm m) = M at *
      generalize hG : lft nm S (wo nm m) = G at *
      generalize wo nm m = P at *
      have hany : (nm.getD k []).any (fun p => G.contains p) = (nm.getD k []).any (fun p => M.contains p) := by
        rw [Bool.eq_iff_iff, List.any_eq_true, List.any_eq_true]
        constructor
        · rintro ⟨p, hp, h1⟩; exact ⟨p, hp, by rw [← i2 p (hkp p hp)]; exact h1⟩
        · rintro ⟨p, hp, h1⟩; exact ⟨p, hp, by rw [i2 p (hkp p hp)]; exact h1⟩
      have hGk : G.contains k = sd k := by rw [i3 k hkn, hsd k hk]
      have hMk : M.contains k = false := by
        cases e : M.contains k with
        | false => rfl
        | true => exact (hkn (i1 k (by simpa using e))).elim
      have hmg : ∀ j, (mgo nm sd M k).contains j = (M.contains j || ((j == k) && (sd k || (nm.getD k []).any fun p => M.contains p))) := by
        intro j
        unfold mgo
        cases e : (sd k || (nm.getD k []).any fun p => M.contains p)
        · rw [if_neg (by simp)]; simp
        · rw [if_pos rfl, contains_snoc]; simp
      have hne : ∀ j, j ∈ P → (j == k) = false := by
        intro j hj
        rw [beq_eq_false_iff_ne]
        intro e
        subst e
        exact hkn hj
      refine ⟨?_, ?_, ?_, ?_⟩
      · intro x hx
        unfold mgo at hx
        split at hx
        · rcases List.mem_append.1 hx with e | e
          · exact List.mem_append.2 (.inl (i1 x e))
          · exact List.mem_append.2 (.inr e)
        · exact List.mem_append.2 (.inl (i1 x hx))
      · intro j hj
        rw [lstep_has, hmg, hany]
        rcases List.mem_append.1 hj with e | e
        · rw [hne j e, i2 j e]; simp
        · simp only [List.mem_singleton] at e
          subst e
          rw [hGk, hMk]
          simp
      · intro j hj
        have h1 : j ∉ P := fun e => hj (List.mem_append.2 (.inl e))
        have h2 : (j == k) = false := by
          rw [beq_eq_false_iff_ne]
          intro e
          exact hj (List.mem_append.2 (.inr (by simp [e])))
        rw [lstep_has, h2, i3 j h1]
        simp
      · have hf : P.filter (fun j => (mgo nm sd M k).contains j) = M := by
          conv => rhs; rw [i4]
          apply List.filter_congr
          intro j hj
          rw [hmg, hne j hj]
          simp
        rw [List.filter_append, hf]
        unfold mgo
        cases e : (sd k || (nm.getD k []).any fun p => M.contains p)
        · have h9 := hmg k
          rw [hMk, e] at h9
          unfold mgo at h9
          rw [e] at h9
          simp only [Bool.false_eq_true, if_false] at h9 ⊢
          simp [List.filter_cons]
          simpa using hMk
        · simp [List.filter_cons, contains_snoc]
/-- the marked ones, in their order -/
theorem marks_filter {nm : List (List Nat)} (ho : Oneful nm) (S : List Nat) (sd : Nat → Bool) (hsd : ∀ k, k < nm.length → S.contains k = sd k) :
    (ord nm).filter (fun j => (lft nm S (ord nm)).contains j) = mrk nm sd (ord nm) := by
  obtain ⟨_, h2, _, h4⟩ := marks_one ho S sd hsd nm.length
  unfold ord
  rw [h4]
  apply List.filter_congr
  intro j hj
  rw [h2 j hj]
/-- what a look into the map gives, without the second answer -/
theorem MapOf.look1 {w : World} {b k : Nat} {fs : List Ft} (h : MapOf w b fs k) (hk : k ≤ fs.length) (hu : ∀ (j : Nat) (g : Ft), j < k → fs[j]? = some g → findN (fs.take j) g.nm = none) (s : ByteArray) (hs : s.size ≤ maxLen) :
    (Instr.lookup 51 (.map (some b)) (.string s) false).run Try.prog w = .ok (.int .i64 (findZ (fs.take k) s)) w := by
  obtain ⟨v, ps, hrun, hv⟩ := World.ownsMap.lookup (t := 51) (e := 3) h lawK Try.underlying51 (zero3 w) (zd := .lit (.int .i64 0)) (zp := []) (plainElem_int Try.underlying3 (by decide)) (key := .string s) (kl := keyL s) (keyOf_string_mk Try.underlying9 hs)
  obtain ⟨c, rfl, hc, _⟩ := plainElem_int_inv Try.underlying3 hv
  have hc' := congrArg Prod.fst hc
  simp only at hc'
  rw [Dn_at fs s _ k hk hu] at hc'
  rw [hrun]
  have : c = findZ (fs.take k) s := by
    unfold findZ
    cases e : findN (fs.take k) s with
    | none => rw [e] at hc'; simp only [DataW.lit.injEq, Lit.int.injEq, true_and] at hc'; exact hc'.symm
    | some i => rw [e] at hc'; simp only [DataW.lit.injEq, Lit.int.injEq, true_and] at hc'; exact hc'.symm
  rw [this]
end Go.Proofs.Ytbenhicdhiichaa
