/-
  The numbers of sizes in their order: by insertion.
-/
import Derived.Test.YtmoobfbjehgdnaaStbB
import Derived.Test.YtmoobfbjehgdnaaRowX
namespace Go.Proofs.Ytmoobfbjehgdnaa
set_option linter.unusedVariables false
set_option linter.unusedSimpArgs false

def remS (S : List Int) (i : Int) : Int := -(gt S i.toNat)
theorem marks_mem {n : Nat} {x : Int} : x ∈ marks 0 n ↔ 0 ≤ x ∧ x < (n : Int) := by
  unfold marks
  rw [List.mem_map]
  constructor
  · rintro ⟨j, hj, rfl⟩
    have := List.mem_range.1 hj
    omega
  · rintro ⟨h0, h1⟩
    exact ⟨x.toNat, List.mem_range.2 (by omega), by omega⟩
theorem marks_lt (n : Nat) : (marks 0 n).Pairwise (· < ·) := by
  unfold marks
  rw [List.pairwise_map]
  exact List.pairwise_lt_range.imp (fun h => by omega)
/-- the numbers in the order of their sizes -/
def Ord (S M : List Int) : Prop := M.Pairwise (ltR (remS S)) ∧ M.Perm (marks 0 S.length)
theorem Ord.mem {S M : List Int} (h : Ord S M) {x : Int} : x ∈ M ↔ 0 ≤ x ∧ x < (S.length : Int) := (h.2.mem_iff).trans marks_mem
theorem Ord.len {S M : List Int} (h : Ord S M) : M.length = S.length := by rw [h.2.length_eq, marks_len]
theorem Ord.one {S M N : List Int} (h : Ord S M) (k : Ord S N) : M = N := sorted_unique M N h.1 k.1 (h.2.trans k.2.symm)
theorem srtR_app (cm : Int → Int → Int) : ∀ (xs r : List Int) (x : Int), srtR cm r (xs ++ [x]) = insR cm x (srtR cm r xs) := by
  intro xs
  induction xs with
  | nil => intro r x; rfl
  | cons y xs ih => intro r x; simp only [List.cons_append, srtR]; exact ih _ _
def ordL (S : List Int) (i : Nat) : List Int := (srtR (cmR (remS S)) [] (marks 0 i)).reverse
theorem ordL_zero (S : List Int) : ordL S 0 = [] := rfl
theorem ordL_spec (S : List Int) (i : Nat) : (ordL S i).Pairwise (ltR (remS S)) ∧ (ordL S i).Perm (marks 0 i) := srt_sorted (marks 0 i) (marks_lt i)
theorem ordL_len (S : List Int) (i : Nat) : (ordL S i).length = i := by rw [(ordL_spec S i).2.length_eq, marks_len]
theorem ordL_mem {S : List Int} {i : Nat} {x : Int} (h : x ∈ ordL S i) : 0 ≤ x ∧ x < (i : Int) := marks_mem.1 ((ordL_spec S i).2.mem_iff.1 h)
theorem ordL_all (S : List Int) : Ord S (ordL S S.length) := ordL_spec S S.length
theorem ins_at {cm : Int → Int → Int} {e : Int} {A : List Int} {k : Nat} (hk : k ≤ A.length) (h1 : ∀ t ∈ A.drop k, cm e t < 0) (h2 : k = 0 ∨ ∃ t, A[k - 1]? = some t ∧ ¬ cm e t < 0) :
    (insR cm e A.reverse).reverse = A.take k ++ (e :: A.drop k) := by
  have e1 : A.reverse = (A.drop k).reverse ++ (A.take k).reverse := by rw [← List.reverse_append, List.take_append_drop]
  rw [e1, insR_done cm e _ _ (fun t ht => h1 t (List.mem_reverse.1 ht)), insR_stop cm e _ ?_]
  · simp
  · intro t ht
    rcases h2 with h | ⟨s, hs, hn⟩
    · subst h; simp at ht
    · rw [List.head?_reverse, List.getLast?_take] at ht
      split at ht
      · cases ht
      · rw [hs] at ht
        simp at ht
        rw [← ht]; exact hn
theorem ordL_step {S : List Int} {i k : Nat} (hk : k ≤ i) (h1 : ∀ t ∈ (ordL S i).drop k, gt S i < gt S t.toNat) (h2 : k = 0 ∨ ∃ t, (ordL S i)[k - 1]? = some t ∧ ¬ gt S i < gt S t.toNat) :
    ordL S (i + 1) = (ordL S i).take k ++ ((i : Int) :: (ordL S i).drop k) := by
  have hc : ∀ t, cmR (remS S) (i : Int) t < 0 ↔ gt S i < gt S t.toNat := by
    intro t
    rw [cmR_neg]
    unfold remS
    rw [Int.toNat_natCast]
    omega
  have e : ordL S (i + 1) = (insR (cmR (remS S)) (i : Int) (ordL S i).reverse).reverse := by
    unfold ordL
    rw [marks_succ, srtR_app, List.reverse_reverse, Int.zero_add]
  rw [e]
  exact ins_at (by rw [ordL_len]; exact hk) (fun t ht => (hc t).2 (h1 t ht)) (by
    rcases h2 with h | ⟨t, ht, hn⟩
    · exact .inl h
    · exact .inr ⟨t, ht, fun h => hn ((hc t).1 h)⟩)
end Go.Proofs.Ytmoobfbjehgdnaa
