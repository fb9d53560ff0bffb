/-
  Milling by moves, in lists: what is left behind the first moves, and which move is the first that can not be.
-/
import Derived.Test.YtbjljofgpbecbaaMov
import Derived.Test.YtbjljofgpbecbaaMvBase
namespace Go.Proofs.Ytbjljofgpbecbaa
set_option linter.unusedVariables false
set_option linter.unusedSimpArgs false

/-- where the tool stands, and what is left, behind the first k moves -/
def mlK (P : List Int) (W H r : Nat) (S : List Int) (ms : List Mve) : Nat → (Int × Int × Int) × Ml
  | 0 => ((0, 0, 24), ⟨S, 0, 0, 0⟩)
  | k + 1 => match ms[k]? with
    | none => mlK P W H r S ms k
    | some m => ((m.x, m.y, m.z), (walkC P W H r m.f (mlK P W H r S ms k).1.1 (mlK P W H r S ms k).1.2.1 (mlK P W H r S ms k).1.2.2 m.x m.y m.z (mlK P W H r S ms k).2 (max (stN (mlK P W H r S ms k).1.1 (mlK P W H r S ms k).1.2.1 (mlK P W H r S ms k).1.2.2 m.x m.y m.z) 1)).2)
/-- the code of the move number k -/
def mlC (P : List Int) (W H r : Nat) (S : List Int) (ms : List Mve) (k : Nat) : Int := match ms[k]? with
  | none => 0
  | some m => mvC P W H r m.f (mlK P W H r S ms k).1.1 (mlK P W H r S ms k).1.2.1 (mlK P W H r S ms k).1.2.2 m.x m.y m.z (mlK P W H r S ms k).2
/-- all moves ahead of i can be -/
def mlGo (P : List Int) (W H r : Nat) (S : List Int) (ms : List Mve) (i : Nat) : Prop := ∀ j, j < i → mlC P W H r S ms j = 0
/-- i is the first move that can not be, or the end -/
structure MlEnd (P : List Int) (W H r : Nat) (S : List Int) (ms : List Mve) (i : Nat) : Prop where
  le : i ≤ ms.length
  go : mlGo P W H r S ms i
  no : i < ms.length → mlC P W H r S ms i ≠ 0
theorem MlEnd.uniq {P : List Int} {W H r : Nat} {S : List Int} {ms : List Mve} {i j : Nat} (h : MlEnd P W H r S ms i) (k : MlEnd P W H r S ms j) : i = j := by
  rcases Nat.lt_trichotomy i j with h1 | h1 | h1
  · exact absurd (k.go i h1) (h.no (by have := k.le; omega))
  · exact h1
  · exact absurd (h.go j h1) (k.no (by have := h.le; omega))
/-- the number that is told with a code -/
def mlB (ms : List Mve) (i : Nat) : Int := if i < ms.length then (i : Int) else 0
theorem mlC_end {P : List Int} {W H r : Nat} {S : List Int} {ms : List Mve} : mlC P W H r S ms ms.length = 0 := by
  unfold mlC
  rw [List.getElem?_eq_none (Nat.le_refl _)]
theorem mlB_end {ms : List Mve} : mlB ms ms.length = 0 := by unfold mlB; simp
theorem mlB_in {ms : List Mve} {i : Nat} (h : i < ms.length) : mlB ms i = (i : Int) := by unfold mlB; rw [if_pos h]
theorem stN_le {W H : Nat} {fx fy fz tx ty tz : Int} (hW : W ≤ 24) (hH : H ≤ 24) (hs : str fx fy fz tx ty tz) (hf : inR W H fx fy fz) (ht : inR W H tx ty tz) : max (stN fx fy fz tx ty tz) 1 ≤ 24 := by
  unfold stN
  unfold inR at hf ht
  rcases hs with ⟨rfl, rfl⟩ | ⟨rfl, rfl⟩ | ⟨rfl, rfl⟩ <;> omega
theorem wyC_zero {W H : Nat} {fx fy fz tx ty tz : Int} (h : wyC W H fx fy fz tx ty tz = 0) : inR W H tx ty tz ∧ str fx fy fz tx ty tz := by
  unfold wyC at h
  split at h
  · cases h
  · rename_i h1
    split at h
    · cases h
    · exact ⟨Classical.not_not.1 h1, chg_str.1 (by omega)⟩
theorem mvC_zero {P : List Int} {W H r : Nat} {fast : Bool} {fx fy fz tx ty tz : Int} {s : Ml} (h : mvC P W H r fast fx fy fz tx ty tz s = 0) : wyC W H fx fy fz tx ty tz = 0 ∧ (walkC P W H r fast fx fy fz tx ty tz s (max (stN fx fy fz tx ty tz) 1)).1 = 0 := by
  unfold mvC at h
  split at h
  · rename_i h1; exact absurd h h1
  · rename_i h1; exact ⟨Classical.not_not.1 h1, h⟩
/-- numbers behind the first moves -/
structure MlOk (W H n : Nat) (a : (Int × Int × Int) × Ml) (i : Nat) : Prop where
  at' : inR W H a.1.1 a.1.2.1 a.1.2.2
  ok : MOk n a.2
  air : 0 ≤ a.2.air ∧ a.2.air ≤ 24 * (i : Int)
theorem mlK_ok {P : List Int} {W H r n : Nat} {S : List Int} {ms : List Mve} (hr : r ≤ 3) (hW1 : 1 ≤ W) (hW : W ≤ 24) (hH1 : 1 ≤ H) (hH : H ≤ 24) (hn : n = W * H) (hS : S.length = n) (hSt : ∀ i, 0 ≤ tp S i ∧ tp S i ≤ 24) :
    ∀ i, mlGo P W H r S ms i → MlOk W H n (mlK P W H r S ms i) i := by
  intro i
  induction i with
  | zero =>
    intro _
    refine ⟨?_, ⟨hS, hSt, Int.le_refl _, ?_, by show (0 : Int) ≤ 0 ∧ (0 : Int) ≤ 24; omega⟩, by show (0 : Int) ≤ 0 ∧ _; simp [mlK]⟩
    · show inR W H 0 0 24
      unfold inR
      omega
    · show (0 : Int) + sm S ≤ 24 * n
      have := (sm_nn S (tops_mem hSt)).2
      rw [hS] at this
      omega
  | succ i ih =>
    intro hg
    have h0 := ih (fun j hj => hg j (by omega))
    have hi := hg i (by omega)
    unfold mlC at hi
    rw [mlK]
    cases hm : ms[i]? with
    | none =>
      simp only
      exact ⟨h0.at', h0.ok, by have := h0.air; omega⟩
    | some m =>
      rw [hm] at hi
      simp only at hi ⊢
      obtain ⟨hw, hk⟩ := mvC_zero hi
      obtain ⟨h1, h2⟩ := wyC_zero hw
      have h24 := stN_le hW hH h2 h0.at' h1
      have hz : ∀ i_1, 1 ≤ i_1 → i_1 ≤ max (stN (mlK P W H r S ms i).1.1 (mlK P W H r S ms i).1.2.1 (mlK P W H r S ms i).1.2.2 m.x m.y m.z) 1 → 0 ≤ nth (mlK P W H r S ms i).1.2.2 m.z i_1 := fun k k1 k2 =>
        ((nth_lo h2 k2 k1 (lo := 0) (hi' := 24)).2.2 ⟨h0.at'.2.2.1, h0.at'.2.2.2⟩ ⟨h1.2.2.1, h1.2.2.2⟩).1
      obtain ⟨o1, o2, o3⟩ := walkC_ok (P := P) (W := W) (H := H) (r := r) (fast := m.f) hr (by omega) hn h0.ok hz _ (Nat.le_refl _)
      refine ⟨h1, o1, ?_⟩
      have := h0.air
      show 0 ≤ (walkC P W H r m.f _ _ _ m.x m.y m.z _ _).2.air ∧ _
      simp only at o2 o3 ⊢
      omega
/-- a move more -/
theorem mlK_succ {P : List Int} {W H r : Nat} {S : List Int} {ms : List Mve} {k : Nat} {m : Mve} (h : ms[k]? = some m) {ax ay az : Int} {s : Ml} (he : mlK P W H r S ms k = ((ax, ay, az), s)) :
    mlK P W H r S ms (k + 1) = ((m.x, m.y, m.z), (walkC P W H r m.f ax ay az m.x m.y m.z s (max (stN ax ay az m.x m.y m.z) 1)).2) := by
  rw [mlK, h, he]
theorem mlC_at {P : List Int} {W H r : Nat} {S : List Int} {ms : List Mve} {k : Nat} {m : Mve} (h : ms[k]? = some m) {ax ay az : Int} {s : Ml} (he : mlK P W H r S ms k = ((ax, ay, az), s)) :
    mlC P W H r S ms k = mvC P W H r m.f ax ay az m.x m.y m.z s := by
  unfold mlC
  rw [h, he]
theorem mlGo_succ {P : List Int} {W H r : Nat} {S : List Int} {ms : List Mve} {k : Nat} (h : mlGo P W H r S ms k) (hc : mlC P W H r S ms k = 0) : mlGo P W H r S ms (k + 1) := by
  intro j hj
  by_cases e : j = k
  · subst e; exact hc
  · exact h j (by omega)
end Go.Proofs.Ytbjljofgpbecbaa
