/-
  symMerge whole; and rows whose stretches of one length are sorted.
-/
import Derived.Test.YtmoobfbjehgdnaaSymgB
namespace Go.Proofs.Ytmoobfbjehgdnaa
open Go.ChangeShapes Go.WideShapes Go.ChangeAt Go.RowKit
set_option linter.unusedVariables false
set_option linter.unusedSimpArgs false

/-- a sorted row parted by what holds of smaller ones -/
theorem part_at {rem : Int → Int} (P : Int → Prop) (hP : ∀ a b, ltR rem a b → P b → P a) : ∀ T : List Int, T.Pairwise (ltR rem) → ∃ A B, T = A ++ B ∧ (∀ a ∈ A, P a) ∧ (∀ b ∈ B, ¬ P b) := by
  intro T
  induction T with
  | nil => intro _; exact ⟨[], [], rfl, by simp, by simp⟩
  | cons y T ih =>
    intro h
    have h1 := List.pairwise_cons.1 h
    by_cases hy : P y
    · obtain ⟨A, B, e, hA, hB⟩ := ih h1.2
      refine ⟨y :: A, B, by rw [e]; rfl, ?_, hB⟩
      intro a ha
      rcases List.mem_cons.1 ha with e1 | e1
      · rw [e1]; exact hy
      · exact hA a e1
    · refine ⟨[], y :: T, rfl, by simp, ?_⟩
      intro b hb hp
      rcases List.mem_cons.1 hb with e1 | e1
      · rw [e1] at hp; exact hy hp
      · exact hy (hP y b (h1.1 b e1) hp)

theorem sym_all (D m : Nat) (c : Value) (rem : Int → Int) (ok : Int → Prop) (Env : World → Prop) (H : Cmp c D (cmR rem) ok Env) (hm : m ≤ 4096) : ∀ N, RecM c D m rem ok Env N := by
  intro N
  induction N with
  | zero => intro X T1 T2 Y W h; omega
  | succ N ih =>
    intro X T1 T2 Y W hN hl h1 h2 ht hE hW
    by_cases e1 : T1.length = 1
    · obtain ⟨x, rfl⟩ := List.length_eq_one_iff.1 e1
      obtain ⟨R1, R2, rfl, hA, hB⟩ := part_at (rem := rem) (fun y => ltR rem y x) (fun a b h1 h2 => ltR_trans h1 h2) T2 ht.s2
      have hx : ∀ y ∈ R1 ++ R2, x < y := fun y hy => ht.lt x (by simp) y hy
      have hB' : ∀ y ∈ R2, ltR rem x y := fun y hy => by
        rcases ltR_total (rem := rem) (show x ≠ y by have := hx y (by simp [hy]); omega) with h | h
        · exact h
        · exact absurd h (hB y hy)
      have h := syl_any D m c (cmR rem) ok Env H X R1 R2 Y x W hm (by simp only [List.length_append, List.length_cons, List.length_nil] at hl; omega) (by simpa using h2) (ht.o1 x (by simp)) ht.o2
        (fun y hy => (cmR_late (hx y (by simp [hy]))).2 (hA y hy)) (fun y hy => (cmR_late' (hx y (by simp [hy]))).2 (hB' y hy)) hE (by simpa using hW)
      rw [show (((X.length + [x].length : Nat)) : Int) = (X.length : Int) + 1 by simp, show X.length + [x].length + (R1 ++ R2).length = X.length + 1 + R1.length + R2.length by simp only [List.length_append, List.length_cons, List.length_nil]; omega]
      refine h.mono ?_
      rintro e w' ⟨rfl, hk, hb⟩
      obtain ⟨g1, g2⟩ := one_left ht.s2 hA hB'
      exact ⟨rfl, R1 ++ (x :: R2), g1, g2, by simpa using hk, hb⟩
    · by_cases e2 : T2.length = 1
      · obtain ⟨x, rfl⟩ := List.length_eq_one_iff.1 e2
        obtain ⟨L1, L2, rfl, hA, hB⟩ := part_at (rem := rem) (fun y => ltR rem y x) (fun a b h1 h2 => ltR_trans h1 h2) T1 ht.s1
        have hx : ∀ y ∈ L1 ++ L2, y < x := fun y hy => ht.lt y hy x (by simp)
        have hB' : ∀ y ∈ L2, ltR rem x y := fun y hy => by
          rcases ltR_total (rem := rem) (show x ≠ y by have := hx y (by simp [hy]); omega) with h | h
          · exact h
          · exact absurd h (hB y hy)
        have h := syr_any D m c (cmR rem) ok Env H X L1 L2 Y x W hm (by simp only [List.length_append, List.length_cons, List.length_nil] at hl; omega) (by simp only [List.length_append] at h1 e1; omega) (ht.o2 x (by simp)) ht.o1
          (fun y hy => (cmR_late' (hx y (by simp [hy]))).2 (hA y hy)) (fun y hy => (cmR_late (hx y (by simp [hy]))).2 (hB' y hy)) hE (by simpa using hW)
        rw [show X.length + (L1 ++ L2).length + [x].length = X.length + L1.length + L2.length + 1 by simp only [List.length_append, List.length_cons, List.length_nil]; omega, show X.length + (L1 ++ L2).length = X.length + L1.length + L2.length by simp only [List.length_append]; omega, show (((X.length + L1.length + L2.length + 1 : Nat)) : Int) = ((X.length + L1.length + L2.length : Nat) : Int) + 1 by omega]
        refine h.mono ?_
        rintro e w' ⟨rfl, hk, hb⟩
        obtain ⟨g1, g2⟩ := one_right ht.s1 hA hB'
        exact ⟨rfl, L1 ++ (x :: L2), g1, g2, by simpa using hk, hb⟩
      · exact symG D m c rem ok Env H X T1 T2 Y W hm hl (by omega) (by omega) ht hE hW (hide fun X' T1' T2' Y' W' h => ih X' T1' T2' Y' W' (by omega))

/-- F is L, its stretches of bs sorted -/
def Chn (rem : Int → Int) (bs : Nat) (F L : List Int) : Prop := F.length = L.length ∧ ∀ k : Nat, ((F.drop (k * bs)).take bs).Pairwise (ltR rem) ∧ ((F.drop (k * bs)).take bs).Perm ((L.drop (k * bs)).take bs)
theorem chn_nil (rem : Int → Int) (bs : Nat) : Chn rem bs [] [] := ⟨rfl, fun k => by simp⟩
theorem Chn.head {rem : Int → Int} {bs : Nat} {F L : List Int} (h : Chn rem bs F L) : (F.take bs).Pairwise (ltR rem) ∧ (F.take bs).Perm (L.take bs) := by simpa using h.2 0
theorem Chn.tail {rem : Int → Int} {bs : Nat} {F L : List Int} (h : Chn rem bs F L) : Chn rem bs (F.drop bs) (L.drop bs) := by
  refine ⟨by simp [h.1], fun k => ?_⟩
  have := h.2 (k + 1)
  rw [show (k + 1) * bs = bs + k * bs by rw [Nat.add_mul]; omega, ← List.drop_drop, ← List.drop_drop] at this
  exact this
theorem chn_one {rem : Int → Int} {bs : Nat} {C A : List Int} (hl : C.length ≤ bs) (hs : C.Pairwise (ltR rem)) (hp : C.Perm A) : Chn rem bs C A := by
  refine ⟨hp.length_eq, fun k => ?_⟩
  have hA : A.length = C.length := hp.length_eq.symm
  cases k with
  | zero => rw [Nat.zero_mul, List.drop_zero, List.drop_zero, List.take_of_length_le hl, List.take_of_length_le (by omega)]; exact ⟨hs, hp⟩
  | succ k =>
    have : bs ≤ (k + 1) * bs := by rw [Nat.add_mul]; omega
    rw [List.drop_eq_nil_of_le (by omega), List.drop_eq_nil_of_le (by omega)]
    simp
/-- full stretches ahead of others -/
theorem chn_app {rem : Int → Int} {bs j : Nat} {P A F L : List Int} (h1 : Chn rem bs P A) (hj : P.length = j * bs) (h2 : Chn rem bs F L) : Chn rem bs (P ++ F) (A ++ L) := by
  have hA : A.length = j * bs := by rw [← h1.1]; exact hj
  refine ⟨by simp [h1.1, h2.1], fun k => ?_⟩
  by_cases hk : k < j
  · have hb : (k + 1) * bs ≤ j * bs := Nat.mul_le_mul_right bs hk
    rw [Nat.add_mul] at hb
    have e : ∀ Q R : List Int, Q.length = j * bs → ((Q ++ R).drop (k * bs)).take bs = (Q.drop (k * bs)).take bs := by
      intro Q R hQ
      rw [List.drop_append_of_le_length (by omega), List.take_append_of_le_length (by rw [List.length_drop]; omega)]
    rw [e P F hj, e A L hA]
    exact h1.2 k
  · have e : ∀ Q R : List Int, Q.length = j * bs → (Q ++ R).drop (k * bs) = R.drop ((k - j) * bs) := by
      intro Q R hQ
      have hb : j * bs ≤ k * bs := Nat.mul_le_mul_right bs (by omega)
      rw [List.drop_append, List.drop_eq_nil_of_le (by omega), List.nil_append, hQ, Nat.sub_mul]
    rw [e P F hj, e A L hA]
    exact h2.2 (k - j)
/-- two stretches next to one another can be merged -/
theorem Chn.two {rem : Int → Int} {ok : Int → Prop} {bs : Nat} {F L : List Int} (h : Chn rem bs F L) (hL : L.Pairwise (· < ·)) (hok : ∀ x ∈ L, ok x) : Two2 rem ok (F.take bs) ((F.drop bs).take bs) := by
  have h0 := h.head
  have h1 := h.tail.head
  have hsp : L.Pairwise (· < ·) := hL
  rw [← List.take_append_drop bs L] at hsp
  obtain ⟨_, _, hlt⟩ := List.pairwise_append.1 hsp
  refine ⟨h0.1, h1.1, ?_, ?_, ?_⟩
  · intro x hx y hy
    exact hlt x (h0.2.mem_iff.1 hx) y (List.mem_of_mem_take (h1.2.mem_iff.1 hy))
  · intro x hx
    exact hok x (List.mem_of_mem_take (h0.2.mem_iff.1 hx))
  · intro x hx
    exact hok x (List.mem_of_mem_drop (List.mem_of_mem_take (h1.2.mem_iff.1 hx)))
theorem two_perm {rem : Int → Int} {bs : Nat} {F L M : List Int} (h : Chn rem bs F L) (hM : M.Perm (F.take bs ++ (F.drop bs).take bs)) : M.Perm (L.take (2 * bs)) := by
  refine hM.trans ?_
  have e : L.take (2 * bs) = L.take bs ++ (L.drop bs).take bs := by rw [show 2 * bs = bs + bs by omega, List.take_add]
  rw [e]
  exact List.Perm.append h.head.2 h.tail.head.2
end Go.Proofs.Ytmoobfbjehgdnaa
