/-
  What a nest and the best nest are: how all plates lie, the best is no higher than any, from behind the same, room for all.
-/
import Derived.Test.YtoidhlackoigkaaNbMo
namespace Go.Proofs.Ytoidhlackoigkaa
open Go.ChangeShapes Go.WideShapes Go.ChangeAt Go.RowKit
set_option linter.unusedVariables false
set_option linter.unusedSimpArgs false


/-- plate k, one way or the other -/
def Pick (Wd : Int) (P : List Pl) (k : Nat) (q : Itm) : Prop := ∃ p t, P[k]? = some p ∧ q = itmT k t p ∧ q.w ≤ Wd
def Picks (Wd : Int) (P : List Pl) : List Nat → List Itm → Prop
  | [], [] => True
  | k :: r, q :: s => Pick Wd P k q ∧ Picks Wd P r s
  | _, _ => False
theorem picks_len {Wd : Int} {P : List Pl} : ∀ {od : List Nat} {Q : List Itm}, Picks Wd P od Q → Q.length = od.length
  | [], [], _ => rfl
  | _ :: _, _ :: _, h => by have := picks_len h.2; simp [this]
theorem picks_at {Wd : Int} {P : List Pl} : ∀ {od : List Nat} {Q : List Itm}, Picks Wd P od Q → ∀ {i : Nat} {q : Itm}, Q[i]? = some q → ∃ k, od[i]? = some k ∧ Pick Wd P k q
  | [], [], _, i, q, h => by cases h
  | k :: r, q :: s, hp, 0, q', h => by simp at h; subst h; exact ⟨k, rfl, hp.1⟩
  | k :: r, q :: s, hp, i + 1, q', h => by
    rw [List.getElem?_cons_succ] at h
    rw [List.getElem?_cons_succ]
    exact picks_at hp.2 h
theorem lv_sound {Wd : Int} {P : List Pl} (r : List Nat) (pre Q : List Itm) (h : Q ∈ lv Wd P r pre) : ∃ rest, Q = pre ++ rest ∧ Picks Wd P r rest := by
  induction r generalizing pre with
  | nil => simp [lv] at h; exact ⟨[], by simp [h], trivial⟩
  | cons k r ih =>
    cases hp : P[k]? with
    | none => simp [lv, hp] at h
    | some p =>
      rw [lv_cons hp] at h
      rcases List.mem_append.1 h with h1 | h1
      · split at h1
        · rename_i hw
          obtain ⟨rest, e, hr⟩ := ih _ h1
          exact ⟨itmT k false p :: rest, by rw [e]; simp, ⟨p, false, hp, rfl, hw⟩, hr⟩
        · cases h1
      · split at h1
        · rename_i hw
          obtain ⟨rest, e, hr⟩ := ih _ h1
          exact ⟨itmT k true p :: rest, by rw [e]; simp, ⟨p, true, hp, rfl, hw⟩, hr⟩
        · cases h1
theorem lv_comp {Wd : Int} {P : List Pl} : ∀ (r : List Nat) (pre rest : List Itm), Picks Wd P r rest → pre ++ rest ∈ lv Wd P r pre
  | [], pre, [], _ => by simp [lv]
  | k :: r, pre, q :: s, h => by
    obtain ⟨⟨p, t, hp, rfl, hw⟩, hs⟩ := h
    rw [lv_cons hp]
    have := lv_comp r (pre ++ [itmT k t p]) s hs
    rw [List.append_assoc] at this
    refine List.mem_append.2 ?_
    cases t with
    | false => exact Or.inl (by rw [if_pos (show p.w ≤ Wd from hw)]; exact this)
    | true => exact Or.inr (by rw [if_pos (show p.h ≤ Wd from hw)]; exact this)
theorem ol_sound {Wd : Int} {P : List Pl} (m : Nat) (od : List Nat) (Q : List Itm) (h : Q ∈ ol Wd P m od) (hn : od.Nodup) (hk : ∀ k ∈ od, k < P.length) : ∃ od', od'.Nodup ∧ (∀ k ∈ od', k < P.length) ∧ od'.length = od.length + m ∧ Picks Wd P od' Q := by
  induction m generalizing od with
  | zero =>
    obtain ⟨rest, e, hr⟩ := lv_sound _ _ _ h
    rw [List.nil_append] at e
    exact ⟨od, hn, hk, rfl, by rw [e]; exact hr⟩
  | succ m ih =>
    simp only [ol] at h
    obtain ⟨i, hi, h1⟩ := List.mem_flatMap.1 h
    have hi := List.mem_range.1 hi
    split at h1
    · cases h1
    · rename_i hc
      have hc' : i ∉ od := by simpa using hc
      obtain ⟨od', a, b, c, d⟩ := ih (od ++ [i]) h1 (List.nodup_append.2 ⟨hn, by simp, fun x hx y hy e => by simp at hy; subst hy; subst e; exact hc' hx⟩) (fun k hk' => by rcases List.mem_append.1 hk' with h2 | h2; (exact hk k h2); (simp at h2; omega))
      exact ⟨od', a, b, by rw [c]; simp; omega, d⟩
theorem ol_comp {Wd : Int} {P : List Pl} (m : Nat) (od rest : List Nat) (Q : List Itm) (hm : rest.length = m) (hn : (od ++ rest).Nodup) (hk : ∀ k ∈ rest, k < P.length) (hp : Picks Wd P (od ++ rest) Q) : Q ∈ ol Wd P m od := by
  induction m generalizing od rest with
  | zero =>
    obtain rfl := List.eq_nil_of_length_eq_zero hm
    rw [List.append_nil] at hp
    have := lv_comp od [] Q hp
    rwa [List.nil_append] at this
  | succ m ih =>
    cases rest with
    | nil => cases hm
    | cons i rest =>
      simp only [ol]
      refine List.mem_flatMap.2 ⟨i, List.mem_range.2 (hk i (by simp)), ?_⟩
      have hc : i ∉ od := fun h => (List.nodup_append.1 hn).2.2 i h i (by simp) rfl
      rw [if_neg (by simpa using hc)]
      exact ih (od ++ [i]) rest (by simpa using hm) (by rw [List.append_assoc]; exact hn) (fun k h => hk k (by simp [h])) (by rw [List.append_assoc]; exact hp)
theorem bst_le {Wd : Int} (Qs : List (List Itm)) (b : Option (List Ld)) {L : List Ld} (h : bst Wd b Qs = some L) : (∀ B, b = some B → hgtOf L ≤ hgtOf B) ∧ ∀ Q ∈ Qs, hgtOf L ≤ hgtOf (nestOf Wd Q) := by
  induction Qs generalizing b with
  | nil => exact ⟨fun B hB => by rw [show b = some L from h] at hB; cases hB; exact Int.le_refl _, fun Q hQ => by cases hQ⟩
  | cons Q Qs ih =>
    have h1 := ih (upd Wd b Q) h
    obtain ⟨h1, h2⟩ := h1
    unfold upd at h1
    refine ⟨fun B hB => ?_, fun Q' hQ' => ?_⟩
    · subst hB
      simp only at h1
      split at h1
      · have := h1 _ rfl; omega
      · exact h1 _ rfl
    · rcases List.mem_cons.1 hQ' with rfl | hQ'
      · split at h1
        · exact h1 _ rfl
        · split at h1
          · exact h1 _ rfl
          · have := h1 _ rfl; omega
      · exact h2 Q' hQ'
/-- a plan that is whole -/
def Whole (Wd : Int) (P : List Pl) (Q : List Itm) : Prop := ∃ od : List Nat, od.Nodup ∧ (∀ k ∈ od, k < P.length) ∧ od.length = P.length ∧ Picks Wd P od Q
theorem whole_iff {Wd : Int} {P : List Pl} {Q : List Itm} : Q ∈ ol Wd P P.length [] ↔ Whole Wd P Q := by
  constructor
  · intro h
    obtain ⟨od, a, b, c, d⟩ := ol_sound _ _ _ h (by simp) (by simp)
    exact ⟨od, a, b, by simpa using c, d⟩
  · rintro ⟨od, a, b, c, d⟩
    exact ol_comp _ [] od Q c (by simpa using a) b (by simpa using d)
theorem whole_w {Wd : Int} {P : List Pl} {Q : List Itm} (h : Whole Wd P Q) : ∀ q ∈ Q, q.w ≤ Wd := by
  intro q hq
  obtain ⟨i, hi⟩ := List.getElem?_of_mem hq
  obtain ⟨od, _, _, _, hp⟩ := h
  obtain ⟨k, _, p, t, _, _, hw⟩ := picks_at hp hi
  exact hw
theorem picks_of {Wd : Int} {P : List Pl} : ∀ (od : List Nat) (Q : List Itm), Q.length = od.length → (∀ (i : Nat) (k : Nat) (q : Itm), od[i]? = some k → Q[i]? = some q → Pick Wd P k q) → Picks Wd P od Q
  | [], [], _, _ => trivial
  | [], _ :: _, h, _ => by cases h
  | _ :: _, [], h, _ => by cases h
  | k :: r, q :: s, h, f => ⟨f 0 k q rfl rfl, picks_of r s (by simpa using h) (fun i k' q' h1 h2 => f (i + 1) k' q' (by simpa using h1) (by simpa using h2))⟩
theorem plan_whole {Wd : Int} {P : List Pl} (hf : ∀ p ∈ P, p.w ≤ Wd ∨ p.h ≤ Wd) : Whole Wd P (plan Wd P) := by
  refine ⟨List.range P.length, List.nodup_range, fun k hk => List.mem_range.1 hk, by simp, picks_of _ _ (by simp [plan_len]) ?_⟩
  intro i k q h1 h2
  have hi := (List.getElem?_eq_some_iff.1 h1).1
  rw [List.length_range] at hi
  rw [List.getElem?_range hi] at h1
  cases h1
  obtain ⟨p, hp⟩ := get_some rfl hi
  unfold plan at h2
  rw [List.getElem?_mapIdx, hp] at h2
  cases h2
  exact ⟨p, decide (Wd < p.w), hp, rfl, itm_fit (hf p (List.mem_of_getElem? hp))⟩
/-- the numbers from behind -/
def renQ (c : Int) (Q : List Itm) : List Itm := Q.map fun q => { q with n := c - q.n }
def renL (c : Int) (L : List Ld) : List Ld := L.map fun l => { l with n := c - l.n }
theorem ren_rcs (c : Int) (L : List Ld) : rcs (renL c L) = rcs L := by
  unfold rcs renL
  rw [List.map_map]
  rfl
theorem ren_hgt (c : Int) (L : List Ld) : hgtOf (renL c L) = hgtOf L := by
  unfold hgtOf renL
  rw [List.foldl_map]
theorem ren_nest {Wd c : Int} {Q : List Itm} (h : ∀ q ∈ Q, q.w ≤ Wd) : nestOf Wd (renQ c Q) = renL c (nestOf Wd Q) := by
  obtain ⟨h1, h2⟩ := nestOf_spec h
  refine nestOf_eq ?_ ?_
  · intro i l hi
    unfold renL at hi
    rw [List.getElem?_map] at hi
    obtain ⟨l0, h0, rfl⟩ := Option.map_eq_some_iff.1 hi
    have := h1 i l0 h0
    rw [show (renL c (nestOf Wd Q)).take i = renL c ((nestOf Wd Q).take i) by unfold renL; rw [List.map_take], ren_rcs]
    exact this
  · refine ⟨by unfold renL renQ; rw [List.length_map, List.length_map, h2.1], fun i l p hi hp => ?_⟩
    unfold renL at hi
    unfold renQ at hp
    rw [List.getElem?_map] at hi hp
    obtain ⟨l0, h0, rfl⟩ := Option.map_eq_some_iff.1 hi
    obtain ⟨p0, h0', rfl⟩ := Option.map_eq_some_iff.1 hp
    obtain ⟨a, b, c', d⟩ := h2.2 i l0 p0 h0 h0'
    exact ⟨by simp only [a], b, c', d⟩
theorem ren_whole {Wd : Int} {P : List Pl} {Q : List Itm} (h : Whole Wd P Q) : Whole Wd P.reverse (renQ ((P.length : Int) - 1) Q) := by
  obtain ⟨od, a, b, c, d⟩ := h
  refine ⟨od.map (fun k => P.length - 1 - k), ?_, ?_, by simpa using c, picks_of _ _ (by unfold renQ; simp [picks_len d]) ?_⟩
  · unfold List.Nodup at a ⊢
    rw [List.pairwise_map]
    refine List.Pairwise.imp_of_mem (fun hx hy hne e => hne ?_) a
    have := b _ hx
    have := b _ hy
    omega
  · intro k hk
    obtain ⟨j, hj, rfl⟩ := List.mem_map.1 hk
    have := b j hj
    rw [List.length_reverse]
    omega
  · intro i k q hk hq
    rw [List.getElem?_map] at hk
    unfold renQ at hq
    rw [List.getElem?_map] at hq
    obtain ⟨k0, hk0, rfl⟩ := Option.map_eq_some_iff.1 hk
    obtain ⟨q0, hq0, rfl⟩ := Option.map_eq_some_iff.1 hq
    obtain ⟨k1, hk1, p, t, hp, rfl, hw⟩ := picks_at d hq0
    rw [hk0] at hk1
    cases hk1
    have hlt := b k0 (List.mem_of_getElem? hk0)
    refine ⟨p, t, ?_, ?_, hw⟩
    · rw [List.getElem?_reverse (by omega)]
      rw [show P.length - 1 - (P.length - 1 - k0) = k0 by omega]
      exact hp
    · simp only [itmT]
      congr 1
      omega
theorem best_rev_le {Wd : Int} {P : List Pl} {L L' : List Ld} (h : bst Wd none (ol Wd P P.length []) = some L) (h' : bst Wd none (ol Wd P.reverse P.reverse.length []) = some L') : hgtOf L' ≤ hgtOf L := by
  rcases bst_in _ _ h with h1 | ⟨Q, hQ, rfl⟩
  · cases h1
  · have hw := whole_iff.1 hQ
    have := (bst_le _ _ h').2 _ (whole_iff.2 (ren_whole hw))
    rwa [ren_nest (whole_w hw), ren_hgt] at this
theorem best_rev {Wd : Int} {P : List Pl} {L L' : List Ld} (h : bst Wd none (ol Wd P P.length []) = some L) (h' : bst Wd none (ol Wd P.reverse P.reverse.length []) = some L') : hgtOf L' = hgtOf L := by
  have h1 := best_rev_le h h'
  have h2 := best_rev_le h' (L' := L) (by rw [List.reverse_reverse]; exact h)
  omega


def sumN {α : Type} (f : α → Nat) : List α → Nat
  | [] => 0
  | a :: S => f a + sumN f S
theorem sumN_perm {α : Type} {f : α → Nat} {A B : List α} (h : A.Perm B) : sumN f A = sumN f B := by
  induction h with
  | nil => rfl
  | cons a _ ih => simp only [sumN, ih]
  | swap a b l => simp only [sumN]; omega
  | trans _ _ h1 h2 => rw [h1, h2]
theorem nodup_leA (n : Nat) : ∀ (od : List Nat), od.Nodup → (∀ k ∈ od, k < n) → od.length ≤ n := by
  induction n with
  | zero =>
    intro od _ h
    cases od with
    | nil => exact Nat.le_refl _
    | cons a r => have := h a (by simp); omega
  | succ n ih =>
    intro od hn hk
    by_cases h : n ∈ od
    · have h1 := ih (od.erase n) (hn.erase n) (fun k hk' => by
        have h2 := hk k (List.mem_of_mem_erase hk')
        have : k ≠ n := fun e => by subst e; exact (hn.not_mem_erase) hk'
        omega)
      rw [List.length_erase_of_mem h] at h1
      omega
    · have h1 := ih od hn (fun k hk' => by
        have h2 := hk k hk'
        have : k ≠ n := fun e => by subst e; exact h hk'
        omega)
      omega
theorem sum_all (f : Nat → Nat) (n : Nat) : ∀ (od : List Nat), od.Nodup → (∀ k ∈ od, k < n) → od.length = n → sumN f od = sumN f (List.range n) := by
  induction n with
  | zero =>
    intro od _ _ h
    rw [List.eq_nil_of_length_eq_zero h]
    rfl
  | succ n ih =>
    intro od hn hk hl
    have h : n ∈ od := by
      refine Classical.byContradiction fun h => ?_
      have := nodup_leA n od hn (fun k hk' => by
        have h2 := hk k hk'
        have : k ≠ n := fun e => by subst e; exact h hk'
        omega)
      omega
    have h1 := ih (od.erase n) (hn.erase n) (fun k hk' => by
      have h2 := hk k (List.mem_of_mem_erase hk')
      have : k ≠ n := fun e => by subst e; exact (hn.not_mem_erase) hk'
      omega) (by rw [List.length_erase_of_mem h]; omega)
    rw [sumN_perm (List.perm_cons_erase h), List.range_succ]
    have h2 : sumN f (List.range n ++ [n]) = sumN f (n :: List.range n) := sumN_perm (List.perm_append_comm)
    rw [h2]
    simp only [sumN, h1]
theorem sum_app {α : Type} (f : α → Nat) (A B : List α) : sumN f (A ++ B) = sumN f A + sumN f B := by
  induction A with
  | nil => simp [sumN]
  | cons a A ih => simp only [List.cons_append, sumN, ih]; omega
theorem sum_map {α β : Type} (f : β → Nat) (g : α → β) (A : List α) : sumN f (A.map g) = sumN (fun a => f (g a)) A := by
  induction A with
  | nil => rfl
  | cons a A ih => simp only [List.map_cons, sumN, ih]
/-- those that hold at most one of some -/
theorem ex_le {α β : Type} (c : β → α → Bool) (R : List β) (hx : R.Pairwise fun a b => ∀ s, ¬ (c a s = true ∧ c b s = true)) (S : List α) : sumN (fun b => S.countP (c b)) R ≤ S.length := by
  have one : ∀ (s : α) (R : List β), (R.Pairwise fun a b => ∀ s, ¬ (c a s = true ∧ c b s = true)) → sumN (fun b => if c b s = true then 1 else 0) R ≤ 1 ∧ ((∃ b ∈ R, c b s = true) ∨ sumN (fun b => if c b s = true then 1 else 0) R = 0) := by
    intro s R hR
    induction R with
    | nil => exact ⟨by simp [sumN], Or.inr rfl⟩
    | cons b R ih =>
      obtain ⟨h1, h2⟩ := List.pairwise_cons.1 hR
      obtain ⟨i1, i2⟩ := ih h2
      simp only [sumN]
      by_cases hb : c b s = true
      · have : sumN (fun b => if c b s = true then 1 else 0) R = 0 := by
          rcases i2 with ⟨b', hb', hc'⟩ | h0
          · exact absurd ⟨hb, hc'⟩ (h1 b' hb' s)
          · exact h0
        rw [if_pos hb, this]
        exact ⟨by omega, Or.inl ⟨b, by simp, hb⟩⟩
      · rw [if_neg hb, Nat.zero_add]
        refine ⟨i1, ?_⟩
        rcases i2 with ⟨b', hb', hc'⟩ | h0
        · exact Or.inl ⟨b', by simp [hb'], hc'⟩
        · exact Or.inr h0
  induction S with
  | nil =>
    have : ∀ R : List β, sumN (fun b => ([] : List α).countP (c b)) R = 0 := by
      intro R
      induction R with
      | nil => rfl
      | cons b R ih => show ([] : List α).countP (c b) + sumN (fun b => ([] : List α).countP (c b)) R = 0; rw [ih]; rfl
    rw [this R]
    exact Nat.zero_le _
  | cons s S ih =>
    have key : ∀ R : List β, sumN (fun b => (s :: S).countP (c b)) R = sumN (fun b => S.countP (c b)) R + sumN (fun b => if c b s = true then 1 else 0) R := by
      intro R
      induction R with
      | nil => rfl
      | cons b R ih =>
        show (s :: S).countP (c b) + sumN (fun b => (s :: S).countP (c b)) R = (S.countP (c b) + sumN (fun b => S.countP (c b)) R) + ((if c b s = true then 1 else 0) + sumN (fun b => if c b s = true then 1 else 0) R)
        rw [ih, List.countP_cons]
        omega
    rw [key R, List.length_cons]
    have := (one s R hx).1
    omega
def inI (a e : Nat) (x : Nat) : Bool := decide (a ≤ x) && decide (x < e)
theorem cnt_range (a e n : Nat) (h : a ≤ e) : (List.range n).countP (inI a e) = min n e - a := by
  induction n with
  | zero => simp
  | succ n ih =>
    rw [List.range_succ, List.countP_append, ih, List.countP_singleton]
    unfold inI
    by_cases h1 : a ≤ n <;> by_cases h2 : n < e <;> simp [h1, h2] <;> omega
def grid (n m : Nat) : List (Nat × Nat) := (List.range n).flatMap fun x => (List.range m).map fun y => (x, y)
theorem grid_len (n m : Nat) : (grid n m).length = n * m := by
  induction n with
  | zero => simp [grid]
  | succ n ih =>
    unfold grid at ih ⊢
    rw [List.range_succ, List.flatMap_append, List.length_append, ih, Nat.succ_mul]
    simp
def cN (ax ex ay ey : Nat) (s : Nat × Nat) : Bool := inI ax ex s.1 && inI ay ey s.2
theorem cnt_grid (ax ex ay ey n m : Nat) (h1 : ax ≤ ex) (h2 : ay ≤ ey) : (grid n m).countP (cN ax ex ay ey) = (min n ex - ax) * (min m ey - ay) := by
  rw [← cnt_range ax ex n h1]
  induction n with
  | zero => simp [grid]
  | succ n ih =>
    unfold grid at ih ⊢
    rw [List.range_succ, List.flatMap_append, List.countP_append, ih, List.countP_append, Nat.add_mul, List.countP_singleton]
    congr 1
    simp only [List.flatMap_cons, List.flatMap_nil, List.append_nil, List.countP_map]
    by_cases h : inI ax ex n = true
    · rw [if_pos h, Nat.one_mul, ← cnt_range ay ey m h2]
      congr 1
      funext y
      simp [cN, h]
    · rw [if_neg h, Nat.zero_mul, List.countP_eq_zero]
      intro y _
      simp [cN, h]
theorem area_le {Wd H : Int} {R : List Rc} (hp : R.Pairwise fun a b => ovr a b = false) (hb : ∀ b ∈ R, 0 ≤ b.x ∧ 0 ≤ b.y ∧ 1 ≤ b.w ∧ 1 ≤ b.h ∧ b.x + b.w ≤ Wd ∧ b.y + b.h ≤ H) : sumN (fun b : Rc => b.w.toNat * b.h.toNat) R ≤ Wd.toNat * H.toNat := by
  have h := ex_le (fun b : Rc => cN b.x.toNat (b.x + b.w).toNat b.y.toNat (b.y + b.h).toNat) R (List.Pairwise.imp_of_mem (fun {a b} ha hb' ho s => by
    rintro ⟨c1, c2⟩
    have q1 := hb a ha
    have q2 := hb b hb'
    unfold cN inI at c1 c2
    simp only [Bool.and_eq_true, decide_eq_true_eq] at c1 c2
    have : ovr a b = true := ovr_iff.2 (by omega)
    rw [ho] at this
    cases this) hp) (grid Wd.toNat H.toNat)
  rw [grid_len] at h
  have key : ∀ R : List Rc, (∀ b ∈ R, 0 ≤ b.x ∧ 0 ≤ b.y ∧ 1 ≤ b.w ∧ 1 ≤ b.h ∧ b.x + b.w ≤ Wd ∧ b.y + b.h ≤ H) → sumN (fun b => (grid Wd.toNat H.toNat).countP (cN b.x.toNat (b.x + b.w).toNat b.y.toNat (b.y + b.h).toNat)) R = sumN (fun b : Rc => b.w.toNat * b.h.toNat) R := by
    intro R
    induction R with
    | nil => intro _; rfl
    | cons b R ih =>
      intro hb
      simp only [sumN]
      rw [ih (fun c hc => hb c (by simp [hc])), cnt_grid _ _ _ _ _ _ (by have := hb b (by simp); omega) (by have := hb b (by simp); omega)]
      have q := hb b (by simp)
      rw [show min Wd.toNat (b.x + b.w).toNat - b.x.toNat = b.w.toNat by omega, show min H.toNat (b.y + b.h).toNat - b.y.toNat = b.h.toNat by omega]
  rwa [key R hb] at h
/-- how all plates lie -/
structure Lie (Wd : Int) (P : List Pl) (L : List Ld) : Prop where
  len : L.length = P.length
  near : Near L
  it : ∀ (i : Nat) (l : Ld), L[i]? = some l → ∃ (k : Nat) (p : Pl), l.n = (k : Int) ∧ P[k]? = some p ∧ l.a.w = twd l.t p.w p.h ∧ l.a.h = twd l.t p.h p.w ∧ l.a.x + l.a.w ≤ Wd ∧ free (rcs (L.take i)) l.a = true ∧ ∀ (j : Nat) (l' : Ld), j < i → L[j]? = some l' → l'.n ≠ l.n
theorem nodup_get {od : List Nat} (h : od.Nodup) {i j a b : Nat} (hi : od[i]? = some a) (hj : od[j]? = some b) (hij : j < i) : b ≠ a := by
  unfold List.Nodup at h
  rw [List.pairwise_iff_getElem] at h
  obtain ⟨h1, rfl⟩ := List.getElem?_eq_some_iff.1 hi
  obtain ⟨h2, rfl⟩ := List.getElem?_eq_some_iff.1 hj
  exact h j i h2 h1 hij
theorem lie_of {Wd : Int} {P : List Pl} {Q : List Itm} (hc : nsCode Wd P = 0) (hw : Whole Wd P Q) : Lie Wd P (nestOf Wd Q) := by
  obtain ⟨⟨_, c1⟩, c2, c3, _⟩ := code_good hc
  obtain ⟨h1, h2⟩ := nestOf_spec (whole_w hw)
  obtain ⟨od, hn, hk, hl, hp⟩ := hw
  generalize nestOf Wd Q = L at *
  have hQ := picks_len hp
  have it : ∀ (i : Nat) (l : Ld), L[i]? = some l → ∃ (k : Nat) (p : Pl), od[i]? = some k ∧ l.n = (k : Int) ∧ P[k]? = some p ∧ l.a.w = twd l.t p.w p.h ∧ l.a.h = twd l.t p.h p.w := by
    intro i l hi
    obtain ⟨q, hq⟩ := get_some (n := L.length) h2.1.symm (List.getElem?_eq_some_iff.1 hi).1
    obtain ⟨a, b, c, d⟩ := h2.2 i l q hi hq
    obtain ⟨k, hk', p, t, hpk, rfl, _⟩ := picks_at hp hq
    simp only [itmT] at a b c d
    subst b
    exact ⟨k, p, hk', a, hpk, c, d⟩
  refine ⟨by rw [h2.1, hQ, hl], ?_, fun i l hi => ?_⟩
  · have key : ∀ i, i ≤ L.length → Near (L.take i) := by
      intro i
      induction i with
      | zero => intro _; rw [List.take_zero]; exact near_nil
      | succ i ih =>
        intro hi
        obtain ⟨l, hli⟩ := get_some rfl (show i < L.length by omega)
        rw [List.take_add_one, hli]
        obtain ⟨k, p, _, _, hpk, e1, e2⟩ := it i l hli
        have hb := c3 p (List.mem_of_getElem? hpk)
        refine near_snoc (ih (by omega)) c1 ?_ (h1 i l hli) ?_
        · rw [List.length_take]; rw [h2.1, hQ, hl] at *; omega
        · rw [e1, e2]; exact ⟨twd_bd hb, twd_bd ⟨hb.2, hb.1⟩⟩
    have := key L.length (Nat.le_refl _)
    rwa [List.take_length] at this
  · obtain ⟨k, p, ho, hk', hpk, e1, e2⟩ := it i l hi
    have hlow := (h1 i l hi).can
    refine ⟨k, p, hk', hpk, e1, e2, hlow.inn, hlow.fr, fun j l' hj hl' => ?_⟩
    obtain ⟨k', p', ho', hk'', _⟩ := it j l' hl'
    have := nodup_get hn ho ho' hj
    rw [hk', hk'']
    omega
def arP : List Pl → Int
  | [] => 0
  | p :: r => arP r + p.w * p.h
theorem arP_sum {P : List Pl} (h : ∀ p ∈ P, (1 ≤ p.w ∧ p.w ≤ 1000) ∧ 1 ≤ p.h ∧ p.h ≤ 1000) : arP P = (sumN (fun p : Pl => p.w.toNat * p.h.toNat) P : Int) := by
  induction P with
  | nil => rfl
  | cons p P ih =>
    have hb := h p (by simp)
    simp only [arP, sumN]
    rw [ih (fun q hq => h q (by simp [hq]))]
    push_cast
    rw [Int.toNat_of_nonneg (by omega), Int.toNat_of_nonneg (by omega)]
    omega
def arK (P : List Pl) (k : Nat) : Nat := match P[k]? with | some p => p.w.toNat * p.h.toNat | none => 0
theorem arK_all (P : List Pl) : sumN (arK P) (List.range P.length) = sumN (fun p : Pl => p.w.toNat * p.h.toNat) P := by
  have key : ∀ i, i ≤ P.length → sumN (arK P) (List.range i) = sumN (fun p : Pl => p.w.toNat * p.h.toNat) (P.take i) := by
    intro i
    induction i with
    | zero => intro _; rfl
    | succ i ih =>
      intro hi
      obtain ⟨p, hp⟩ := get_some rfl (show i < P.length by omega)
      rw [List.range_succ, sum_app, ih (by omega), List.take_add_one, hp, sum_app]
      simp [sumN, arK, hp]
  have := key P.length (Nat.le_refl _)
  rwa [List.take_length] at this
theorem hgt_ge {L : List Ld} {l : Ld} (h : l ∈ L) : l.a.y + l.a.h ≤ hgtOf L := by
  obtain ⟨A, B, rfl⟩ := List.append_of_mem h
  have h1 := hgt_app (A ++ [l]) B
  rw [List.append_assoc] at h1
  rw [hgtOf_snoc] at h1
  simp only [List.singleton_append] at h1
  omega
theorem lie_sum {Wd : Int} {P : List Pl} {L : List Ld} (h : Lie Wd P L) : sumN (fun b : Rc => b.w.toNat * b.h.toNat) (rcs L) = sumN (fun p : Pl => p.w.toNat * p.h.toNat) P := by
  have hnd : (L.map fun l => l.n.toNat).Nodup := by
    unfold List.Nodup
    rw [List.pairwise_iff_getElem]
    intro i j hi hj hij
    rw [List.length_map] at hi hj
    rw [List.getElem_map, List.getElem_map]
    obtain ⟨k, p, e, _, _, _, _, _, hne⟩ := h.it j L[j] (List.getElem?_eq_getElem hj)
    obtain ⟨k', p', e', _⟩ := h.it i L[i] (List.getElem?_eq_getElem hi)
    have := hne i L[i] hij (List.getElem?_eq_getElem hi)
    omega
  have hlt : ∀ k ∈ (L.map fun l => l.n.toNat), k < P.length := by
    intro k hk
    obtain ⟨l, hl, rfl⟩ := List.mem_map.1 hk
    obtain ⟨i, hi⟩ := List.getElem?_of_mem hl
    obtain ⟨k, p, e, hp, _⟩ := h.it i l hi
    have := (List.getElem?_eq_some_iff.1 hp).1
    omega
  rw [← arK_all, ← sum_all (arK P) P.length (L.map fun l => l.n.toNat) hnd hlt (by rw [List.length_map, h.len]), sum_map]
  unfold rcs
  rw [sum_map]
  have key : ∀ M : List Ld, (∀ l ∈ M, l ∈ L) → sumN (fun a : Ld => a.a.w.toNat * a.a.h.toNat) M = sumN (fun a : Ld => arK P a.n.toNat) M := by
    intro M
    induction M with
    | nil => intro _; rfl
    | cons l M ih =>
      intro hM
      simp only [sumN]
      rw [ih (fun q hq => hM q (by simp [hq]))]
      obtain ⟨i, hi⟩ := List.getElem?_of_mem (hM l (by simp))
      obtain ⟨k, p, e, hp, e1, e2, _⟩ := h.it i l hi
      rw [e1, e2, e]
      simp only [Int.toNat_natCast, arK, hp]
      congr 1
      unfold twd
      split
      · exact Nat.mul_comm _ _
      · rfl
  exact key L (fun l hl => hl)
theorem lie_area {Wd : Int} {P : List Pl} {L : List Ld} (hc : nsCode Wd P = 0) (h : Lie Wd P L) : arP P ≤ hgtOf L * Wd := by
  obtain ⟨⟨c0, _⟩, _, c3, _⟩ := code_good hc
  have h0 := (hgtOf_bd h.near).1
  have ha := area_le (Wd := Wd) (H := hgtOf L) (R := rcs L) (by
    unfold rcs
    rw [List.pairwise_map, List.pairwise_iff_getElem]
    intro i j hi hj hij
    obtain ⟨k, p, _, _, _, _, _, hf, _⟩ := h.it j L[j] (List.getElem?_eq_getElem hj)
    rw [ovr_comm]
    refine free_iff.1 hf _ ?_
    unfold rcs
    refine List.mem_map.2 ⟨L[i], ?_, rfl⟩
    rw [List.mem_take_iff_getElem]
    exact ⟨i, by omega, rfl⟩) (fun b hb => by
    obtain ⟨l, hl, rfl⟩ := List.mem_map.1 hb
    have hn := h.near.nr l hl
    obtain ⟨i, hi⟩ := List.getElem?_of_mem hl
    obtain ⟨k, p, _, _, _, _, hin, _⟩ := h.it i l hi
    have := hgt_ge hl
    unfold Nr at hn
    omega)
  rw [lie_sum h] at ha
  rw [arP_sum c3]
  have e1 : ((Wd.toNat * (hgtOf L).toNat : Nat) : Int) = hgtOf L * Wd := by
    push_cast
    rw [Int.toNat_of_nonneg (by omega), Int.toNat_of_nonneg h0, Int.mul_comm]
  rw [← e1]
  exact_mod_cast ha
end Go.Proofs.Ytoidhlackoigkaa
