/-
  Coordinates that are raised by edges, pass by pass, till nothing rises: they are the least ones that keep all edges, and if there are any that do, so many passes as there are coordinates are enough.
-/
import Derived.Test.YtchdmigeopmacaaProg
namespace Go.Proofs.Ytchdmigeopmacaa
set_option linter.unusedVariables false

/-- from, to, by how much -/
abbrev Edge := Nat × Nat × Int
def gt (a : List Int) (i : Nat) : Int := a.getD i 0
theorem gt_set (a : List Int) (i j : Nat) (v : Int) (hi : i < a.length) : gt (a.set i v) j = if j = i then v else gt a j := by
  unfold gt
  rw [List.getD_eq_getElem?_getD, List.getElem?_set, List.getD_eq_getElem?_getD]
  by_cases h : i = j
  · subst h
    simp [hi]
  · simp [h, Ne.symm h]
def step (s : List Int × Bool) (e : Edge) : List Int × Bool :=
  if gt s.1 e.2.1 < gt s.1 e.1 + e.2.2 then (s.1.set e.2.1 (gt s.1 e.1 + e.2.2), true) else s
def passF (es : List Edge) (s : List Int × Bool) : List Int × Bool := es.foldl step s
def pass (es : List Edge) (a : List Int) : List Int × Bool := passF es (a, false)
/-- passes till nothing rises, at most k -/
def go (es : List Edge) : Nat → List Int → List Int × Bool
  | 0, a => (a, false)
  | k + 1, a => if (pass es a).2 = true then go es k (pass es a).1 else ((pass es a).1, true)

def Sat (es : List Edge) (z : Nat → Int) : Prop := ∀ e ∈ es, z e.1 + e.2.2 ≤ z e.2.1
def Ins (n : Nat) (es : List Edge) : Prop := ∀ e ∈ es, e.1 < n ∧ e.2.1 < n

theorem Ins.tail {n : Nat} {e : Edge} {es : List Edge} (h : Ins n (e :: es)) : Ins n es := fun x hx => h x (List.mem_cons_of_mem _ hx)
theorem Sat.tail {z : Nat → Int} {e : Edge} {es : List Edge} (h : Sat (e :: es) z) : Sat es z := fun x hx => h x (List.mem_cons_of_mem _ hx)

theorem step_len (s : List Int × Bool) (e : Edge) : (step s e).1.length = s.1.length := by unfold step; split <;> simp
theorem passF_len (es : List Edge) : ∀ s : List Int × Bool, (passF es s).1.length = s.1.length := by
  induction es with
  | nil => intro s; rfl
  | cons e es ih => intro s; show (passF es (step s e)).1.length = _; rw [ih, step_len]
theorem pass_len (es : List Edge) (a : List Int) : (pass es a).1.length = a.length := passF_len es _
theorem go_len (es : List Edge) : ∀ (k : Nat) (a : List Int), (go es k a).1.length = a.length := by
  intro k
  induction k with
  | zero => intro a; rfl
  | succ k ih =>
    intro a
    unfold go
    split
    · rw [ih, pass_len]
    · exact pass_len es a

theorem step_mono {n : Nat} {s : List Int × Bool} {e : Edge} (hl : s.1.length = n) (he : e.2.1 < n) (i : Nat) : gt s.1 i ≤ gt (step s e).1 i := by
  unfold step
  split
  · rename_i h
    show _ ≤ gt (s.1.set _ _) i
    rw [gt_set _ _ _ _ (by omega)]
    split
    · subst_vars; omega
    · omega
  · omega
theorem passF_mono {n : Nat} : ∀ (es : List Edge) (s : List Int × Bool), s.1.length = n → Ins n es → ∀ i, gt s.1 i ≤ gt (passF es s).1 i := by
  intro es
  induction es with
  | nil => intro s _ _ i; exact Int.le_refl _
  | cons e es ih =>
    intro s hl hi i
    have h1 := step_mono (s := s) (e := e) hl (hi e (List.mem_cons_self)).2 i
    have h2 := ih (step s e) (by rw [step_len, hl]) hi.tail i
    exact Int.le_trans h1 h2
theorem step_le {n : Nat} {s : List Int × Bool} {e : Edge} {z : Nat → Int} (hl : s.1.length = n) (he : e.1 < n ∧ e.2.1 < n) (hz : z e.1 + e.2.2 ≤ z e.2.1) (hs : ∀ i, i < n → gt s.1 i ≤ z i) : ∀ i, i < n → gt (step s e).1 i ≤ z i := by
  intro i hin
  unfold step
  split
  · rename_i h
    show gt (s.1.set _ _) i ≤ _
    rw [gt_set _ _ _ _ (by omega)]
    split
    · have := hs e.1 he.1
      subst_vars; omega
    · exact hs i hin
  · exact hs i hin
theorem passF_le {n : Nat} {z : Nat → Int} : ∀ (es : List Edge) (s : List Int × Bool), s.1.length = n → Ins n es → Sat es z → (∀ i, i < n → gt s.1 i ≤ z i) → ∀ i, i < n → gt (passF es s).1 i ≤ z i := by
  intro es
  induction es with
  | nil => intro s _ _ _ h; exact h
  | cons e es ih =>
    intro s hl hi hz hs
    exact ih (step s e) (by rw [step_len, hl]) hi.tail hz.tail (step_le hl (hi e List.mem_cons_self) (hz e List.mem_cons_self) hs)
theorem step_flag (s : List Int × Bool) (e : Edge) (h : (step s e).2 = false) : step s e = s ∧ gt s.1 e.1 + e.2.2 ≤ gt s.1 e.2.1 := by
  unfold step at *
  split
  · rename_i h1
    rw [if_pos h1] at h
    cases h
  · rename_i h1
    exact ⟨rfl, by omega⟩
theorem passF_true (es : List Edge) : ∀ s : List Int × Bool, s.2 = true → (passF es s).2 = true := by
  induction es with
  | nil => intro s h; exact h
  | cons e es ih =>
    intro s h
    apply ih
    unfold step
    split
    · rfl
    · exact h
theorem passF_flag (es : List Edge) : ∀ s : List Int × Bool, (passF es s).2 = false → passF es s = s ∧ Sat es (gt s.1) := by
  induction es with
  | nil => intro s h; exact ⟨rfl, fun e he => by cases he⟩
  | cons e es ih =>
    intro s h
    have h1 : (step s e).2 = false := by
      cases hb : (step s e).2 with
      | false => rfl
      | true =>
        have := passF_true es (step s e) hb
        rw [show passF (e :: es) s = passF es (step s e) from rfl, this] at h
        cases h
    obtain ⟨h2, h3⟩ := step_flag s e h1
    have h4 := ih (step s e) h
    rw [h2] at h4
    refine ⟨?_, ?_⟩
    · show passF es (step s e) = s
      rw [h2]; exact h4.1
    · intro x hx
      rcases List.mem_cons.1 hx with rfl | hx
      · exact h3
      · exact h4.2 x hx
theorem passF_sat (es : List Edge) (s : List Int × Bool) (h : Sat es (gt s.1)) : passF es s = s := by
  induction es with
  | nil => rfl
  | cons e es ih =>
    have h1 : step s e = s := by
      unfold step
      have := h e List.mem_cons_self
      rw [if_neg (by omega)]
    show passF es (step s e) = s
    rw [h1]
    exact ih h.tail
theorem passF_edge {n : Nat} {z : Nat → Int} : ∀ (es : List Edge) (s : List Int × Bool) (e : Edge), s.1.length = n → Ins n es → Sat es z → (∀ i, i < n → gt s.1 i ≤ z i) → e ∈ es → gt s.1 e.1 = z e.1 → z e.1 + e.2.2 = z e.2.1 → gt (passF es s).1 e.2.1 = z e.2.1 := by
  intro es
  induction es with
  | nil => intro s e _ _ _ _ he; cases he
  | cons x es ih =>
    intro s e hl hi hz hs he hf ht
    have hx := hi x List.mem_cons_self
    have hle := step_le hl hx (hz x List.mem_cons_self) hs
    have hl2 : (step s x).1.length = n := by rw [step_len, hl]
    rcases List.mem_cons.1 he with rfl | he2
    · have h1 : gt (step s e).1 e.2.1 = z e.2.1 := by
        apply Int.le_antisymm (hle _ hx.2)
        unfold step
        split
        · show _ ≤ gt (s.1.set _ _) _
          rw [gt_set _ _ _ _ (by omega), if_pos rfl]
          omega
        · omega
      apply Int.le_antisymm
      · exact passF_le es _ hl2 hi.tail hz.tail hle _ hx.2
      · have := passF_mono es _ hl2 hi.tail e.2.1
        show _ ≤ gt (passF es (step s e)).1 _
        omega
    · have hm := step_mono (s := s) (e := x) hl hx.2 e.1
      have hu := hle e.1 (hi e he).1
      exact ih (step s x) e hl2 hi.tail hz.tail hle he2 (by omega) ht

theorem least_nat (P : Nat → Prop) : ∀ k, P k → ∃ m, P m ∧ ∀ j, P j → m ≤ j := by
  intro k
  induction k using Nat.strongRecOn with
  | _ k ih =>
    intro hk
    by_cases h : ∃ j, j < k ∧ P j
    · obtain ⟨j, h1, h2⟩ := h
      exact ih j h1 h2
    · exact ⟨k, hk, fun j hj => by
        by_cases h2 : j < k
        · exact absurd ⟨j, h2, hj⟩ h
        · omega⟩
/-- what keeps the edges -/
def Feas (n : Nat) (es : List Edge) (z : Nat → Int) : Prop := Sat es z ∧ ∀ i, i < n → 0 ≤ z i
theorem least_feas {n : Nat} {es : List Edge} (hi : Ins n es) (h : ∃ z, Feas n es z) : ∃ z, Feas n es z ∧ ∀ y, Feas n es y → ∀ i, i < n → z i ≤ y i := by
  have each : ∀ i, ∃ m : Int, (∃ z, Feas n es z ∧ z i = m) ∧ (i < n → ∀ y, Feas n es y → m ≤ y i) := by
    intro i
    obtain ⟨z0, hz0⟩ := h
    by_cases hin : i < n
    · obtain ⟨m, ⟨z, hz, hm⟩, hl⟩ := least_nat (fun v => ∃ z, Feas n es z ∧ z i = (v : Int)) (z0 i).toNat ⟨z0, hz0, by have := hz0.2 i hin; omega⟩
      refine ⟨(m : Int), ⟨z, hz, hm⟩, fun _ y hy => ?_⟩
      have := hl (y i).toNat ⟨y, hy, by have := hy.2 i hin; omega⟩
      have := hy.2 i hin
      omega
    · exact ⟨z0 i, ⟨z0, hz0, rfl⟩, fun h => absurd h hin⟩
  refine ⟨fun i => Classical.choose (each i), ⟨?_, ?_⟩, ?_⟩
  · intro e he
    obtain ⟨⟨z, hz, hv⟩, _⟩ := Classical.choose_spec (each e.2.1)
    have h1 := (Classical.choose_spec (each e.1)).2 (hi e he).1 z hz
    have h2 := hz.1 e he
    show Classical.choose (each e.1) + e.2.2 ≤ Classical.choose (each e.2.1)
    omega
  · intro i hin
    obtain ⟨⟨z, hz, hv⟩, _⟩ := Classical.choose_spec (each i)
    have := hz.2 i hin
    show 0 ≤ Classical.choose (each i)
    omega
  · intro y hy i hin
    exact (Classical.choose_spec (each i)).2 hin y hy

/-- how many are not yet there -/
def off (n : Nat) (z : Nat → Int) (a : List Int) : Nat := (List.range n).countP fun i => decide (gt a i ≠ z i)
theorem countP_lt {α : Type} (p q : α → Bool) : ∀ (l : List α), (∀ x ∈ l, q x = true → p x = true) → (∃ x ∈ l, p x = true ∧ q x = false) → l.countP q < l.countP p := by
  intro l
  induction l with
  | nil => rintro _ ⟨x, hx, _⟩; cases hx
  | cons b l ih =>
    intro hq hx
    have hle : l.countP q ≤ l.countP p := List.countP_mono_left fun x hx h => hq x (List.mem_cons_of_mem _ hx) h
    rw [List.countP_cons, List.countP_cons]
    obtain ⟨x, hx, h1, h2⟩ := hx
    rcases List.mem_cons.1 hx with rfl | hx
    · rw [h1, h2]; simp; omega
    · have := ih (fun y hy => hq y (List.mem_cons_of_mem _ hy)) ⟨x, hx, h1, h2⟩
      have hb := hq b List.mem_cons_self
      cases hqb : q b
      · cases p b <;> simp <;> omega
      · rw [hb hqb]; simp; omega
theorem progress {n : Nat} {es : List Edge} {z : Nat → Int} {a : List Int} (hi : Ins n es) (hl : a.length = n) (hz : Feas n es z) (hleast : ∀ y, Feas n es y → ∀ i, i < n → z i ≤ y i)
    (h0 : ∀ i, i < n → 0 ≤ gt a i) (hs : ∀ i, i < n → gt a i ≤ z i) (hne : ∃ i, i < n ∧ gt a i ≠ z i) : off n z (pass es a).1 < off n z a := by
  have key : ∃ e ∈ es, gt a e.1 = z e.1 ∧ gt a e.2.1 ≠ z e.2.1 ∧ z e.1 + e.2.2 = z e.2.1 := by
    apply Classical.byContradiction
    intro hno
    obtain ⟨i, hin, hni⟩ := hne
    have := hleast (fun j => if j < n ∧ gt a j ≠ z j then z j - 1 else z j) ⟨?_, ?_⟩ i hin
    · simp only [hin, true_and] at this
      rw [if_pos hni] at this
      omega
    · intro e he
      have h1 := hz.1 e he
      have h2 := hi e he
      show (if e.1 < n ∧ gt a e.1 ≠ z e.1 then z e.1 - 1 else z e.1) + e.2.2 ≤ if e.2.1 < n ∧ gt a e.2.1 ≠ z e.2.1 then z e.2.1 - 1 else z e.2.1
      by_cases c1 : gt a e.1 = z e.1
      · by_cases c2 : gt a e.2.1 = z e.2.1
        · rw [if_neg (fun h => h.2 c1), if_neg (fun h => h.2 c2)]; exact h1
        · rw [if_neg (fun h => h.2 c1), if_pos ⟨h2.2, c2⟩]
          have h3 : z e.1 + e.2.2 ≠ z e.2.1 := fun h => hno ⟨e, he, c1, c2, h⟩
          omega
      · rw [if_pos ⟨h2.1, c1⟩]
        split <;> omega
    · intro j hj
      show 0 ≤ if j < n ∧ gt a j ≠ z j then z j - 1 else z j
      have h1 := h0 j hj
      have h2 := hs j hj
      split
      · rename_i h; omega
      · omega
  obtain ⟨e, he, h1, h2, h3⟩ := key
  have h4 := passF_edge es (a, false) e hl hi hz.1 hs he h1 h3
  apply countP_lt
  · intro x hx hq
    have hxn : x < n := by simpa using hx
    have h5 := passF_mono es (a, false) hl hi x
    have h6 := passF_le es (a, false) hl hi hz.1 hs x hxn
    have h7 := hs x hxn
    simp only [ne_eq, decide_not, Bool.not_eq_true', decide_eq_false_iff_not] at hq ⊢
    intro h8
    apply hq
    apply Int.le_antisymm h6
    have : gt (a, false).1 x = z x := h8
    omega
  · refine ⟨e.2.1, by simpa using (hi e he).2, ?_, ?_⟩
    · simp [h2]
    · unfold pass; simp [h4]
theorem off_zero {n : Nat} {z : Nat → Int} {a : List Int} (h : off n z a = 0) : ∀ i, i < n → gt a i = z i := by
  intro i hin
  have := List.countP_eq_zero.1 h i (by simpa using hin)
  simpa using this
theorem go_full {n : Nat} {es : List Edge} {z : Nat → Int} (hi : Ins n es) (hz : Feas n es z) (hleast : ∀ y, Feas n es y → ∀ i, i < n → z i ≤ y i) :
    ∀ (k : Nat) (a : List Int), a.length = n → (∀ i, i < n → 0 ≤ gt a i) → (∀ i, i < n → gt a i ≤ z i) → off n z a ≤ k → (go es (k + 1) a).2 = true := by
  intro k
  induction k with
  | zero =>
    intro a hl h0 hs hk
    have h1 := off_zero (Nat.le_zero.1 hk)
    have h2 : Sat es (gt a) := fun e he => by
      rw [h1 _ (hi e he).1, h1 _ (hi e he).2]; exact hz.1 e he
    have h3 : pass es a = (a, false) := passF_sat es (a, false) h2
    unfold go
    rw [h3]
    rfl
  | succ k ih =>
    intro a hl h0 hs hk
    rw [go]
    split
    · rename_i hf
      apply ih
      · rw [pass_len, hl]
      · intro i hin
        exact Int.le_trans (h0 i hin) (passF_mono es (a, false) hl hi i)
      · exact passF_le es (a, false) hl hi hz.1 hs
      · by_cases hne : ∃ i, i < n ∧ gt a i ≠ z i
        · have := progress hi hl hz hleast h0 hs hne
          omega
        · have h1 : ∀ i, i < n → gt a i = z i := fun i hin => Classical.byContradiction fun h => hne ⟨i, hin, h⟩
          have h2 : Sat es (gt a) := fun e he => by
            rw [h1 _ (hi e he).1, h1 _ (hi e he).2]; exact hz.1 e he
          have h3 : pass es a = (a, false) := passF_sat es (a, false) h2
          rw [h3] at hf
          cases hf
    · rfl
/-- what it ends with -/
theorem go_sound {n : Nat} {es : List Edge} (hi : Ins n es) : ∀ (k : Nat) (a : List Int), a.length = n → (∀ i, i < n → 0 ≤ gt a i) → (go es k a).2 = true →
    Feas n es (gt (go es k a).1) ∧ ∀ y, Feas n es y → (∀ i, i < n → gt a i ≤ y i) → ∀ i, i < n → gt (go es k a).1 i ≤ y i := by
  intro k
  induction k with
  | zero => intro a _ _ h; cases h
  | succ k ih =>
    intro a hl h0 h
    rw [go] at h ⊢
    split at h
    · rename_i hf
      rw [if_pos hf]
      obtain ⟨h1, h2⟩ := ih (pass es a).1 (by rw [pass_len, hl]) (fun i hin => Int.le_trans (h0 i hin) (passF_mono es (a, false) hl hi i)) h
      exact ⟨h1, fun y hy hs => h2 y hy (passF_le es (a, false) hl hi hy.1 hs)⟩
    · rename_i hf
      rw [if_neg hf]
      have h1 := passF_flag es (a, false) (by simpa [pass] using hf)
      have h2 : (pass es a).1 = a := by unfold pass; rw [h1.1]
      show Feas n es (gt (pass es a).1) ∧ ∀ y, Feas n es y → (∀ i, i < n → gt a i ≤ y i) → ∀ i, i < n → gt (pass es a).1 i ≤ y i
      rw [h2]
      exact ⟨⟨h1.2, h0⟩, fun y hy hs => hs⟩
def zer (n : Nat) : List Int := List.replicate n 0
theorem gt_zer (n i : Nat) : gt (zer n) i = 0 := by
  unfold gt zer
  rw [List.getD_eq_getElem?_getD, List.getElem?_replicate]
  split <;> rfl
theorem zer_len (n : Nat) : (zer n).length = n := by simp [zer]
theorem off_le (n : Nat) (z : Nat → Int) (a : List Int) : off n z a ≤ n := by
  have := List.countP_le_length (p := fun i => decide (gt a i ≠ z i)) (l := List.range n)
  simpa [off] using this
theorem off_lt {n : Nat} {z : Nat → Int} {a : List Int} (hn : 0 < n) (h : gt a 0 = z 0) : off n z a ≤ n - 1 := by
  obtain ⟨m, rfl⟩ : ∃ m, n = m + 1 := ⟨n - 1, by omega⟩
  unfold off
  rw [List.range_succ_eq_map, List.countP_cons]
  simp only [h, ne_eq, not_true_eq_false, decide_false, Bool.false_eq_true, if_false]
  have := List.countP_le_length (p := fun i => decide (¬ gt a i = z i)) (l := (List.range m).map Nat.succ)
  simp only [List.length_map, List.length_range] at this
  simpa using this
/-- passes enough: one more than there are coordinates -/
theorem go_more {n : Nat} {es : List Edge} (hi : Ins n es) (h : ∃ z, Feas n es z) : (go es (n + 1) (zer n)).2 = true := by
  obtain ⟨z, hz, hl⟩ := least_feas hi h
  exact go_full hi hz hl n _ (zer_len n) (fun i _ => by rw [gt_zer]; omega) (fun i hin => by rw [gt_zer]; exact hz.2 i hin) (off_le n z _)
/-- or just as many, if the first stays at 0 -/
theorem go_just {n : Nat} {es : List Edge} (hn : 0 < n) (hi : Ins n es) (h : ∃ z, Feas n es z ∧ z 0 = 0) : (go es n (zer n)).2 = true := by
  obtain ⟨z1, h1, h10⟩ := h
  obtain ⟨z, hz, hl⟩ := least_feas hi ⟨z1, h1⟩
  have hz0 : z 0 = 0 := by
    have := hl z1 h1 0 hn
    have := hz.2 0 hn
    omega
  obtain ⟨m, rfl⟩ : ∃ m, n = m + 1 := ⟨n - 1, by omega⟩
  exact go_full hi hz hl m _ (zer_len _) (fun i _ => by rw [gt_zer]; omega) (fun i hin => by rw [gt_zer]; exact hz.2 i hin) (by
    have := off_lt (z := z) (a := zer (m + 1)) hn (by rw [gt_zer, hz0])
    omega)
theorem go_zer {n k : Nat} {es : List Edge} (hi : Ins n es) (h : (go es k (zer n)).2 = true) : Feas n es (gt (go es k (zer n)).1) ∧ ∀ y, Feas n es y → ∀ i, i < n → gt (go es k (zer n)).1 i ≤ y i := by
  obtain ⟨h1, h2⟩ := go_sound hi k (zer n) (zer_len n) (fun i _ => by rw [gt_zer]; omega) h
  exact ⟨h1, fun y hy => h2 y hy (fun i hin => by rw [gt_zer]; exact hy.2 i hin)⟩
end Go.Proofs.Ytchdmigeopmacaa
