/-
  Milling in lists: beginnings of moves, what is taken in all, moves that are done twice.
-/
import Derived.Test.YtbjljofgpbecbaaFfMath
namespace Go.Proofs.Ytbjljofgpbecbaa
set_option linter.unusedVariables false
set_option linter.unusedSimpArgs false

/-- beginnings -/
theorem mlK_take {P S : List Int} {W H r : Nat} {ms : List Mve} {k : Nat} : ∀ j, j ≤ k → mlK P W H r S (ms.take k) j = mlK P W H r S ms j := by
  intro j
  induction j with
  | zero => intro _; rfl
  | succ j ih =>
    intro hj
    rw [mlK, mlK, ih (by omega), List.getElem?_take, if_pos (by omega)]
theorem mlC_take {P S : List Int} {W H r : Nat} {ms : List Mve} {k j : Nat} (hj : j < k) : mlC P W H r S (ms.take k) j = mlC P W H r S ms j := by
  unfold mlC
  rw [mlK_take j (by omega), List.getElem?_take, if_pos hj]
theorem mlEnd_take {P S : List Int} {W H r : Nat} {ms : List Mve} {k : Nat} (hk : k ≤ ms.length) (hg : mlGo P W H r S ms k) : MlEnd P W H r S (ms.take k) k :=
  ⟨by simp; omega, fun j hj => by rw [mlC_take hj]; exact hg j hj, fun h => by simp at h; omega⟩
/-- what is taken, and what stays -/
theorem take1_sum {n : Nat} {z : Int} {s : Ml} {c : Nat} (hc : c < s.T.length) : (take1 z s c).cut + sm (take1 z s c).T = s.cut + sm s.T ∧ s.cut ≤ (take1 z s c).cut := by
  unfold take1
  by_cases h : tp s.T c > z
  · rw [if_pos h]
    show s.cut + (tp s.T c - z) + sm (s.T.set c z) = _ ∧ s.cut ≤ s.cut + (tp s.T c - z)
    rw [sm_set _ _ _ hc]
    omega
  · rw [if_neg h]
    exact ⟨rfl, Int.le_refl _⟩
theorem takeC_sum {z : Int} : ∀ (cs : List Nat) (s : Ml), (∀ c ∈ cs, c < s.T.length) → (takeC z s cs).cut + sm (takeC z s cs).T = s.cut + sm s.T ∧ s.cut ≤ (takeC z s cs).cut := by
  intro cs
  induction cs with
  | nil => intro s _; exact ⟨rfl, Int.le_refl _⟩
  | cons c cs ih =>
    intro s h
    have h1 := take1_sum (n := 0) (z := z) (h c (by simp))
    have h2 := ih (take1 z s c) (fun d hd => by rw [take1_len]; exact h d (by simp [hd]))
    exact ⟨h2.1.trans h1.1, Int.le_trans h1.2 h2.2⟩
/-- less, and as much taken as is gone -/
structure Les (s s' : Ml) : Prop where
  top : ∀ i, tp s'.T i ≤ tp s.T i
  sum : s'.cut + sm s'.T = s.cut + sm s.T
  cut : s.cut ≤ s'.cut
theorem Les.refl (s : Ml) : Les s s := ⟨fun _ => Int.le_refl _, rfl, Int.le_refl _⟩
theorem Les.trans {a b c : Ml} (h : Les a b) (k : Les b c) : Les a c := ⟨fun i => Int.le_trans (k.top i) (h.top i), k.sum.trans h.sum, Int.le_trans h.cut k.cut⟩
theorem placeC_les {P : List Int} {cs : List Nat} {z : Int} {fast : Bool} {s : Ml} (hc : ∀ c ∈ cs, c < s.T.length) : Les s (placeC P cs z fast s).2 := by
  unfold placeC
  split
  · exact Les.refl s
  · split
    · split
      · exact Les.refl s
      · have := takeC_sum (z := z) cs s hc
        refine ⟨fun i => ?_, this.1, this.2⟩
        show tp (takeC z s cs).T i ≤ _
        rw [takeC_tp cs s hc i]
        split <;> omega
    · split
      · exact Les.refl s
      · exact ⟨fun _ => Int.le_refl _, rfl, Int.le_refl _⟩
theorem walkC_les {n : Nat} {P : List Int} {W H r : Nat} {fast : Bool} {fx fy fz tx ty tz : Int} {s : Ml} (hr : r ≤ 3) (hH : 0 < H) (hn : n = W * H) (hO : MOk n s) (hz : ∀ i, 1 ≤ i → i ≤ max (stN fx fy fz tx ty tz) 1 → 0 ≤ nth fz tz i) :
    ∀ k, k ≤ max (stN fx fy fz tx ty tz) 1 → Les s (walkC P W H r fast fx fy fz tx ty tz s k).2 := by
  intro k
  induction k with
  | zero => intro _; exact Les.refl s
  | succ k ih =>
    intro hk
    have ih' := ih (by omega)
    have hok := (walkC_ok (P := P) (W := W) (H := H) (r := r) (fast := fast) hr hH hn hO hz k (by omega)).1
    rw [walkC]
    split
    · exact ih'
    · exact ih'.trans (placeC_les (fun c hc => by rw [hok.len, hn]; exact cols_lt hr hH hc))
theorem mlK_step {n : Nat} {P S : List Int} {W H r : Nat} {ms : List Mve} (hr : r ≤ 3) (hW1 : 1 ≤ W) (hW : W ≤ 24) (hH1 : 1 ≤ H) (hH : H ≤ 24) (hn : n = W * H) (hS : S.length = n) (hSt : ∀ i, 0 ≤ tp S i ∧ tp S i ≤ 24) {k : Nat} (hg : mlGo P W H r S ms (k + 1)) : Les (mlK P W H r S ms k).2 (mlK P W H r S ms (k + 1)).2 := by
  have ok := mlK_ok (ms := ms) hr hW1 hW hH1 hH hn hS hSt k (fun j hj => hg j (by omega))
  have hc := hg k (by omega)
  unfold mlC at hc
  rw [mlK]
  cases hm : ms[k]? with
  | none => exact Les.refl _
  | some m =>
    rw [hm] at hc
    simp only at hc ⊢
    obtain ⟨hw, _⟩ := mvC_zero hc
    obtain ⟨h1, h2⟩ := wyC_zero hw
    exact walkC_les hr (by omega) hn ok.ok (fun j j1 j2 => ((nth_lo h2 j2 j1 (lo := 0) (hi' := 24)).2.2 ok.at'.2.2 h1.2.2).1) _ (Nat.le_refl _)
theorem mlK_les {n : Nat} {P S : List Int} {W H r : Nat} {ms : List Mve} (hr : r ≤ 3) (hW1 : 1 ≤ W) (hW : W ≤ 24) (hH1 : 1 ≤ H) (hH : H ≤ 24) (hn : n = W * H) (hS : S.length = n) (hSt : ∀ i, 0 ≤ tp S i ∧ tp S i ≤ 24) {k : Nat} : ∀ d, mlGo P W H r S ms (k + d) → Les (mlK P W H r S ms k).2 (mlK P W H r S ms (k + d)).2 := by
  intro d
  induction d with
  | zero => intro _; exact Les.refl _
  | succ d ih =>
    intro hg
    exact (ih (fun j hj => hg j (by omega))).trans (mlK_step hr hW1 hW hH1 hH hn hS hSt hg)
theorem part_bnd {P : List Int} {W H r : Nat} : Bnd P W H r (fun i => tp P i) := fun j hj c hc => hi_mem hc
/-- alike but for the air -/
structure Lik (s s' : Ml) : Prop where
  top : s'.T = s.T
  cut : s'.cut = s.cut
theorem Lik.refl (s : Ml) : Lik s s := ⟨rfl, rfl⟩
theorem Lik.trans {a b c : Ml} (h : Lik a b) (k : Lik b c) : Lik a c := ⟨k.top.trans h.top, k.cut.trans h.cut⟩
theorem take1_lik {z : Int} {s s' : Ml} {c : Nat} (h : Lik s s') : Lik (take1 z s c) (take1 z s' c) := by
  unfold take1
  rw [h.top]
  split
  · exact ⟨rfl, by show s'.cut + _ = s.cut + _; rw [h.cut]⟩
  · exact h
theorem takeC_lik {z : Int} : ∀ (cs : List Nat) (s s' : Ml), Lik s s' → Lik (takeC z s cs) (takeC z s' cs) := by
  intro cs
  induction cs with
  | nil => intro s s' h; exact h
  | cons c cs ih => intro s s' h; exact ih _ _ (take1_lik h)
theorem placeC_lik {P : List Int} {cs : List Nat} {z : Int} {fast : Bool} {s s' : Ml} (h : Lik s s') : (placeC P cs z fast s').1 = (placeC P cs z fast s).1 ∧ Lik (placeC P cs z fast s).2 (placeC P cs z fast s').2 := by
  unfold placeC
  rw [h.top]
  split
  · exact ⟨rfl, h⟩
  · split
    · split
      · exact ⟨rfl, h⟩
      · exact ⟨rfl, takeC_lik cs s s' h⟩
    · split
      · exact ⟨rfl, h⟩
      · exact ⟨rfl, ⟨rfl, h.cut⟩⟩
theorem walkC_lik {P : List Int} {W H r : Nat} {fast : Bool} {fx fy fz tx ty tz : Int} {s s' : Ml} (h : Lik s s') : ∀ k, (walkC P W H r fast fx fy fz tx ty tz s' k).1 = (walkC P W H r fast fx fy fz tx ty tz s k).1 ∧ Lik (walkC P W H r fast fx fy fz tx ty tz s k).2 (walkC P W H r fast fx fy fz tx ty tz s' k).2 := by
  intro k
  induction k with
  | zero => exact ⟨rfl, h⟩
  | succ k ih =>
    rw [walkC, walkC, ih.1]
    split
    · exact ih
    · exact placeC_lik ih.2
/-- at the place where a way has ended nothing stands above the tool -/
theorem placeC_done {P : List Int} {cs : List Nat} {z : Int} {fast : Bool} {s : Ml} (hz : 0 ≤ z) (hc : ∀ c ∈ cs, c < s.T.length) (h0 : (placeC P cs z fast s).1 = 0) : ¬ z < hi P cs ∧ ¬ z < hi (placeC P cs z fast s).2.T cs := by
  unfold placeC at h0 ⊢
  by_cases h1 : z < hi P cs
  · rw [if_pos h1] at h0; cases h0
  · rw [if_neg h1] at h0 ⊢
    refine ⟨h1, ?_⟩
    by_cases h2 : z < hi s.T cs
    · rw [if_pos h2] at h0 ⊢
      by_cases h3 : fast = true
      · rw [if_pos h3] at h0; cases h0
      · rw [if_neg h3]
        show ¬ z < hi (takeC z s cs).T cs
        have : hi (takeC z s cs).T cs ≤ z := by
          rw [hi_le]
          refine ⟨hz, fun i hi' => ?_⟩
          rw [takeC_tp cs s hc i, if_pos hi']
          omega
        omega
    · rw [if_neg h2]
      by_cases h3 : fast = true
      · rw [if_pos h3]; exact h2
      · rw [if_neg h3]; exact h2
theorem nth_end {fx fy fz tx ty tz : Int} (h : str fx fy fz tx ty tz) : nth fx tx (max (stN fx fy fz tx ty tz) 1) = tx ∧ nth fy ty (max (stN fx fy fz tx ty tz) 1) = ty ∧ nth fz tz (max (stN fx fy fz tx ty tz) 1) = tz := by
  by_cases h0 : stN fx fy fz tx ty tz = 0
  · have e : fx = tx ∧ fy = ty ∧ fz = tz := by unfold stN at h0; omega
    obtain ⟨rfl, rfl, rfl⟩ := e
    exact ⟨nth_still _, nth_still _, nth_still _⟩
  · rw [show max (stN fx fy fz tx ty tz) 1 = stN fx fy fz tx ty tz by omega]
    exact str_end h
/-- a way that is done, once more from where it ended -/
theorem walkC_again {n : Nat} {P : List Int} {W H r : Nat} {fast : Bool} {fx fy fz tx ty tz : Int} {s s' : Ml} (hr : r ≤ 3) (hn : n = W * H) (hO : MOk n s) (hstr : str fx fy fz tx ty tz) (hf : inR W H fx fy fz) (ht : inR W H tx ty tz)
    (h0 : (walkC P W H r fast fx fy fz tx ty tz s (max (stN fx fy fz tx ty tz) 1)).1 = 0) (hl : Lik (walkC P W H r fast fx fy fz tx ty tz s (max (stN fx fy fz tx ty tz) 1)).2 s') :
    mvC P W H r fast tx ty tz tx ty tz s' = 0 ∧ Lik (walkC P W H r fast fx fy fz tx ty tz s (max (stN fx fy fz tx ty tz) 1)).2 (walkC P W H r fast tx ty tz tx ty tz s' (max (stN tx ty tz tx ty tz) 1)).2 := by
  obtain ⟨k, hk⟩ : ∃ k, max (stN fx fy fz tx ty tz) 1 = k + 1 := ⟨max (stN fx fy fz tx ty tz) 1 - 1, by omega⟩
  obtain ⟨e1, e2, e3⟩ := nth_end hstr
  have hzz : ∀ i, 1 ≤ i → i ≤ max (stN fx fy fz tx ty tz) 1 → 0 ≤ nth fz tz i := fun j j1 j2 => ((nth_lo hstr j2 j1 (lo := 0) (hi' := 24)).2.2 hf.2.2 ht.2.2).1
  have hok := (walkC_ok (P := P) (W := W) (H := H) (r := r) (fast := fast) hr (by have := ht.2.1; omega) hn hO hzz k (by omega)).1
  rw [hk] at e1 e2 e3 h0 hl ⊢
  have hw : walkC P W H r fast fx fy fz tx ty tz s (k + 1) = placeC P (cols W H r tx.toNat ty.toNat) tz fast (walkC P W H r fast fx fy fz tx ty tz s k).2 := by
    rw [walkC, e1, e2, e3] at *
    by_cases hc : (walkC P W H r fast fx fy fz tx ty tz s k).1 ≠ 0
    · rw [if_pos hc] at h0; exact absurd h0 hc
    · rw [if_neg hc]
  rw [hw] at h0 hl ⊢
  obtain ⟨d1, d2⟩ := placeC_done (by have := ht.2.2; omega) (fun c hc => by rw [hok.len, hn]; exact cols_lt hr (by have := ht.2.1; omega) hc) h0
  have hst0 : max (stN tx ty tz tx ty tz) 1 = 1 := by unfold stN; omega
  have hw1 : walkC P W H r fast tx ty tz tx ty tz s' 1 = (0, if fast then s' else ⟨s'.T, s'.cut, s'.air + 1, s'.dep⟩) := by
    show (if _ then _ else _) = _
    rw [if_neg (by simp [walkC]), nth_still, nth_still, nth_still]
    show placeC P (cols W H r tx.toNat ty.toNat) tz fast s' = _
    unfold placeC
    rw [if_neg d1, hl.top, if_neg d2]
  have hwy : wyC W H tx ty tz tx ty tz = 0 := by
    unfold wyC
    rw [if_neg (by simpa using ht), if_neg (by unfold chg; simp)]
  constructor
  · unfold mvC
    rw [if_neg (by rw [hwy]; simp), hst0, hw1]
  · rw [hst0, hw1]
    show Lik _ (if fast then s' else _)
    split
    · exact hl
    · exact ⟨hl.top, hl.cut⟩
/-- each move twice -/
def dbl : List Mve → List Mve
  | [] => []
  | m :: ms => m :: m :: dbl ms
theorem dbl_len (ms : List Mve) : (dbl ms).length = 2 * ms.length := by
  induction ms with
  | nil => rfl
  | cons m ms ih => simp only [dbl, List.length_cons, ih]; omega
theorem dbl_append (a b : List Mve) : dbl (a ++ b) = dbl a ++ dbl b := by
  induction a with
  | nil => rfl
  | cons m a ih => simp only [List.cons_append, dbl, ih]
theorem dbl_at {ms : List Mve} {j : Nat} {m : Mve} (h : ms[j]? = some m) : (dbl ms)[2 * j]? = some m ∧ (dbl ms)[2 * j + 1]? = some m := by
  induction ms generalizing j with
  | nil => cases h
  | cons x ms ih =>
    cases j with
    | zero =>
      simp only [List.getElem?_cons_zero, Option.some.injEq] at h
      subst h
      exact ⟨rfl, rfl⟩
    | succ j =>
      have := ih (j := j) (by simpa using h)
      rw [show 2 * (j + 1) = 2 * j + 2 by omega]
      exact this
theorem mlK_dbl {n : Nat} {P S : List Int} {W H r : Nat} {ms : List Mve} (hr : r ≤ 3) (hW1 : 1 ≤ W) (hW : W ≤ 24) (hH1 : 1 ≤ H) (hH : H ≤ 24) (hn : n = W * H) (hS : S.length = n) (hSt : ∀ i, 0 ≤ tp S i ∧ tp S i ≤ 24) :
    ∀ k, k ≤ ms.length → mlGo P W H r S ms k → mlGo P W H r S (dbl ms) (2 * k) ∧ (mlK P W H r S (dbl ms) (2 * k)).1 = (mlK P W H r S ms k).1 ∧ Lik (mlK P W H r S ms k).2 (mlK P W H r S (dbl ms) (2 * k)).2 := by
  intro k
  induction k with
  | zero => intro _ _; exact ⟨fun j hj => by omega, rfl, Lik.refl _⟩
  | succ k ih =>
    intro hk hg
    obtain ⟨g0, a0, l0⟩ := ih (by omega) (fun j hj => hg j (by omega))
    have ok := mlK_ok (ms := ms) hr hW1 hW hH1 hH hn hS hSt k (fun j hj => hg j (by omega))
    have hc := hg k (by omega)
    obtain ⟨m, hm⟩ : ∃ m, ms[k]? = some m := ⟨_, List.getElem?_eq_getElem (by omega)⟩
    obtain ⟨d1, d2⟩ := dbl_at hm
    rcases hK : mlK P W H r S ms k with ⟨⟨ax, ay, az⟩, s⟩
    rcases hK2 : mlK P W H r S (dbl ms) (2 * k) with ⟨⟨bx, by', bz⟩, s2⟩
    rw [hK, hK2] at a0 l0
    simp only at a0 l0
    cases a0
    rw [hK] at ok
    rw [mlC_at hm hK] at hc
    obtain ⟨hw, hwk⟩ := mvC_zero hc
    obtain ⟨h1, h2⟩ := wyC_zero hw
    have c1 : mlC P W H r S (dbl ms) (2 * k) = 0 := by
      rw [mlC_at d1 hK2]
      unfold mvC
      rw [if_neg (by rw [hw]; simp), (walkC_lik l0 _).1]
      exact hwk
    have hK3 := mlK_succ d1 hK2
    obtain ⟨b1, b2⟩ := walkC_again hr hn ok.ok h2 ok.at' h1 hwk (walkC_lik l0 _).2
    have c2 : mlC P W H r S (dbl ms) (2 * k + 1) = 0 := by rw [mlC_at d2 hK3]; exact b1
    have hK4 := mlK_succ d2 hK3
    have hK5 := mlK_succ hm hK
    rw [show 2 * (k + 1) = 2 * k + 1 + 1 by omega, hK4, hK5]
    exact ⟨mlGo_succ (mlGo_succ g0 c1) c2, rfl, b2⟩
/-- all together, column by column -/
def tkn (S T : List Int) : Nat → Int
  | 0 => 0
  | k + 1 => tkn S T k + (tp S k - tp T k)
theorem sm_tp : ∀ (T : List Int), sm T = tkn T [] T.length := by
  have key : ∀ (T : List Int) (A : List Int), tkn (A ++ T) [] A.length + sm T = tkn (A ++ T) [] (A.length + T.length) := by
    intro T
    induction T with
    | nil => intro A; simp [sm]
    | cons a T ih =>
      intro A
      have h := ih (A ++ [a])
      rw [List.append_assoc, List.singleton_append, List.length_append, List.length_singleton] at h
      rw [show A.length + (a :: T).length = A.length + 1 + T.length by simp; omega, ← h]
      show _ = tkn _ [] A.length + (tp (A ++ a :: T) A.length - tp [] A.length) + sm T
      have e1 : tp (A ++ a :: T) A.length = a := tp_of (by simp)
      have e2 : tp [] A.length = 0 := by simp [tp]
      rw [e1, e2]
      simp only [sm]
      omega
  intro T
  have := key T []
  simpa [tkn] using this
theorem tkn_split (S T : List Int) (k : Nat) : tkn S T k = tkn S [] k - tkn T [] k := by
  induction k with
  | zero => rfl
  | succ k ih =>
    have e2 : tp [] k = 0 := by simp [tp]
    simp only [tkn, ih, e2]
    omega
theorem tkn_all {S T : List Int} {n : Nat} (h1 : S.length = n) (h2 : T.length = n) : tkn S T n = sm S - sm T := by
  rw [tkn_split, sm_tp S, sm_tp T, h1, h2]
theorem tkn_bd {S T : List Int} (h : ∀ i, 0 ≤ tp S i ∧ tp S i ≤ 24) (h2 : ∀ i, 0 ≤ tp T i ∧ tp T i ≤ tp S i) (k : Nat) : 0 ≤ tkn S T k ∧ tkn S T k ≤ 24 * (k : Int) := by
  induction k with
  | zero => simp [tkn]
  | succ k ih =>
    have := h k
    have := h2 k
    simp only [tkn]
    omega
end Go.Proofs.Ytbjljofgpbecbaa
