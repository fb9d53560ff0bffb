/-
  Floors and millings in lists: a floor is no lower than the part, and its own floor; no milling leaves less than the floor. Milling in lists: beginnings of moves, what is taken in all, moves that are done twice. Blocks and fields that stay as they are while new memory is made. The laws' own helper: whether two rows of numbers are the same. One statement of JobOf, walked alone. A drawn stock, part and tool that go together. Drawn moves over a field.
-/
import Derived.Test.YtbjljofgpbecbaaMilMath
import Derived.Test.YtbjljofgpbecbaaUnd
import Derived.Test.YtbjljofgpbecbaaItRows
import Derived.Test.YtbjljofgpbecbaaSou
import Derived.BigQuiet
import Derived.Test.YtbjljofgpbecbaaPlcK
import Derived.Test.YtbjljofgpbecbaaInv2
import Derived.Test.YtbjljofgpbecbaaJob
import Derived.Test.YtbjljofgpbecbaaPrsM
import Derived.Test.YtbjljofgpbecbaaMvd
namespace Go.Proofs.Ytbjljofgpbecbaa
set_option linter.unusedVariables false
set_option linter.unusedSimpArgs false

theorem xy_of {W H i : Nat} (hi : i < W * H) : i % W < W ∧ i / W < H ∧ i / W * W + i % W = i := by
  have hW : 0 < W := by
    rcases Nat.eq_zero_or_pos W with h | h
    · subst h; simp at hi
    · exact h
  exact ⟨Nat.mod_lt _ hW, Nat.div_lt_of_lt_mul hi, by rw [Nat.mul_comm]; exact Nat.div_add_mod i W⟩
theorem pos_of {W H i : Nat} (hi : i < W * H) : 0 < H := by
  rcases Nat.eq_zero_or_pos H with h | h
  · subst h; simp at hi
  · exact h
theorem sym_of {W H r i j : Nat} (hr : r ≤ 3) (hi : i < W * H) (hj : j < W * H) : i ∈ cols W H r (j % W) (j / W) ↔ j ∈ cols W H r (i % W) (i / W) := by
  obtain ⟨a1, a2, a3⟩ := xy_of hi
  obtain ⟨b1, b2, b3⟩ := xy_of hj
  have := cols_sym (r := r) hr b1 b2 a1 a2
  rw [a3, b3] at this
  exact this
theorem low_tp {W H r : Nat} {T : List Int} {j : Nat} (hj : j < W * H) : tp (lowL W H r T) j = hi T (cols W H r (j % W) (j / W)) := byL_tp _ _ hj
theorem fl_tp {W H r : Nat} {T : List Int} {j : Nat} (hj : j < W * H) : tp (flL W H r T) j = lo (lowL W H r T) (cols W H r (j % W) (j / W)) := byL_tp _ _ hj
theorem flL_len' (W H r : Nat) (T : List Int) : (flL W H r T).length = W * H := byL_len _ _ _
/-- a floor is no higher than the lowest place of any place that takes of it -/
theorem fl_le {W H r : Nat} {T : List Int} (hr : r ≤ 3) {i j : Nat} (hi0 : i < W * H) (hj : j < W * H) (h : i ∈ cols W H r (j % W) (j / W)) : tp (flL W H r T) i ≤ hi T (cols W H r (j % W) (j / W)) := by
  rw [fl_tp hi0, ← low_tp hj]
  exact lo_mem ((sym_of hr hi0 hj).1 h)
theorem fl_ge {W H r : Nat} {T : List Int} (hr : r ≤ 3) (hT : ∀ i, 0 ≤ tp T i ∧ tp T i ≤ 24) {i : Nat} (hi : i < W * H) : tp T i ≤ tp (flL W H r T) i := by
  rw [fl_tp hi, lo_ge]
  refine ⟨(hT i).2, fun j hj => ?_⟩
  have hjl := cols_lt hr (pos_of hi) hj
  rw [low_tp hjl]
  exact hi_mem ((sym_of hr hi hjl).2 hj)
theorem fl_bd {W H r : Nat} {T : List Int} (hr : r ≤ 3) (hT : ∀ i, 0 ≤ tp T i ∧ tp T i ≤ 24) (i : Nat) : 0 ≤ tp (flL W H r T) i ∧ tp (flL W H r T) i ≤ 24 := by
  by_cases hi : i < W * H
  · refine ⟨Int.le_trans (hT i).1 (fl_ge hr hT hi), ?_⟩
    rw [fl_tp hi]
    exact lo_le _ _
  · unfold tp
    rw [List.getD_eq_getElem?_getD, List.getElem?_eq_none (by rw [flL_len']; omega)]
    simp
theorem fl_ok {W H r : Nat} {T : List Int} (hr : r ≤ 3) (h : FOk (W : Int) (H : Int) T) : FOk (W : Int) (H : Int) (flL W H r T) := by
  refine ⟨h.w1, h.w2, h.h1, h.h2, by rw [flL_len']; simp, ?_⟩
  rw [List.all_eq_true]
  intro x hx
  obtain ⟨i, hi, rfl⟩ := List.getElem_of_mem hx
  have := fl_bd (W := W) (H := H) hr h.tops_tp i
  rw [tp_of (List.getElem?_eq_getElem hi)] at this
  exact topOk_iff.2 this
theorem low_fl {W H r : Nat} {T : List Int} (hr : r ≤ 3) (hT : ∀ i, 0 ≤ tp T i ∧ tp T i ≤ 24) : lowL W H r (flL W H r T) = lowL W H r T := by
  refine list_ext (by unfold lowL; rw [byL_len, byL_len]) fun j hj => ?_
  have hj' : j < W * H := by unfold lowL at hj; rwa [byL_len] at hj
  rw [low_tp hj', low_tp hj']
  refine Int.le_antisymm ?_ ?_
  · rw [hi_le]
    refine ⟨hi_nn _ _, fun i hi => ?_⟩
    exact fl_le hr (cols_lt hr (pos_of hj') hi) hj' hi
  · rw [hi_le]
    refine ⟨hi_nn _ _, fun i hi => ?_⟩
    exact Int.le_trans (fl_ge hr hT (cols_lt hr (pos_of hj') hi)) (hi_mem hi)
theorem fl_fl {W H r : Nat} {T : List Int} (hr : r ≤ 3) (hT : ∀ i, 0 ≤ tp T i ∧ tp T i ≤ 24) : flL W H r (flL W H r T) = flL W H r T := by
  show byL (fun x y => lo (lowL W H r (flL W H r T)) (cols W H r x y)) W (W * H) = _
  rw [low_fl hr hT]
  rfl
theorem fl_zero {W H : Nat} {T : List Int} (hl : T.length = W * H) (hT : ∀ i, 0 ≤ tp T i ∧ tp T i ≤ 24) : flL W H 0 T = T := by
  refine list_ext (by rw [flL_len', hl]) fun i hi => ?_
  rw [flL_len'] at hi
  obtain ⟨a1, a2, a3⟩ := xy_of hi
  have hl0 : tp (lowL W H 0 T) i = tp T i := by
    rw [low_tp hi]
    refine Int.le_antisymm ?_ ?_
    · rw [hi_le]
      refine ⟨(hT i).1, fun j hj => ?_⟩
      rw [(cols_tool0 a1 a2).1 hj, a3]
      exact Int.le_refl _
    · exact hi_mem ((cols_tool0 a1 a2).2 a3.symm)
  rw [fl_tp hi]
  refine Int.le_antisymm ?_ ?_
  · rw [← hl0]
    exact lo_mem ((cols_tool0 a1 a2).2 a3.symm)
  · rw [lo_ge]
    refine ⟨(hT i).2, fun j hj => ?_⟩
    rw [(cols_tool0 a1 a2).1 hj, a3, hl0]
    exact Int.le_refl _
/-- what is left of a column -/
theorem take1_tp {z : Int} {s : Ml} {c : Nat} (hc : c < s.T.length) (i : Nat) : tp (take1 z s c).T i = if c = i then min (tp s.T i) z else tp s.T i := by
  unfold take1
  by_cases h : tp s.T c > z
  · rw [if_pos h]
    show tp (s.T.set c z) i = _
    rw [tp_set hc]
    by_cases e : c = i
    · subst e; rw [if_pos rfl, if_pos rfl]; omega
    · rw [if_neg e, if_neg e]
  · rw [if_neg h]
    by_cases e : c = i
    · subst e; rw [if_pos rfl]; omega
    · rw [if_neg e]
theorem take1_len {z : Int} {s : Ml} {c : Nat} : (take1 z s c).T.length = s.T.length := by
  unfold take1
  split
  · simp
  · rfl
theorem takeC_tp {z : Int} : ∀ (cs : List Nat) (s : Ml), (∀ c ∈ cs, c < s.T.length) → ∀ i, tp (takeC z s cs).T i = if i ∈ cs then min (tp s.T i) z else tp s.T i := by
  intro cs
  induction cs with
  | nil => intro s _ i; simp [takeC]
  | cons c cs ih =>
    intro s h i
    show tp (takeC z (take1 z s c) cs).T i = _
    rw [ih (take1 z s c) (fun d hd => by rw [take1_len]; exact h d (by simp [hd])) i, take1_tp (h c (by simp)) i]
    by_cases e : c = i
    · subst e
      by_cases h2 : c ∈ cs <;> simp [h2]
    · have e' : ¬ i = c := fun h => e h.symm
      simp [e, e']
/-- a place leaves no column below a bound that no lowest place is below -/
theorem placeC_low {P : List Int} {cs : List Nat} {z : Int} {fast : Bool} {s : Ml} {F : Nat → Int} (hc : ∀ c ∈ cs, c < s.T.length) (hF : ∀ c ∈ cs, F c ≤ hi P cs) (hs : ∀ i, F i ≤ tp s.T i) (i : Nat) : F i ≤ tp (placeC P cs z fast s).2.T i := by
  unfold placeC
  split
  · exact hs i
  · rename_i hz
    split
    · split
      · exact hs i
      · rw [takeC_tp cs s hc i]
        split
        · rename_i hm
          have := hF i hm
          have := hs i
          omega
        · exact hs i
    · split
      · exact hs i
      · exact hs i
/-- a bound that no move goes below -/
def Bnd (P : List Int) (W H r : Nat) (F : Nat → Int) : Prop := ∀ j, j < W * H → ∀ c ∈ cols W H r (j % W) (j / W), F c ≤ hi P (cols W H r (j % W) (j / W))
theorem Bnd.at {P : List Int} {W H r : Nat} {F : Nat → Int} (h : Bnd P W H r F) {x y : Nat} (hx : x < W) (hy : y < H) : ∀ c ∈ cols W H r x y, F c ≤ hi P (cols W H r x y) := by
  have h1 := h (y * W + x) (by
    have : (y + 1) * W ≤ H * W := Nat.mul_le_mul_right W hy
    rw [Nat.add_mul, Nat.one_mul, Nat.mul_comm H W] at this
    omega)
  rw [(yx hx y).1, (yx hx y).2] at h1
  exact h1
theorem walkC_low {n : Nat} {P : List Int} {W H r : Nat} {fast : Bool} {fx fy fz tx ty tz : Int} {s : Ml} {F : Nat → Int} (hr : r ≤ 3) (hn : n = W * H) (hO : MOk n s) (hB : Bnd P W H r F) (hstr : str fx fy fz tx ty tz) (hf : inR W H fx fy fz) (ht : inR W H tx ty tz) (hs : ∀ i, F i ≤ tp s.T i) :
    ∀ k, k ≤ max (stN fx fy fz tx ty tz) 1 → ∀ i, F i ≤ tp (walkC P W H r fast fx fy fz tx ty tz s k).2.T i := by
  intro k
  induction k with
  | zero => intro _ i; exact hs i
  | succ k ih =>
    intro hk i
    have ih' := ih (by omega)
    rw [walkC]
    split
    · exact ih' i
    · have hx := (nth_lo hstr hk (by omega) (lo := 0) (hi' := (W : Int) - 1)).1 hf.1 ht.1
      have hy := (nth_lo hstr hk (by omega) (lo := 0) (hi' := (H : Int) - 1)).2.1 hf.2.1 ht.2.1
      have hx' : (nth fx tx (k + 1)).toNat < W := by omega
      have hy' : (nth fy ty (k + 1)).toNat < H := by omega
      have hok := (walkC_ok (P := P) (W := W) (H := H) (r := r) (fast := fast) hr (by omega) hn hO (fun j j1 j2 => ((nth_lo hstr j2 j1 (lo := 0) (hi' := 24)).2.2 hf.2.2 ht.2.2).1) k (by omega)).1
      exact placeC_low (fun c hc => by rw [hok.len, hn]; exact cols_lt hr (by omega) hc) (hB.at hx' hy') ih' i
theorem mlK_low {n : Nat} {P S : List Int} {W H r : Nat} {ms : List Mve} {F : Nat → Int} (hr : r ≤ 3) (hW1 : 1 ≤ W) (hW : W ≤ 24) (hH1 : 1 ≤ H) (hH : H ≤ 24) (hn : n = W * H) (hS : S.length = n) (hSt : ∀ i, 0 ≤ tp S i ∧ tp S i ≤ 24) (hB : Bnd P W H r F) (hF : ∀ i, F i ≤ tp S i) :
    ∀ k, mlGo P W H r S ms k → ∀ i, F i ≤ tp (mlK P W H r S ms k).2.T i := by
  intro k
  induction k with
  | zero => intro _ i; exact hF i
  | succ k ih =>
    intro hg i
    have h0 := ih (fun j hj => hg j (by omega))
    have ok := mlK_ok (ms := ms) hr hW1 hW hH1 hH hn hS hSt k (fun j hj => hg j (by omega))
    have hc := hg k (by omega)
    unfold mlC at hc
    rw [mlK]
    cases hm : ms[k]? with
    | none => exact h0 i
    | some m =>
      rw [hm] at hc
      simp only at hc ⊢
      obtain ⟨hw, _⟩ := mvC_zero hc
      obtain ⟨h1, h2⟩ := wyC_zero hw
      exact walkC_low hr hn ok.ok hB h2 ok.at' h1 h0 _ (Nat.le_refl _) i
/-- the floor, or the stock where it is lower, is such a bound -/
theorem fl_bnd {P S : List Int} {W H r : Nat} (hr : r ≤ 3) : Bnd P W H r (fun i => min (tp (flL W H r P) i) (tp S i)) := by
  intro j hj c hc
  have := fl_le (T := P) hr (cols_lt hr (pos_of hj) hc) hj hc
  show min _ _ ≤ _
  omega
theorem rsum_zero {A : List Int} : ∀ n, rsum A A n = 0 := by
  intro n
  induction n with
  | zero => rfl
  | succ n ih => simp only [rsum, ih]; omega
end Go.Proofs.Ytbjljofgpbecbaa

namespace Go.Proofs.Ytbjljofgpbecbaa
set_option linter.unusedVariables false
set_option linter.unusedSimpArgs false

/-- beginnings -/
theorem mlK_take {P S : List Int} {W H r : Nat} {ms : List Mve} {k : Nat} : ∀ j, j ≤ k → mlK P W H r S (ms.take k) j = mlK P W H r S ms j := by
  intro j
  induction j with
  | zero => intro _; rfl
  | succ j ih =>
    intro hj
    rw [mlK, mlK, ih (by omega), List.getElem?_take, if_pos (by omega)]
theorem mlC_take {P S : List Int} {W H r : Nat} {ms : List Mve} {k j : Nat} (hj : j < k) : mlC P W H r S (ms.take k) j = mlC P W H r S ms j := by
  unfold mlC
  rw [mlK_take j (by omega), List.getElem?_take, if_pos hj]
theorem mlEnd_take {P S : List Int} {W H r : Nat} {ms : List Mve} {k : Nat} (hk : k ≤ ms.length) (hg : mlGo P W H r S ms k) : MlEnd P W H r S (ms.take k) k :=
  ⟨by simp; omega, fun j hj => by rw [mlC_take hj]; exact hg j hj, fun h => by simp at h; omega⟩
/-- what is taken, and what stays -/
theorem take1_sum {n : Nat} {z : Int} {s : Ml} {c : Nat} (hc : c < s.T.length) : (take1 z s c).cut + sm (take1 z s c).T = s.cut + sm s.T ∧ s.cut ≤ (take1 z s c).cut := by
  unfold take1
  by_cases h : tp s.T c > z
  · rw [if_pos h]
    show s.cut + (tp s.T c - z) + sm (s.T.set c z) = _ ∧ s.cut ≤ s.cut + (tp s.T c - z)
    rw [sm_set _ _ _ hc]
    omega
  · rw [if_neg h]
    exact ⟨rfl, Int.le_refl _⟩
theorem takeC_sum {z : Int} : ∀ (cs : List Nat) (s : Ml), (∀ c ∈ cs, c < s.T.length) → (takeC z s cs).cut + sm (takeC z s cs).T = s.cut + sm s.T ∧ s.cut ≤ (takeC z s cs).cut := by
  intro cs
  induction cs with
  | nil => intro s _; exact ⟨rfl, Int.le_refl _⟩
  | cons c cs ih =>
    intro s h
    have h1 := take1_sum (n := 0) (z := z) (h c (by simp))
    have h2 := ih (take1 z s c) (fun d hd => by rw [take1_len]; exact h d (by simp [hd]))
    exact ⟨h2.1.trans h1.1, Int.le_trans h1.2 h2.2⟩
/-- less, and as much taken as is gone -/
structure Les (s s' : Ml) : Prop where
  top : ∀ i, tp s'.T i ≤ tp s.T i
  sum : s'.cut + sm s'.T = s.cut + sm s.T
  cut : s.cut ≤ s'.cut
theorem Les.refl (s : Ml) : Les s s := ⟨fun _ => Int.le_refl _, rfl, Int.le_refl _⟩
theorem Les.trans {a b c : Ml} (h : Les a b) (k : Les b c) : Les a c := ⟨fun i => Int.le_trans (k.top i) (h.top i), k.sum.trans h.sum, Int.le_trans h.cut k.cut⟩
theorem placeC_les {P : List Int} {cs : List Nat} {z : Int} {fast : Bool} {s : Ml} (hc : ∀ c ∈ cs, c < s.T.length) : Les s (placeC P cs z fast s).2 := by
  unfold placeC
  split
  · exact Les.refl s
  · split
    · split
      · exact Les.refl s
      · have := takeC_sum (z := z) cs s hc
        refine ⟨fun i => ?_, this.1, this.2⟩
        show tp (takeC z s cs).T i ≤ _
        rw [takeC_tp cs s hc i]
        split <;> omega
    · split
      · exact Les.refl s
      · exact ⟨fun _ => Int.le_refl _, rfl, Int.le_refl _⟩
theorem walkC_les {n : Nat} {P : List Int} {W H r : Nat} {fast : Bool} {fx fy fz tx ty tz : Int} {s : Ml} (hr : r ≤ 3) (hH : 0 < H) (hn : n = W * H) (hO : MOk n s) (hz : ∀ i, 1 ≤ i → i ≤ max (stN fx fy fz tx ty tz) 1 → 0 ≤ nth fz tz i) :
    ∀ k, k ≤ max (stN fx fy fz tx ty tz) 1 → Les s (walkC P W H r fast fx fy fz tx ty tz s k).2 := by
  intro k
  induction k with
  | zero => intro _; exact Les.refl s
  | succ k ih =>
    intro hk
    have ih' := ih (by omega)
    have hok := (walkC_ok (P := P) (W := W) (H := H) (r := r) (fast := fast) hr hH hn hO hz k (by omega)).1
    rw [walkC]
    split
    · exact ih'
    · exact ih'.trans (placeC_les (fun c hc => by rw [hok.len, hn]; exact cols_lt hr hH hc))
theorem mlK_step {n : Nat} {P S : List Int} {W H r : Nat} {ms : List Mve} (hr : r ≤ 3) (hW1 : 1 ≤ W) (hW : W ≤ 24) (hH1 : 1 ≤ H) (hH : H ≤ 24) (hn : n = W * H) (hS : S.length = n) (hSt : ∀ i, 0 ≤ tp S i ∧ tp S i ≤ 24) {k : Nat} (hg : mlGo P W H r S ms (k + 1)) : Les (mlK P W H r S ms k).2 (mlK P W H r S ms (k + 1)).2 := by
  have ok := mlK_ok (ms := ms) hr hW1 hW hH1 hH hn hS hSt k (fun j hj => hg j (by omega))
  have hc := hg k (by omega)
  unfold mlC at hc
  rw [mlK]
  cases hm : ms[k]? with
  | none => exact Les.refl _
  | some m =>
    rw [hm] at hc
    simp only at hc ⊢
    obtain ⟨hw, _⟩ := mvC_zero hc
    obtain ⟨h1, h2⟩ := wyC_zero hw
    exact walkC_les hr (by omega) hn ok.ok (fun j j1 j2 => ((nth_lo h2 j2 j1 (lo := 0) (hi' := 24)).2.2 ok.at'.2.2 h1.2.2).1) _ (Nat.le_refl _)
theorem mlK_les {n : Nat} {P S : List Int} {W H r : Nat} {ms : List Mve} (hr : r ≤ 3) (hW1 : 1 ≤ W) (hW : W ≤ 24) (hH1 : 1 ≤ H) (hH : H ≤ 24) (hn : n = W * H) (hS : S.length = n) (hSt : ∀ i, 0 ≤ tp S i ∧ tp S i ≤ 24) {k : Nat} : ∀ d, mlGo P W H r S ms (k + d) → Les (mlK P W H r S ms k).2 (mlK P W H r S ms (k + d)).2 := by
  intro d
  induction d with
  | zero => intro _; exact Les.refl _
  | succ d ih =>
    intro hg
    exact (ih (fun j hj => hg j (by omega))).trans (mlK_step hr hW1 hW hH1 hH hn hS hSt hg)
theorem part_bnd {P : List Int} {W H r : Nat} : Bnd P W H r (fun i => tp P i) := fun j hj c hc => hi_mem hc
/-- alike but for the air -/
structure Lik (s s' : Ml) : Prop where
  top : s'.T = s.T
  cut : s'.cut = s.cut
theorem Lik.refl (s : Ml) : Lik s s := ⟨rfl, rfl⟩
theorem Lik.trans {a b c : Ml} (h : Lik a b) (k : Lik b c) : Lik a c := ⟨k.top.trans h.top, k.cut.trans h.cut⟩
theorem take1_lik {z : Int} {s s' : Ml} {c : Nat} (h : Lik s s') : Lik (take1 z s c) (take1 z s' c) := by
  unfold take1
  rw [h.top]
  split
  · exact ⟨rfl, by show s'.cut + _ = s.cut + _; rw [h.cut]⟩
  · exact h
theorem takeC_lik {z : Int} : ∀ (cs : List Nat) (s s' : Ml), Lik s s' → Lik (takeC z s cs) (takeC z s' cs) := by
  intro cs
  induction cs with
  | nil => intro s s' h; exact h
  | cons c cs ih => intro s s' h; exact ih _ _ (take1_lik h)
theorem placeC_lik {P : List Int} {cs : List Nat} {z : Int} {fast : Bool} {s s' : Ml} (h : Lik s s') : (placeC P cs z fast s').1 = (placeC P cs z fast s).1 ∧ Lik (placeC P cs z fast s).2 (placeC P cs z fast s').2 := by
  unfold placeC
  rw [h.top]
  split
  · exact ⟨rfl, h⟩
  · split
    · split
      · exact ⟨rfl, h⟩
      · exact ⟨rfl, takeC_lik cs s s' h⟩
    · split
      · exact ⟨rfl, h⟩
      · exact ⟨rfl, ⟨rfl, h.cut⟩⟩
theorem walkC_lik {P : List Int} {W H r : Nat} {fast : Bool} {fx fy fz tx ty tz : Int} {s s' : Ml} (h : Lik s s') : ∀ k, (walkC P W H r fast fx fy fz tx ty tz s' k).1 = (walkC P W H r fast fx fy fz tx ty tz s k).1 ∧ Lik (walkC P W H r fast fx fy fz tx ty tz s k).2 (walkC P W H r fast fx fy fz tx ty tz s' k).2 := by
  intro k
  induction k with
  | zero => exact ⟨rfl, h⟩
  | succ k ih =>
    rw [walkC, walkC, ih.1]
    split
    · exact ih
    · exact placeC_lik ih.2
/-- at the place where a way has ended nothing stands above the tool -/
theorem placeC_done {P : List Int} {cs : List Nat} {z : Int} {fast : Bool} {s : Ml} (hz : 0 ≤ z) (hc : ∀ c ∈ cs, c < s.T.length) (h0 : (placeC P cs z fast s).1 = 0) : ¬ z < hi P cs ∧ ¬ z < hi (placeC P cs z fast s).2.T cs := by
  unfold placeC at h0 ⊢
  by_cases h1 : z < hi P cs
  · rw [if_pos h1] at h0; cases h0
  · rw [if_neg h1] at h0 ⊢
    refine ⟨h1, ?_⟩
    by_cases h2 : z < hi s.T cs
    · rw [if_pos h2] at h0 ⊢
      by_cases h3 : fast = true
      · rw [if_pos h3] at h0; cases h0
      · rw [if_neg h3]
        show ¬ z < hi (takeC z s cs).T cs
        have : hi (takeC z s cs).T cs ≤ z := by
          rw [hi_le]
          refine ⟨hz, fun i hi' => ?_⟩
          rw [takeC_tp cs s hc i, if_pos hi']
          omega
        omega
    · rw [if_neg h2]
      by_cases h3 : fast = true
      · rw [if_pos h3]; exact h2
      · rw [if_neg h3]; exact h2
theorem nth_end {fx fy fz tx ty tz : Int} (h : str fx fy fz tx ty tz) : nth fx tx (max (stN fx fy fz tx ty tz) 1) = tx ∧ nth fy ty (max (stN fx fy fz tx ty tz) 1) = ty ∧ nth fz tz (max (stN fx fy fz tx ty tz) 1) = tz := by
  by_cases h0 : stN fx fy fz tx ty tz = 0
  · have e : fx = tx ∧ fy = ty ∧ fz = tz := by unfold stN at h0; omega
    obtain ⟨rfl, rfl, rfl⟩ := e
    exact ⟨nth_still _, nth_still _, nth_still _⟩
  · rw [show max (stN fx fy fz tx ty tz) 1 = stN fx fy fz tx ty tz by omega]
    exact str_end h
/-- a way that is done, once more from where it ended -/
theorem walkC_again {n : Nat} {P : List Int} {W H r : Nat} {fast : Bool} {fx fy fz tx ty tz : Int} {s s' : Ml} (hr : r ≤ 3) (hn : n = W * H) (hO : MOk n s) (hstr : str fx fy fz tx ty tz) (hf : inR W H fx fy fz) (ht : inR W H tx ty tz)
    (h0 : (walkC P W H r fast fx fy fz tx ty tz s (max (stN fx fy fz tx ty tz) 1)).1 = 0) (hl : Lik (walkC P W H r fast fx fy fz tx ty tz s (max (stN fx fy fz tx ty tz) 1)).2 s') :
    mvC P W H r fast tx ty tz tx ty tz s' = 0 ∧ Lik (walkC P W H r fast fx fy fz tx ty tz s (max (stN fx fy fz tx ty tz) 1)).2 (walkC P W H r fast tx ty tz tx ty tz s' (max (stN tx ty tz tx ty tz) 1)).2 := by
  obtain ⟨k, hk⟩ : ∃ k, max (stN fx fy fz tx ty tz) 1 = k + 1 := ⟨max (stN fx fy fz tx ty tz) 1 - 1, by omega⟩
  obtain ⟨e1, e2, e3⟩ := nth_end hstr
  have hzz : ∀ i, 1 ≤ i → i ≤ max (stN fx fy fz tx ty tz) 1 → 0 ≤ nth fz tz i := fun j j1 j2 => ((nth_lo hstr j2 j1 (lo := 0) (hi' := 24)).2.2 hf.2.2 ht.2.2).1
  have hok := (walkC_ok (P := P) (W := W) (H := H) (r := r) (fast := fast) hr (by have := ht.2.1; omega) hn hO hzz k (by omega)).1
  rw [hk] at e1 e2 e3 h0 hl ⊢
  have hw : walkC P W H r fast fx fy fz tx ty tz s (k + 1) = placeC P (cols W H r tx.toNat ty.toNat) tz fast (walkC P W H r fast fx fy fz tx ty tz s k).2 := by
    rw [walkC, e1, e2, e3] at *
    by_cases hc : (walkC P W H r fast fx fy fz tx ty tz s k).1 ≠ 0
    · rw [if_pos hc] at h0; exact absurd h0 hc
    · rw [if_neg hc]
  rw [hw] at h0 hl ⊢
  obtain ⟨d1, d2⟩ := placeC_done (by have := ht.2.2; omega) (fun c hc => by rw [hok.len, hn]; exact cols_lt hr (by have := ht.2.1; omega) hc) h0
  have hst0 : max (stN tx ty tz tx ty tz) 1 = 1 := by unfold stN; omega
  have hw1 : walkC P W H r fast tx ty tz tx ty tz s' 1 = (0, if fast then s' else ⟨s'.T, s'.cut, s'.air + 1, s'.dep⟩) := by
    show (if _ then _ else _) = _
    rw [if_neg (by simp [walkC]), nth_still, nth_still, nth_still]
    show placeC P (cols W H r tx.toNat ty.toNat) tz fast s' = _
    unfold placeC
    rw [if_neg d1, hl.top, if_neg d2]
  have hwy : wyC W H tx ty tz tx ty tz = 0 := by
    unfold wyC
    rw [if_neg (by simpa using ht), if_neg (by unfold chg; simp)]
  constructor
  · unfold mvC
    rw [if_neg (by rw [hwy]; simp), hst0, hw1]
  · rw [hst0, hw1]
    show Lik _ (if fast then s' else _)
    split
    · exact hl
    · exact ⟨hl.top, hl.cut⟩
/-- each move twice -/
def dbl : List Mve → List Mve
  | [] => []
  | m :: ms => m :: m :: dbl ms
theorem dbl_len (ms : List Mve) : (dbl ms).length = 2 * ms.length := by
  induction ms with
  | nil => rfl
  | cons m ms ih => simp only [dbl, List.length_cons, ih]; omega
theorem dbl_append (a b : List Mve) : dbl (a ++ b) = dbl a ++ dbl b := by
  induction a with
  | nil => rfl
  | cons m a ih => simp only [List.cons_append, dbl, ih]
theorem dbl_at {ms : List Mve} {j : Nat} {m : Mve} (h : ms[j]? = some m) : (dbl ms)[2 * j]? = some m ∧ (dbl ms)[2 * j + 1]? = some m := by
  induction ms generalizing j with
  | nil => cases h
  | cons x ms ih =>
    cases j with
    | zero =>
      simp only [List.getElem?_cons_zero, Option.some.injEq] at h
      subst h
      exact ⟨rfl, rfl⟩
    | succ j =>
      have := ih (j := j) (by simpa using h)
      rw [show 2 * (j + 1) = 2 * j + 2 by omega]
      exact this
theorem mlK_dbl {n : Nat} {P S : List Int} {W H r : Nat} {ms : List Mve} (hr : r ≤ 3) (hW1 : 1 ≤ W) (hW : W ≤ 24) (hH1 : 1 ≤ H) (hH : H ≤ 24) (hn : n = W * H) (hS : S.length = n) (hSt : ∀ i, 0 ≤ tp S i ∧ tp S i ≤ 24) :
    ∀ k, k ≤ ms.length → mlGo P W H r S ms k → mlGo P W H r S (dbl ms) (2 * k) ∧ (mlK P W H r S (dbl ms) (2 * k)).1 = (mlK P W H r S ms k).1 ∧ Lik (mlK P W H r S ms k).2 (mlK P W H r S (dbl ms) (2 * k)).2 := by
  intro k
  induction k with
  | zero => intro _ _; exact ⟨fun j hj => by omega, rfl, Lik.refl _⟩
  | succ k ih =>
    intro hk hg
    obtain ⟨g0, a0, l0⟩ := ih (by omega) (fun j hj => hg j (by omega))
    have ok := mlK_ok (ms := ms) hr hW1 hW hH1 hH hn hS hSt k (fun j hj => hg j (by omega))
    have hc := hg k (by omega)
    obtain ⟨m, hm⟩ : ∃ m, ms[k]? = some m := ⟨_, List.getElem?_eq_getElem (by omega)⟩
    obtain ⟨d1, d2⟩ := dbl_at hm
    rcases hK : mlK P W H r S ms k with ⟨⟨ax, ay, az⟩, s⟩
    rcases hK2 : mlK P W H r S (dbl ms) (2 * k) with ⟨⟨bx, by', bz⟩, s2⟩
    rw [hK, hK2] at a0 l0
    simp only at a0 l0
    cases a0
    rw [hK] at ok
    rw [mlC_at hm hK] at hc
    obtain ⟨hw, hwk⟩ := mvC_zero hc
    obtain ⟨h1, h2⟩ := wyC_zero hw
    have c1 : mlC P W H r S (dbl ms) (2 * k) = 0 := by
      rw [mlC_at d1 hK2]
      unfold mvC
      rw [if_neg (by rw [hw]; simp), (walkC_lik l0 _).1]
      exact hwk
    have hK3 := mlK_succ d1 hK2
    obtain ⟨b1, b2⟩ := walkC_again hr hn ok.ok h2 ok.at' h1 hwk (walkC_lik l0 _).2
    have c2 : mlC P W H r S (dbl ms) (2 * k + 1) = 0 := by rw [mlC_at d2 hK3]; exact b1
    have hK4 := mlK_succ d2 hK3
    have hK5 := mlK_succ hm hK
    rw [show 2 * (k + 1) = 2 * k + 1 + 1 by omega, hK4, hK5]
    exact ⟨mlGo_succ (mlGo_succ g0 c1) c2, rfl, b2⟩
/-- all together, column by column -/
def tkn (S T : List Int) : Nat → Int
  | 0 => 0
  | k + 1 => tkn S T k + (tp S k - tp T k)
theorem sm_tp : ∀ (T : List Int), sm T = tkn T [] T.length := by
  have key : ∀ (T : List Int) (A : List Int), tkn (A ++ T) [] A.length + sm T = tkn (A ++ T) [] (A.length + T.length) := by
    intro T
    induction T with
    | nil => intro A; simp [sm]
    | cons a T ih =>
      intro A
      have h := ih (A ++ [a])
      rw [List.append_assoc, List.singleton_append, List.length_append, List.length_singleton] at h
      rw [show A.length + (a :: T).length = A.length + 1 + T.length by simp; omega, ← h]
      show _ = tkn _ [] A.length + (tp (A ++ a :: T) A.length - tp [] A.length) + sm T
      have e1 : tp (A ++ a :: T) A.length = a := tp_of (by simp)
      have e2 : tp [] A.length = 0 := by simp [tp]
      rw [e1, e2]
      simp only [sm]
      omega
  intro T
  have := key T []
  simpa [tkn] using this
theorem tkn_split (S T : List Int) (k : Nat) : tkn S T k = tkn S [] k - tkn T [] k := by
  induction k with
  | zero => rfl
  | succ k ih =>
    have e2 : tp [] k = 0 := by simp [tp]
    simp only [tkn, ih, e2]
    omega
theorem tkn_all {S T : List Int} {n : Nat} (h1 : S.length = n) (h2 : T.length = n) : tkn S T n = sm S - sm T := by
  rw [tkn_split, sm_tp S, sm_tp T, h1, h2]
theorem tkn_bd {S T : List Int} (h : ∀ i, 0 ≤ tp S i ∧ tp S i ≤ 24) (h2 : ∀ i, 0 ≤ tp T i ∧ tp T i ≤ tp S i) (k : Nat) : 0 ≤ tkn S T k ∧ tkn S T k ≤ 24 * (k : Int) := by
  induction k with
  | zero => simp [tkn]
  | succ k ih =>
    have := h k
    have := h2 k
    simp only [tkn]
    omega
end Go.Proofs.Ytbjljofgpbecbaa

namespace Go.Proofs.Ytbjljofgpbecbaa
open Go.ChangeShapes Go.WideShapes Go.ChangeAt Go.RowKit
set_option linter.unusedVariables false
set_option linter.unusedSimpArgs false

structure Keep (w : World) (vs : List (Nat × Nat × List Value)) (fs : List (Nat × Nat × Nat × Nat × List Int)) (X : World) : Prop where
  bel : Below w.heap.size w X
  v : ∀ b ∈ vs, vb X b.1 b.2.1 b.2.2
  f : ∀ q ∈ fs, Fd X q.1 q.2.1 q.2.2.1 q.2.2.2.1 q.2.2.2.2
theorem Keep.next {w X X' : World} {vs : List (Nat × Nat × List Value)} {fs : List (Nat × Nat × Nat × Nat × List Int)} (h : Keep w vs fs X) (hb : Below X.heap.size X X') : Keep w vs fs X' :=
  ⟨bc h.bel hb, fun b hb' => (h.v b hb').bel hb, fun q hq => (h.f q hq).bel hb⟩
theorem Keep.addv {w X : World} {vs : List (Nat × Nat × List Value)} {fs : List (Nat × Nat × Nat × Nat × List Int)} (h : Keep w vs fs X) {b t : Nat} {L : List Value} (hv : vb X b t L) : Keep w ((b, t, L) :: vs) fs X := by
  refine ⟨h.bel, fun b' hb => ?_, h.f⟩
  rcases List.mem_cons.1 hb with rfl | hb
  · exact hv
  · exact h.v b' hb
theorem Keep.addf {w X : World} {vs : List (Nat × Nat × List Value)} {fs : List (Nat × Nat × Nat × Nat × List Int)} (h : Keep w vs fs X) {g po n c : Nat} {L : List Int} (hf : Fd X g po n c L) : Keep w vs ((g, po, n, c, L) :: fs) X := by
  refine ⟨h.bel, h.v, fun q hq => ?_⟩
  rcases List.mem_cons.1 hq with rfl | hq
  · exact hf
  · exact h.f q hq
theorem Keep.vat {w X : World} {vs : List (Nat × Nat × List Value)} {fs : List (Nat × Nat × Nat × Nat × List Int)} (h : Keep w vs fs X) (i : Nat) {b t : Nat} {L : List Value} (hi : vs[i]? = some (b, t, L)) : vb X b t L := h.v _ (List.mem_of_getElem? hi)
theorem Keep.fat {w X : World} {vs : List (Nat × Nat × List Value)} {fs : List (Nat × Nat × Nat × Nat × List Int)} (h : Keep w vs fs X) (i : Nat) {g po n c : Nat} {L : List Int} (hi : fs[i]? = some (g, po, n, c, L)) : Fd X g po n c L := h.f _ (List.mem_of_getElem? hi)
end Go.Proofs.Ytbjljofgpbecbaa

namespace Go.Proofs.Ytbjljofgpbecbaa
open Go.ChangeShapes Go.WideShapes Go.ChangeAt Go.RowKit
set_option linter.unusedVariables false
set_option linter.unusedSimpArgs false

set_option maxHeartbeats 1000000 in
theorem sm_same (u v : Option Addr) (p po q qo n cu cv : Nat) (L : List Int) (w : World) (hl : L.length = n) (hn : n ≤ 1048576)
    (hu : Its w u p po L) (hv : Its w v q qo L) :
    Calls Try.prog 13 #[.slice u n cu, .slice v n cv] w fun e w' => e = .returned (.bool true) ∧ Below w.heap.size w w' := by
  have HU := hide hu
  have HV := hide hv
  have HL := hide hl
  clear hu hv hl
  go_enter Try.func13, Try.ntmps13
  go_wp2
  go_loopw [5] (fun s W => ∃ i : Nat, s = .int .i64 (i : Int) ∧ i ≤ n ∧ Below w.heap.size w W) (fun s _ => n - (intOf s).toNat)
  case atStart => exact ⟨0, rfl, Nat.zero_le _, Below.refl _ _⟩
  case round =>
    obtain ⟨i, rfl, hi, hw⟩ := hrel
    have HW := hide hw
    clear hw
    by_cases h : i < n
    · have i1 : (i : Int) < (n : Int) := by omega
      have i0 : (0 : Int) ≤ (i : Int) := Int.natCast_nonneg _
      have iz : decide ((i : Int) < (n : Int)) = true := decide_eq_true i1
      obtain ⟨x, hx⟩ := get_some (unhide HL) h
      obtain ⟨rfl, pw, k0⟩ := ((unhide HU).bel (unhide HW)).at hx
      obtain ⟨rfl, qw, l0⟩ := ((unhide HV).bel (unhide HW)).at hx
      have xx : (x != x) = false := by simp
      clear pw qw hx
      go_wp2_with fail
      go_quiet (fail)
      go_wp2_with fail
      go_roundw
      case rel => exact ⟨i + 1, by simp, h, by repeat (first | exact unhide HW | refine bel_dn' ?_ _ | refine Below.drew ?_)⟩
      case measure => simp only [intOf]; omega
    · have i1 : ¬ (i : Int) < (n : Int) := by omega
      have iz : decide ((i : Int) < (n : Int)) = false := decide_eq_false i1
      go_wp2_with fail
      go_ret
      exact ⟨rfl, unhide HW⟩

end Go.Proofs.Ytbjljofgpbecbaa

namespace Go.Proofs.Ytbjljofgpbecbaa
open Go.ChangeShapes Go.WideShapes Go.ChangeAt Go.RowKit
set_option linter.unusedVariables false
set_option linter.unusedSimpArgs false

noncomputable def reg9 (id : Nat) : Go.Code := match Try.f9.body with | some c => (regOf id c).getD .skip | none => .skip
set_option maxHeartbeats 4000000 in
set_option maxRecDepth 100000 in
theorem jo7 {s0 s1 s4 s5 s6 s10 s11 s12 s13 s14 s15 s16 s17 s18 s19 s20 s21 s22 s23 s24 s25 s26 s27 s28 s29 s30 s31 s32 : Value} {V : World} {b2 b7 m c n e : Nat} {a0 a1 d0 d1 R : Int} {u v : Option Addr} {K_ : Act → World → Prop} (n70 : b7 ≠ b2) (n71 : b7 ≠ b2 + 1) (n80 : b7 + 1 ≠ b2) (n81 : b7 + 1 ≠ b2 + 1)
    (H7 : Hid (vb V b7 25 [.int .i64 a0, .int .i64 a1, .slice u m c])) (H8 : Hid (vb V (b7 + 1) 25 [.int .i64 d0, .int .i64 d1, .slice v n e])) (H2 : Hid (vb V b2 25 [.int .i64 0, .int .i64 0, .slice none 0 0])) (H3 : Hid (vb V (b2 + 1) 25 [.int .i64 0, .int .i64 0, .slice none 0 0]))
    (hQ : ∀ (y26 y27 y28 : Value) (W' : World), vb W' b2 25 [.int .i64 a0, .int .i64 a1, .slice u m c] → vb W' (b2 + 1) 25 [.int .i64 d0, .int .i64 d1, .slice v n e] → Mq b2 (b2 + 1) V W' → K_ { tmps := #[s0, s1, .pointer (some ⟨b2, 0, none⟩), .pointer (some ⟨b2 + 1, 0, none⟩), .int .i64 (R), s5, s6, .pointer (some ⟨b7, 0, none⟩), .pointer (some ⟨b7 + 1, 0, none⟩), .int .i64 (R), s10, s11, s12, s13, s14, s15, s16, s17, s18, s19, s20, s21, s22, s23, s24, s25, y26, y27, y28, s29, s30, s31, s32], defers := [] } W') :
    Go.Code.wp Try.prog (reg9 7) (Only K_) { tmps := #[s0, s1, .pointer (some ⟨b2, 0, none⟩), .pointer (some ⟨b2 + 1, 0, none⟩), s4, s5, s6, .pointer (some ⟨b7, 0, none⟩), .pointer (some ⟨b7 + 1, 0, none⟩), .int .i64 (R), s10, s11, s12, s13, s14, s15, s16, s17, s18, s19, s20, s21, s22, s23, s24, s25, s26, s27, s28, s29, s30, s31, s32], defers := [] } V := by
  have HQ := hide hQ
  have e0 : b2 ≠ b2 + 1 := by omega
  have e1 : b2 + 1 ≠ b2 := by omega
  clear hQ
  conv => arg 2; whnf
  refine wp_region_inv2 (fun Lb A W => ∃ (u0 u1 u2 u3 u4 u5 : Bool) (dd : Nat), Lb = #[u0, u1, u2, u3, u4, u5] ∧ A = ({ tmps := #[s0, s1, .pointer (some ⟨b2, 0, none⟩), .pointer (some ⟨b2 + 1, 0, none⟩), (bif u5 then .int .i64 (R) else s4), s5, s6, .pointer (some ⟨b7, 0, none⟩), .pointer (some ⟨b7 + 1, 0, none⟩), .int .i64 (R), s10, s11, s12, s13, s14, s15, s16, s17, s18, s19, s20, s21, s22, s23, s24, s25, (bif u0 then .agg #[.int .i64 a0, .int .i64 a1, .slice u m c] else s26), (bif u1 then .agg #[.int .i64 d0, .int .i64 d1, .slice v n e] else s27), (bif u2 then .int .i64 (R) else s28), s29, s30, s31, s32], defers := [] } : Act) ∧ vb W b7 25 [.int .i64 a0, .int .i64 a1, .slice u m c] ∧ vb W (b7 + 1) 25 [.int .i64 d0, .int .i64 d1, .slice v n e] ∧ (u3 = false → vb W b2 25 [.int .i64 0, .int .i64 0, .slice none 0 0]) ∧ (u3 = true → vb W b2 25 [.int .i64 a0, .int .i64 a1, .slice u m c]) ∧ (u4 = false → vb W (b2 + 1) 25 [.int .i64 0, .int .i64 0, .slice none 0 0]) ∧ (u4 = true → vb W (b2 + 1) 25 [.int .i64 d0, .int .i64 d1, .slice v n e]) ∧ Mq b2 (b2 + 1) V W ∧ (u3 = true → u0 = true) ∧ (u4 = true → u1 = true ∧ u3 = true) ∧ (u5 = true → u0 = true ∧ u1 = true ∧ u2 = true ∧ u3 = true ∧ u4 = true)) (by kernel_rfl) (by kernel_rfl) ?h0 ?hstep ?hend
  case h0 =>
    exact ⟨false, false, false, false, false, false, 0, rfl, rfl, unhide H7, unhide H8, (fun _ => unhide H2), (fun h => nomatch h), (fun _ => unhide H3), (fun h => nomatch h), (Mq.of_bel (Below.drew (Below.refl _ _))), (fun h => nomatch h), (fun h => nomatch h), (fun h => nomatch h)⟩
  case hstep =>
    rintro Lb A W ⟨u0, u1, u2, u3, u4, u5, dd, rfl, rfl, k7, k8, k2, k2b, k3, k3b, kM, c3, c4, kF⟩
    refine ⟨?_, ?_, ?_, ?_, ?_, ?_, trivial⟩
    · intro h0 hd K hK
      have z : u0 = false := h0
      have z5_ : u5 = false := by
        cases hu : u5 with
        | false => rfl
        | true => exact nomatch z.symm.trans ((kF hu).1)
      have z3_ : u3 = false := by
        cases hu : u3 with
        | false => rfl
        | true => exact nomatch z.symm.trans ((c3 hu))
      have z4_ : u4 = false := by
        cases hu : u4 with
        | false => rfl
        | true => exact nomatch z.symm.trans ((c3 (c4 hu).2))
      have H_k7 := hide k7
      have H_k8 := hide k8
      have H_k2 := hide k2
      have H_k2b := hide k2b
      have H_k3 := hide k3
      have H_k3b := hide k3b
      have H_kM := hide kM
      have H_c3 := hide c3
      have H_c4 := hide c4
      have H_kF := hide kF
      clear k7 k8 k2 k2b k3 k3b kM c3 c4 kF
      subst z5_
      subst z3_
      subst z4_
      subst z
      clear h0 hd
      rw [if_pos (by rfl)]
      have v1 := unhide H_k7
      have q0 := v1.cell (m := 0) rfl
      have q1 := v1.cell (m := 1) rfl
      have q2 := v1.cell (m := 2) rfl
      clear v1
      go_simp
      exact unhide hK _ _ ⟨true, u1, u2, false, false, false, dd, rfl, rfl, unhide H_k7, unhide H_k8, unhide H_k2, (fun h => nomatch h), unhide H_k3, unhide H_k3b, unhide H_kM, (fun h => nomatch h), (fun h => nomatch h), (fun h => nomatch h)⟩
    · intro h0 hd K hK
      have z : u1 = false := h0
      have z5_ : u5 = false := by
        cases hu : u5 with
        | false => rfl
        | true => exact nomatch z.symm.trans ((kF hu).2.1)
      have z4_ : u4 = false := by
        cases hu : u4 with
        | false => rfl
        | true => exact nomatch z.symm.trans ((c4 hu).1)
      have H_k7 := hide k7
      have H_k8 := hide k8
      have H_k2 := hide k2
      have H_k2b := hide k2b
      have H_k3 := hide k3
      have H_k3b := hide k3b
      have H_kM := hide kM
      have H_c3 := hide c3
      have H_c4 := hide c4
      have H_kF := hide kF
      clear k7 k8 k2 k2b k3 k3b kM c3 c4 kF
      subst z5_
      subst z4_
      subst z
      clear h0 hd
      rw [if_pos (by rfl)]
      have v1 := unhide H_k8
      have q0 := v1.cell (m := 0) rfl
      have q1 := v1.cell (m := 1) rfl
      have q2 := v1.cell (m := 2) rfl
      clear v1
      go_simp
      exact unhide hK _ _ ⟨u0, true, u2, u3, false, false, dd, rfl, rfl, unhide H_k7, unhide H_k8, unhide H_k2, unhide H_k2b, unhide H_k3, (fun h => nomatch h), unhide H_kM, unhide H_c3, (fun h => nomatch h), (fun h => nomatch h)⟩
    · intro h0 hd K hK
      have z : u2 = false := h0
      have z5_ : u5 = false := by
        cases hu : u5 with
        | false => rfl
        | true => exact nomatch z.symm.trans ((kF hu).2.2.1)
      have H_k7 := hide k7
      have H_k8 := hide k8
      have H_k2 := hide k2
      have H_k2b := hide k2b
      have H_k3 := hide k3
      have H_k3b := hide k3b
      have H_kM := hide kM
      have H_c3 := hide c3
      have H_c4 := hide c4
      have H_kF := hide kF
      clear k7 k8 k2 k2b k3 k3b kM c3 c4 kF
      subst z5_
      subst z
      clear h0 hd
      rw [if_pos (by rfl)]
      go_simp
      exact unhide hK _ _ ⟨u0, u1, true, u3, u4, false, dd, rfl, rfl, unhide H_k7, unhide H_k8, unhide H_k2, unhide H_k2b, unhide H_k3, unhide H_k3b, unhide H_kM, unhide H_c3, unhide H_c4, (fun h => nomatch h)⟩
    · intro h0 hd K hK
      have z : u3 = false := h0
      have z5_ : u5 = false := by
        cases hu : u5 with
        | false => rfl
        | true => exact nomatch z.symm.trans ((kF hu).2.2.2.1)
      have z4_ : u4 = false := by
        cases hu : u4 with
        | false => rfl
        | true => exact nomatch z.symm.trans ((c4 hu).2)
      have zd : u0 = true := by
        simp [Region.binds] at hd
        simp [hd]
      have H_k7 := hide k7
      have H_k8 := hide k8
      have H_k2 := hide k2
      have H_k2b := hide k2b
      have H_k3 := hide k3
      have H_k3b := hide k3b
      have H_kM := hide kM
      have H_c3 := hide c3
      have H_c4 := hide c4
      have H_kF := hide kF
      clear k7 k8 k2 k2b k3 k3b kM c3 c4 kF
      obtain ⟨rfl⟩ := zd
      subst z5_
      subst z4_
      subst z
      clear h0 hd
      rw [if_pos (by rfl)]
      have v1 := unhide H_k2 rfl
      have fz := v1.frozen
      have q0 := v1.cell (m := 0) rfl
      have q1 := v1.cell (m := 1) rfl
      have q2 := v1.cell (m := 2) rfl
      clear v1
      go_simp
      exact unhide hK _ _ ⟨true, u1, u2, true, false, false, dd, rfl, rfl, (((unhide H_k7).ne n70).ne n70).ne n70, (((unhide H_k8).ne n80).ne n80).ne n80, (fun h => nomatch h), (fun _ => (((unhide H_k2 rfl).set 0 _).set 1 _).set 2 _), (fun h => (((unhide H_k3 h).ne e1).ne e1).ne e1), (fun h => nomatch h), Mq.setA (Mq.setA (Mq.setA (unhide H_kM) _ _) _ _) _ _, (fun _ => rfl), (fun h => nomatch h), (fun h => nomatch h)⟩
    · intro h0 hd K hK
      have z : u4 = false := h0
      have z5_ : u5 = false := by
        cases hu : u5 with
        | false => rfl
        | true => exact nomatch z.symm.trans ((kF hu).2.2.2.2)
      have zd : u1 = true ∧ u3 = true := by
        simp [Region.binds] at hd
        simp [hd]
      have H_k7 := hide k7
      have H_k8 := hide k8
      have H_k2 := hide k2
      have H_k2b := hide k2b
      have H_k3 := hide k3
      have H_k3b := hide k3b
      have H_kM := hide kM
      have H_c3 := hide c3
      have H_c4 := hide c4
      have H_kF := hide kF
      clear k7 k8 k2 k2b k3 k3b kM c3 c4 kF
      obtain ⟨rfl, rfl⟩ := zd
      subst z5_
      subst z
      clear h0 hd
      rw [if_pos (by rfl)]
      have v1 := unhide H_k3 rfl
      have fz := v1.frozen
      have q0 := v1.cell (m := 0) rfl
      have q1 := v1.cell (m := 1) rfl
      have q2 := v1.cell (m := 2) rfl
      clear v1
      go_simp
      exact unhide hK _ _ ⟨u0, true, u2, true, true, false, dd, rfl, rfl, (((unhide H_k7).ne n71).ne n71).ne n71, (((unhide H_k8).ne n81).ne n81).ne n81, (fun h => nomatch h), (fun h => (((unhide H_k2b h).ne e0).ne e0).ne e0), (fun h => nomatch h), (fun _ => (((unhide H_k3 rfl).set 0 _).set 1 _).set 2 _), Mq.setB (Mq.setB (Mq.setB (unhide H_kM) _ _) _ _) _ _, unhide H_c3, (fun _ => ⟨rfl, rfl⟩), (fun h => nomatch h)⟩
    · intro h0 hd K hK
      have z : u5 = false := h0
      have zd : u2 = true ∧ u4 = true ∧ u0 = true ∧ u1 = true ∧ u3 = true := by
        simp [Region.binds] at hd
        simp_all
      have H_k7 := hide k7
      have H_k8 := hide k8
      have H_k2 := hide k2
      have H_k2b := hide k2b
      have H_k3 := hide k3
      have H_k3b := hide k3b
      have H_kM := hide kM
      have H_c3 := hide c3
      have H_c4 := hide c4
      have H_kF := hide kF
      clear k7 k8 k2 k2b k3 k3b kM c3 c4 kF
      obtain ⟨rfl, rfl, rfl, rfl, rfl⟩ := zd
      subst z
      clear h0 hd
      rw [if_pos (by rfl)]
      go_simp
      exact unhide hK _ _ ⟨true, true, true, true, true, true, dd, rfl, rfl, unhide H_k7, unhide H_k8, unhide H_k2, unhide H_k2b, unhide H_k3, unhide H_k3b, unhide H_kM, (fun _ => rfl), (fun _ => ⟨rfl, rfl⟩), (fun _ => ⟨rfl, rfl, rfl, rfl, rfl⟩)⟩
  case hend =>
    rintro Lb A W ⟨u0, u1, u2, u3, u4, u5, dd, rfl, rfl, k7, k8, k2, k2b, k3, k3b, kM, c3, c4, kF⟩ hL
    have hl : u0 = true ∧ u1 = true ∧ u2 = true ∧ u3 = true ∧ u4 = true ∧ u5 = true := by
      have h2 := congrArg Array.toList hL
      simpa [List.replicate] using h2
    obtain ⟨rfl, rfl, rfl, rfl, rfl, rfl⟩ := hl
    exact unhide HQ _ _ _ W (k2b rfl) (k3b rfl) kM

end Go.Proofs.Ytbjljofgpbecbaa

namespace Go.Proofs.Ytbjljofgpbecbaa
open Go.ChangeShapes Go.WideShapes Go.ChangeAt Go.RowKit
set_option linter.unusedVariables false
set_option linter.unusedSimpArgs false

theorem codeUp {w X : World} {a : Option Addr} {len cap : Nat} {zs : List Int} (h : Code w.heap.size w a len cap zs) (hX : Below w.heap.size w X) : Code X.heap.size X a len cap zs := by
  rcases h with h | ⟨b, off, e, h1, h2, h3, h4, h5, h6, h7⟩
  · exact .inl h
  · exact .inr ⟨b, off, e, Nat.lt_of_lt_of_le h1 hX.size, Nat.lt_of_lt_of_le h1 hX.size, h3, h4, h5, fun i hi => (hX.cell (p := ⟨b, off + i, none⟩) h1).trans (h6 i hi), h7⟩
theorem Fd.mq {a b : Nat} {x y : World} {g po n c : Nat} {L : List Int} (h : Fd x g po n c L) (hm : Mq a b x y) (h1 : g ≠ a) (h2 : g ≠ b) : Fd y g po n c L := ⟨Nat.lt_of_lt_of_le h.lt hm.size, hm.ints h.ints h.lt h1 h2, h.len, h.cap, h.top⟩
theorem Mq.bel4 {a b C : Nat} {x y : World} (h : Mq a b x y) (hC : C ≤ x.heap.size) (h1 : C ≤ a) (h2 : C ≤ b) : Below C x y := ⟨h.os, h.tape, h.output, h.size, fun k hk => h.block k (by omega) (by omega) (by omega)⟩
theorem fd_two {X : World} {b : Nat} {x y : Int} (hb : vb X b 3 [.int .i64 x, .int .i64 y]) : Fd X b 0 2 2 [x, y] := by
  refine ⟨hb.lt, fun j z hj => ?_, rfl, Nat.le_refl _, by omega⟩
  rw [Nat.zero_add]
  match j, hj with
  | 0, hj => simp at hj; subst hj; exact hb.cell (m := 0) rfl
  | 1, hj => simp at hj; subst hj; exact hb.cell (m := 1) rfl
  | j + 2, hj => simp at hj
theorem Fq.its {X : World} {u : Option Addr} {n c : Nat} {L : List Int} (h : Fq X u n c L) : ∃ p po, Its X u p po L := by
  by_cases h0 : n = 0
  · exact ⟨0, 0, fun h1 => absurd (List.eq_nil_of_length_eq_zero (by have := h.1; omega)) h1⟩
  · obtain ⟨p, po, e, hf⟩ := h.2.2 h0
    subst e
    exact ⟨p, po, hf.its⟩
/-- a job that is right -/
structure Jok (X : World) (W H r gs pos cs g po c n : Nat) (S P : List Int) : Prop where
  W1 : 1 ≤ W
  W2 : W ≤ 24
  H1 : 1 ≤ H
  H2 : H ≤ 24
  r3 : r ≤ 3
  n_ : n = W * H
  fs : Fd X gs pos n cs S
  fp : Fd X g po n c P
  st : stB W H S W H P = true
theorem Jok.bel {X X' : World} {W H r gs pos cs g po c n : Nat} {S P : List Int} (h : Jok X W H r gs pos cs g po c n S P) (hb : Below X.heap.size X X') : Jok X' W H r gs pos cs g po c n S P := ⟨h.W1, h.W2, h.H1, h.H2, h.r3, h.n_, h.fs.bel hb, h.fp.bel hb, h.st⟩
theorem st_pair {Ws Hs Wp Hp : Int} {S T : List Int} (h : stB Ws Hs S Wp Hp T = true) : FOk Ws Hs S ∧ FOk Wp Hp T ∧ Ws = Wp ∧ Hs = Hp ∧ ∀ i, i < T.length → tp T i ≤ tp S i := by
  unfold stB pairB at h
  rw [Bool.and_eq_true, decide_eq_true_eq] at h
  exact ⟨h.1.a, h.1.b, h.1.w, h.1.h, under_iff.1 h.2⟩
theorem Jok.oks {X : World} {W H r gs pos cs g po c n : Nat} {S P : List Int} (h : Jok X W H r gs pos cs g po c n S P) : FOk W H S ∧ FOk W H P ∧ ∀ i, i < P.length → tp P i ≤ tp S i := by
  obtain ⟨a, b, _, _, c⟩ := st_pair h.st
  exact ⟨a, b, c⟩
/-- what the pair's test tells -/
theorem jok_of {X : World} {Ws Hs Wp Hp R : Int} {us up : Option Addr} {ns cs np cp : Nat} {S P : List Int} (h1 : Fq X us ns cs S) (h2 : Fq X up np cp P) (h : (stB Ws Hs S Wp Hp P && (decide (0 ≤ R) && decide (R ≤ 3))) = true) :
    ∃ W H r gs pos g po : Nat, Ws = (W : Int) ∧ Hs = (H : Int) ∧ Wp = (W : Int) ∧ Hp = (H : Int) ∧ R = (r : Int) ∧ us = some ⟨gs, pos, none⟩ ∧ up = some ⟨g, po, none⟩ ∧ ns = np ∧ Jok X W H r gs pos cs g po cp ns S P := by
  rw [Bool.and_eq_true, Bool.and_eq_true, decide_eq_true_eq, decide_eq_true_eq] at h
  obtain ⟨hst, hR0, hR1⟩ := h
  obtain ⟨o1, o2, rfl, rfl, _⟩ := st_pair hst
  obtain ⟨a, b, rfl, rfl, ha1, ha2, hb1, hb2, hlen⟩ := o1.nat
  have hl2 : P.length = a * b := by
    obtain ⟨a', b', ea, eb, _, _, _, _, hl'⟩ := o2.nat
    have e1 : a' = a := by omega
    have e2 : b' = b := by omega
    rw [hl', e1, e2]
  have hpos : 0 < a * b := Nat.mul_pos ha1 hb1
  have l1 := h1.1
  have l2 := h2.1
  obtain ⟨gs, pos, e1, f1⟩ := h1.2.2 (by omega)
  obtain ⟨g, po, e2, f2⟩ := h2.2.2 (by omega)
  have hnn : np = ns := by omega
  subst hnn
  exact ⟨a, b, R.toNat, gs, pos, g, po, rfl, rfl, rfl, rfl, by omega, e1, e2, rfl, ha1, ha2, hb1, hb2, by omega, by omega, f1, f2, hst⟩
set_option maxHeartbeats 1000000 in
set_option maxRecDepth 100000 in
theorem jobOf_any (a : Option Addr) (len cap : Nat) (zs : List Int) (w : World) (hc : Code w.heap.size w a len cap zs) (hl : len ≤ 9223372036854775807) :
    Calls Try.prog 9 #[.slice a len cap] w fun e w' => (∃ W H r gs pos cs g po c n S P, e = .returned (.tuple #[.agg #[.int .i64 ((W : Nat) : Int), .int .i64 ((H : Nat) : Int), .slice (some ⟨gs, pos, none⟩) n cs], .agg #[.int .i64 (W : Int), .int .i64 (H : Int), .slice (some ⟨g, po, none⟩) n c], .int .i64 ((r : Nat) : Int)]) ∧ Jok w' W H r gs pos cs g po c n S P) ∧ Below w.heap.size w w' := by
  have hb0 : Below w.heap.size w ((w.alloc (.cells #[.int .i64 0, .int .i64 0, .slice none 0 0] 25)).alloc (.cells #[.int .i64 0, .int .i64 0, .slice none 0 0] 25)) := ba (ba (Below.refl _ _) _) _
  have HB0 := hide hb0
  have HV2 := hide (vb_new1 w 25 [.int .i64 0, .int .i64 0, .slice none 0 0] (.cells #[.int .i64 0, .int .i64 0, .slice none 0 0] 25))
  have HV3 := hide (vb_new2 w 25 [.int .i64 0, .int .i64 0, .slice none 0 0] (.cells #[.int .i64 0, .int .i64 0, .slice none 0 0] 25))
  have HSO : Hid (∀ X, Below w.heap.size w X → Calls Try.prog 33 #[.slice a len cap] X fun e w' => e = .returned (.pointer (some ⟨X.heap.size, 0, none⟩)) ∧ Below X.heap.size X w' ∧ So X.heap.size X.heap.size 0 w') := hide (fun X hX => source_any a len cap zs X (codeUp hc hX) hl)
  clear hc hb0
  go_enter Try.func9, Try.ntmps9
  go_wp2_with fail
  generalize (w.alloc (.cells #[.int .i64 0, .int .i64 0, .slice none 0 0] 25)).alloc (.cells #[.int .i64 0, .int .i64 0, .slice none 0 0] 25) = Wa at *
  refine (unhide HSO _ (unhide HB0)).mono ?_
  rintro e W1 ⟨rfl, hb1, hs1⟩
  have HV2a := hide ((unhide HV2).bel hb1)
  have HV3a := hide ((unhide HV3).bel hb1)
  have HB1 := hide (bc (unhide HB0) hb1)
  have HS1 := hide hs1
  have hga : w.heap.size + 2 ≤ Wa.heap.size := (unhide HV3).lt
  clear hb1 hs1 HV2 HV3 HB0
  generalize Wa.heap.size = gS at *
  go_wp2_with fail
  go_loopw [6] (fun zz X => ∃ i : Nat, zz = .int .i64 (i : Int) ∧ i ≤ 3 ∧ So gS gS (9000 * (i : Int)) X ∧ vb X w.heap.size 25 [.int .i64 0, .int .i64 0, .slice none 0 0] ∧ vb X (w.heap.size + 1) 25 [.int .i64 0, .int .i64 0, .slice none 0 0] ∧ Below w.heap.size w X) (fun zz _ => 3 - (intOf zz).toNat)
  case atStart => exact ⟨0, rfl, by omega, by simpa using unhide HS1, unhide HV2a, unhide HV3a, unhide HB1⟩
  case round =>
    obtain ⟨i, rfl, hi, hso, hv2, hv3, hw⟩ := hrel
    have HS := hide hso
    have H2 := hide hv2
    have H3 := hide hv3
    have HW := hide hw
    clear hso hv2 hv3 hw HS1 HV2a HV3a HB1
    by_cases hc : i < 3
    · have lz := decide_eq_true (show (i : Int) < 3 by omega)
      go_wp2_with fail
      refine (job_any (k := 9000 * (i : Int)) (unhide HS) (by omega)).mono ?_
      rintro e W2 ⟨Ws, Hs, us, ns, cs, S, Wp, Hp, up, np, cp, P, R, rfl, hfs, hfp, hso, hmv, hbs, hbp⟩
      have hA : Below W2.heap.size W2 ((W2.alloc (.cells #[.int .i64 Ws, .int .i64 Hs, .slice us ns cs] 25)).alloc (.cells #[.int .i64 Wp, .int .i64 Hp, .slice up np cp] 25)) := ba (ba (Below.refl _ _) _) _
      have HFS := hide (hfs.bel hA)
      have HFP := hide (hfp.bel hA)
      have HSn := hide (hso.bel hA)
      have H2n := hide (((unhide H2).mv hmv (by omega)).bel hA)
      have H3n := hide (((unhide H3).mv hmv (by omega)).bel hA)
      have hsz2 := (unhide HW).size
      have HWn := hide (bc ((unhide HW).trans (Mv.bel (Below.refl _ _) hmv (by omega) hsz2)) hA)
      have H7 := hide (vb_new1 W2 25 [.int .i64 Ws, .int .i64 Hs, .slice us ns cs] (.cells #[.int .i64 Wp, .int .i64 Hp, .slice up np cp] 25))
      have H8 := hide (vb_new2 W2 25 [.int .i64 Wp, .int .i64 Hp, .slice up np cp] (.cells #[.int .i64 Ws, .int .i64 Hs, .slice us ns cs] 25))
      have hs2 : w.heap.size + 2 ≤ W2.heap.size := Nat.le_trans (unhide H3).lt hmv.size
      have hs3 : w.heap.size + 2 ≤ wr.heap.size := (unhide H3).lt
      clear hfs hfp hso hmv hA HS H2 H3 HW
      go_upto_region 6 with fail
      generalize (W2.alloc (.cells #[.int .i64 Ws, .int .i64 Hs, .slice us ns cs] 25)).alloc (.cells #[.int .i64 Wp, .int .i64 Hp, .slice up np cp] 25) = Wb at *
      generalize W2.heap.size = b7 at *
      obtain ⟨ps, pos, hits⟩ := (unhide HFS).its
      obtain ⟨pp, pop, hitp⟩ := (unhide HFP).its
      have HPR := hide (prM_any R Ws Hs us ps pos ns cs S Wp Hp up pp pop np cp P Wb (unhide HFS).1 (by have := (unhide HFS).2.1; omega) hits (unhide HFP).1 (by have := (unhide HFP).2.1; omega) hitp)
      have c0 := (unhide H7).cell (m := 0) rfl
      have c1 := (unhide H7).cell (m := 1) rfl
      have c2 := (unhide H7).cell (m := 2) rfl
      have d0 := (unhide H8).cell (m := 0) rfl
      have d1 := (unhide H8).cell (m := 1) rfl
      have d2 := (unhide H8).cell (m := 2) rfl
      unfold fldV at HPR
      clear hits hitp
      obtain ⟨ok, hok⟩ : ∃ ok, (stB Ws Hs S Wp Hp P && (decide (0 ≤ R) && decide (R ≤ 3))) = ok := ⟨_, rfl⟩
      rw [hok] at HPR
      have HOK := hide hok
      clear hok
      go_wp2_with fail
      refine (unhide HPR).mono ?_
      rintro e Wc ⟨rfl, hbc⟩
      have HFSc := hide ((unhide HFS).bel hbc)
      have HFPc := hide ((unhide HFP).bel hbc)
      have HSc := hide ((unhide HSn).bel hbc)
      have H2c := hide ((unhide H2n).bel hbc)
      have H3c := hide ((unhide H3n).bel hbc)
      have H7c := hide ((unhide H7).bel hbc)
      have H8c := hide ((unhide H8).bel hbc)
      have HWc := hide (bc (unhide HWn) hbc)
      clear hbc HFS HFP HSn H2n H3n H7 H8 HWn HPR c0 c1 c2 d0 d1 d2
      cases ok with
      | false =>
        go_wp2_with fail
        go_roundw
        case rel => exact ⟨i + 1, by simp, hc, (unhide HSc).up (by omega), unhide H2c, unhide H3c, unhide HWc⟩
        case measure => simp only [intOf]; omega
      | true =>
        obtain ⟨W, H, r, gs, po1, g, po2, rfl, rfl, rfl, rfl, rfl, rfl, rfl, rfl, hj⟩ := jok_of (unhide HFSc) (unhide HFPc) (unhide HOK)
        have HJ := hide hj
        clear hj
        go_wp2_with fail
        refine Go.Code.wp_mono (Only.to (fun _ _ h => h)) (jo7 (by omega) (by omega) (by omega) (by omega) H7c H8c H2c H3c (fun y26 y27 y28 Wz hz2 hz3 hmq => ?_))
        have a0 := hz2.cell (m := 0) rfl
        have a1 := hz2.cell (m := 1) rfl
        have a2 := hz2.cell (m := 2) rfl
        have b0 := hz3.cell (m := 0) rfl
        have b1 := hz3.cell (m := 1) rfl
        have b2 := hz3.cell (m := 2) rfl
        have HMQ := hide hmq
        clear hz2 hz3 hmq
        go_wp2_with fail
        (try rw [Exit.noGoto_ret])
        refine bodyPost_ret (v := .tuple #[.agg #[.int .i64 (W : Int), .int .i64 (H : Int), .slice (some ⟨gs, po1, none⟩) ns cs], .agg #[.int .i64 (W : Int), .int .i64 (H : Int), .slice (some ⟨g, po2, none⟩) ns cp], .int .i64 (r : Int)]) (by simp [results, Try.results9, go_sem, a0, a1, a2, b0, b1, b2]) rfl ?_
        have x1 := hbs _ rfl
        have x2 := hbp _ rfl
        simp only at x1 x2
        have hj := unhide HJ
        refine ⟨⟨W, H, r, gs, po1, cs, g, po2, cp, ns, S, P, rfl, hj.W1, hj.W2, hj.H1, hj.H2, hj.r3, hj.n_, hj.fs.mq (unhide HMQ) (by omega) (by omega), hj.fp.mq (unhide HMQ) (by omega) (by omega), hj.st⟩, ?_⟩
        exact (unhide HWc).trans ((unhide HMQ).bel4 (C := w.heap.size) (unhide HWc).size (Nat.le_refl _) (by omega))
    · have lz : decide ((i : Int) < 3) = false := decide_eq_false (by omega)
      have k0 := (unhide H2).cell (m := 0) rfl
      have k1 := (unhide H2).cell (m := 1) rfl
      have k2 := (unhide H2).cell (m := 2) rfl
      have j0 := (unhide H3).cell (m := 0) rfl
      have j1 := (unhide H3).cell (m := 1) rfl
      have j2 := (unhide H3).cell (m := 2) rfl
      have f2 := (unhide H2).frozen
      have f3 := (unhide H3).frozen
      have hlt3 := (unhide H3).lt
      have hlt2 := (unhide H2).lt
      have e0 : w.heap.size ≠ w.heap.size + 1 := by omega
      have e1 : w.heap.size + 1 ≠ w.heap.size := by omega
      have hle0 : w.heap.size ≤ w.heap.size := Nat.le_refl _
      have hle1 : w.heap.size ≤ w.heap.size + 1 := Nat.le_succ _
      have HY2 : Hid (vb ((((((wr.setCell ⟨w.heap.size, 0, none⟩ (.int .i64 2)).setCell ⟨w.heap.size, 1, none⟩ (.int .i64 1)).setCell ⟨w.heap.size, 2, none⟩ (.slice (some ⟨wr.heap.size, 0, none⟩) 2 2)).setCell ⟨w.heap.size + 1, 0, none⟩ (.int .i64 2)).setCell ⟨w.heap.size + 1, 1, none⟩ (.int .i64 1)).setCell ⟨w.heap.size + 1, 2, none⟩ (.slice (some ⟨wr.heap.size + 1, 0, none⟩) 2 2)) w.heap.size 25 [.int .i64 2, .int .i64 1, .slice (some ⟨wr.heap.size, 0, none⟩) 2 2]) := hide ((((((unhide H2).set 0 _).set 1 _).set 2 _).ne e0).ne e0 |>.ne e0)
      have HY3 : Hid (vb ((((((wr.setCell ⟨w.heap.size, 0, none⟩ (.int .i64 2)).setCell ⟨w.heap.size, 1, none⟩ (.int .i64 1)).setCell ⟨w.heap.size, 2, none⟩ (.slice (some ⟨wr.heap.size, 0, none⟩) 2 2)).setCell ⟨w.heap.size + 1, 0, none⟩ (.int .i64 2)).setCell ⟨w.heap.size + 1, 1, none⟩ (.int .i64 1)).setCell ⟨w.heap.size + 1, 2, none⟩ (.slice (some ⟨wr.heap.size + 1, 0, none⟩) 2 2)) (w.heap.size + 1) 25 [.int .i64 2, .int .i64 1, .slice (some ⟨wr.heap.size + 1, 0, none⟩) 2 2]) := hide ((((((unhide H3).ne e1).ne e1).ne e1).set 0 _).set 1 _ |>.set 2 _)
      have HYB : Hid (Below w.heap.size w ((((((wr.setCell ⟨w.heap.size, 0, none⟩ (.int .i64 2)).setCell ⟨w.heap.size, 1, none⟩ (.int .i64 1)).setCell ⟨w.heap.size, 2, none⟩ (.slice (some ⟨wr.heap.size, 0, none⟩) 2 2)).setCell ⟨w.heap.size + 1, 0, none⟩ (.int .i64 2)).setCell ⟨w.heap.size + 1, 1, none⟩ (.int .i64 1)).setCell ⟨w.heap.size + 1, 2, none⟩ (.slice (some ⟨wr.heap.size + 1, 0, none⟩) 2 2))) := hide (Below.setCell (Below.setCell (Below.setCell (Below.setCell (Below.setCell (Below.setCell (unhide HW) hle0 _) hle0 _) hle0 _) hle1 _) hle1 _) hle1 _)
      have HYS : Hid (((((((wr.setCell ⟨w.heap.size, 0, none⟩ (.int .i64 2)).setCell ⟨w.heap.size, 1, none⟩ (.int .i64 1)).setCell ⟨w.heap.size, 2, none⟩ (.slice (some ⟨wr.heap.size, 0, none⟩) 2 2)).setCell ⟨w.heap.size + 1, 0, none⟩ (.int .i64 2)).setCell ⟨w.heap.size + 1, 1, none⟩ (.int .i64 1)).setCell ⟨w.heap.size + 1, 2, none⟩ (.slice (some ⟨wr.heap.size + 1, 0, none⟩) 2 2)).heap.size = wr.heap.size) := hide (by simp [World.setCell])
      go_wp2_with fail
      clear k0 k1 k2 j0 j1 j2 f2 f3
      generalize (((((wr.setCell ⟨w.heap.size, 0, none⟩ (.int .i64 2)).setCell ⟨w.heap.size, 1, none⟩ (.int .i64 1)).setCell ⟨w.heap.size, 2, none⟩ (.slice (some ⟨wr.heap.size, 0, none⟩) 2 2)).setCell ⟨w.heap.size + 1, 0, none⟩ (.int .i64 2)).setCell ⟨w.heap.size + 1, 1, none⟩ (.int .i64 1)).setCell ⟨w.heap.size + 1, 2, none⟩ (.slice (some ⟨wr.heap.size + 1, 0, none⟩) 2 2) = Y at *
      have hA : Below Y.heap.size Y ((Y.alloc (.cells #[.int .i64 5, .int .i64 5] 3)).alloc (.cells #[.int .i64 1, .int .i64 3] 3)) := ba (ba (Below.refl _ _) _) _
      have hy2 := (unhide HY2).bel hA
      have hy3 := (unhide HY3).bel hA
      have x1 := vb_new1 Y 3 [.int .i64 5, .int .i64 5] (.cells #[.int .i64 1, .int .i64 3] 3)
      have x2 := vb_new2 Y 3 [.int .i64 1, .int .i64 3] (.cells #[.int .i64 5, .int .i64 5] 3)
      rw [unhide HYS] at x1 x2
      have HX1 := hide x1
      have HX2 := hide x2
      have a0 := hy2.cell (m := 0) rfl
      have a1 := hy2.cell (m := 1) rfl
      have a2 := hy2.cell (m := 2) rfl
      have b0 := hy3.cell (m := 0) rfl
      have b1 := hy3.cell (m := 1) rfl
      have b2 := hy3.cell (m := 2) rfl
      have HBN := hide (bc (unhide HYB) hA)
      clear hA hy2 hy3 x1 x2 hlt2 hlt3 HYS
      generalize (Y.alloc (.cells #[.int .i64 5, .int .i64 5] 3)).alloc (.cells #[.int .i64 1, .int .i64 3] 3) = Wn at *
      refine bodyPost_ret (v := .tuple #[.agg #[.int .i64 2, .int .i64 1, .slice (some ⟨wr.heap.size, 0, none⟩) 2 2], .agg #[.int .i64 2, .int .i64 1, .slice (some ⟨wr.heap.size + 1, 0, none⟩) 2 2], .int .i64 0]) (by simp [results, Try.results9, go_sem, a0, a1, a2, b0, b1, b2]) rfl ?_
      exact ⟨⟨2, 1, 0, wr.heap.size, 0, 2, wr.heap.size + 1, 0, 2, 2, [5, 5], [1, 3], rfl, by omega, by omega, by omega, by omega, by omega, rfl, fd_two (unhide HX1), fd_two (unhide HX2), by decide⟩, unhide HBN⟩
end Go.Proofs.Ytbjljofgpbecbaa

namespace Go.Proofs.Ytbjljofgpbecbaa
open Go.ChangeShapes Go.WideShapes Go.ChangeAt Go.RowKit
set_option linter.unusedVariables false
set_option linter.unusedSimpArgs false

theorem own_mono' {w : World} {B B' t k n : Nat} {v : Value} {L : List Value} (h : w.ownsRow B t k v n L) (hB : B' ≤ B) : w.ownsRow B' t k v n L := by
  refine ⟨h.1, ?_⟩
  rcases h.2 with h1 | ⟨q, cap, cur, hv, hB2, hh, r⟩
  · exact .inl h1
  · exact .inr ⟨q, cap, cur, hv, by omega, hh, r⟩
noncomputable def reg10 (id : Nat) : Go.Code := match Try.f10.body with | some c => (regOf id c).getD .skip | none => .skip
set_option maxHeartbeats 4000000 in
set_option maxRecDepth 100000 in
theorem mo2 {s0 s1 s3 s4 s6 s7 s8 s9 s10 s11 s12 s13 s14 s15 s16 : Value} {V : World} {gS b2 Wd Hd n c : Nat} {u : Option Addr} {K_ : Act → World → Prop} (hb2 : b2 ≠ gS) (hW1 : 1 ≤ Wd) (hW : Wd ≤ 24) (hH1 : 1 ≤ Hd) (hH : Hd ≤ 24)
    (H1 : Hid (So gS gS 0 V)) (H2 : Hid (vb V b2 25 [.int .i64 (Wd : Int), .int .i64 (Hd : Int), .slice u n c]))
    (hQ : ∀ (y8 y9 y10 y11 y12 y13 y14 y15 y16 : Value) (v : Value) (ms : List Mve) (m : Nat) (W' : World), W'.ownsRow V.heap.size 36 4 v m (flat4 ms) → ms.length = m → 2 ≤ m ∧ m ≤ 100 → v ≠ .slice none 0 0 → Mv gS V W' → K_ { tmps := #[s0, s1, .pointer (some ⟨b2, 0, none⟩), s3, v, .pointer (some ⟨gS, 0, none⟩), s6, s7, y8, y9, y10, y11, y12, y13, y14, y15, y16], defers := [] } W') :
    Go.Code.wp Try.prog (reg10 2) (Only K_) { tmps := #[s0, s1, .pointer (some ⟨b2, 0, none⟩), s3, s4, .pointer (some ⟨gS, 0, none⟩), s6, s7, s8, s9, s10, s11, s12, s13, s14, s15, s16], defers := [] } V := by
  have HQ := hide hQ
  clear hQ
  conv => arg 2; whnf
  refine wp_region_inv2 (fun Lb A W => ∃ (u0 u1 u2 u3 u4 u5 u6 u7 u8 u9 : Bool) (s : Int) (rN : Nat) (mN : Nat) (v : Value) (ms : List Mve), Lb = #[u0, u1, u2, u3, u4, u5, u6, u7, u8, u9] ∧ A = ({ tmps := #[s0, s1, .pointer (some ⟨b2, 0, none⟩), s3, (bif u9 then v else s4), .pointer (some ⟨gS, 0, none⟩), s6, s7, (bif u0 then .pointer (some ⟨gS, 0, none⟩) else s8), (bif u1 then .agg #[.int .i64 (Wd : Int), .int .i64 (Hd : Int), .slice u n c] else s9), (bif u2 then .pointer (some ⟨gS, 0, none⟩) else s10), (bif u3 then .pointer (some ⟨gS, 0, none⟩) else s11), (bif u4 then .int .i64 (s) else s12), (bif u5 then .int .i64 (s + 6) else s13), (bif u6 then .int .i64 ((rN : Int)) else s14), (bif u7 then .int .i64 ((mN : Int)) else s15), (bif u8 then v else s16)], defers := [] } : Act) ∧ (u8 = false → So gS gS (bif u6 then 3 else 0) W ∧ Mv gS V W) ∧ (u4 = true → 1 ≤ s ∧ s ≤ 30) ∧ (u6 = true → (rN : Int) < s + 6) ∧ (u7 = true → mN = 2 + rN) ∧ (u8 = true → W.ownsRow V.heap.size 36 4 v mN (flat4 ms) ∧ ms.length = mN ∧ v ≠ .slice none 0 0 ∧ Mv gS V W) ∧ (u4 = true → u3 = true) ∧ (u5 = true → u4 = true) ∧ (u6 = true → u2 = true ∧ u5 = true) ∧ (u7 = true → u6 = true) ∧ (u8 = true → u0 = true ∧ u1 = true ∧ u7 = true) ∧ (u9 = true → u0 = true ∧ u1 = true ∧ u2 = true ∧ u3 = true ∧ u4 = true ∧ u5 = true ∧ u6 = true ∧ u7 = true ∧ u8 = true)) (by kernel_rfl) (by kernel_rfl) ?h0 ?hstep ?hend
  case h0 =>
    exact ⟨false, false, false, false, false, false, false, false, false, false, 0, 0, 0, undef, [], rfl, rfl, (fun _ => ⟨by simpa using (unhide H1).drew, (Mv.refl _ _).drew⟩), (fun h => nomatch h), (fun h => nomatch h), (fun h => nomatch h), (fun h => nomatch h), (fun h => nomatch h), (fun h => nomatch h), (fun h => nomatch h), (fun h => nomatch h), (fun h => nomatch h), (fun h => nomatch h)⟩
  case hstep =>
    rintro Lb A W ⟨u0, u1, u2, u3, u4, u5, u6, u7, u8, u9, s, rN, mN, v, ms, rfl, rfl, kS, b4, b6, b7, kZ, c4, c5, c6, c7, c8, kF⟩
    refine ⟨?_, ?_, ?_, ?_, ?_, ?_, ?_, ?_, ?_, ?_, trivial⟩
    · intro h0 hd K hK
      have z : u0 = false := h0
      have z9_ : u9 = false := by
        cases hu : u9 with
        | false => rfl
        | true => exact nomatch z.symm.trans ((kF hu).1)
      have z8_ : u8 = false := by
        cases hu : u8 with
        | false => rfl
        | true => exact nomatch z.symm.trans ((c8 hu).1)
      have H_kS := hide kS
      have H_b4 := hide b4
      have H_b6 := hide b6
      have H_b7 := hide b7
      have H_kZ := hide kZ
      have H_c4 := hide c4
      have H_c5 := hide c5
      have H_c6 := hide c6
      have H_c7 := hide c7
      have H_c8 := hide c8
      have H_kF := hide kF
      clear kS b4 b6 b7 kZ c4 c5 c6 c7 c8 kF
      subst z9_
      subst z8_
      subst z
      clear h0 hd
      rw [if_pos (by rfl)]
      go_simp
      exact unhide hK _ _ ⟨true, u1, u2, u3, u4, u5, u6, u7, false, false, s, rN, mN, v, ms, rfl, rfl, unhide H_kS, unhide H_b4, unhide H_b6, unhide H_b7, (fun h => nomatch h), unhide H_c4, unhide H_c5, unhide H_c6, unhide H_c7, (fun h => nomatch h), (fun h => nomatch h)⟩
    · intro h0 hd K hK
      have z : u1 = false := h0
      have z9_ : u9 = false := by
        cases hu : u9 with
        | false => rfl
        | true => exact nomatch z.symm.trans ((kF hu).2.1)
      have z8_ : u8 = false := by
        cases hu : u8 with
        | false => rfl
        | true => exact nomatch z.symm.trans ((c8 hu).2.1)
      have H_kS := hide kS
      have H_b4 := hide b4
      have H_b6 := hide b6
      have H_b7 := hide b7
      have H_kZ := hide kZ
      have H_c4 := hide c4
      have H_c5 := hide c5
      have H_c6 := hide c6
      have H_c7 := hide c7
      have H_c8 := hide c8
      have H_kF := hide kF
      clear kS b4 b6 b7 kZ c4 c5 c6 c7 c8 kF
      subst z9_
      subst z8_
      subst z
      clear h0 hd
      rw [if_pos (by rfl)]
      have v1 := (unhide H2).mv (unhide H_kS rfl).2 hb2
      have q0 := v1.cell (m := 0) rfl
      have q1 := v1.cell (m := 1) rfl
      have q2 := v1.cell (m := 2) rfl
      clear v1
      go_simp
      exact unhide hK _ _ ⟨u0, true, u2, u3, u4, u5, u6, u7, false, false, s, rN, mN, v, ms, rfl, rfl, unhide H_kS, unhide H_b4, unhide H_b6, unhide H_b7, (fun h => nomatch h), unhide H_c4, unhide H_c5, unhide H_c6, unhide H_c7, (fun h => nomatch h), (fun h => nomatch h)⟩
    · intro h0 hd K hK
      have z : u2 = false := h0
      have z9_ : u9 = false := by
        cases hu : u9 with
        | false => rfl
        | true => exact nomatch z.symm.trans ((kF hu).2.2.1)
      have z8_ : u8 = false := by
        cases hu : u8 with
        | false => rfl
        | true => exact nomatch z.symm.trans ((c6 (c7 (c8 hu).2.2)).1)
      have H_kS := hide kS
      have H_b4 := hide b4
      have H_b6 := hide b6
      have H_b7 := hide b7
      have H_kZ := hide kZ
      have H_c4 := hide c4
      have H_c5 := hide c5
      have H_c6 := hide c6
      have H_c7 := hide c7
      have H_c8 := hide c8
      have H_kF := hide kF
      clear kS b4 b6 b7 kZ c4 c5 c6 c7 c8 kF
      subst z9_
      subst z8_
      subst z
      clear h0 hd
      rw [if_pos (by rfl)]
      go_simp
      exact unhide hK _ _ ⟨u0, u1, true, u3, u4, u5, u6, u7, false, false, s, rN, mN, v, ms, rfl, rfl, unhide H_kS, unhide H_b4, unhide H_b6, unhide H_b7, (fun h => nomatch h), unhide H_c4, unhide H_c5, (fun h => ⟨rfl, (unhide H_c6 h).2⟩), unhide H_c7, (fun h => nomatch h), (fun h => nomatch h)⟩
    · intro h0 hd K hK
      have z : u3 = false := h0
      have z9_ : u9 = false := by
        cases hu : u9 with
        | false => rfl
        | true => exact nomatch z.symm.trans ((kF hu).2.2.2.1)
      have z8_ : u8 = false := by
        cases hu : u8 with
        | false => rfl
        | true => exact nomatch z.symm.trans ((c4 (c5 (c6 (c7 (c8 hu).2.2)).2)))
      have H_kS := hide kS
      have H_b4 := hide b4
      have H_b6 := hide b6
      have H_b7 := hide b7
      have H_kZ := hide kZ
      have H_c4 := hide c4
      have H_c5 := hide c5
      have H_c6 := hide c6
      have H_c7 := hide c7
      have H_c8 := hide c8
      have H_kF := hide kF
      clear kS b4 b6 b7 kZ c4 c5 c6 c7 c8 kF
      subst z9_
      subst z8_
      subst z
      clear h0 hd
      rw [if_pos (by rfl)]
      go_simp
      exact unhide hK _ _ ⟨u0, u1, u2, true, u4, u5, u6, u7, false, false, s, rN, mN, v, ms, rfl, rfl, unhide H_kS, unhide H_b4, unhide H_b6, unhide H_b7, (fun h => nomatch h), (fun h => rfl), unhide H_c5, unhide H_c6, unhide H_c7, (fun h => nomatch h), (fun h => nomatch h)⟩
    · intro h0 hd K hK
      have z : u4 = false := h0
      have z9_ : u9 = false := by
        cases hu : u9 with
        | false => rfl
        | true => exact nomatch z.symm.trans ((kF hu).2.2.2.2.1)
      have z5_ : u5 = false := by
        cases hu : u5 with
        | false => rfl
        | true => exact nomatch z.symm.trans ((c5 hu))
      have z6_ : u6 = false := by
        cases hu : u6 with
        | false => rfl
        | true => exact nomatch z.symm.trans ((c5 (c6 hu).2))
      have z7_ : u7 = false := by
        cases hu : u7 with
        | false => rfl
        | true => exact nomatch z.symm.trans ((c5 (c6 (c7 hu)).2))
      have z8_ : u8 = false := by
        cases hu : u8 with
        | false => rfl
        | true => exact nomatch z.symm.trans ((c5 (c6 (c7 (c8 hu).2.2)).2))
      have zd : u3 = true := by
        simp [Region.binds] at hd
        simp [hd]
      have H_kS := hide kS
      have H_b4 := hide b4
      have H_b6 := hide b6
      have H_b7 := hide b7
      have H_kZ := hide kZ
      have H_c4 := hide c4
      have H_c5 := hide c5
      have H_c6 := hide c6
      have H_c7 := hide c7
      have H_c8 := hide c8
      have H_kF := hide kF
      clear kS b4 b6 b7 kZ c4 c5 c6 c7 c8 kF
      obtain ⟨rfl⟩ := zd
      subst z9_
      subst z5_
      subst z6_
      subst z7_
      subst z8_
      subst z
      clear h0 hd
      rw [if_pos (by rfl)]
      have HSS := (unhide H_kS rfl).1
      go_simp
      refine (size_any 30 HSS (by omega) (by omega)).mono ?_
      rintro e w8 ⟨r, rfl, hr1, hr2, rfl⟩
      exact unhide hK _ _ ⟨u0, u1, u2, true, true, false, false, false, false, false, r, rN, mN, v, ms, rfl, rfl, unhide H_kS, (fun _ => ⟨hr1, hr2⟩), (fun h => nomatch h), unhide H_b7, (fun h => nomatch h), (fun _ => rfl), (fun h => nomatch h), (fun h => nomatch h), (fun h => nomatch h), (fun h => nomatch h), (fun h => nomatch h)⟩
    · intro h0 hd K hK
      have z : u5 = false := h0
      have z9_ : u9 = false := by
        cases hu : u9 with
        | false => rfl
        | true => exact nomatch z.symm.trans ((kF hu).2.2.2.2.2.1)
      have z6_ : u6 = false := by
        cases hu : u6 with
        | false => rfl
        | true => exact nomatch z.symm.trans ((c6 hu).2)
      have z7_ : u7 = false := by
        cases hu : u7 with
        | false => rfl
        | true => exact nomatch z.symm.trans ((c6 (c7 hu)).2)
      have z8_ : u8 = false := by
        cases hu : u8 with
        | false => rfl
        | true => exact nomatch z.symm.trans ((c6 (c7 (c8 hu).2.2)).2)
      have zd : u4 = true := by
        simp [Region.binds] at hd
        simp [hd]
      have H_kS := hide kS
      have H_b4 := hide b4
      have H_b6 := hide b6
      have H_b7 := hide b7
      have H_kZ := hide kZ
      have H_c4 := hide c4
      have H_c5 := hide c5
      have H_c6 := hide c6
      have H_c7 := hide c7
      have H_c8 := hide c8
      have H_kF := hide kF
      clear kS b4 b6 b7 kZ c4 c5 c6 c7 c8 kF
      obtain ⟨rfl⟩ := zd
      subst z9_
      subst z6_
      subst z7_
      subst z8_
      subst z
      clear h0 hd
      rw [if_pos (by rfl)]
      have hb := unhide H_b4 rfl
      have ww : IntKind.i64.wrap (s + 6) = s + 6 := wrap_i (by omega) (by omega)
      go_simp
      exact unhide hK _ _ ⟨u0, u1, u2, u3, true, true, false, false, false, false, s, rN, mN, v, ms, rfl, rfl, unhide H_kS, unhide H_b4, unhide H_b6, unhide H_b7, (fun h => nomatch h), unhide H_c4, (fun _ => rfl), (fun h => nomatch h), (fun h => nomatch h), (fun h => nomatch h), (fun h => nomatch h)⟩
    · intro h0 hd K hK
      have z : u6 = false := h0
      have z9_ : u9 = false := by
        cases hu : u9 with
        | false => rfl
        | true => exact nomatch z.symm.trans ((kF hu).2.2.2.2.2.2.1)
      have z7_ : u7 = false := by
        cases hu : u7 with
        | false => rfl
        | true => exact nomatch z.symm.trans ((c7 hu))
      have z8_ : u8 = false := by
        cases hu : u8 with
        | false => rfl
        | true => exact nomatch z.symm.trans ((c7 (c8 hu).2.2))
      have zd : u2 = true ∧ u5 = true := by
        simp [Region.binds] at hd
        simp [hd]
      have H_kS := hide kS
      have H_b4 := hide b4
      have H_b6 := hide b6
      have H_b7 := hide b7
      have H_kZ := hide kZ
      have H_c4 := hide c4
      have H_c5 := hide c5
      have H_c6 := hide c6
      have H_c7 := hide c7
      have H_c8 := hide c8
      have H_kF := hide kF
      clear kS b4 b6 b7 kZ c4 c5 c6 c7 c8 kF
      obtain ⟨rfl, rfl⟩ := zd
      subst z9_
      subst z7_
      subst z8_
      subst z
      clear h0 hd
      rw [if_pos (by rfl)]
      have hb := unhide H_b4 (unhide H_c5 rfl)
      have HSS := unhide H_kS rfl
      simp only [cond_false] at HSS
      go_simp
      refine (next_any (k := 0) (s + 6) HSS.1 (by omega) (by omega) (by omega)).mono ?_
      rintro e w8 ⟨r, rfl, hr1, hr2, hs, mv⟩
      obtain ⟨nN, rfl⟩ := Int.eq_ofNat_of_zero_le hr1
      exact unhide hK _ _ ⟨u0, u1, true, u3, u4, true, true, false, false, false, s, nN, mN, v, ms, rfl, rfl, (fun _ => ⟨by simpa using hs, HSS.2.trans mv⟩), unhide H_b4, (fun _ => hr2), (fun h => nomatch h), (fun h => nomatch h), unhide H_c4, unhide H_c5, (fun _ => ⟨rfl, rfl⟩), (fun h => nomatch h), (fun h => nomatch h), (fun h => nomatch h)⟩
    · intro h0 hd K hK
      have z : u7 = false := h0
      have z9_ : u9 = false := by
        cases hu : u9 with
        | false => rfl
        | true => exact nomatch z.symm.trans ((kF hu).2.2.2.2.2.2.2.1)
      have z8_ : u8 = false := by
        cases hu : u8 with
        | false => rfl
        | true => exact nomatch z.symm.trans ((c8 hu).2.2)
      have zd : u6 = true := by
        simp [Region.binds] at hd
        simp [hd]
      have H_kS := hide kS
      have H_b4 := hide b4
      have H_b6 := hide b6
      have H_b7 := hide b7
      have H_kZ := hide kZ
      have H_c4 := hide c4
      have H_c5 := hide c5
      have H_c6 := hide c6
      have H_c7 := hide c7
      have H_c8 := hide c8
      have H_kF := hide kF
      clear kS b4 b6 b7 kZ c4 c5 c6 c7 c8 kF
      obtain ⟨rfl⟩ := zd
      subst z9_
      subst z8_
      subst z
      clear h0 hd
      rw [if_pos (by rfl)]
      have hb := unhide H_b6 rfl
      have hb4 := unhide H_b4 (unhide H_c5 (unhide H_c6 rfl).2)
      obtain ⟨mm, hmm⟩ : ∃ mm : Nat, 2 + rN = mm := ⟨_, rfl⟩
      have ww : IntKind.i64.wrap (2 + (rN : Int)) = (mm : Int) := (wrap_i (by omega) (by omega)).trans (by omega)
      have HMM := hide hmm
      clear hmm
      go_simp
      exact unhide hK _ _ ⟨u0, u1, u2, u3, u4, u5, true, true, false, false, s, rN, mm, v, ms, rfl, rfl, unhide H_kS, unhide H_b4, unhide H_b6, (fun _ => (unhide HMM).symm), (fun h => nomatch h), unhide H_c4, unhide H_c5, unhide H_c6, (fun _ => rfl), (fun h => nomatch h), (fun h => nomatch h)⟩
    · intro h0 hd K hK
      have z : u8 = false := h0
      have z9_ : u9 = false := by
        cases hu : u9 with
        | false => rfl
        | true => exact nomatch z.symm.trans ((kF hu).2.2.2.2.2.2.2.2)
      have zd : u0 = true ∧ u1 = true ∧ u7 = true := by
        simp [Region.binds] at hd
        simp [hd]
      have H_kS := hide kS
      have H_b4 := hide b4
      have H_b6 := hide b6
      have H_b7 := hide b7
      have H_kZ := hide kZ
      have H_c4 := hide c4
      have H_c5 := hide c5
      have H_c6 := hide c6
      have H_c7 := hide c7
      have H_c8 := hide c8
      have H_kF := hide kF
      clear kS b4 b6 b7 kZ c4 c5 c6 c7 c8 kF
      obtain ⟨rfl, rfl, rfl⟩ := zd
      subst z9_
      subst z
      clear h0 hd
      rw [if_pos (by rfl)]
      have hb7 := unhide H_b7 rfl
      have hb6 := unhide H_b6 (unhide H_c7 rfl)
      have hb4 := unhide H_b4 (unhide H_c5 (unhide H_c6 (unhide H_c7 rfl)).2)
      have HSS := unhide H_kS rfl
      have hmb : mN ≤ 100 := by omega
      have HS8 := hide HSS
      clear HSS hb7
      go_simp
      refine (moves_any (k := (bif u6 then 3 else 0)) Wd Hd n c u mN hmb hW1 hW hH1 hH (unhide HS8).1 (by cases u6 <;> simp)).mono ?_
      rintro e w8 ⟨v', ms', rfl, ho, hl, hnn, hs, mv⟩
      exact unhide hK _ _ ⟨true, true, u2, u3, u4, u5, u6, true, true, false, s, rN, mN, v', ms', rfl, rfl, (fun h => nomatch h), unhide H_b4, unhide H_b6, unhide H_b7, (fun _ => ⟨own_mono' ho (unhide HS8).2.size, hl, hnn, (unhide HS8).2.trans mv⟩), unhide H_c4, unhide H_c5, unhide H_c6, unhide H_c7, (fun _ => ⟨rfl, rfl, rfl⟩), (fun h => nomatch h)⟩
    · intro h0 hd K hK
      have z : u9 = false := h0
      have zd : u8 = true ∧ u0 = true ∧ u1 = true ∧ u2 = true ∧ u3 = true ∧ u4 = true ∧ u5 = true ∧ u6 = true ∧ u7 = true := by
        simp [Region.binds] at hd
        simp_all
      have H_kS := hide kS
      have H_b4 := hide b4
      have H_b6 := hide b6
      have H_b7 := hide b7
      have H_kZ := hide kZ
      have H_c4 := hide c4
      have H_c5 := hide c5
      have H_c6 := hide c6
      have H_c7 := hide c7
      have H_c8 := hide c8
      have H_kF := hide kF
      clear kS b4 b6 b7 kZ c4 c5 c6 c7 c8 kF
      obtain ⟨rfl, rfl, rfl, rfl, rfl, rfl, rfl, rfl, rfl⟩ := zd
      subst z
      clear h0 hd
      rw [if_pos (by rfl)]
      go_simp
      exact unhide hK _ _ ⟨true, true, true, true, true, true, true, true, true, true, s, rN, mN, v, ms, rfl, rfl, unhide H_kS, unhide H_b4, unhide H_b6, unhide H_b7, unhide H_kZ, (fun _ => rfl), (fun _ => rfl), (fun _ => ⟨rfl, rfl⟩), (fun _ => rfl), (fun _ => ⟨rfl, rfl, rfl⟩), (fun _ => ⟨rfl, rfl, rfl, rfl, rfl, rfl, rfl, rfl, rfl⟩)⟩
  case hend =>
    rintro Lb A W ⟨u0, u1, u2, u3, u4, u5, u6, u7, u8, u9, s, rN, mN, v, ms, rfl, rfl, kS, b4, b6, b7, kZ, c4, c5, c6, c7, c8, kF⟩ hL
    have hl : u0 = true ∧ u1 = true ∧ u2 = true ∧ u3 = true ∧ u4 = true ∧ u5 = true ∧ u6 = true ∧ u7 = true ∧ u8 = true ∧ u9 = true := by
      have h2 := congrArg Array.toList hL
      simpa [List.replicate] using h2
    obtain ⟨rfl, rfl, rfl, rfl, rfl, rfl, rfl, rfl, rfl, rfl⟩ := hl
    skip
    exact unhide HQ _ _ _ _ _ _ _ _ _ v ms mN W (kZ rfl).1 (kZ rfl).2.1 (by have := b7 rfl; have := b6 rfl; have := b4 rfl; omega) (kZ rfl).2.2.1 (kZ rfl).2.2.2

theorem own_mvs {X : World} {B m : Nat} {v : Value} {ms : List Mve} (h : X.ownsRow B 36 4 v m (flat4 ms)) (hn : v ≠ .slice none 0 0) : ∃ q cap, v = .slice (some ⟨q, 0, none⟩) m cap ∧ B ≤ q ∧ m ≤ cap ∧ cap ≤ 9223372036854775807 ∧ Mvs X (some ⟨q, 0, none⟩) q 0 ms := by
  have hx := h
  rcases h.2 with ⟨h1, _⟩ | ⟨q, cap, cur, rfl, hB, hh, h3, h4, _⟩
  · exact absurd h1 hn
  · refine ⟨q, cap, rfl, hB, h3, by unfold maxLen at h4; omega, fun _ => ⟨rfl, (Array.getElem?_eq_some_iff.1 hh).1, fun i l hi => ?_⟩⟩
    have hc := hx.cells (g := q) rfl
    obtain ⟨f0, f1, f2, f3⟩ := flat4_at hi
    have c0 := hc _ _ f0
    have c1 := hc _ _ f1
    have c2 := hc _ _ f2
    have c3 := hc _ _ f3
    simp only [add_none, Nat.zero_add] at c0 c1 c2 c3
    simp only [Nat.zero_add]
    exact ⟨c0, c1, c2, c3⟩
set_option maxHeartbeats 1000000 in
set_option maxRecDepth 100000 in
theorem movesOf_any (Wd Hd n c : Nat) (u a : Option Addr) (len cap : Nat) (zs : List Int) (w : World) (hW1 : 1 ≤ Wd) (hW : Wd ≤ 24) (hH1 : 1 ≤ Hd) (hH : Hd ≤ 24) (hc : ∀ X, Below w.heap.size w X → Code X.heap.size X a len cap zs) (hl : len ≤ 9223372036854775807) :
    Calls Try.prog 10 #[.agg #[.int .i64 (Wd : Int), .int .i64 (Hd : Int), .slice u n c], .slice a len cap] w fun e w' => (∃ q cq ms m, e = .returned (.slice (some ⟨q, 0, none⟩) m cq) ∧ w.heap.size ≤ q ∧ m ≤ cq ∧ cq ≤ 9223372036854775807 ∧ Mvs w' (some ⟨q, 0, none⟩) q 0 ms ∧ ms.length = m ∧ 2 ≤ m ∧ m ≤ 100) ∧ Below w.heap.size w w' := by
  have HB0 := hide (ba (Below.refl w.heap.size w) (.cells #[.int .i64 (Wd : Int), .int .i64 (Hd : Int), .slice u n c] 25))
  have HV := hide (vb_new w 25 [.int .i64 (Wd : Int), .int .i64 (Hd : Int), .slice u n c] w.heap.size rfl)
  have HSO : Hid (∀ X, Below w.heap.size w X → Calls Try.prog 33 #[.slice a len cap] X fun e w' => e = .returned (.pointer (some ⟨X.heap.size, 0, none⟩)) ∧ Below X.heap.size X w' ∧ So X.heap.size X.heap.size 0 w') := hide (fun X hX => source_any a len cap zs X (hc X hX) hl)
  clear hc
  go_enter Try.func10, Try.ntmps10
  go_wp2_with fail
  refine (unhide HSO _ (unhide HB0)).mono ?_
  rintro e W1 ⟨rfl, hb1, hs1⟩
  have HV1 := hide ((unhide HV).bel hb1)
  have HB1 := hide (bc (unhide HB0) hb1)
  have HS1 := hide hs1
  have hlt := (unhide HV).lt
  have hge := (unhide HB0).size
  clear hb1 hs1
  generalize (w.alloc (.cells #[.int .i64 (Wd : Int), .int .i64 (Hd : Int), .slice u n c] 25)).heap.size = gS at *
  go_wp2_with fail
  refine Go.Code.wp_mono (Only.to (fun _ _ h => h)) (mo2 (by omega) hW1 hW hH1 hH HS1 HV1 (fun y8 y9 y10 y11 y12 y13 y14 y15 y16 v ms m W2 ho hml hm hnn hmv => ?_))
  obtain ⟨q, cq, rfl, hq, h1, h2, h3⟩ := own_mvs ho hnn
  have HE := hide h3
  have HBN : Hid (Below w.heap.size w W2) := hide ((unhide HB1).trans (Mv.bel (Below.refl _ _) hmv (by omega) (unhide HB1).size))
  have hsz := (unhide HB1).size
  clear ho hnn hmv h3
  go_wp2_with fail
  go_ret
  exact ⟨⟨q, cq, ms, m, rfl, by omega, h1, h2, unhide HE, hml, hm.1, hm.2⟩, unhide HBN⟩
end Go.Proofs.Ytbjljofgpbecbaa
