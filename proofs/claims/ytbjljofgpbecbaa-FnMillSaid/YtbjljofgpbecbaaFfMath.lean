/-
  Floors and millings in lists: a floor is no lower than the part, and its own floor; no milling leaves less than the floor.
-/
import Derived.Test.YtbjljofgpbecbaaMilMath
namespace Go.Proofs.Ytbjljofgpbecbaa
set_option linter.unusedVariables false
set_option linter.unusedSimpArgs false

theorem xy_of {W H i : Nat} (hi : i < W * H) : i % W < W ∧ i / W < H ∧ i / W * W + i % W = i := by
  have hW : 0 < W := by
    rcases Nat.eq_zero_or_pos W with h | h
    · subst h; simp at hi
    · exact h
  exact ⟨Nat.mod_lt _ hW, Nat.div_lt_of_lt_mul hi, by rw [Nat.mul_comm]; exact Nat.div_add_mod i W⟩
theorem pos_of {W H i : Nat} (hi : i < W * H) : 0 < H := by
  rcases Nat.eq_zero_or_pos H with h | h
  · subst h; simp at hi
  · exact h
theorem sym_of {W H r i j : Nat} (hr : r ≤ 3) (hi : i < W * H) (hj : j < W * H) : i ∈ cols W H r (j % W) (j / W) ↔ j ∈ cols W H r (i % W) (i / W) := by
  obtain ⟨a1, a2, a3⟩ := xy_of hi
  obtain ⟨b1, b2, b3⟩ := xy_of hj
  have := cols_sym (r := r) hr b1 b2 a1 a2
  rw [a3, b3] at this
  exact this
theorem low_tp {W H r : Nat} {T : List Int} {j : Nat} (hj : j < W * H) : tp (lowL W H r T) j = hi T (cols W H r (j % W) (j / W)) := byL_tp _ _ hj
theorem fl_tp {W H r : Nat} {T : List Int} {j : Nat} (hj : j < W * H) : tp (flL W H r T) j = lo (lowL W H r T) (cols W H r (j % W) (j / W)) := byL_tp _ _ hj
theorem flL_len' (W H r : Nat) (T : List Int) : (flL W H r T).length = W * H := byL_len _ _ _
/-- a floor is no higher than the lowest place of any place that takes of it -/
theorem fl_le {W H r : Nat} {T : List Int} (hr : r ≤ 3) {i j : Nat} (hi0 : i < W * H) (hj : j < W * H) (h : i ∈ cols W H r (j % W) (j / W)) : tp (flL W H r T) i ≤ hi T (cols W H r (j % W) (j / W)) := by
  rw [fl_tp hi0, ← low_tp hj]
  exact lo_mem ((sym_of hr hi0 hj).1 h)
theorem fl_ge {W H r : Nat} {T : List Int} (hr : r ≤ 3) (hT : ∀ i, 0 ≤ tp T i ∧ tp T i ≤ 24) {i : Nat} (hi : i < W * H) : tp T i ≤ tp (flL W H r T) i := by
  rw [fl_tp hi, lo_ge]
  refine ⟨(hT i).2, fun j hj => ?_⟩
  have hjl := cols_lt hr (pos_of hi) hj
  rw [low_tp hjl]
  exact hi_mem ((sym_of hr hi hjl).2 hj)
theorem fl_bd {W H r : Nat} {T : List Int} (hr : r ≤ 3) (hT : ∀ i, 0 ≤ tp T i ∧ tp T i ≤ 24) (i : Nat) : 0 ≤ tp (flL W H r T) i ∧ tp (flL W H r T) i ≤ 24 := by
  by_cases hi : i < W * H
  · refine ⟨Int.le_trans (hT i).1 (fl_ge hr hT hi), ?_⟩
    rw [fl_tp hi]
    exact lo_le _ _
  · unfold tp
    rw [List.getD_eq_getElem?_getD, List.getElem?_eq_none (by rw [flL_len']; omega)]
    simp
theorem fl_ok {W H r : Nat} {T : List Int} (hr : r ≤ 3) (h : FOk (W : Int) (H : Int) T) : FOk (W : Int) (H : Int) (flL W H r T) := by
  refine ⟨h.w1, h.w2, h.h1, h.h2, by rw [flL_len']; simp, ?_⟩
  rw [List.all_eq_true]
  intro x hx
  obtain ⟨i, hi, rfl⟩ := List.getElem_of_mem hx
  have := fl_bd (W := W) (H := H) hr h.tops_tp i
  rw [tp_of (List.getElem?_eq_getElem hi)] at this
  exact topOk_iff.2 this
theorem low_fl {W H r : Nat} {T : List Int} (hr : r ≤ 3) (hT : ∀ i, 0 ≤ tp T i ∧ tp T i ≤ 24) : lowL W H r (flL W H r T) = lowL W H r T := by
  refine list_ext (by unfold lowL; rw [byL_len, byL_len]) fun j hj => ?_
  have hj' : j < W * H := by unfold lowL at hj; rwa [byL_len] at hj
  rw [low_tp hj', low_tp hj']
  refine Int.le_antisymm ?_ ?_
  · rw [hi_le]
    refine ⟨hi_nn _ _, fun i hi => ?_⟩
    exact fl_le hr (cols_lt hr (pos_of hj') hi) hj' hi
  · rw [hi_le]
    refine ⟨hi_nn _ _, fun i hi => ?_⟩
    exact Int.le_trans (fl_ge hr hT (cols_lt hr (pos_of hj') hi)) (hi_mem hi)
theorem fl_fl {W H r : Nat} {T : List Int} (hr : r ≤ 3) (hT : ∀ i, 0 ≤ tp T i ∧ tp T i ≤ 24) : flL W H r (flL W H r T) = flL W H r T := by
  show byL (fun x y => lo (lowL W H r (flL W H r T)) (cols W H r x y)) W (W * H) = _
  rw [low_fl hr hT]
  rfl
theorem fl_zero {W H : Nat} {T : List Int} (hl : T.length = W * H) (hT : ∀ i, 0 ≤ tp T i ∧ tp T i ≤ 24) : flL W H 0 T = T := by
  refine list_ext (by rw [flL_len', hl]) fun i hi => ?_
  rw [flL_len'] at hi
  obtain ⟨a1, a2, a3⟩ := xy_of hi
  have hl0 : tp (lowL W H 0 T) i = tp T i := by
    rw [low_tp hi]
    refine Int.le_antisymm ?_ ?_
    · rw [hi_le]
      refine ⟨(hT i).1, fun j hj => ?_⟩
      rw [(cols_tool0 a1 a2).1 hj, a3]
      exact Int.le_refl _
    · exact hi_mem ((cols_tool0 a1 a2).2 a3.symm)
  rw [fl_tp hi]
  refine Int.le_antisymm ?_ ?_
  · rw [← hl0]
    exact lo_mem ((cols_tool0 a1 a2).2 a3.symm)
  · rw [lo_ge]
    refine ⟨(hT i).2, fun j hj => ?_⟩
    rw [(cols_tool0 a1 a2).1 hj, a3, hl0]
    exact Int.le_refl _
/-- what is left of a column -/
theorem take1_tp {z : Int} {s : Ml} {c : Nat} (hc : c < s.T.length) (i : Nat) : tp (take1 z s c).T i = if c = i then min (tp s.T i) z else tp s.T i := by
  unfold take1
  by_cases h : tp s.T c > z
  · rw [if_pos h]
    show tp (s.T.set c z) i = _
    rw [tp_set hc]
    by_cases e : c = i
    · subst e; rw [if_pos rfl, if_pos rfl]; omega
    · rw [if_neg e, if_neg e]
  · rw [if_neg h]
    by_cases e : c = i
    · subst e; rw [if_pos rfl]; omega
    · rw [if_neg e]
theorem take1_len {z : Int} {s : Ml} {c : Nat} : (take1 z s c).T.length = s.T.length := by
  unfold take1
  split
  · simp
  · rfl
theorem takeC_tp {z : Int} : ∀ (cs : List Nat) (s : Ml), (∀ c ∈ cs, c < s.T.length) → ∀ i, tp (takeC z s cs).T i = if i ∈ cs then min (tp s.T i) z else tp s.T i := by
  intro cs
  induction cs with
  | nil => intro s _ i; simp [takeC]
  | cons c cs ih =>
    intro s h i
    show tp (takeC z (take1 z s c) cs).T i = _
    rw [ih (take1 z s c) (fun d hd => by rw [take1_len]; exact h d (by simp [hd])) i, take1_tp (h c (by simp)) i]
    by_cases e : c = i
    · subst e
      by_cases h2 : c ∈ cs <;> simp [h2]
    · have e' : ¬ i = c := fun h => e h.symm
      simp [e, e']
/-- a place leaves no column below a bound that no lowest place is below -/
theorem placeC_low {P : List Int} {cs : List Nat} {z : Int} {fast : Bool} {s : Ml} {F : Nat → Int} (hc : ∀ c ∈ cs, c < s.T.length) (hF : ∀ c ∈ cs, F c ≤ hi P cs) (hs : ∀ i, F i ≤ tp s.T i) (i : Nat) : F i ≤ tp (placeC P cs z fast s).2.T i := by
  unfold placeC
  split
  · exact hs i
  · rename_i hz
    split
    · split
      · exact hs i
      · rw [takeC_tp cs s hc i]
        split
        · rename_i hm
          have := hF i hm
          have := hs i
          omega
        · exact hs i
    · split
      · exact hs i
      · exact hs i
/-- a bound that no move goes below -/
def Bnd (P : List Int) (W H r : Nat) (F : Nat → Int) : Prop := ∀ j, j < W * H → ∀ c ∈ cols W H r (j % W) (j / W), F c ≤ hi P (cols W H r (j % W) (j / W))
theorem Bnd.at {P : List Int} {W H r : Nat} {F : Nat → Int} (h : Bnd P W H r F) {x y : Nat} (hx : x < W) (hy : y < H) : ∀ c ∈ cols W H r x y, F c ≤ hi P (cols W H r x y) := by
  have h1 := h (y * W + x) (by
    have : (y + 1) * W ≤ H * W := Nat.mul_le_mul_right W hy
    rw [Nat.add_mul, Nat.one_mul, Nat.mul_comm H W] at this
    omega)
  rw [(yx hx y).1, (yx hx y).2] at h1
  exact h1
theorem walkC_low {n : Nat} {P : List Int} {W H r : Nat} {fast : Bool} {fx fy fz tx ty tz : Int} {s : Ml} {F : Nat → Int} (hr : r ≤ 3) (hn : n = W * H) (hO : MOk n s) (hB : Bnd P W H r F) (hstr : str fx fy fz tx ty tz) (hf : inR W H fx fy fz) (ht : inR W H tx ty tz) (hs : ∀ i, F i ≤ tp s.T i) :
    ∀ k, k ≤ max (stN fx fy fz tx ty tz) 1 → ∀ i, F i ≤ tp (walkC P W H r fast fx fy fz tx ty tz s k).2.T i := by
  intro k
  induction k with
  | zero => intro _ i; exact hs i
  | succ k ih =>
    intro hk i
    have ih' := ih (by omega)
    rw [walkC]
    split
    · exact ih' i
    · have hx := (nth_lo hstr hk (by omega) (lo := 0) (hi' := (W : Int) - 1)).1 hf.1 ht.1
      have hy := (nth_lo hstr hk (by omega) (lo := 0) (hi' := (H : Int) - 1)).2.1 hf.2.1 ht.2.1
      have hx' : (nth fx tx (k + 1)).toNat < W := by omega
      have hy' : (nth fy ty (k + 1)).toNat < H := by omega
      have hok := (walkC_ok (P := P) (W := W) (H := H) (r := r) (fast := fast) hr (by omega) hn hO (fun j j1 j2 => ((nth_lo hstr j2 j1 (lo := 0) (hi' := 24)).2.2 hf.2.2 ht.2.2).1) k (by omega)).1
      exact placeC_low (fun c hc => by rw [hok.len, hn]; exact cols_lt hr (by omega) hc) (hB.at hx' hy') ih' i
theorem mlK_low {n : Nat} {P S : List Int} {W H r : Nat} {ms : List Mve} {F : Nat → Int} (hr : r ≤ 3) (hW1 : 1 ≤ W) (hW : W ≤ 24) (hH1 : 1 ≤ H) (hH : H ≤ 24) (hn : n = W * H) (hS : S.length = n) (hSt : ∀ i, 0 ≤ tp S i ∧ tp S i ≤ 24) (hB : Bnd P W H r F) (hF : ∀ i, F i ≤ tp S i) :
    ∀ k, mlGo P W H r S ms k → ∀ i, F i ≤ tp (mlK P W H r S ms k).2.T i := by
  intro k
  induction k with
  | zero => intro _ i; exact hF i
  | succ k ih =>
    intro hg i
    have h0 := ih (fun j hj => hg j (by omega))
    have ok := mlK_ok (ms := ms) hr hW1 hW hH1 hH hn hS hSt k (fun j hj => hg j (by omega))
    have hc := hg k (by omega)
    unfold mlC at hc
    rw [mlK]
    cases hm : ms[k]? with
    | none => exact h0 i
    | some m =>
      rw [hm] at hc
      simp only at hc ⊢
      obtain ⟨hw, _⟩ := mvC_zero hc
      obtain ⟨h1, h2⟩ := wyC_zero hw
      exact walkC_low hr hn ok.ok hB h2 ok.at' h1 h0 _ (Nat.le_refl _) i
/-- the floor, or the stock where it is lower, is such a bound -/
theorem fl_bnd {P S : List Int} {W H r : Nat} (hr : r ≤ 3) : Bnd P W H r (fun i => min (tp (flL W H r P) i) (tp S i)) := by
  intro j hj c hc
  have := fl_le (T := P) hr (cols_lt hr (pos_of hj) hc) hj hc
  show min _ _ ≤ _
  omega
theorem rsum_zero {A : List Int} : ∀ n, rsum A A n = 0 := by
  intro n
  induction n with
  | zero => rfl
  | succ n ih => simp only [rsum, ih]; omega
end Go.Proofs.Ytbjljofgpbecbaa
