/-
  Points that are measured as if they were a strip's: both ways are one.
-/
import Derived.Test.YtimkinpbimangaaBnMath
namespace Go.Proofs.Ytimkinpbimangaa
set_option linter.unusedSimpArgs false

def ptD (pts : List Pt) (i : Nat) : Pt := pts.getD i (0, 0)
/-- from a point to the next -/
def wv (pts : List Pt) (i : Nat) : Pt := sub (ptD pts (i + 1)) (ptD pts i)
/-- how far that is -/
def lnG (a : Pt) : Int := (a.1.natAbs : Int) + (a.2.natAbs : Int)
def mp (pts : List Pt) : List Int := (List.range (pts.length - 1)).map fun i => lnG (wv pts i)
def mb (pts : List Pt) : List Int := (List.range (pts.length - 2)).map fun i => sgn (acr (wv pts i) (wv pts (i + 1)))
theorem mp_len (pts : List Pt) : (mp pts).length = pts.length - 1 := by simp [mp]
theorem mb_len (pts : List Pt) : (mb pts).length = pts.length - 2 := by simp [mb]
def mpT (pts : List Pt) (n : Nat) : List Int := (List.range n).map fun i => lnG (wv pts i)
def mbT (pts : List Pt) (n : Nat) : List Int := (List.range n).map fun i => sgn (acr (wv pts i) (wv pts (i + 1)))
theorem mpT_succ (pts : List Pt) (n : Nat) : mpT pts (n + 1) = mpT pts n ++ [lnG (wv pts n)] := by simp [mpT, List.range_succ]
theorem mbT_succ (pts : List Pt) (n : Nat) : mbT pts (n + 1) = mbT pts n ++ [sgn (acr (wv pts n) (wv pts (n + 1)))] := by simp [mbT, List.range_succ]
theorem mpT_len (pts : List Pt) (n : Nat) : (mpT pts n).length = n := by simp [mpT]
theorem mbT_len (pts : List Pt) (n : Nat) : (mbT pts n).length = n := by simp [mbT]
/-- the points are just that strip's -/
def ftOk (pts : List Pt) : Bool := decide ((bnK (mp pts) (mb pts)).1 = 0 ∧ bnL (mp pts) (mb pts) = pts)
def ftK (pts : List Pt) : Int := if 4096 < pts.length then 2 else if pts.length < 2 ∨ (pts.all ptOk) = false then 1 else if ftOk pts = true then 0 else 1
def ftP (pts : List Pt) : List Int := if ftK pts = 0 then mp pts else []
def ftB (pts : List Pt) : List Int := if ftK pts = 0 then mb pts else []
theorem ft_long {pts : List Pt} (h : 4096 < pts.length) : ftK pts = 2 ∧ ftP pts = [] ∧ ftB pts = [] := by
  have e : ftK pts = 2 := by unfold ftK; rw [if_pos h]
  exact ⟨e, by unfold ftP; rw [e]; rfl, by unfold ftB; rw [e]; rfl⟩
theorem ft_one {pts : List Pt} (e : ftK pts = 1) : ftK pts = 1 ∧ ftP pts = [] ∧ ftB pts = [] := ⟨e, by unfold ftP; rw [e]; rfl, by unfold ftB; rw [e]; rfl⟩
theorem ft_bad {pts : List Pt} (h : ¬ 4096 < pts.length) (hb : pts.length < 2 ∨ (pts.all ptOk) = false) : ftK pts = 1 ∧ ftP pts = [] ∧ ftB pts = [] := ft_one (by unfold ftK; rw [if_neg h, if_pos hb])
theorem ft_no {pts : List Pt} (h : ¬ 4096 < pts.length) (hb : ftOk pts = false) : ftK pts = 1 ∧ ftP pts = [] ∧ ftB pts = [] := ft_one (by unfold ftK; rw [if_neg h]; split; rfl; rw [hb]; rfl)
theorem ft_yes {pts : List Pt} (h : ¬ 4096 < pts.length) (h2 : ¬ pts.length < 2) (ha : pts.all ptOk = true) (hb : ftOk pts = true) : ftK pts = 0 ∧ ftP pts = mp pts ∧ ftB pts = mb pts := by
  have e : ftK pts = 0 := by unfold ftK; rw [if_neg h, if_neg (by rw [ha]; simp; omega), if_pos hb]
  exact ⟨e, by unfold ftP; rw [if_pos e], by unfold ftB; rw [if_pos e]⟩
/-- a step that no panel makes -/
def dgn (a : Pt) : Prop := (a.1 = 0 ∧ a.2 = 0) ∨ (a.1 ≠ 0 ∧ a.2 ≠ 0)
theorem ft_parts {pts : List Pt} (h2 : 2 ≤ pts.length) (h : ftOk pts = true) : stp (mp pts) (mb pts) = true ∧ cns (mp pts) (mb pts) pts.length = pts := by
  unfold ftOk at h
  rw [decide_eq_true_iff] at h
  obtain ⟨hk, hl⟩ := h
  by_cases hL : 4096 < (mp pts).length ∨ 4096 < (mb pts).length
  · rw [(bn_long hL).1] at hk; cases hk
  · cases hs : stp (mp pts) (mb pts) with
    | false => rw [(bn_bad hL hs).1] at hk; cases hk
    | true =>
      cases hf : fstB (mp pts) (mb pts) (mp pts).length with
      | some i => rw [(bn_meet hL hs hf).1] at hk; cases hk
      | none =>
        rw [(bn_good hL hs hf).2, mp_len, show pts.length - 1 + 1 = pts.length by omega] at hl
        exact ⟨rfl, hl⟩
theorem ft_le {pts : List Pt} (h2 : 2 ≤ pts.length) (h : ftOk pts = true) : pts.length ≤ 41 := by
  have := (stp_parts (ft_parts h2 h).1).1
  rw [mp_len] at this
  omega
theorem ft_ndgn {pts : List Pt} (h2 : 2 ≤ pts.length) (h : ftOk pts = true) {i : Nat} (hi : i + 1 < pts.length) : ¬ dgn (wv pts i) := by
  obtain ⟨hs, hc⟩ := ft_parts h2 h
  obtain ⟨_, _, hp, hb⟩ := stp_parts hs
  have e1 : ptD pts i = cn (mp pts) (mb pts) i := by
    unfold ptD
    rw [List.getD_eq_getElem?_getD]
    conv => lhs; rw [← hc]
    rw [cns_at _ _ (by omega)]
    rfl
  have e2 : ptD pts (i + 1) = cn (mp pts) (mb pts) (i + 1) := by
    unfold ptD
    rw [List.getD_eq_getElem?_getD]
    conv => lhs; rw [← hc]
    rw [cns_at _ _ hi]
    rfl
  have hg : 1 ≤ (mp pts).getD i 0 := by
    have hl : i < (mp pts).length := by rw [mp_len]; omega
    rw [List.getD_eq_getElem?_getD, List.getElem?_eq_getElem hl]
    exact (hp _ (List.getElem_mem _)).1
  unfold wv
  rw [e1, e2]
  have hu := wy_uw hb i
  have ex : (cn (mp pts) (mb pts) (i + 1)) = ((cn (mp pts) (mb pts) i).1 + (wy (mb pts) i).1 * (mp pts).getD i 0, (cn (mp pts) (mb pts) i).2 + (wy (mb pts) i).2 * (mp pts).getD i 0) := rfl
  rw [ex]
  generalize (mp pts).getD i 0 = l at *
  generalize cn (mp pts) (mb pts) i = c at *
  unfold dgn sub
  simp only
  rcases hu with e | e | e | e <;> rw [e] <;> simp only <;> omega
theorem sgn_div {u : Int} (h : u ≠ 0) : u.tdiv (u.natAbs : Int) = sgn u := by
  rcases Int.lt_or_gt_of_ne h with hn | hp
  · rw [sgn_neg hn]
    have e : u = -(u.natAbs : Int) := by omega
    conv => lhs; arg 1; rw [e]
    rw [Int.neg_tdiv, Int.tdiv_self (by omega)]
  · rw [sgn_pos hp]
    have e : u = (u.natAbs : Int) := by omega
    conv => lhs; arg 1; rw [e]
    exact Int.tdiv_self (by omega)
/-- the step's way -/
def un (a : Pt) : Pt := (sgn a.1, sgn a.2)
theorem un_div {a : Pt} (h : ¬ dgn a) : a.1.tdiv (lnG a) = (un a).1 ∧ a.2.tdiv (lnG a) = (un a).2 := by
  unfold dgn at h
  unfold lnG un
  by_cases h1 : a.1 = 0
  · have h2 : a.2 ≠ 0 := by omega
    rw [h1]
    simp only [Int.natAbs_zero]
    rw [show ((0 : Nat) : Int) + (a.2.natAbs : Int) = (a.2.natAbs : Int) by omega, sgn_div h2]
    exact ⟨by rw [Int.zero_tdiv]; rfl, rfl⟩
  · have h2 : a.2 = 0 := by omega
    rw [h2]
    simp only [Int.natAbs_zero]
    rw [show (a.1.natAbs : Int) + ((0 : Nat) : Int) = (a.1.natAbs : Int) by omega, sgn_div h1]
    exact ⟨rfl, by rw [Int.zero_tdiv]; rfl⟩
theorem sgn_of (n : Int) : (sgn n = 1 ∧ 0 < n) ∨ (sgn n = -1 ∧ n < 0) ∨ (sgn n = 0 ∧ n = 0) := by
  unfold sgn
  split
  · exact Or.inl ⟨rfl, by assumption⟩
  · split
    · exact Or.inr (Or.inl ⟨rfl, by assumption⟩)
    · exact Or.inr (Or.inr ⟨rfl, by omega⟩)
theorem un_acr {a b : Pt} (ha : ¬ dgn a) (hb : ¬ dgn b) : (un a).1 * (un b).2 - (un a).2 * (un b).1 = sgn (acr a b) := by
  obtain ⟨a1, a2⟩ := a
  obtain ⟨b1, b2⟩ := b
  unfold dgn at ha hb
  unfold un acr
  simp only at *
  by_cases h1 : a1 = 0
  · subst h1
    by_cases h2 : b1 = 0
    · subst h2; simp [sgn_zero]
    · have h3 : b2 = 0 := by omega
      subst h3
      rw [sgn_zero]
      simp only [Int.zero_mul, Int.mul_zero, Int.zero_sub]
      rcases sgn_of a2 with ⟨ea, pa⟩ | ⟨ea, pa⟩ | ⟨ea, pa⟩ <;> rcases sgn_of b1 with ⟨eb, pb⟩ | ⟨eb, pb⟩ | ⟨eb, pb⟩ <;> rw [ea, eb]
      · rw [sgn_neg (by have := Int.mul_pos pa pb; omega)]; rfl
      · rw [sgn_pos (by have := Int.mul_neg_of_pos_of_neg pa pb; omega)]; rfl
      · omega
      · rw [sgn_pos (by have := Int.mul_neg_of_neg_of_pos pa pb; omega)]; rfl
      · rw [sgn_neg (by have := Int.mul_pos_of_neg_of_neg pa pb; omega)]; rfl
      · omega
      · omega
      · omega
      · omega
  · have h3 : a2 = 0 := by omega
    subst h3
    by_cases h2 : b1 = 0
    · subst h2
      rw [sgn_zero]
      simp only [Int.zero_mul, Int.mul_zero, Int.sub_zero]
      rcases sgn_of a1 with ⟨ea, pa⟩ | ⟨ea, pa⟩ | ⟨ea, pa⟩ <;> rcases sgn_of b2 with ⟨eb, pb⟩ | ⟨eb, pb⟩ | ⟨eb, pb⟩ <;> rw [ea, eb]
      · rw [sgn_pos (Int.mul_pos pa pb)]; rfl
      · rw [sgn_neg (Int.mul_neg_of_pos_of_neg pa pb)]; rfl
      · omega
      · rw [sgn_neg (Int.mul_neg_of_neg_of_pos pa pb)]; rfl
      · rw [sgn_pos (Int.mul_pos_of_neg_of_neg pa pb)]; rfl
      · omega
      · omega
      · omega
      · omega
    · have h4 : b2 = 0 := by omega
      subst h4
      simp [sgn_zero]
/-- numbers as points -/
theorem fl2_of : ∀ (n : Nat) (L : List Int), L.length = n * 2 → ∃ pts : List Pt, fl2 pts = L ∧ pts.length = n
  | 0, L, h => ⟨[], by simp [fl2, List.eq_nil_of_length_eq_zero (show L.length = 0 by omega)], rfl⟩
  | n + 1, [], h => absurd h (by simp)
  | n + 1, [_], h => absurd h (by simp; omega)
  | n + 1, a :: b :: L, h => by
    obtain ⟨pts, e, hl⟩ := fl2_of n L (by simp at h; omega)
    exact ⟨(a, b) :: pts, by rw [← e]; rfl, by simp [hl]⟩
theorem fl2_D {pts : List Pt} {i : Nat} (h : i < pts.length) : (fl2 pts)[i * 2]? = some (ptD pts i).1 ∧ (fl2 pts)[i * 2 + 1]? = some (ptD pts i).2 := by
  refine fl2_at ?_
  unfold ptD
  rw [List.getD_eq_getElem?_getD, List.getElem?_eq_getElem h]
  rfl
theorem ptD_ok {pts : List Pt} (h : pts.all ptOk = true) {i : Nat} (hi : i < pts.length) : ptOk (ptD pts i) = true := by
  unfold ptD
  rw [List.getD_eq_getElem?_getD, List.getElem?_eq_getElem hi]
  exact List.all_eq_true.1 h _ (List.getElem_mem _)
end Go.Proofs.Ytimkinpbimangaa
