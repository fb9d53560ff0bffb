/-
  Strips that are bent: their corners, and the first panel that meets one ahead of it.
-/
import Derived.Test.YtimkinpbimangaaCxMath
import Derived.Test.YtimkinpbimangaaWi
namespace Go.Proofs.Ytimkinpbimangaa

/-- how many spots two segments have in common: whichever comes first -/
theorem nos_comm (a b c d : Pt) : (cross c d a b).length = (cross a b c d).length := by
  unfold cross
  simp only
  have ew : acr (sub d c) (sub b a) = - acr (sub b a) (sub d c) := by simp only [acr, sub]; grind
  rw [side_u c a b, side_s c d a, side_u a c d, side_s a b c, ew]
  have el : along c d a b = along a b c d := by unfold along; rw [meet_comm]
  rw [el]
  generalize acr (sub b a) (sub d c) = w at *
  generalize side a b c = s at *
  generalize side c d a = u at *
  by_cases h0 : w = 0
  · rw [if_pos (by omega), if_pos h0]
    by_cases h : s ≠ 0 ∨ u ≠ 0
    · rw [if_pos h, if_pos (by omega)]
    · rw [if_neg h, if_neg (by omega)]
  · rw [if_neg (by omega), if_neg h0, sgn_negate]
    rcases Int.lt_or_gt_of_ne h0 with hn | hp
    · rw [sgn_neg hn]
      by_cases hc : (0 ≤ u * -1 ∧ u * -1 ≤ w * -1) ∧ (0 ≤ -s * -1 ∧ -s * -1 ≤ w * -1)
      · rw [if_pos hc, if_pos (by omega)]; rfl
      · rw [if_neg hc, if_neg (by omega)]
    · rw [sgn_pos hp]
      by_cases hc : (0 ≤ u * 1 ∧ u * 1 ≤ w * 1) ∧ (0 ≤ -s * 1 ∧ -s * 1 ≤ w * 1)
      · rw [if_pos hc, if_pos (by omega)]; rfl
      · rw [if_neg hc, if_neg (by omega)]

/-- a way turned by a bend -/
def trn (v : Pt) (b : Int) : Pt := if b = 0 then v else (-b * v.2, b * v.1)
def wy (bs : List Int) : Nat → Pt
  | 0 => (1, 0)
  | i + 1 => trn (wy bs i) (bs.getD i 0)
def cn (ps bs : List Int) : Nat → Pt
  | 0 => (0, 0)
  | i + 1 => ((cn ps bs i).1 + (wy bs i).1 * ps.getD i 0, (cn ps bs i).2 + (wy bs i).2 * ps.getD i 0)
/-- one of the four ways -/
def Uw (v : Pt) : Prop := v = (1, 0) ∨ v = (0, 1) ∨ v = (-1, 0) ∨ v = (0, -1)
theorem trn_uw {v : Pt} {b : Int} (h : Uw v) (hb : -1 ≤ b ∧ b ≤ 1) : Uw (trn v b) := by
  unfold trn
  by_cases h0 : b = 0
  · rw [if_pos h0]; exact h
  · rw [if_neg h0]
    have hb2 : b = 1 ∨ b = -1 := by omega
    rcases hb2 with rfl | rfl <;> rcases h with rfl | rfl | rfl | rfl <;> simp [Uw]
theorem getD_in {L : List Int} {a b : Int} (h : ∀ x ∈ L, a ≤ x ∧ x ≤ b) (h0 : a ≤ 0 ∧ 0 ≤ b) (i : Nat) : a ≤ L.getD i 0 ∧ L.getD i 0 ≤ b := by
  rw [List.getD_eq_getElem?_getD]
  cases hx : L[i]? with
  | none => exact h0
  | some x => exact h x (List.mem_of_getElem? hx)
theorem wy_uw {bs : List Int} (h : ∀ x ∈ bs, -1 ≤ x ∧ x ≤ 1) : ∀ i, Uw (wy bs i)
  | 0 => Or.inl rfl
  | i + 1 => trn_uw (wy_uw h i) (getD_in h (by omega) i)
theorem uw_bd {v : Pt} (h : Uw v) : -1 ≤ v.1 ∧ v.1 ≤ 1 ∧ -1 ≤ v.2 ∧ v.2 ≤ 1 := by
  rcases h with rfl | rfl | rfl | rfl <;> simp
/-- a step along a way -/
theorem step_bd {v : Pt} (h : Uw v) {p : Int} (hp : 0 ≤ p ∧ p ≤ 1000) : (-1000 ≤ v.1 * p ∧ v.1 * p ≤ 1000) ∧ -1000 ≤ v.2 * p ∧ v.2 * p ≤ 1000 := by
  rcases h with rfl | rfl | rfl | rfl <;> simp <;> omega
theorem cn_bd {ps bs : List Int} (hp : ∀ x ∈ ps, 1 ≤ x ∧ x ≤ 1000) (hb : ∀ x ∈ bs, -1 ≤ x ∧ x ≤ 1) : ∀ i : Nat, (-(1000 * (i : Int)) ≤ (cn ps bs i).1 ∧ (cn ps bs i).1 ≤ 1000 * (i : Int)) ∧ -(1000 * (i : Int)) ≤ (cn ps bs i).2 ∧ (cn ps bs i).2 ≤ 1000 * (i : Int)
  | 0 => by simp [cn]
  | i + 1 => by
    have h1 := cn_bd hp hb i
    have hg := getD_in (a := 0) (b := 1000) (fun x hx => ⟨by have := hp x hx; omega, (hp x hx).2⟩) (by omega) i
    have h2 := step_bd (wy_uw hb i) hg
    have e1 : (cn ps bs (i + 1)).1 = (cn ps bs i).1 + (wy bs i).1 * ps.getD i 0 := rfl
    have e2 : (cn ps bs (i + 1)).2 = (cn ps bs i).2 + (wy bs i).2 * ps.getD i 0 := rfl
    rw [e1, e2]
    push_cast
    refine ⟨⟨by omega, by omega⟩, by omega, by omega⟩
theorem cn_ok {ps bs : List Int} (hp : ∀ x ∈ ps, 1 ≤ x ∧ x ≤ 1000) (hb : ∀ x ∈ bs, -1 ≤ x ∧ x ≤ 1) {i : Nat} (hi : i ≤ 41) : ptOk (cn ps bs i) = true := by
  have h := cn_bd hp hb i
  unfold ptOk
  rw [decide_eq_true_iff]
  refine ⟨by omega, by omega, by omega, by omega⟩
theorem along_up (p q r : Pt) (e1 : ltp q p = false) (e2 : ltp r q = false) (e3 : ltp p q = true) : (along p q q r).length ≤ 1 := by
  unfold along meet
  simp [e1, e2, e3]
theorem along_dn (p q r : Pt) (e1 : ltp q p = true) (e2 : ltp r q = true) (e3 : ltp q r = false) : (along p q q r).length ≤ 1 := by
  unfold along meet
  simp [e1, e2, e3]
/-- panels that follow one another have an end in common and nothing else -/
theorem next_one (p v : Pt) (a b l : Int) (hv : Uw v) (hb : -1 ≤ b ∧ b ≤ 1) (ha : 1 ≤ a) (hl : 1 ≤ l) :
    (cross p (p.1 + v.1 * a, p.2 + v.2 * a) (p.1 + v.1 * a, p.2 + v.2 * a) (p.1 + v.1 * a + (trn v b).1 * l, p.2 + v.2 * a + (trn v b).2 * l)).length ≤ 1 := by
  obtain ⟨x, y⟩ := p
  simp only
  by_cases h0 : b = 0
  · have et : trn v b = v := by unfold trn; rw [if_pos h0]
    rw [et]
    unfold cross
    simp only
    split
    · split
      · simp
      · rcases hv with rfl | rfl | rfl | rfl
        · have e1 : ltp (x + 1 * a, y + 0 * a) (x, y) = false := by simp only [ltp, decide_eq_false_iff_not]; omega
          have e2 : ltp (x + 1 * a + 1 * l, y + 0 * a + 0 * l) (x + 1 * a, y + 0 * a) = false := by simp only [ltp, decide_eq_false_iff_not]; omega
          have e3 : ltp (x, y) (x + 1 * a, y + 0 * a) = true := by simp only [ltp, decide_eq_true_eq]; omega
          exact along_up _ _ _ e1 e2 e3
        · have e1 : ltp (x + 0 * a, y + 1 * a) (x, y) = false := by simp only [ltp, decide_eq_false_iff_not]; omega
          have e2 : ltp (x + 0 * a + 0 * l, y + 1 * a + 1 * l) (x + 0 * a, y + 1 * a) = false := by simp only [ltp, decide_eq_false_iff_not]; omega
          have e3 : ltp (x, y) (x + 0 * a, y + 1 * a) = true := by simp only [ltp, decide_eq_true_eq]; omega
          exact along_up _ _ _ e1 e2 e3
        · have e1 : ltp (x + -1 * a, y + 0 * a) (x, y) = true := by simp only [ltp, decide_eq_true_eq]; omega
          have e2 : ltp (x + -1 * a + -1 * l, y + 0 * a + 0 * l) (x + -1 * a, y + 0 * a) = true := by simp only [ltp, decide_eq_true_eq]; omega
          have e3 : ltp (x + -1 * a, y + 0 * a) (x + -1 * a + -1 * l, y + 0 * a + 0 * l) = false := by simp only [ltp, decide_eq_false_iff_not]; omega
          exact along_dn _ _ _ e1 e2 e3
        · have e1 : ltp (x + 0 * a, y + -1 * a) (x, y) = true := by simp only [ltp, decide_eq_true_eq]; omega
          have e2 : ltp (x + 0 * a + 0 * l, y + -1 * a + -1 * l) (x + 0 * a, y + -1 * a) = true := by simp only [ltp, decide_eq_true_eq]; omega
          have e3 : ltp (x + 0 * a, y + -1 * a) (x + 0 * a + 0 * l, y + -1 * a + -1 * l) = false := by simp only [ltp, decide_eq_false_iff_not]; omega
          exact along_dn _ _ _ e1 e2 e3
    · split <;> simp
  · apply Nat.le_of_not_lt
    intro h
    have hz := (cross_two _ _ _ _ h).2
    have hm : 0 < a * l := Int.mul_pos (by omega) (by omega)
    have hb2 : b = 1 ∨ b = -1 := by omega
    unfold trn at hz
    rw [if_neg h0] at hz
    have hne : ∀ n : Int, sgn n = 0 → n = 0 := fun n hn => by
      unfold sgn at hn
      split at hn
      · cases hn
      · split at hn
        · cases hn
        · omega
    have hz := hne _ hz
    unfold side at hz
    simp only at hz
    have key : ∀ d : Int, (x + d - x) = d := fun d => by omega
    rcases hb2 with rfl | rfl <;> rcases hv with rfl | rfl | rfl | rfl <;> simp only at hz <;> grind
/-- points as one row of numbers -/
def fl2 (L : List Pt) : List Int := L.flatMap fun p => [p.1, p.2]
theorem fl2_len (L : List Pt) : (fl2 L).length = L.length * 2 := by
  induction L with
  | nil => rfl
  | cons p L ih =>
    have e : fl2 (p :: L) = p.1 :: p.2 :: fl2 L := rfl
    rw [e]
    simp only [List.length_cons, ih]
    omega
theorem fl2_app (A B : List Pt) : fl2 (A ++ B) = fl2 A ++ fl2 B := by simp [fl2]
theorem fl2_at {L : List Pt} {i : Nat} {p : Pt} (h : L[i]? = some p) : (fl2 L)[i * 2]? = some p.1 ∧ (fl2 L)[i * 2 + 1]? = some p.2 := by
  induction L generalizing i with
  | nil => cases h
  | cons q L ih =>
    have e : fl2 (q :: L) = q.1 :: q.2 :: fl2 L := rfl
    rw [e]
    cases i with
    | zero => simp at h; subst h; exact ⟨rfl, rfl⟩
    | succ i =>
      have h2 : L[i]? = some p := by simpa using h
      obtain ⟨a, b⟩ := ih h2
      rw [show (i + 1) * 2 = i * 2 + 2 by omega, show i * 2 + 2 + 1 = i * 2 + 1 + 2 by omega]
      exact ⟨by simpa using a, by simpa using b⟩
/-- the first corners -/
def cns (ps bs : List Int) (n : Nat) : List Pt := (List.range n).map (cn ps bs)
theorem cns_len (ps bs : List Int) (n : Nat) : (cns ps bs n).length = n := by simp [cns]
theorem cns_succ (ps bs : List Int) (n : Nat) : cns ps bs (n + 1) = cns ps bs n ++ [cn ps bs n] := by simp [cns, List.range_succ]
theorem cns_at (ps bs : List Int) {n i : Nat} (h : i < n) : (cns ps bs n)[i]? = some (cn ps bs i) := by simp [cns, h]
theorem fl2_cns_succ (ps bs : List Int) (n : Nat) : fl2 (cns ps bs (n + 1)) = fl2 (cns ps bs n) ++ [(cn ps bs n).1, (cn ps bs n).2] := by rw [cns_succ, fl2_app]; rfl
theorem fl2_cns_at (ps bs : List Int) {n i : Nat} (h : i < n) : (fl2 (cns ps bs n))[i * 2]? = some (cn ps bs i).1 ∧ (fl2 (cns ps bs n))[i * 2 + 1]? = some (cn ps bs i).2 := fl2_at (cns_at ps bs h)
/-- panel i has something in common with panel k -/
def hit (ps bs : List Int) (i k : Nat) : Bool := decide (0 < (cross (cn ps bs k) (cn ps bs (k + 1)) (cn ps bs i) (cn ps bs (i + 1))).length)
theorem hit_comm (ps bs : List Int) (i k : Nat) : hit ps bs i k = decide (0 < (cross (cn ps bs i) (cn ps bs (i + 1)) (cn ps bs k) (cn ps bs (k + 1))).length) := by unfold hit; rw [nos_comm]
/-- panel i meets one ahead of it -/
def meetsB (ps bs : List Int) (i : Nat) : Bool := (List.range (i - 1)).any (hit ps bs i)
theorem meets_of {ps bs : List Int} {i k : Nat} (hk : k < i - 1) (h : hit ps bs i k = true) : meetsB ps bs i = true := List.any_eq_true.2 ⟨k, List.mem_range.2 hk, h⟩
theorem meets_not {ps bs : List Int} {i : Nat} (h : ∀ k, k < i - 1 → hit ps bs i k = false) : meetsB ps bs i = false := by
  unfold meetsB
  rw [List.any_eq_false]
  intro k hk
  rw [h k (List.mem_range.1 hk)]
  decide
def fstB (ps bs : List Int) (n : Nat) : Option Nat := (List.range n).find? (meetsB ps bs)
theorem fst_none {ps bs : List Int} {n : Nat} (h : ∀ j, j < n → meetsB ps bs j = false) : fstB ps bs n = none := by
  unfold fstB
  rw [List.find?_eq_none]
  intro j hj
  rw [h j (List.mem_range.1 hj)]
  decide
theorem fst_some {ps bs : List Int} {n i : Nat} (hi : i < n) (hm : meetsB ps bs i = true) (h : ∀ j, j < i → meetsB ps bs j = false) : fstB ps bs n = some i := by
  unfold fstB
  rw [List.find?_range_eq_some]
  exact ⟨hm, List.mem_range.2 hi, fun j hj => by rw [h j hj]; rfl⟩
/-- it is a strip -/
def stp (ps bs : List Int) : Bool := pnl ps && decide ((bs.length : Int) = (ps.length : Int) - 1) && bs.all (inR (-1) 1)
theorem stp_parts {ps bs : List Int} (h : stp ps bs = true) : (1 ≤ ps.length ∧ ps.length ≤ 40) ∧ bs.length + 1 = ps.length ∧ (∀ x ∈ ps, 1 ≤ x ∧ x ≤ 1000) ∧ ∀ x ∈ bs, -1 ≤ x ∧ x ≤ 1 := by
  unfold stp pnl at h
  simp only [Bool.and_eq_true, decide_eq_true_eq] at h
  obtain ⟨⟨⟨⟨h1, h2⟩, h3⟩, h4⟩, h5⟩ := h
  exact ⟨⟨h1, h2⟩, by omega, fun x hx => inR_iff.1 (List.all_eq_true.1 h3 x hx), fun x hx => inR_iff.1 (List.all_eq_true.1 h5 x hx)⟩
/-- Bent's code and panel -/
def bnK (ps bs : List Int) : Int × Int := if 4096 < ps.length ∨ 4096 < bs.length then (2, 0) else if stp ps bs = true then (match fstB ps bs ps.length with | none => (0, 0) | some i => (13, (i : Int))) else (1, 0)
/-- Bent's corners -/
def bnL (ps bs : List Int) : List Pt := if 4096 < ps.length ∨ 4096 < bs.length then [] else if stp ps bs = true then (match fstB ps bs ps.length with | none => cns ps bs (ps.length + 1) | some _ => []) else []
theorem bn_long {ps bs : List Int} (h : 4096 < ps.length ∨ 4096 < bs.length) : bnK ps bs = (2, 0) ∧ bnL ps bs = [] := by unfold bnK bnL; rw [if_pos h, if_pos h]; exact ⟨rfl, rfl⟩
theorem bn_bad {ps bs : List Int} (h : ¬ (4096 < ps.length ∨ 4096 < bs.length)) (hs : stp ps bs = false) : bnK ps bs = (1, 0) ∧ bnL ps bs = [] := by unfold bnK bnL; rw [if_neg h, if_neg h, hs]; exact ⟨rfl, rfl⟩
theorem bn_good {ps bs : List Int} (h : ¬ (4096 < ps.length ∨ 4096 < bs.length)) (hs : stp ps bs = true) (hf : fstB ps bs ps.length = none) : bnK ps bs = (0, 0) ∧ bnL ps bs = cns ps bs (ps.length + 1) := by unfold bnK bnL; rw [if_neg h, if_neg h, if_pos hs, if_pos hs, hf]; exact ⟨rfl, rfl⟩
theorem bn_meet {ps bs : List Int} {i : Nat} (h : ¬ (4096 < ps.length ∨ 4096 < bs.length)) (hs : stp ps bs = true) (hf : fstB ps bs ps.length = some i) : bnK ps bs = (13, (i : Int)) ∧ bnL ps bs = [] := by unfold bnK bnL; rw [if_neg h, if_neg h, if_pos hs, if_pos hs, hf]; exact ⟨rfl, rfl⟩
end Go.Proofs.Ytimkinpbimangaa
