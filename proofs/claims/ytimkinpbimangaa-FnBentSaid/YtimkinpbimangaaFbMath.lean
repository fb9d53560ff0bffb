/-
  What the law on strips asks: a strip that is bent is flattened again; its beginnings; lengths that grow.
-/
import Derived.Test.YtimkinpbimangaaFtMath
import Derived.Test.YtimkinpbimangaaFlMath
namespace Go.Proofs.Ytimkinpbimangaa
set_option linter.unusedSimpArgs false

theorem ptD_cns (ps bs : List Int) {n i : Nat} (h : i < n) : ptD (cns ps bs n) i = cn ps bs i := by
  unfold ptD
  rw [List.getD_eq_getElem?_getD, cns_at ps bs h]
  rfl
theorem cn_step (ps bs : List Int) (i : Nat) : sub (cn ps bs (i + 1)) (cn ps bs i) = ((wy bs i).1 * ps.getD i 0, (wy bs i).2 * ps.getD i 0) := by
  show ((cn ps bs i).1 + (wy bs i).1 * ps.getD i 0 - (cn ps bs i).1, (cn ps bs i).2 + (wy bs i).2 * ps.getD i 0 - (cn ps bs i).2) = _
  exact Prod.ext (by simp only; omega) (by simp only; omega)
theorem ln_step {v : Pt} (h : Uw v) {l : Int} (hl : 0 ≤ l) : lnG (v.1 * l, v.2 * l) = l := by
  unfold lnG
  rcases h with rfl | rfl | rfl | rfl <;> simp only <;> omega
theorem getD_pos {ps : List Int} (hp : ∀ x ∈ ps, 1 ≤ x ∧ x ≤ 1000) {i : Nat} (h : i < ps.length) : 1 ≤ ps.getD i 0 := by
  rw [List.getD_eq_getElem?_getD, List.getElem?_eq_getElem h]
  exact (hp _ (List.getElem_mem _)).1
theorem acr_step {v : Pt} (h : Uw v) {b a l : Int} (hb : -1 ≤ b ∧ b ≤ 1) (ha : 1 ≤ a) (hl : 1 ≤ l) : sgn (acr (v.1 * a, v.2 * a) ((trn v b).1 * l, (trn v b).2 * l)) = b := by
  have hm : 0 < a * l := Int.mul_pos (by omega) (by omega)
  have hb3 : b = 0 ∨ b = 1 ∨ b = -1 := by omega
  unfold acr trn
  rcases hb3 with rfl | rfl | rfl <;> rcases h with rfl | rfl | rfl | rfl <;> simp <;> first
    | rfl
    | (rw [sgn_pos (by grind)])
    | (rw [sgn_neg (by grind)])
    | skip
theorem own_mp {ps bs : List Int} (hs : stp ps bs = true) : mp (cns ps bs (ps.length + 1)) = ps ∧ mb (cns ps bs (ps.length + 1)) = bs := by
  obtain ⟨⟨h1, h2⟩, hl, hp, hb⟩ := stp_parts hs
  constructor
  · apply List.ext_getElem
    · rw [mp_len, cns_len]; omega
    · intro i h3 h4
      rw [show (mp (cns ps bs (ps.length + 1)))[i] = lnG (wv (cns ps bs (ps.length + 1)) i) from by simp [mp]]
      unfold wv
      rw [ptD_cns _ _ (by omega), ptD_cns _ _ (by omega), cn_step, ln_step (wy_uw hb i) (by have := getD_pos hp h4; omega), List.getD_eq_getElem?_getD, List.getElem?_eq_getElem h4]
      rfl
  · apply List.ext_getElem
    · rw [mb_len, cns_len]; omega
    · intro i h3 h4
      rw [show (mb (cns ps bs (ps.length + 1)))[i] = sgn (acr (wv (cns ps bs (ps.length + 1)) i) (wv (cns ps bs (ps.length + 1)) (i + 1))) from by simp [mb]]
      unfold wv
      rw [ptD_cns _ _ (by omega), ptD_cns _ _ (by omega), ptD_cns _ _ (by omega), cn_step, cn_step]
      have hbi : bs.getD i 0 = bs[i] := by rw [List.getD_eq_getElem?_getD, List.getElem?_eq_getElem h4]; rfl
      have e : wy bs (i + 1) = trn (wy bs i) bs[i] := by rw [← hbi]; rfl
      rw [e, acr_step (wy_uw hb i) (hb _ (List.getElem_mem _)) (getD_pos hp (by omega)) (getD_pos hp (by omega))]
/-- a strip's own corners are measured as that strip -/
theorem own_ft {ps bs : List Int} (hs : stp ps bs = true) (hf : fstB ps bs ps.length = none) : ftK (cns ps bs (ps.length + 1)) = 0 ∧ ftP (cns ps bs (ps.length + 1)) = ps ∧ ftB (cns ps bs (ps.length + 1)) = bs := by
  obtain ⟨⟨h1, h2⟩, hl, hp, hb⟩ := stp_parts hs
  obtain ⟨e1, e2⟩ := own_mp hs
  have hg := bn_good (ps := ps) (bs := bs) (by omega) hs hf
  have hall : (cns ps bs (ps.length + 1)).all ptOk = true := by
    rw [List.all_eq_true]
    intro x hx
    unfold cns at hx
    obtain ⟨i, hi, rfl⟩ := List.mem_map.1 hx
    exact cn_ok hp hb (by have := List.mem_range.1 hi; omega)
  have hy := ft_yes (pts := cns ps bs (ps.length + 1)) (by rw [cns_len]; omega) (by rw [cns_len]; omega) hall (by
    unfold ftOk
    rw [decide_eq_true_iff, e1, e2, hg.1, hg.2]
    exact ⟨rfl, rfl⟩)
  rw [e1, e2] at hy
  exact hy
/-- the beginning of a strip -/
theorem wy_take (bs : List Int) (m : Nat) : ∀ i, i ≤ m → wy (bs.take m) i = wy bs i
  | 0, _ => rfl
  | i + 1, h => by
    show trn (wy (bs.take m) i) ((bs.take m).getD i 0) = trn (wy bs i) (bs.getD i 0)
    rw [wy_take bs m i (by omega), List.getD_eq_getElem?_getD, List.getD_eq_getElem?_getD, List.getElem?_take, if_pos (by omega)]
theorem cn_take (ps bs : List Int) (m : Nat) : ∀ i, i ≤ m + 1 → cn (ps.take (m + 1)) (bs.take m) i = cn ps bs i
  | 0, _ => rfl
  | i + 1, h => by
    show ((cn (ps.take (m + 1)) (bs.take m) i).1 + (wy (bs.take m) i).1 * (ps.take (m + 1)).getD i 0, (cn (ps.take (m + 1)) (bs.take m) i).2 + (wy (bs.take m) i).2 * (ps.take (m + 1)).getD i 0) = ((cn ps bs i).1 + (wy bs i).1 * ps.getD i 0, (cn ps bs i).2 + (wy bs i).2 * ps.getD i 0)
    have e : (ps.take (m + 1)).getD i 0 = ps.getD i 0 := by rw [List.getD_eq_getElem?_getD, List.getD_eq_getElem?_getD, List.getElem?_take, if_pos (by omega)]
    rw [cn_take ps bs m i (by omega), wy_take bs m i (by omega), e]
theorem take_in {L : List Int} {a b : Int} (h : L.all (inR a b) = true) (m : Nat) : (L.take m).all (inR a b) = true := by
  rw [List.all_eq_true] at h ⊢
  exact fun x hx => h x (List.mem_of_mem_take hx)
theorem stp_take {ps bs : List Int} (hs : stp ps bs = true) {i : Nat} (h1 : 1 ≤ i) (hi : i ≤ ps.length) : stp (ps.take i) (bs.take (i - 1)) = true := by
  obtain ⟨⟨l1, l2⟩, hl, hp, hb⟩ := stp_parts hs
  unfold stp pnl at hs ⊢
  simp only [Bool.and_eq_true, decide_eq_true_eq] at hs ⊢
  obtain ⟨⟨⟨⟨a1, a2⟩, a3⟩, a4⟩, a5⟩ := hs
  rw [List.length_take, List.length_take]
  exact ⟨⟨⟨⟨by omega, by omega⟩, take_in a3 _⟩, by omega⟩, take_in a5 _⟩
/-- up to the first panel that meets one, a strip is right -/
theorem begin_ok {ps bs : List Int} (hs : stp ps bs = true) {i : Nat} (hf : fstB ps bs ps.length = some i) : 1 ≤ i ∧ i < ps.length ∧ bnK (ps.take i) (bs.take (i - 1)) = (0, 0) ∧ (bnL (ps.take i) (bs.take (i - 1))).length = i + 1 := by
  unfold fstB at hf
  rw [List.find?_range_eq_some] at hf
  obtain ⟨hm, hi, hj⟩ := hf
  have hi := List.mem_range.1 hi
  have hpos : 1 ≤ i := by
    rcases Nat.eq_zero_or_pos i with rfl | h
    · cases hm
    · exact h
  obtain ⟨⟨l1, l2⟩, hl, hp, hb⟩ := stp_parts hs
  have hs2 := stp_take hs hpos (by omega)
  have hlt : (ps.take i).length = i := by rw [List.length_take]; omega
  have hf2 : fstB (ps.take i) (bs.take (i - 1)) (ps.take i).length = none := by
    rw [hlt]
    refine fst_none fun j hjl => ?_
    have h1 := hj j hjl
    have h2 : meetsB ps bs j = false := by
      cases hq : meetsB ps bs j with
      | false => rfl
      | true => rw [hq] at h1; cases h1
    refine meets_not fun k hk => ?_
    obtain ⟨m, rfl⟩ : ∃ m, i = m + 1 := ⟨i - 1, by omega⟩
    have e : hit (ps.take (m + 1)) (bs.take (m + 1 - 1)) j k = hit ps bs j k := by
      unfold hit
      rw [show m + 1 - 1 = m from rfl, cn_take ps bs m k (by omega), cn_take ps bs m (k + 1) (by omega), cn_take ps bs m j (by omega), cn_take ps bs m (j + 1) (by omega)]
    rw [e]
    cases hq : hit ps bs j k with
    | false => rfl
    | true => rw [meets_of hk hq] at h2; cases h2
  have hg := bn_good (ps := ps.take i) (bs := bs.take (i - 1)) (by rw [List.length_take, List.length_take]; omega) hs2 hf2
  refine ⟨hpos, hi, hg.1, ?_⟩
  rw [hg.2, cns_len, hlt]
/-- panels together -/
def sm (ps : List Int) : Int := ps.foldl (fun s p => s + p) 0
theorem fold_sum : ∀ (ps : List Int) (s : Int), ps.foldl (fun s p => s + p) s = s + ps.foldl (fun s p => s + p) 0
  | [], s => by simp
  | p :: ps, s => by
    rw [List.foldl_cons, List.foldl_cons, fold_sum ps (s + p), fold_sum ps (0 + p)]
    omega
theorem sm_cons (p : Int) (ps : List Int) : sm (p :: ps) = p + sm ps := by
  unfold sm
  rw [List.foldl_cons, fold_sum ps (0 + p)]
  omega
theorem sm_bd : ∀ (ps : List Int), (∀ x ∈ ps, 1 ≤ x ∧ x ≤ 1000) → 0 ≤ sm ps ∧ sm ps ≤ 1000 * (ps.length : Int)
  | [], _ => by simp [sm]
  | p :: ps, h => by
    have h1 := h p (by simp)
    have h2 := sm_bd ps (fun x hx => h x (by simp [hx]))
    rw [sm_cons]
    simp only [List.length_cons]
    push_cast
    omega
theorem whole_ok {n : Int} (h0 : 0 ≤ n) (h1 : n ≤ 1000000000) : frOk n 1 = true := by
  unfold frOk
  rw [decide_eq_true_iff]
  exact ⟨by decide, by decide, by omega, h1, by simp⟩
theorem add_whole {n p : Int} (h0 : 0 ≤ n) (h1 : 0 ≤ p) (h2 : n + p ≤ 1000000000) : add3 n 1 p 1 = (n + p, 1, 0) := by
  unfold add3
  rw [if_pos ⟨whole_ok h0 (by omega), whole_ok h1 (by omega)⟩, Int.mul_one, Int.mul_one, Int.mul_one]
  obtain ⟨a, b, c⟩ := fr_whole (n + p) (by omega) h2
  rw [a, b, c]
theorem lng_whole {n p : Int} (h0 : 0 ≤ n) (h1 : 0 ≤ p) (h2 : n + p ≤ 1000000000) : lng (n, 1, 0) p 1 = (n + p, 1, 0) := by
  rw [lng_go rfl]
  obtain ⟨a, b, _⟩ := fr_whole p h1 (by omega)
  rw [a, b]
  exact add_whole h0 h1 h2
theorem lenP_go : ∀ (ps : List Int) (n : Int), 0 ≤ n → (∀ x ∈ ps, 1 ≤ x ∧ x ≤ 1000) → n + 1000 * (ps.length : Int) ≤ 1000000000 → ps.foldl (fun s p => lng s p 1) (n, 1, 0) = (n + sm ps, 1, 0)
  | [], n, _, _, _ => by simp [sm]
  | p :: ps, n, h0, h, hl => by
    have h1 := h p (by simp)
    simp only [List.length_cons] at hl
    push_cast at hl
    rw [List.foldl_cons, lng_whole h0 (by omega) (by omega), lenP_go ps (n + p) (by omega) (fun x hx => h x (by simp [hx])) (by omega), sm_cons]
    rw [show n + p + sm ps = n + (p + sm ps) by omega]
theorem lenP_sum {ps : List Int} (h : ∀ x ∈ ps, 1 ≤ x ∧ x ≤ 1000) (hl : ps.length ≤ 40) : lenP ps = (sm ps, 1, 0) := by
  unfold lenP
  rw [lenP_go ps 0 (by omega) h (by omega)]
  simp
theorem fr_nought : frN 0 1260 = 0 ∧ frD 0 1260 = 1 := by
  unfold frN frD frFits frTop frBot
  simp
theorem lenA_zero (r t : Int) {n : Int} (h0 : 0 ≤ n) (h1 : n ≤ 1000000000) : ∀ k, lenA (n, 1, 0) r t (List.replicate k 0) = (n, 1, 0)
  | 0 => rfl
  | k + 1 => by
    have e : lng (n, 1, 0) (itm r t 0) 1260 = (n, 1, 0) := by
      rw [lng_go rfl]
      have : itm r t 0 = 0 := by unfold itm; simp
      rw [this, fr_nought.1, fr_nought.2]
      have := add_whole (n := n) (p := 0) h0 (by omega) (by omega)
      rw [Int.add_zero] at this
      exact this
    show lenA (lng (n, 1, 0) (itm r t 0) 1260) r t (List.replicate k 0) = _
    rw [e]
    exact lenA_zero r t h0 h1 k
/-- a length that is not less -/
def Ge (S : Int) (s : Fc) : Prop := s.2.2 = 0 → S * s.2.1 ≤ s.1 ∧ 1 ≤ s.2.1
theorem ge_add {S n d a b : Int} (hS : 0 ≤ S) (h1 : S * d ≤ n) (h2 : 1 ≤ d) (ha : 0 ≤ a) (hb : 1 ≤ b) (hc : frCode (n * b + a * d) (d * b) = 0) : S * frD (n * b + a * d) (d * b) ≤ frN (n * b + a * d) (d * b) ∧ 1 ≤ frD (n * b + a * d) (d * b) := by
  have hn : 0 ≤ n := Int.le_trans (Int.mul_nonneg hS (by omega)) h1
  have hx0 : 0 ≤ n * b + a * d := Int.add_nonneg (Int.mul_nonneg hn (by omega)) (Int.mul_nonneg ha (by omega))
  have hy0 : 0 < d * b := Int.mul_pos (by omega) (by omega)
  have hxy : S * (d * b) ≤ n * b + a * d := by
    have e1 : S * (d * b) = S * d * b := by grind
    have e2 : S * d * b ≤ n * b := Int.mul_le_mul_of_nonneg_right h1 (by omega)
    have e3 : 0 ≤ a * d := Int.mul_nonneg ha (by omega)
    omega
  generalize n * b + a * d = x at *
  generalize d * b = y at *
  unfold frCode at hc
  rw [if_neg (by omega)] at hc
  have hf : frFits x y = true := by
    cases h : frFits x y with
    | true => rfl
    | false => rw [h] at hc; simp at hc
  have hy1 : ¬ y = 0 := by omega
  have hsg : (x < 0 ↔ y < 0) := by omega
  have eN : frN x y = (frTop x y : Int) := by unfold frN; rw [if_neg hy1, if_pos hf, if_pos hsg]
  have eD : frD x y = (frBot x y : Int) := by unfold frD; rw [if_neg hy1, if_pos hf]
  rw [eN, eD]
  unfold frTop frBot
  have hg := gcd_pos x y (by omega)
  obtain ⟨tx, etx⟩ := Nat.gcd_dvd_left x.natAbs y.natAbs
  obtain ⟨ty, ety⟩ := Nat.gcd_dvd_right x.natAbs y.natAbs
  generalize hgg : Nat.gcd x.natAbs y.natAbs = g at *
  have e1 : x.natAbs / g = tx := by rw [etx]; exact Nat.mul_div_cancel_left tx hg
  have e2 : y.natAbs / g = ty := by rw [ety]; exact Nat.mul_div_cancel_left ty hg
  rw [e1, e2]
  have exn : (x.natAbs : Int) = x := by omega
  have eyn : (y.natAbs : Int) = y := by omega
  have ex : x = (g : Int) * (tx : Int) := by rw [← exn, etx, Int.natCast_mul]
  have ey : y = (g : Int) * (ty : Int) := by rw [← eyn, ety, Int.natCast_mul]
  have hgi : (0 : Int) < (g : Int) := by omega
  constructor
  · have : (g : Int) * (S * (ty : Int)) ≤ (g : Int) * (tx : Int) := by
      rw [← ex]
      have : (g : Int) * (S * (ty : Int)) = S * y := by rw [ey]; grind
      rw [this]
      exact hxy
    exact Int.le_of_mul_le_mul_left this hgi
  · rcases Nat.eq_zero_or_pos ty with h | h
    · subst h
      simp at ey
      omega
    · omega
theorem frN_nn {a b : Int} (ha : 0 ≤ a) (hb : 0 < b) : 0 ≤ frN a b := by
  unfold frN
  split
  · omega
  · split
    · rw [if_pos (by omega)]; omega
    · omega
theorem ge_lng {S : Int} (hS : 0 ≤ S) {s : Fc} (h : Ge S s) {a b : Int} (ha : 0 ≤ a) (hb : 0 < b) : Ge S (lng s a b) := by
  intro hc
  by_cases h0 : s.2.2 = 0
  · rw [lng_go h0] at hc ⊢
    obtain ⟨h1, h2⟩ := h h0
    unfold add3 at hc ⊢
    by_cases hok : frOk s.1 s.2.1 = true ∧ frOk (frN a b) (frD a b) = true
    · rw [if_pos hok] at hc ⊢
      exact ge_add hS h1 h2 (frN_nn ha hb) (of_decide_eq_true hok.2).1 hc
    · rw [if_neg hok] at hc
      cases hc
  · rw [lng_stop h0] at hc
    exact absurd hc h0
theorem ge_lenA {S : Int} (hS : 0 ≤ S) (r t : Int) (hr : 0 ≤ r) (ht : 0 ≤ t) : ∀ (al : List Int) (s : Fc), Ge S s → (∀ x ∈ al, 0 ≤ x) → Ge S (lenA s r t al)
  | [], s, h, _ => h
  | a :: al, s, h, hx => by
    show Ge S (lenA (lng s (itm r t a) 1260) r t al)
    refine ge_lenA hS r t hr ht al _ (ge_lng hS h ?_ (by omega)) (fun x hx' => hx x (by simp [hx']))
    unfold itm
    have := hx a (by simp)
    exact Int.mul_nonneg (Int.mul_nonneg this (by omega)) (by omega)
theorem less_no {S : Int} {s : Fc} (h : Ge S s) (hc : s.2.2 = 0) : ∃ c, lessAns s.1 s.2.1 S 1 = .tuple #[.bool false, .int .i64 c] := by
  obtain ⟨h1, _⟩ := h hc
  unfold lessAns
  split
  · rw [decide_eq_false (by omega)]
    exact ⟨0, rfl⟩
  · exact ⟨1, rfl⟩
theorem flOk_of {ps bs al : List Int} {r t : Int} (hs : stp ps bs = true) (hl : al.length = bs.length) (ha : ∀ x ∈ al, 0 ≤ x ∧ x ≤ 180) (hr : 0 ≤ r ∧ r ≤ 1000) (ht : 0 ≤ t ∧ t ≤ 1000) : flA ps al r t = lenA (lenP ps) r t al := by
  obtain ⟨⟨l1, l2⟩, hlb, hp, hb⟩ := stp_parts hs
  have hok : flOk ps al r t = true := by
    unfold flOk
    unfold stp at hs
    simp only [Bool.and_eq_true, decide_eq_true_eq] at hs ⊢
    refine ⟨⟨⟨⟨hs.1.1, by omega⟩, ?_⟩, inR_iff.2 hr⟩, inR_iff.2 ht⟩
    rw [List.all_eq_true]
    exact fun x hx => inR_iff.2 (ha x hx)
  unfold flA
  rw [if_neg (by omega), if_pos hok]
end Go.Proofs.Ytimkinpbimangaa
