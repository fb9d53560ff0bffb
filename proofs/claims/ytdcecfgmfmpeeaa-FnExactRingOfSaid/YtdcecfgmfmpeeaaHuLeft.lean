/-
  A hull's sides have all points to their left, or on them.
-/
import Derived.Test.YtdcecfgmfmpeeaaHuMath
namespace Go.Proofs.Ytdcecfgmfmpeeaa
set_option linter.unusedVariables false

/-- not behind: to the right, or straight up, or nowhere -/
def fw (x y : Int) : Prop := 0 < x ∨ (x = 0 ∧ 0 ≤ y)
theorem ltp_fw {a b : Pt} (h : ltp a b = true) : fw (b.1 - a.1) (b.2 - a.2) ∧ ¬ (b.1 - a.1 = 0 ∧ b.2 - a.2 = 0) := by
  have := of_decide_eq_true h
  unfold fw
  omega
/-- the sign of c, by c times a way that is not behind -/
theorem sgn_of {u1 u2 c r1 r2 : Int} (hu : fw u1 u2) (hu0 : ¬ (u1 = 0 ∧ u2 = 0)) (e1 : c * u1 = r1) (e2 : c * u2 = r2) (h1 : 0 ≤ r1) (h2 : u1 = 0 → 0 ≤ r2) : 0 ≤ c := by
  by_cases hc : 0 ≤ c
  · exact hc
  · exfalso
    rcases hu with h | ⟨h, h'⟩
    · have : c * u1 < 0 := Int.mul_neg_of_neg_of_pos (by omega) h
      omega
    · have hp : 0 < u2 := by omega
      have : c * u2 < 0 := Int.mul_neg_of_neg_of_pos (by omega) hp
      have := h2 h
      omega
theorem fw_1 {x y : Int} (h : fw x y) : 0 ≤ x := by rcases h with h | ⟨h, _⟩ <;> omega
theorem fw_2 {x y : Int} (h : fw x y) (hx : x = 0) : 0 ≤ y := by rcases h with h | ⟨_, h⟩ <;> omega
/-- u, then v to its left, w to its right: v is to the left of w -/
theorem crs {u1 u2 v1 v2 w1 w2 : Int} (hu : fw u1 u2) (hu0 : ¬ (u1 = 0 ∧ u2 = 0)) (hv : fw v1 v2) (hw : fw w1 w2) (h1 : 0 ≤ u1 * v2 - u2 * v1) (h2 : u1 * w2 - u2 * w1 ≤ 0) : 0 ≤ w1 * v2 - w2 * v1 := by
  refine sgn_of (c := w1 * v2 - w2 * v1) hu hu0 (r1 := (u1 * v2 - u2 * v1) * w1 + -(u1 * w2 - u2 * w1) * v1) (r2 := (u1 * v2 - u2 * v1) * w2 + -(u1 * w2 - u2 * w1) * v2) (by grind) (by grind) ?_ ?_
  · exact Int.add_nonneg (Int.mul_nonneg h1 (fw_1 hw)) (Int.mul_nonneg (by omega) (fw_1 hv))
  · intro e
    subst e
    have hu2 : 0 < u2 := by have := fw_2 hu rfl; omega
    have hv1 : v1 = 0 := by
      have h3 : u2 * v1 ≤ 0 := by simpa using h1
      have h4 := fw_1 hv
      rcases Int.lt_or_eq_of_le h4 with h5 | h5
      · have := Int.mul_pos hu2 h5; omega
      · omega
    subst hv1
    have hv2 := fw_2 hv rfl
    have h5 : 0 ≤ u2 * w1 := Int.mul_nonneg (by omega) (fw_1 hw)
    have e2 : (0 * v2 - u2 * 0) * w2 + -(0 * w2 - u2 * w1) * v2 = (u2 * w1) * v2 := by grind
    rw [e2]
    exact Int.mul_nonneg h5 hv2
/-- u, then v to its left, then w to the left of v: w is to the left of u -/
theorem crs3 {u1 u2 v1 v2 w1 w2 : Int} (hu : fw u1 u2) (hv : fw v1 v2) (hv0 : ¬ (v1 = 0 ∧ v2 = 0)) (hw : fw w1 w2) (h1 : 0 ≤ u1 * v2 - u2 * v1) (h2 : 0 ≤ v1 * w2 - v2 * w1) : 0 ≤ u1 * w2 - u2 * w1 := by
  refine sgn_of (c := u1 * w2 - u2 * w1) hv hv0 (r1 := (u1 * v2 - u2 * v1) * w1 + (v1 * w2 - v2 * w1) * u1) (r2 := (u1 * v2 - u2 * v1) * w2 + (v1 * w2 - v2 * w1) * u2) (by grind) (by grind) ?_ ?_
  · exact Int.add_nonneg (Int.mul_nonneg h1 (fw_1 hw)) (Int.mul_nonneg h2 (fw_1 hu))
  · intro e
    subst e
    have hv2 : 0 < v2 := by have := fw_2 hv rfl; omega
    have hw1 : w1 = 0 := by
      have h3 : v2 * w1 ≤ 0 := by simpa using h2
      rcases Int.lt_or_eq_of_le (fw_1 hw) with h5 | h5
      · have := Int.mul_pos hv2 h5; omega
      · omega
    subst hw1
    have hw2 := fw_2 hw rfl
    have e2 : (u1 * v2 - u2 * 0) * w2 + (0 * w2 - v2 * 0) * u2 = u1 * v2 * w2 := by grind
    rw [e2]
    exact Int.mul_nonneg (Int.mul_nonneg (fw_1 hu) (by omega)) hw2
def leP (a b : Pt) : Prop := a = b ∨ ltp a b = true
theorem leP_fw {a b : Pt} (h : leP a b) : fw (b.1 - a.1) (b.2 - a.2) := by
  rcases h with rfl | h
  · right; omega
  · exact (ltp_fw h).1
/-- a point that was taken off: those behind it are to the left of the way to the new one -/
theorem pop_left {a b p q : Pt} (hab : ltp a b = true) (hap : ltp a p = true) (haq : leP a q) (h1 : 0 ≤ side a b q) (h2 : side a b p ≤ 0) : 0 ≤ side a p q := by
  have := crs (ltp_fw hab).1 (ltp_fw hab).2 (leP_fw haq) (ltp_fw hap).1 (u1 := b.1 - a.1) (u2 := b.2 - a.2) (v1 := q.1 - a.1) (v2 := q.2 - a.2) (w1 := p.1 - a.1) (w2 := p.2 - a.2) h1 h2
  exact this
theorem side_ns (a b p : Pt) : side a b p = (b.1 - a.1) * (p.2 - b.2) - (b.2 - a.2) * (p.1 - b.1) := by unfold side; grind
/-- a new side has to its left all that lies ahead of its beginning -/
theorem new_left {a b p q : Pt} (hab : ltp a b = true) (hbp : ltp b p = true) (hqb : leP q b) (h1 : 0 ≤ side a b q) (h2 : 0 ≤ side a b p) : 0 ≤ side b p q := by
  rw [side_ns] at h1 h2
  have hv := leP_fw hqb
  have hw := (ltp_fw hbp).1
  have hu := ltp_fw hab
  have h3 : side b p q = (p.1 - b.1) * (q.2 - b.2) - (p.2 - b.2) * (q.1 - b.1) := rfl
  rw [h3]
  -- turned round: v' = b - q
  have key := crs3 (u1 := b.1 - q.1) (u2 := b.2 - q.2) (v1 := b.1 - a.1) (v2 := b.2 - a.2) (w1 := p.1 - b.1) (w2 := p.2 - b.2) hv hu.1 hu.2 hw (by grind) h2
  grind
/-- the lower sides have the new point to their left -/
theorem low_left {a b c p : Pt} (hab : ltp a b = true) (hbc : ltp b c = true) (hcp : ltp c p = true) (h1 : 0 < side a b c) (h2 : 0 < side b c p) : 0 < side a b p := by
  have e1 := side_ns a b c
  have e2 := side_ns b c p
  have key := crs3 (u1 := b.1 - a.1) (u2 := b.2 - a.2) (v1 := c.1 - b.1) (v2 := c.2 - b.2) (w1 := p.1 - c.1) (w2 := p.2 - c.2) (ltp_fw hab).1 (ltp_fw hbc).1 (ltp_fw hbc).2 (ltp_fw hcp).1 (by omega) (by omega)
  have e3 : side a b p = side a b c + ((b.1 - a.1) * (p.2 - c.2) - (b.2 - a.2) * (p.1 - c.1)) := by unfold side; grind
  omega
theorem leP_total (a b : Pt) : leP a b ∨ ltp b a = true := by
  cases h : ltp b a with
  | true => exact .inr rfl
  | false =>
    left
    cases h2 : ltp a b with
    | true => exact .inr h2
    | false => exact .inl (ltp_total a b h2 h)
/-- the sides of a row (from its end on) have these points to their left -/
def EdgeOk (P : List Pt) : List Pt → Prop
  | b :: a :: t => (∀ q ∈ P, 0 ≤ side a b q) ∧ EdgeOk P (a :: t)
  | _ => True
def TurnOk : List Pt → Prop
  | c :: b :: a :: t => 0 < side a b c ∧ TurnOk (b :: a :: t)
  | _ => True
def Dec (s : List Pt) : Prop := s.Pairwise fun b a => ltp a b = true
theorem EdgeOk.tail {P : List Pt} {b : Pt} {s : List Pt} (h : EdgeOk P (b :: s)) : EdgeOk P s := by
  cases s with
  | nil => trivial
  | cons a t => exact h.2
theorem TurnOk.tail {b : Pt} {s : List Pt} (h : TurnOk (b :: s)) : TurnOk s := by
  cases s with
  | nil => trivial
  | cons a t =>
    cases t with
    | nil => trivial
    | cons c t => exact h.2
theorem EdgeOk.app {P Q : List Pt} : ∀ {s : List Pt}, EdgeOk P s → EdgeOk Q s → EdgeOk (P ++ Q) s
  | [], _, _ => trivial
  | [_], _, _ => trivial
  | b :: a :: t, h, k => ⟨fun q hq => by rcases List.mem_append.1 hq with h1 | h1; exact h.1 q h1; exact k.1 q h1, EdgeOk.app h.2 k.2⟩
/-- all sides have the new point to their left -/
theorem edges_new {p : Pt} : ∀ {s : List Pt}, Dec s → TurnOk s → (∀ q ∈ s, ltp q p = true) → (∀ x a t, s = x :: a :: t → 0 < side a x p) → EdgeOk [p] s
  | [], _, _, _, _ => trivial
  | [_], _, _, _, _ => trivial
  | [b, a], _, _, _, h => ⟨fun q hq => by rw [List.mem_singleton] at hq; subst hq; exact Int.le_of_lt (h b a [] rfl), trivial⟩
  | c :: b :: a :: t, hd, ht, hp, h => by
    have h0 := h c b (a :: t) rfl
    have hd1 := List.pairwise_cons.1 hd
    have hd2 := List.pairwise_cons.1 hd1.2
    have h1 : 0 < side a b p := low_left (hd2.1 a List.mem_cons_self) (hd1.1 b List.mem_cons_self) (hp c List.mem_cons_self) ht.1 h0
    refine ⟨fun q hq => by rw [List.mem_singleton] at hq; subst hq; exact Int.le_of_lt h0, ?_⟩
    refine edges_new hd1.2 ht.2 (fun q hq => hp q (List.mem_cons_of_mem _ hq)) ?_
    intro x a' t' e
    injection e with e1 e2
    injection e2 with e2 e3
    subst e1 e2
    exact h1
theorem pop_inv {P : List Pt} {p : Pt} (hp : ∀ q ∈ P, ltp q p = true) : ∀ (s : List Pt) (x : Pt), Dec (x :: s) → (∀ q ∈ x :: s, q ∈ P) → EdgeOk P (x :: s) → TurnOk (x :: s) → (∀ q ∈ P, leP x q → 0 ≤ side x p q) →
    ∃ y t, popR (x :: s) p = y :: t ∧ Dec (y :: t) ∧ (∀ q ∈ y :: t, q ∈ P) ∧ EdgeOk P (y :: t) ∧ TurnOk (y :: t) ∧ (y :: t).getLast? = (x :: s).getLast? ∧ (∀ q ∈ P, leP y q → 0 ≤ side y p q) ∧ (∀ a t', t = a :: t' → 0 < side a y p) := by
  intro s
  induction s with
  | nil =>
    intro x hd hs he ht hj
    exact ⟨x, [], rfl, hd, hs, he, ht, rfl, hj, fun a t' e => by cases e⟩
  | cons a s ih =>
    intro x hd hs he ht hj
    unfold popR
    have hd1 := List.pairwise_cons.1 hd
    have hax := hd1.1 a List.mem_cons_self
    have haP := hs a (List.mem_cons_of_mem _ List.mem_cons_self)
    split
    · rename_i hle
      obtain ⟨y, t, h1, h2, h3, h4, h5, h6, h7, h8⟩ := ih a hd1.2 (fun q hq => hs q (List.mem_cons_of_mem _ hq)) he.tail ht.tail (fun q hq haq => pop_left hax (hp a haP) haq (he.1 q hq) hle)
      exact ⟨y, t, h1, h2, h3, h4, h5, by rw [h6, List.getLast?_cons_cons], h7, h8⟩
    · rename_i hgt
      refine ⟨x, a :: s, rfl, hd, hs, he, ht, rfl, hj, fun a' t' e => ?_⟩
      injection e with e1 e2
      subst e1
      omega
structure Stk (P s : List Pt) : Prop where
  ne : s ≠ []
  dec : Dec s
  sub : ∀ q ∈ s, q ∈ P
  edge : EdgeOk P s
  turn : TurnOk s
  top : ∀ x, s.head? = some x → ∀ q ∈ P, leP q x
  bot : ∀ z, s.getLast? = some z → ∀ q ∈ P, leP z q
theorem Stk.step {P s : List Pt} {p : Pt} (h : Stk P s) (hp : ∀ q ∈ P, ltp q p = true) : Stk (P ++ [p]) (p :: popR s p) := by
  cases s with
  | nil => exact absurd rfl h.ne
  | cons x s =>
    have hx := h.top x rfl
    obtain ⟨y, t, e, h2, h3, h4, h5, h6, h7, h8⟩ := pop_inv hp s x h.dec h.sub h.edge h.turn (fun q hq hxq => by
      have h1 : x = q := by
        rcases hxq with e | e
        · exact e
        · rcases hx q hq with e' | e'
          · exact e'.symm
          · have := ltp_asymm _ _ e; rw [e'] at this; cases this
      subst h1
      unfold side; grind)
    rw [e]
    have hyP := h3 y List.mem_cons_self
    have hlast : ∀ z, (y :: t).getLast? = some z → ∀ q ∈ P, leP z q := fun z hz => h.bot z (by rw [← h6]; exact hz)
    have hnew : EdgeOk [p] (y :: t) := edges_new h2 h5 (fun q hq => hp q (h3 q hq)) (fun x' a t' e' => by
      injection e' with e1 e2
      subst e1
      exact h8 a t' e2)
    refine ⟨by simp, ?_, ?_, ?_, ?_, ?_, ?_⟩
    · exact List.pairwise_cons.2 ⟨fun q hq => hp q (h3 q hq), h2⟩
    · intro q hq
      rcases List.mem_cons.1 hq with rfl | hq
      · simp
      · exact List.mem_append_left _ (h3 q hq)
    · refine ⟨fun q hq => ?_, h4.app hnew⟩
      rcases List.mem_append.1 hq with hq | hq
      · rcases leP_total y q with hl | hl
        · exact h7 q hq hl
        · cases t with
          | nil => exact h7 q hq (hlast y rfl q hq)
          | cons a t' =>
            have hay := (List.pairwise_cons.1 h2).1 a List.mem_cons_self
            exact new_left hay (hp y hyP) (.inr hl) (h4.1 q hq) (Int.le_of_lt (h8 a t' rfl))
      · rw [List.mem_singleton] at hq
        subst hq
        unfold side; grind
    · cases t with
      | nil => trivial
      | cons a t' => exact ⟨h8 a t' rfl, h5⟩
    · intro x' hx' q hq
      simp only [List.head?_cons, Option.some.injEq] at hx'
      subst hx'
      rcases List.mem_append.1 hq with hq | hq
      · exact .inr (hp q hq)
      · rw [List.mem_singleton] at hq; exact .inl hq
    · intro z hz q hq
      rw [List.getLast?_cons_cons] at hz
      have hzm := h3 z (List.mem_of_getLast? hz)
      rcases List.mem_append.1 hq with hq | hq
      · exact hlast z hz q hq
      · rw [List.mem_singleton] at hq; subst hq; exact .inr (hp z hzm)
theorem stk_fold : ∀ (L P s : List Pt), Stk P s → SortU (P ++ L) → Stk (P ++ L) (L.foldl (fun rs p => p :: popR rs p) s)
  | [], P, s, h, _ => by simpa using h
  | p :: L, P, s, h, hs => by
    have e : P ++ p :: L = (P ++ [p]) ++ L := by simp
    rw [e] at hs ⊢
    have hp : ∀ q ∈ P, ltp q p = true := fun q hq => (List.pairwise_append.1 (List.pairwise_append.1 hs).1).2.2 q hq p (by simp)
    exact stk_fold L (P ++ [p]) _ (h.step hp) hs
theorem half_stk {L : List Pt} (hL : L ≠ []) (hs : SortU L) : Stk L (halfR L) := by
  cases L with
  | nil => exact absurd rfl hL
  | cons a L =>
    have h0 : Stk [a] [a] := ⟨by simp, by simp [Dec], by simp, trivial, trivial, fun x hx q hq => by simp at hx hq; subst hx hq; exact .inl rfl, fun z hz q hq => by simp at hz hq; subst hz hq; exact .inl rfl⟩
    exact stk_fold L [a] [a] h0 hs
theorem edge_at {P : List Pt} : ∀ {s : List Pt} {j : Nat} {a b : Pt}, EdgeOk P s → s[j]? = some b → s[j + 1]? = some a → ∀ q ∈ P, 0 ≤ side a b q
  | [], _, _, _, _, h, _ => by simp at h
  | [_], j, _, _, _, _, h => by simp at h
  | y :: x :: t, 0, a, b, h, h1, h2 => by
    simp at h1 h2
    subst h1 h2
    exact h.1
  | y :: x :: t, j + 1, a, b, h, h1, h2 => edge_at h.2 (by simpa using h1) (by simpa using h2)
/-- half a hull's sides have all points to their left -/
theorem half_left {L : List Pt} (hs : SortU L) {i : Nat} {a b : Pt} (ha : (half L)[i]? = some a) (hb : (half L)[i + 1]? = some b) : ∀ q ∈ L, 0 ≤ side a b q := by
  have hL : L ≠ [] := by rintro rfl; simp [half, halfR] at ha
  have h := (half_stk hL hs).edge
  unfold half at ha hb
  have hbl := (List.getElem?_eq_some_iff.1 hb).1
  rw [List.length_reverse] at hbl
  rw [List.getElem?_reverse (by omega)] at ha hb
  refine edge_at h (j := (halfR L).length - 1 - (i + 1)) hb ?_
  rw [← ha]
  congr 1
  omega
/-- turned half round -/
def neg (p : Pt) : Pt := (-p.1, -p.2)
theorem side_neg (a b c : Pt) : side (neg a) (neg b) (neg c) = side a b c := by unfold side neg; grind
theorem ltp_neg (a b : Pt) : ltp (neg a) (neg b) = ltp b a := by
  unfold ltp neg
  rw [decide_eq_decide]
  simp only
  omega
theorem popR_neg (p : Pt) : ∀ s : List Pt, popR (s.map neg) (neg p) = (popR s p).map neg
  | [] => rfl
  | [_] => rfl
  | b :: a :: t => by
    simp only [List.map_cons]
    unfold popR
    rw [side_neg]
    split
    · have := popR_neg p (a :: t)
      simpa using this
    · simp
theorem halfR_neg (L : List Pt) : halfR (L.map neg) = (halfR L).map neg := by
  have h : ∀ (L s : List Pt), (L.map neg).foldl (fun rs p => p :: popR rs p) (s.map neg) = (L.foldl (fun rs p => p :: popR rs p) s).map neg := by
    intro L
    induction L with
    | nil => intro s; rfl
    | cons p L ih =>
      intro s
      simp only [List.map_cons, List.foldl_cons]
      rw [popR_neg]
      have := ih (p :: popR s p)
      simpa using this
  exact h L []
theorem half_neg (L : List Pt) : half (L.map neg) = (half L).map neg := by unfold half; rw [halfR_neg, List.map_reverse]
theorem sortU_neg {U : List Pt} (h : SortU U) : SortU (U.reverse.map neg) := by
  unfold SortU at h ⊢
  rw [List.pairwise_map, List.pairwise_reverse]
  exact h.imp (fun {a b} hab => by rw [ltp_neg]; exact hab)
theorem upper_left {U : List Pt} (hs : SortU U) {i : Nat} {a b : Pt} (ha : (half U.reverse)[i]? = some a) (hb : (half U.reverse)[i + 1]? = some b) : ∀ q ∈ U, 0 ≤ side a b q := by
  intro q hq
  have h := half_left (sortU_neg hs) (i := i) (a := neg a) (b := neg b) (by rw [half_neg, List.getElem?_map, ha]; rfl) (by rw [half_neg, List.getElem?_map, hb]; rfl) (neg q) (List.mem_map.2 ⟨q, by simpa using hq, rfl⟩)
  rwa [side_neg] at h
/-- a side of a hull is one of half a hull -/
theorem hull_edge {U : List Pt} (hU : 3 ≤ U.length) {i : Nat} {a b : Pt} (ha : (hullM U)[i]? = some a) (hb : (hullM U)[(i + 1) % (hullM U).length]? = some b) :
    (∃ j, (half U)[j]? = some a ∧ (half U)[j + 1]? = some b) ∨ (∃ j, (half U.reverse)[j]? = some a ∧ (half U.reverse)[j + 1]? = some b) := by
  unfold hullM at ha hb
  rw [if_neg (by omega)] at ha hb
  obtain ⟨u, V, rfl⟩ : ∃ u V, U = u :: V := by
    cases U with
    | nil => simp at hU
    | cons u V => exact ⟨u, V, rfl⟩
  have hV : V ≠ [] := by rintro rfl; simp at hU
  have h1 := half_facts (a := u) hV
  obtain ⟨z, R, hR⟩ : ∃ z R, (u :: V).reverse = z :: R ∧ R ≠ [] := by
    cases hr : (u :: V).reverse with
    | nil => rw [List.reverse_eq_nil_iff] at hr; cases hr
    | cons z R =>
      refine ⟨z, R, rfl, fun e => ?_⟩
      have := congrArg List.length hr
      rw [List.length_reverse, e] at this
      simp only [List.length_cons, List.length_nil] at this hU
      omega
  have h2 := half_facts (a := z) hR.2
  have hz : V.getLast? = some z := by
    have e : (u :: V).getLast? = some z := by rw [← List.head?_reverse, hR.1]; rfl
    rw [← e]
    cases V with
    | nil => exact absurd rfl hV
    | cons v V => rw [List.getLast?_cons_cons]
  have hu : R.getLast? = some u := by
    have e : (z :: R).getLast? = some u := by rw [← hR.1, List.getLast?_reverse]; rfl
    rw [← e]
    cases hRR : R with
    | nil => exact absurd hRR hR.2
    | cons v V => rw [List.getLast?_cons_cons]
  rw [hR.1] at ha hb ⊢
  rw [hz] at h1
  rw [hu] at h2
  generalize half (u :: V) = X at *
  generalize half (z :: R) = Y at *
  obtain ⟨x0, xl, x2, _⟩ := h1
  obtain ⟨y0, yl, y2, _⟩ := h2
  have ex0 : X[0]? = some u := by rw [← List.head?_eq_getElem?]; exact x0
  have ey0 : Y[0]? = some z := by rw [← List.head?_eq_getElem?]; exact y0
  have exl : X[X.length - 1]? = some z := by rw [← List.getLast?_eq_getElem?]; exact xl
  have eyl : Y[Y.length - 1]? = some u := by rw [← List.getLast?_eq_getElem?]; exact yl
  have hlen : (X.dropLast ++ Y.dropLast).length = (X.length - 1) + (Y.length - 1) := by simp
  have hil := (List.getElem?_eq_some_iff.1 ha).1
  rw [hlen] at hil hb
  have getX : ∀ k, k < X.length - 1 → (X.dropLast ++ Y.dropLast)[k]? = X[k]? := fun k hk => by
    rw [List.getElem?_append_left (by simpa using hk), List.dropLast_eq_take, List.getElem?_take, if_pos hk]
  have getY : ∀ k, k < Y.length - 1 → (X.dropLast ++ Y.dropLast)[X.length - 1 + k]? = Y[k]? := fun k hk => by
    rw [List.getElem?_append_right (by simp), List.length_dropLast, Nat.add_sub_cancel_left, List.dropLast_eq_take, List.getElem?_take, if_pos hk]
  by_cases hi : i < X.length - 1
  · left
    refine ⟨i, by rw [← getX i hi]; exact ha, ?_⟩
    rw [Nat.mod_eq_of_lt (by omega)] at hb
    by_cases hi2 : i + 1 < X.length - 1
    · rw [← getX _ hi2]; exact hb
    · have e : i + 1 = X.length - 1 := by omega
      rw [e] at hb ⊢
      have := getY 0 (by omega)
      rw [Nat.add_zero] at this
      rw [this, ey0] at hb
      rw [exl]; exact hb
  · right
    obtain ⟨k, rfl⟩ : ∃ k, i = X.length - 1 + k := ⟨i - (X.length - 1), by omega⟩
    have hk : k < Y.length - 1 := by omega
    refine ⟨k, by rw [← getY k hk]; exact ha, ?_⟩
    by_cases hk2 : k + 1 < Y.length - 1
    · rw [Nat.mod_eq_of_lt (by omega)] at hb
      rw [← getY _ hk2, ← Nat.add_assoc]
      exact hb
    · have e : k + 1 = Y.length - 1 := by omega
      have e2 : (X.length - 1 + k + 1) % (X.length - 1 + (Y.length - 1)) = 0 := by
        rw [show X.length - 1 + k + 1 = X.length - 1 + (Y.length - 1) by omega]
        exact Nat.mod_self _
      rw [e2, getX 0 (by omega), ex0] at hb
      rw [e, eyl]
      exact hb
/-- no point lies to the right of a hull's side -/
theorem hull_left {U : List Pt} (hs : SortU U) (hU : 3 ≤ U.length) {i : Nat} {a b : Pt} (ha : (hullM U)[i]? = some a) (hb : (hullM U)[(i + 1) % (hullM U).length]? = some b) : ∀ q ∈ U, 0 ≤ side a b q := by
  rcases hull_edge hU ha hb with ⟨j, h1, h2⟩ | ⟨j, h1, h2⟩
  · exact half_left hs h1 h2
  · exact upper_left hs h1 h2
end Go.Proofs.Ytdcecfgmfmpeeaa
