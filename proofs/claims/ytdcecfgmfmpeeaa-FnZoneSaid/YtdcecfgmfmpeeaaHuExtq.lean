/-
  Who lies on the rim of a circle that has all points is a corner of their hull. By whom the smallest circle is told: one point, two across from one another, or three without an angle above a right one.
-/
import Derived.Test.YtdcecfgmfmpeeaaCiMathq
import Derived.Test.YtdcecfgmfmpeeaaPlaneq
namespace Go.Proofs.Ytdcecfgmfmpeeaa
set_option linter.unusedVariables false
set_option linter.unusedSimpArgs false
theorem popR_sub : ∀ (s : List Pt) (p : Pt), (popR s p).Sublist s := by
 intro s
 induction s with
 | nil => intro p; exact List.Sublist.refl _
 | cons b s ih =>
  intro p
  cases s with
  | nil => exact List.Sublist.refl _
  | cons a t =>
   unfold popR
   split
   ·exact (ih p).cons b
   ·exact List.Sublist.refl _
theorem pop_wit (lt : Pt → Pt → Prop) (p : Pt) : ∀ s : List Pt, s.Pairwise (fun x y => lt y x) → (∀ q ∈ s, lt q p) → ∀ q ∈ s, q ∈ popR s p ∨ ∃ a ∈ s, lt a q ∧ lt q p ∧ side a q p ≤ 0 := by
 intro s
 induction s with
 | nil => intro _ _ q h; cases h
 | cons b s ih =>
  intro hs hp q hq
  cases s with
  | nil => exact .inl hq
  | cons a t =>
   have hs' := List.pairwise_cons.1 hs
   unfold popR
   split
   ·rename_i hle
    rcases List.mem_cons.1 hq with h | h
    ·right
     rw [h]
     exact ⟨a, by simp, hs'.1 a (by simp), hp b (by simp), hle⟩
    ·rcases ih hs'.2 (fun x hx => hp x (by simp [hx])) q h with h1 | ⟨x, hx, h2⟩
     ·exact .inl h1
     ·exact .inr ⟨x, by simp [hx], h2⟩
   ·exact .inl hq
theorem fold_wit (lt : Pt → Pt → Prop) : ∀ (L s : List Pt), s.Pairwise (fun x y => lt y x) → L.Pairwise lt → (∀ q ∈ s, ∀ p ∈ L, lt q p) → ∀ q, q ∈ s ∨ q ∈ L → q ∈ L.foldl (fun rs p => p :: popR rs p) s ∨ ∃ a c, (a ∈ s ∨ a ∈ L) ∧ (c ∈ s ∨ c ∈ L) ∧ lt a q ∧ lt q c ∧ side a q c ≤ 0 := by
 intro L
 induction L with
 | nil => intro s _ _ _ q h; exact .inl (h.resolve_right (by simp))
 | cons p L ih =>
  intro s hs hL hsl q hq
  have hL' := List.pairwise_cons.1 hL
  have hsub := popR_sub s p
  have key := ih (p :: popR s p) (List.pairwise_cons.2 ⟨fun x hx => hsl x (hsub.subset hx) p (by simp), hs.sublist hsub⟩) hL'.2 (fun x hx y hy => by
   rcases List.mem_cons.1 hx with h | h
   ·rw [h]; exact hL'.1 y hy
   ·exact hsl x (hsub.subset h) y (by simp [hy]))
  have wide : ∀ x, (x ∈ p :: popR s p ∨ x ∈ L) → (x ∈ s ∨ x ∈ p :: L) := by
   intro x hx
   rcases hx with h | h
   ·rcases List.mem_cons.1 h with h1 | h1
    ·right; simp [h1]
    ·left; exact hsub.subset h1
   ·right; simp [h]
  have go : (q ∈ p :: popR s p ∨ q ∈ L) → q ∈ (p :: L).foldl (fun rs p => p :: popR rs p) s ∨ ∃ a c, (a ∈ s ∨ a ∈ p :: L) ∧ (c ∈ s ∨ c ∈ p :: L) ∧ lt a q ∧ lt q c ∧ side a q c ≤ 0 := by
   intro h
   rcases key q h with h1 | ⟨a, c, ha, hc, h2⟩
   ·exact .inl h1
   ·exact .inr ⟨a, c, wide a ha, wide c hc, h2⟩
  rcases hq with h | h
  ·rcases pop_wit lt p s hs (fun x hx => hsl x hx p (by simp)) q h with h1 | ⟨a, ha, h2⟩
   ·exact go (.inl (by simp [h1]))
   ·exact .inr ⟨a, p, .inl ha, .inr (by simp), h2⟩
  ·rcases List.mem_cons.1 h with h1 | h1
   ·exact go (.inl (by simp [h1]))
   ·exact go (.inr h1)
theorem half_wit (lt : Pt → Pt → Prop) {L : List Pt} (hL : L.Pairwise lt) {q : Pt} (hq : q ∈ L) : q ∈ half L ∨ ∃ a ∈ L, ∃ c ∈ L, lt a q ∧ lt q c ∧ side a q c ≤ 0 := by
 rcases fold_wit lt L [] List.Pairwise.nil hL (fun x hx => (nomatch hx)) q (.inr hq) with h | ⟨a, c, ha, hc, h⟩
 ·exact .inl (by unfold half halfR; exact List.mem_reverse.2 h)
 ·exact .inr ⟨a, ha.resolve_left (by simp), c, hc.resolve_left (by simp), h⟩
theorem ltp_dir {a b : Pt} (h : ltp a b = true) : ((a.1 : Rat) - b.1 < 0) ∨ ((a.1 : Rat) - b.1 = 0 ∧ (a.2 : Rat) - b.2 < 0) := by
 unfold ltp at h
 rcases of_decide_eq_true h with h1 | ⟨h1, h2⟩
 ·left
  have := Rat.intCast_lt_intCast.2 h1
  grind
 ·right
  have := Rat.intCast_lt_intCast.2 h2
  rw [h1]
  refine ⟨by grind, by grind⟩
theorem side_q (a q c : Pt) : ((side a q c : Int) : Rat) = -(((a.1 : Rat) - q.1) * ((c.2 : Rat) - q.2) - ((a.2 : Rat) - q.2) * ((c.1 : Rat) - q.1)) := by
 unfold side
 simp only [Rat.intCast_sub, Rat.intCast_add, Rat.intCast_mul]
 grind
theorem dir_of {u1 u2 v1 v2 n1 n2 : Rat} (hu : u1 < 0 ∨ (u1 = 0 ∧ u2 < 0)) (hv : 0 < v1 ∨ (v1 = 0 ∧ 0 < v2)) (nu : n1 * u1 + n2 * u2 < 0) (nv : n1 * v1 + n2 * v2 < 0) :
  0 < (u1 * v2 - u2 * v1) * n2 ∨ ((u1 * v2 - u2 * v1) * n2 = 0 ∧ (u1 * v2 - u2 * v1) * n1 < 0) := by
 have e1 : u1 * (n1 * v1 + n2 * v2) - v1 * (n1 * u1 + n2 * u2) = (u1 * v2 - u2 * v1) * n2 := by grind
 have e2 : u2 * (n1 * v1 + n2 * v2) - v2 * (n1 * u1 + n2 * u2) = -((u1 * v2 - u2 * v1) * n1) := by grind
 generalize n1 * u1 + n2 * u2 = A at *
 generalize n1 * v1 + n2 * v2 = B at *
 rw [← e1]
 have e3 : (u1 * v2 - u2 * v1) * n1 = -(u2 * B - v2 * A) := by grind
 rw [e3]
 clear e1 e2 e3
 rcases hu with hu | ⟨hu, hu'⟩
 ·have p1 := Rat.mul_pos (show 0 < -u1 by grind) (show 0 < -B by grind)
  rcases hv with hv | ⟨hv, hv'⟩
  ·have p2 := Rat.mul_pos hv (show 0 < -A by grind)
   left
   grind
  ·left
   rw [hv]
   grind
 ·rcases hv with hv | ⟨hv, hv'⟩
  ·have p2 := Rat.mul_pos hv (show 0 < -A by grind)
   left
   rw [hu]
   grind
  ·have p1 := Rat.mul_pos (show 0 < -u2 by grind) (show 0 < -B by grind)
   have p2 := Rat.mul_pos hv' (show 0 < -A by grind)
   right
   rw [hu, hv]
   refine ⟨by grind, by grind⟩
theorem tangent {k : Ci} {p x : Pt} (hp : pw k p = 0) (hx : pw k x ≤ 0) (hne : x ≠ p) : ((p.1 : Rat) - k.x) * ((x.1 : Rat) - p.1) + ((p.2 : Rat) - k.y) * ((x.2 : Rat) - p.2) < 0 := by
 have e : pw k x - pw k p = 2 * (((p.1 : Rat) - k.x) * ((x.1 : Rat) - p.1) + ((p.2 : Rat) - k.y) * ((x.2 : Rat) - p.2)) + (((x.1 : Rat) - p.1) * ((x.1 : Rat) - p.1) + ((x.2 : Rat) - p.2) * ((x.2 : Rat) - p.2)) := by
  unfold pw
  grind
 have x2 := rsq ((x.1 : Rat) - p.1)
 have y2 := rsq ((x.2 : Rat) - p.2)
 have hpos : 0 < ((x.1 : Rat) - p.1) * ((x.1 : Rat) - p.1) + ((x.2 : Rat) - p.2) * ((x.2 : Rat) - p.2) := by
  by_cases h : 0 < ((x.1 : Rat) - p.1) * ((x.1 : Rat) - p.1) + ((x.2 : Rat) - p.2) * ((x.2 : Rat) - p.2)
  ·exact h
  ·exfalso
   apply hne
   have hx0 := rsq0 (a := (x.1 : Rat) - p.1) (by grind)
   have hy0 := rsq0 (a := (x.2 : Rat) - p.2) (by grind)
   exact Prod.ext (Rat.intCast_inj.1 (by grind)) (Rat.intCast_inj.1 (by grind))
 rw [hp] at e
 grind
theorem ltp_ne {a b : Pt} (h : ltp a b = true) : a ≠ b := by
 intro e
 rw [e] at h
 unfold ltp at h
 have := of_decide_eq_true h
 omega
theorem rim_corner {U : List Pt} {k : Ci} {p : Pt} (hs : SortU U) (hk : ∀ q ∈ U, pw k q ≤ 0) (hp : p ∈ U) (h0 : pw k p = 0) : p ∈ hullM U := by
 unfold hullM
 split
 ·exact hp
 ·rename_i h3
  have hU2 : ∃ a b L, U = a :: b :: L := by
   match U, h3 with
   | a :: b :: L, _ => exact ⟨a, b, L, rfl⟩
   | [a], h => exact absurd (by simp) h
   | [], h => exact absurd (by simp) h
  have hrev : U.reverse.Pairwise (fun a b => ltp b a = true) := List.pairwise_reverse.2 hs
  rcases half_wit (fun a b => ltp a b = true) hs hp with h1 | ⟨a, ha, c, hc, h1, h2, h3'⟩
  ·rw [List.mem_append]
   by_cases hl : p ∈ (half U).dropLast
   ·exact .inl hl
   ·right
    obtain ⟨a, b, L, hU⟩ := hU2
    -- p is the last one: the first of the way back
    have hne : half U ≠ [] := by intro e; rw [e] at h1; cases h1
    have hlast : p = (half U).getLast hne := by
     have := List.dropLast_concat_getLast hne
     rw [← this] at h1
     rcases List.mem_append.1 h1 with h4 | h4
     ·exact absurd h4 hl
     ·exact List.mem_singleton.1 h4
    have hgl : (half U).getLast? = some p := by rw [List.getLast?_eq_some_getLast hne, hlast]
    rw [hU, (half_facts (a := a) (L := b :: L) (by simp)).2.1] at hgl
    have hrv : ∃ M, U.reverse = p :: M ∧ M ≠ [] := by
     have e : (b :: L).reverse.head? = some p := by rw [List.head?_reverse]; exact hgl
     cases hr : (b :: L).reverse with
     | nil => rw [hr] at e; cases e
     | cons x M =>
      rw [hr] at e
      have hx : x = p := by simpa using e
      refine ⟨M ++ [a], ?_, by simp⟩
      rw [hU, List.reverse_cons, hr, hx]
      rfl
    obtain ⟨M, hM, hMn⟩ := hrv
    rw [hM]
    have f := half_facts (a := p) (L := M) hMn
    cases hh : half (p :: M) with
    | nil => rw [hh] at f; simp at f
    | cons x T =>
     rw [hh] at f
     have hx : x = p := by simpa using f.1
     cases T with
     | nil => simp at f
     | cons y T => rw [hx]; simp
  ·rcases half_wit (fun a b => ltp b a = true) hrev (List.mem_reverse.2 hp) with h4 | ⟨a', ha', c', hc', g1, g2, g3⟩
   ·rw [List.mem_append]
    by_cases hl : p ∈ (half U.reverse).dropLast
    ·exact .inr hl
    ·left
     obtain ⟨a0, b0, L0, hU⟩ := hU2
     have hne : half U.reverse ≠ [] := by intro e; rw [e] at h4; cases h4
     have hlast : p = (half U.reverse).getLast hne := by
      have := List.dropLast_concat_getLast hne
      rw [← this] at h4
      rcases List.mem_append.1 h4 with h5 | h5
      ·exact absurd h5 hl
      ·exact List.mem_singleton.1 h5
     have hgl : (half U.reverse).getLast? = some p := by rw [List.getLast?_eq_some_getLast hne, hlast]
     have hpa : p = a0 := by
      cases hr : (b0 :: L0).reverse with
      | nil => simp at hr
      | cons x M =>
       have hrv : U.reverse = x :: (M ++ [a0]) := by rw [hU, List.reverse_cons, hr]; rfl
       rw [hrv, (half_facts (a := x) (L := M ++ [a0]) (by simp)).2.1, List.getLast?_append] at hgl
       simpa using hgl.symm
     have f := half_facts (a := a0) (L := b0 :: L0) (by simp)
     rw [hU]
     cases hh : half (a0 :: b0 :: L0) with
     | nil => rw [hh] at f; simp at f
     | cons x T =>
      rw [hh] at f
      have hx : x = a0 := by simpa using f.1
      cases T with
      | nil => simp at f
      | cons y T => rw [hx, hpa]; simp
   ·exfalso
    have d1 := dir_of (ltp_dir h1) (by have := ltp_dir h2; grind) (tangent h0 (hk a ha) (ltp_ne h1)) (tangent h0 (hk c hc) (ltp_ne h2).symm)
    have d2 := dir_of (ltp_dir g2) (by have := ltp_dir g1; grind) (tangent h0 (hk c' (List.mem_reverse.1 hc')) (ltp_ne g2)) (tangent h0 (hk a' (List.mem_reverse.1 ha')) (ltp_ne g1).symm)
    have s1 : (0 : Rat) ≤ ((a.1 : Rat) - p.1) * ((c.2 : Rat) - p.2) - ((a.2 : Rat) - p.2) * ((c.1 : Rat) - p.1) := by
     have e := side_q a p c
     have := Rat.intCast_le_intCast.2 h3'
     rw [e] at this
     have z : ((0 : Int) : Rat) = 0 := rfl
     grind
    have s2 : ((c'.1 : Rat) - p.1) * ((a'.2 : Rat) - p.2) - ((c'.2 : Rat) - p.2) * ((a'.1 : Rat) - p.1) ≤ 0 := by
     have e := side_q a' p c'
     have := Rat.intCast_le_intCast.2 g3
     rw [e] at this
     have z : ((0 : Int) : Rat) = 0 := rfl
     grind
    generalize ((a.1 : Rat) - p.1) * ((c.2 : Rat) - p.2) - ((a.2 : Rat) - p.2) * ((c.1 : Rat) - p.1) = A at *
    generalize ((c'.1 : Rat) - p.1) * ((a'.2 : Rat) - p.2) - ((c'.2 : Rat) - p.2) * ((a'.1 : Rat) - p.1) = B at *
    generalize (p.1 : Rat) - k.x = n1 at *
    generalize (p.2 : Rat) - k.y = n2 at *
    -- the one says that n2 is positive (or nought, and n1 negative), the other the contrary
    have q1 : 0 < n2 ∨ (n2 = 0 ∧ n1 < 0) := by
     rcases d1 with d | ⟨d, d'⟩
     ·left
      by_cases h : 0 < n2
      ·exact h
      ·have := rmul s1 (show n2 ≤ 0 by grind); grind
     ·have hA : A ≠ 0 := by intro e; rw [e] at d'; grind
      right
      refine ⟨(Rat.mul_eq_zero.1 d).resolve_left hA, ?_⟩
      by_cases h : n1 < 0
      ·exact h
      ·have := Rat.mul_nonneg s1 (show 0 ≤ n1 by grind); grind
    have q2 : n2 < 0 ∨ (n2 = 0 ∧ 0 < n1) := by
     rcases d2 with d | ⟨d, d'⟩
     ·left
      by_cases h : n2 < 0
      ·exact h
      ·have := Rat.mul_nonneg (show 0 ≤ -B by grind) (show 0 ≤ n2 by grind); grind
     ·have hB : B ≠ 0 := by intro e; rw [e] at d'; grind
      right
      refine ⟨(Rat.mul_eq_zero.1 d).resolve_left hB, ?_⟩
      by_cases h : 0 < n1
      ·exact h
      ·have := Rat.mul_nonneg (show 0 ≤ -B by grind) (show 0 ≤ -n1 by grind); grind
    grind
def dt (a b c : Pt) : Int := (b.1 - a.1) * (c.1 - a.1) + (b.2 - a.2) * (c.2 - a.2)
def Sharp (a b c : Pt) : Prop := 0 ≤ dt a b c ∧ 0 ≤ dt b c a ∧ 0 ≤ dt c a b
theorem dt_q (a b c : Pt) : ((dt a b c : Int) : Rat) = ((b.1 : Rat) - a.1) * ((c.1 : Rat) - a.1) + ((b.2 : Rat) - a.2) * ((c.2 : Rat) - a.2) := by
 unfold dt
 simp only [Rat.intCast_sub, Rat.intCast_add, Rat.intCast_mul]
theorem sd_q (a b c : Pt) : ((side a b c : Int) : Rat) = ((b.1 : Rat) - a.1) * ((c.2 : Rat) - a.2) - ((b.2 : Rat) - a.2) * ((c.1 : Rat) - a.1) := by
 unfold side
 simp only [Rat.intCast_sub, Rat.intCast_add, Rat.intCast_mul]
theorem Cer.mono {S S' R : List Pt} {c : Ci} (h : Cer S R c) (hs : ∀ s ∈ S, s ∈ S') : Cer S' R c := fun v w a hS hR => h v w a (fun s h1 => hS s (hs s h1)) hR
theorem apart_pos {p q : Pt} (h : p ≠ q) : 0 < ((q.1 : Rat) - p.1) * ((q.1 : Rat) - p.1) + ((q.2 : Rat) - p.2) * ((q.2 : Rat) - p.2) := by
 have x2 := rsq ((q.1 : Rat) - p.1)
 have y2 := rsq ((q.2 : Rat) - p.2)
 by_cases h0 : 0 < ((q.1 : Rat) - p.1) * ((q.1 : Rat) - p.1) + ((q.2 : Rat) - p.2) * ((q.2 : Rat) - p.2)
 ·exact h0
 ·exfalso
  apply h
  have hx0 := rsq0 (a := (q.1 : Rat) - p.1) (by grind)
  have hy0 := rsq0 (a := (q.2 : Rat) - p.2) (by grind)
  exact Prod.ext (Rat.intCast_inj.1 (by grind)) (Rat.intCast_inj.1 (by grind))
theorem cer_one {s : Pt} {c : Ci} (h : Cer [s] [] c) : c.x = (s.1 : Rat) ∧ c.y = (s.2 : Rat) := by
 have nn : ∀ r ∈ ([] : List Pt), True := fun _ _ => trivial
 have one : ∀ v w : Rat, v * c.x + w * c.y + -(v * (s.1 : Rat) + w * (s.2 : Rat)) ≤ 0 := fun v w => h v w _ (fun q hq => by
  rw [List.mem_singleton.1 hq]
  grind) (fun r hr => (nomatch hr))
 have a1 := one 1 0
 have a2 := one (-1) 0
 have a3 := one 0 1
 have a4 := one 0 (-1)
 refine ⟨by grind, by grind⟩
theorem cer_two {s t : Pt} {c : Ci} (h : Cer [s, t] [] c) (hs : pw c s = 0) (ht : pw c t = 0) (hne : s ≠ t) : c.x * 2 = (s.1 : Rat) + (t.1 : Rat) ∧ c.y * 2 = (s.2 : Rat) + (t.2 : Rat) := by
 have key : ∀ g : Rat, g * (((t.1 : Rat) - s.1) * (c.y - s.2) - ((t.2 : Rat) - s.2) * (c.x - s.1)) ≤ 0 := by
  intro g
  have := h (-(g * ((t.2 : Rat) - s.2))) (g * ((t.1 : Rat) - s.1)) (g * (((t.2 : Rat) - s.2) * (s.1 : Rat) - ((t.1 : Rat) - s.1) * (s.2 : Rat))) (fun q hq => by
   rcases List.mem_cons.1 hq with h1 | h1
   ·rw [h1]; grind
   ·rw [List.mem_singleton.1 h1]; grind) (fun r hr => (nomatch hr))
  grind
 have k1 := key 1
 have k2 := key (-1)
 have hz : ((t.1 : Rat) - s.1) * (c.y - s.2) - ((t.2 : Rat) - s.2) * (c.x - s.1) = 0 := by grind
 have hd := apart_pos hne
 unfold pw at hs ht
 generalize hd1 : (t.1 : Rat) - s.1 = d1 at *
 generalize hd2 : (t.2 : Rat) - s.2 = d2 at *
 have he : d1 * (c.x * 2 - (s.1 : Rat) - (t.1 : Rat)) + d2 * (c.y * 2 - (s.2 : Rat) - (t.2 : Rat)) = 0 := by grind
 have hc : d1 * (c.y * 2 - (s.2 : Rat) - (t.2 : Rat)) - d2 * (c.x * 2 - (s.1 : Rat) - (t.1 : Rat)) = 0 := by grind
 have hn : d1 * d1 + d2 * d2 ≠ 0 := by grind
 have z1 : (d1 * d1 + d2 * d2) * (c.x * 2 - (s.1 : Rat) - (t.1 : Rat)) = 0 := by grind
 have z2 : (d1 * d1 + d2 * d2) * (c.y * 2 - (s.2 : Rat) - (t.2 : Rat)) = 0 := by grind
 have w1 := (Rat.mul_eq_zero.1 z1).resolve_left hn
 have w2 := (Rat.mul_eq_zero.1 z2).resolve_left hn
 refine ⟨by grind, by grind⟩
theorem cer_three {s t r : Pt} {c : Ci} (h : Cer [s, t, r] [] c) (hs : pw c s = 0) (ht : pw c t = 0) (hr : pw c r = 0) (hne : t ≠ r) : 0 ≤ dt s t r := by
 have key := h (((side t r s : Int) : Rat) * ((r.2 : Rat) - t.2)) (-(((side t r s : Int) : Rat) * ((r.1 : Rat) - t.1))) (((side t r s : Int) : Rat) * (((r.1 : Rat) - t.1) * (t.2 : Rat) - ((r.2 : Rat) - t.2) * (t.1 : Rat))) (fun q hq => by
  rcases List.mem_cons.1 hq with h1 | h1
  ·rw [h1]
   have e := sd_q t r s
   have := rsq ((side t r s : Int) : Rat)
   generalize ((side t r s : Int) : Rat) = g at *
   have e2 : g * ((r.2 : Rat) - t.2) * (s.1 : Rat) + -(g * ((r.1 : Rat) - t.1)) * (s.2 : Rat) + g * (((r.1 : Rat) - t.1) * (t.2 : Rat) - ((r.2 : Rat) - t.2) * (t.1 : Rat)) = -(g * (((r.1 : Rat) - t.1) * ((s.2 : Rat) - t.2) - ((r.2 : Rat) - t.2) * ((s.1 : Rat) - t.1))) := by grind
   rw [e2, ← e]
   grind
  ·rcases List.mem_cons.1 h1 with h2 | h2
   ·rw [h2]; grind
   ·rw [List.mem_singleton.1 h2]; grind) (fun r hr => (nomatch hr))
 have e := sd_q t r s
 have hd := apart_pos hne
 generalize ((side t r s : Int) : Rat) = g at *
 have k1 : 0 ≤ g * (((r.1 : Rat) - t.1) * (c.y - t.2) - ((r.2 : Rat) - t.2) * (c.x - t.1)) := by grind
 have id2 : 2 * (g * (((r.1 : Rat) - t.1) * (c.y - t.2) - ((r.2 : Rat) - t.2) * (c.x - t.1))) = (((r.1 : Rat) - t.1) * ((r.1 : Rat) - t.1) + ((r.2 : Rat) - t.2) * ((r.2 : Rat) - t.2)) * ((dt s t r : Int) : Rat) := by
  rw [dt_q, e]
  unfold pw at hs ht hr
  clear key k1 h hd e
  generalize hu1 : (r.1 : Rat) - t.1 = u1 at *
  generalize hu2 : (r.2 : Rat) - t.2 = u2 at *
  generalize hv1 : (s.1 : Rat) - t.1 = v1 at *
  generalize hv2 : (s.2 : Rat) - t.2 = v2 at *
  generalize hm1 : c.x - (t.1 : Rat) = m1 at *
  generalize hm2 : c.y - (t.2 : Rat) = m2 at *
  have hu : u1 * u1 + u2 * u2 = 2 * (u1 * m1 + u2 * m2) := by grind
  have hv : v1 * v1 + v2 * v2 = 2 * (v1 * m1 + v2 * m2) := by grind
  have e1 : (t.1 : Rat) - s.1 = -v1 := by grind
  have e2 : (t.2 : Rat) - s.2 = -v2 := by grind
  have e3 : (r.1 : Rat) - s.1 = u1 - v1 := by grind
  have e4 : (r.2 : Rat) - s.2 = u2 - v2 := by grind
  rw [e1, e2, e3, e4]
  clear e1 e2 e3 e4 hu1 hu2 hv1 hv2 hm1 hm2 hs ht hr
  have i1 : -v1 * (u1 - v1) + -v2 * (u2 - v2) = (v1 * v1 + v2 * v2) - (u1 * v1 + u2 * v2) := by grind
  rw [i1]
  have i2 : 2 * ((u1 * v2 - u2 * v1) * (u1 * m2 - u2 * m1)) = 2 * ((u1 * u1 + u2 * u2) * (v1 * m1 + v2 * m2)) - 2 * ((u1 * v1 + u2 * v2) * (u1 * m1 + u2 * m2)) := by grind
  rw [i2]
  grind
 have k2 : 0 ≤ (((r.1 : Rat) - t.1) * ((r.1 : Rat) - t.1) + ((r.2 : Rat) - t.2) * ((r.2 : Rat) - t.2)) * ((dt s t r : Int) : Rat) := by rw [← id2]; grind
 by_cases h0 : 0 ≤ dt s t r
 ·exact h0
 ·exfalso
  have h1 : ((dt s t r : Int) : Rat) < 0 := by
   have := Rat.intCast_lt_intCast.2 (show dt s t r < 0 by omega)
   simpa using this
  have := Rat.mul_pos hd (show 0 < -((dt s t r : Int) : Rat) by grind)
  grind
theorem told {P S : List Pt} {c : Ci} (h : Md P [] S c) (hl : S.length ≤ 3) :
  (∃ s ∈ P, pw c s = 0 ∧ c.x = (s.1 : Rat) ∧ c.y = (s.2 : Rat)) ∨ (∃ a ∈ P, ∃ b ∈ P, a ≠ b ∧ pw c a = 0 ∧ pw c b = 0 ∧ c.x * 2 = (a.1 : Rat) + (b.1 : Rat) ∧ c.y * 2 = (a.2 : Rat) + (b.2 : Rat)) ∨
  (∃ a ∈ P, ∃ b ∈ P, ∃ d ∈ P, a ≠ b ∧ a ≠ d ∧ b ≠ d ∧ pw c a = 0 ∧ pw c b = 0 ∧ pw c d = 0 ∧ Sharp a b d) := by
 have one : ∀ s ∈ S, Cer [s] [] c → (∃ s ∈ P, pw c s = 0 ∧ c.x = (s.1 : Rat) ∧ c.y = (s.2 : Rat)) := fun s hs hc => ⟨s, h.sub s hs, h.on s hs, cer_one hc⟩
 have two : ∀ s ∈ S, ∀ t ∈ S, s ≠ t → Cer [s, t] [] c → (∃ a ∈ P, ∃ b ∈ P, a ≠ b ∧ pw c a = 0 ∧ pw c b = 0 ∧ c.x * 2 = (a.1 : Rat) + (b.1 : Rat) ∧ c.y * 2 = (a.2 : Rat) + (b.2 : Rat)) :=
   fun s hs t ht hn hc => ⟨s, h.sub s hs, t, h.sub t ht, hn, h.on s hs, h.on t ht, cer_two hc (h.on s hs) (h.on t ht) hn⟩
 have h2 : ∀ s ∈ S, ∀ t ∈ S, Cer [s, t] [] c → (∃ s ∈ P, pw c s = 0 ∧ c.x = (s.1 : Rat) ∧ c.y = (s.2 : Rat)) ∨ (∃ a ∈ P, ∃ b ∈ P, a ≠ b ∧ pw c a = 0 ∧ pw c b = 0 ∧ c.x * 2 = (a.1 : Rat) + (b.1 : Rat) ∧ c.y * 2 = (a.2 : Rat) + (b.2 : Rat)) := by
  intro s hs t ht hc
  by_cases e : s = t
  ·exact .inl (one s hs (hc.mono (fun q hq => by
    rw [← e] at hq
    rcases List.mem_cons.1 hq with q1 | q1
    ·simp [q1]
    ·exact q1)))
  ·exact .inr (two s hs t ht e hc)
 match S, hl, h, one, two, h2 with
 | [], _, h, _, _, _ =>
  have := h.cer 0 0 1 (fun s hs => (nomatch hs)) (fun s hs => (nomatch hs))
  exfalso
  grind
 | [s], _, h, one, _, _ => exact .inl (one s (by simp) h.cer)
 | [s, t], _, h, _, _, h2 =>
  rcases h2 s (by simp) t (by simp) h.cer with q | q
  ·exact .inl q
  ·exact .inr (.inl q)
 | [s, t, r], _, h, _, _, h2 =>
  have pair : ∀ x y, x ∈ [s, t, r] → y ∈ [s, t, r] → Cer [x, y] [] c → _ := fun x y hx hy hc => (h2 x hx y hy hc)
  by_cases e1 : s = t
  ·rcases pair s r (by simp) (by simp) (h.cer.mono (fun q hq => by rw [← e1] at hq; simp at hq ⊢; exact hq)) with q | q
   ·exact .inl q
   ·exact .inr (.inl q)
  ·by_cases e2 : s = r
   ·rcases pair s t (by simp) (by simp) (h.cer.mono (fun q hq => by rw [← e2] at hq; simp at hq ⊢; grind)) with q | q
    ·exact .inl q
    ·exact .inr (.inl q)
   ·by_cases e3 : t = r
    ·rcases pair s t (by simp) (by simp) (h.cer.mono (fun q hq => by rw [← e3] at hq; simp at hq ⊢; exact hq)) with q | q
     ·exact .inl q
     ·exact .inr (.inl q)
    ·refine .inr (.inr ⟨s, h.sub s (by simp), t, h.sub t (by simp), r, h.sub r (by simp), e1, e2, e3, h.on s (by simp), h.on t (by simp), h.on r (by simp), ?_, ?_, ?_⟩)
     ·exact cer_three h.cer (h.on s (by simp)) (h.on t (by simp)) (h.on r (by simp)) e3
     ·exact cer_three (h.cer.mono (fun q hq => by simp at hq ⊢; grind)) (h.on t (by simp)) (h.on r (by simp)) (h.on s (by simp)) (Ne.symm e2)
     ·exact cer_three (h.cer.mono (fun q hq => by simp at hq ⊢; grind)) (h.on r (by simp)) (h.on s (by simp)) (h.on t (by simp)) e1
theorem sharp_cer {a b d : Pt} {c : Ci} (ha : pw c a = 0) (hb : pw c b = 0) (hd : pw c d = 0) (hs : side a b d ≠ 0) (h : Sharp a b d) : Cer [a, b, d] [] c := by
 intro v w e hS _
 have sa := hS a (by simp)
 have sb := hS b (by simp)
 have sd := hS d (by simp)
 obtain ⟨q1, q2, q3⟩ := h
 have p1 : (0 : Rat) ≤ ((dt a b d : Int) : Rat) := by have := Rat.intCast_le_intCast.2 q1; simpa using this
 have p2 : (0 : Rat) ≤ ((dt b d a : Int) : Rat) := by have := Rat.intCast_le_intCast.2 q2; simpa using this
 have p3 : (0 : Rat) ≤ ((dt d a b : Int) : Rat) := by have := Rat.intCast_le_intCast.2 q3; simpa using this
 have hW : ((side a b d : Int) : Rat) ≠ 0 := by
  intro h0
  exact hs (Rat.intCast_inj.1 (by simpa using h0))
 have hW2 : 0 < ((side a b d : Int) : Rat) * ((side a b d : Int) : Rat) := by
  have := rsq ((side a b d : Int) : Rat)
  by_cases h0 : 0 < ((side a b d : Int) : Rat) * ((side a b d : Int) : Rat)
  ·exact h0
  ·exact absurd (rsq0 (by grind)) hW
 rw [dt_q] at p1 p2 p3
 rw [sd_q] at hW2
 unfold pw at ha hb hd
 generalize hu1 : (b.1 : Rat) - a.1 = u1 at *
 generalize hu2 : (b.2 : Rat) - a.2 = u2 at *
 generalize hv1 : (d.1 : Rat) - a.1 = v1 at *
 generalize hv2 : (d.2 : Rat) - a.2 = v2 at *
 generalize hm1 : c.x - (a.1 : Rat) = m1 at *
 generalize hm2 : c.y - (a.2 : Rat) = m2 at *
 have hu : u1 * u1 + u2 * u2 = 2 * (u1 * m1 + u2 * m2) := by grind
 have hv : v1 * v1 + v2 * v2 = 2 * (v1 * m1 + v2 * m2) := by grind
 have e1 : (a.1 : Rat) - b.1 = -u1 := by grind
 have e2 : (a.2 : Rat) - b.2 = -u2 := by grind
 have e3 : (d.1 : Rat) - b.1 = v1 - u1 := by grind
 have e4 : (d.2 : Rat) - b.2 = v2 - u2 := by grind
 have e5 : (a.1 : Rat) - d.1 = -v1 := by grind
 have e6 : (a.2 : Rat) - d.2 = -v2 := by grind
 have e7 : (b.1 : Rat) - d.1 = u1 - v1 := by grind
 have e8 : (b.2 : Rat) - d.2 = u2 - v2 := by grind
 rw [e3, e4, e1, e2] at p2
 rw [e5, e6, e7, e8] at p3
 have hcx : c.x = (a.1 : Rat) + m1 := by grind
 have hcy : c.y = (a.2 : Rat) + m2 := by grind
 have hbx : (b.1 : Rat) = (a.1 : Rat) + u1 := by grind
 have hby : (b.2 : Rat) = (a.2 : Rat) + u2 := by grind
 have hdx : (d.1 : Rat) = (a.1 : Rat) + v1 := by grind
 have hdy : (d.2 : Rat) = (a.2 : Rat) + v2 := by grind
 rw [hbx, hby] at sb
 rw [hdx, hdy] at sd
 rw [hcx, hcy]
 clear e1 e2 e3 e4 e5 e6 e7 e8 hu1 hu2 hv1 hv2 hm1 hm2 ha hb hd hcx hcy hbx hby hdx hdy hS hW
 have n1 : 2 * ((u1 * v2 - u2 * v1) * m1) = (u1 * u1 + u2 * u2) * v2 - (v1 * v1 + v2 * v2) * u2 := by rw [hu, hv]; grind
 have n2 : 2 * ((u1 * v2 - u2 * v1) * m2) = (v1 * v1 + v2 * v2) * u1 - (u1 * u1 + u2 * u2) * v1 := by rw [hu, hv]; grind
 clear hu hv
 have wa := rmul (Rat.mul_nonneg (show 0 ≤ (u1 - v1) * (u1 - v1) + (u2 - v2) * (u2 - v2) by have := rsq (u1 - v1); have := rsq (u2 - v2); grind) p1) sa
 have wb := rmul (Rat.mul_nonneg (show 0 ≤ v1 * v1 + v2 * v2 by have := rsq v1; have := rsq v2; grind) p2) sb
 have wd := rmul (Rat.mul_nonneg (show 0 ≤ u1 * u1 + u2 * u2 by have := rsq u1; have := rsq u2; grind) p3) sd
 refine rneg hW2 ?_
 have fin : 2 * ((u1 * v2 - u2 * v1) * (u1 * v2 - u2 * v1) * (v * ((a.1 : Rat) + m1) + w * ((a.2 : Rat) + m2) + e)) =
   (((u1 - v1) * (u1 - v1) + (u2 - v2) * (u2 - v2)) * (u1 * v1 + u2 * v2)) * (v * (a.1 : Rat) + w * (a.2 : Rat) + e)
   + ((v1 * v1 + v2 * v2) * ((v1 - u1) * -u1 + (v2 - u2) * -u2)) * (v * ((a.1 : Rat) + u1) + w * ((a.2 : Rat) + u2) + e)
   + ((u1 * u1 + u2 * u2) * (-v1 * (u1 - v1) + -v2 * (u2 - v2))) * (v * ((a.1 : Rat) + v1) + w * ((a.2 : Rat) + v2) + e) := by
  have f0 : 2 * ((u1 * v2 - u2 * v1) * (u1 * v2 - u2 * v1) * (v * ((a.1 : Rat) + m1) + w * ((a.2 : Rat) + m2) + e)) = 2 * ((u1 * v2 - u2 * v1) * (u1 * v2 - u2 * v1)) * (v * (a.1 : Rat) + w * (a.2 : Rat) + e) + (u1 * v2 - u2 * v1) * v * (2 * ((u1 * v2 - u2 * v1) * m1)) + (u1 * v2 - u2 * v1) * w * (2 * ((u1 * v2 - u2 * v1) * m2)) := by grind
  rw [f0, n1, n2]
  grind
 grind
end Go.Proofs.Ytdcecfgmfmpeeaa
