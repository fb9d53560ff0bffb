/-
  The smallest circle by growing: what the program's smallestCircle works out, in plain lists. smallestCircle is the smallest circle; at most three points on its rim tell it. Who lies on the rim of a circle that has all points is a corner of their hull. By whom the smallest circle is told: one point, two across from one another, or three without an angle above a right one. The order of points, as the program asks it: comparing, the lesser and the greater of two. The library's generic functions at this program's points and sides, laid by its own program in plain words. The program asks of a list of points whether all are right; Turn of both sides. A strip without width; the narrowest of strips. A statement of the program's ZoneOf, walked alone: a strip without width is told. Points that are near enough: both sides ask it alike. slices.Compact of points: a row without its runs. slices.Compact of points, walked. slices.SortFunc of points, laid at the seat. slices.SortFunc of points by comparePoints: a permutation, sorted. Hull of the program and of the model: the same points and the same code at every list. Hull of the model and of the program at every list of points, right or not. The program's ZoneOf. The smallest circle told by pairs and triples: the program's way (on the rim) and the model's (the hull's corners) give one answer. Small contracts for circles: apart, l09Circle, l09Sharp. The model's small parts for circles: l09Circle, l09Sharp, l09Pair. l09Has: whether a circle has all points of a row.
-/
import Derived.Test.YtdcecfgmfmpeeaaRga1
import Derived.Test.YtdcecfgmfmpeeaaHuMath
import Derived.Test.YtdcecfgmfmpeeaaOrder
import Derived.Shelf.SlicesQ.IndexFunc
import Derived.Shelf.SlicesQ.Contains
import Derived.Shelf.SlicesQ.Reverse
import Derived.Shelf.SlicesE.Clone
import Derived.Test.YtdcecfgmfmpeeaaProg
import Derived.Test.YtdcecfgmfmpeeaaPoints
import Derived.Test.YtdcecfgmfmpeeaaZal
import Derived.Test.YtdcecfgmfmpeeaaMakes
import Derived.Test.YtdcecfgmfmpeeaaInv
import Derived.Test.YtdcecfgmfmpeeaaZfn
import Derived.Test.YtdcecfgmfmpeeaaHta
import Derived.Test.YtdcecfgmfmpeeaaHsb
import Derived.Lib.SliceRun
import Derived.Shelf.SlSortCmp.WholeK
import Derived.Shelf.SlGeneric
import Derived.Ground.SlsfProg
import Derived.Test.YtdcecfgmfmpeeaaHhm
namespace Go.Proofs.Ytdcecfgmfmpeeaa
set_option linter.unusedVariables false
set_option linter.unusedSimpArgs false

def sq (p : Pt) : Int := p.1 * p.1 + p.2 * p.2
def ctr (a b c : Pt) : Sp :=
  red ((a.1 * (2 * side a b c) + (c.2 - a.2) * sq (sub b a) - (b.2 - a.2) * sq (sub c a)) * sgn (2 * side a b c))
    ((a.2 * (2 * side a b c) + (b.1 - a.1) * sq (sub c a) - (c.1 - a.1) * sq (sub b a)) * sgn (2 * side a b c))
    (2 * side a b c * sgn (2 * side a b c))
def thr : List Pt → Ic
  | [] => ⟨0, 0, 1, -1⟩
  | [a] => cir (red a.1 a.2 1) a
  | [a, b] => cir (red (a.1 + b.1) (a.2 + b.2) 2) a
  | a :: b :: c :: _ => cir (ctr a b c) a
def smcI (f : List Pt → List Pt → Ic) (P R : List Pt) : Nat → Ic
  | 0 => thr R
  | i + 1 => if (smcI f P R i).N < apt (smcI f P R i) (ptAt P i) then f (P.take i) (R ++ [ptAt P i]) else smcI f P R i
def smc : Nat → List Pt → List Pt → Ic
  | 0 => fun P R => thr R
  | k + 1 => fun P R => smcI (smc k) P R P.length
/-- two apart, three not on one line -/
def Gd : List Pt → Prop
  | [a, b] => a ≠ b
  | a :: b :: c :: _ => side a b c ≠ 0
  | _ => True
theorem thr1 (a : Pt) : Is (thr [a]) ⟨a.1, a.2, 0⟩ ∧ Md [] [a] [] ⟨a.1, a.2, 0⟩ := by
  obtain ⟨k, hI, hx, hy, hp⟩ := cir_is a.1 a.2 1 a (by decide)
  have hx' : k.x = (a.1 : Rat) := by simpa using hx
  have hy' : k.y = (a.2 : Rat) := by simpa using hy
  have hk : k = ⟨a.1, a.2, 0⟩ := by
    obtain ⟨x, y, n⟩ := k
    simp only at hx' hy'
    unfold pw at hp
    simp only [Ci.mk.injEq]
    refine ⟨hx', hy', ?_⟩
    rw [hx', hy'] at hp
    grind
  rw [hk] at hI hp
  refine ⟨hI, ⟨⟨fun p h => (nomatch h), fun r h => by rw [List.mem_singleton.1 h]; exact hp⟩, fun s h => (nomatch h), fun s h => (nomatch h), fun v w b _ h => ?_⟩⟩
  have := h a (by simp)
  show v * (a.1 : Rat) + w * (a.2 : Rat) + b ≤ 0
  rw [this]
  exact Rat.le_refl
theorem thr2 (a b : Pt) : ∃ k, Is (thr [a, b]) k ∧ Md [] [a, b] [] k ∧ k.x * 2 = (a.1 : Rat) + (b.1 : Rat) ∧ k.y * 2 = (a.2 : Rat) + (b.2 : Rat) := by
  obtain ⟨k, hI, hx, hy, hp⟩ := cir_is (a.1 + b.1) (a.2 + b.2) 2 a (by decide)
  have hx' : k.x * 2 = (a.1 : Rat) + (b.1 : Rat) := by rw [Rat.intCast_add] at hx; simpa using hx
  have hy' : k.y * 2 = (a.2 : Rat) + (b.2 : Rat) := by rw [Rat.intCast_add] at hy; simpa using hy
  have hb : pw k b = 0 := by
    unfold pw at hp ⊢
    have e1 : (b.1 : Rat) - k.x = -((a.1 : Rat) - k.x) := by grind
    have e2 : (b.2 : Rat) - k.y = -((a.2 : Rat) - k.y) := by grind
    rw [e1, e2]
    grind
  refine ⟨k, hI, ⟨⟨fun p h => (nomatch h), fun r h => ?_⟩, fun s h => (nomatch h), fun s h => (nomatch h), fun v w c _ h => ?_⟩, hx', hy'⟩
  · rcases List.mem_cons.1 h with h1 | h1
    · rw [h1]; exact hp
    · rw [List.mem_singleton.1 h1]; exact hb
  · have h1 := h a (by simp)
    have h2 := h b (by simp)
    have e : (v * k.x + w * k.y + c) * 2 = (v * (a.1 : Rat) + w * (a.2 : Rat) + c) + (v * (b.1 : Rat) + w * (b.2 : Rat) + c) := by
      have e0 : (v * k.x + w * k.y + c) * 2 = v * (k.x * 2) + w * (k.y * 2) + 2 * c := by grind
      rw [e0, hx', hy']
      grind
    rw [h1, h2] at e
    grind
/-- what is nought at three points that are not on one line is nought everywhere -/
theorem aff0 {a b c : Pt} (hs : side a b c ≠ 0) {v w e : Rat} (ha : v * (a.1 : Rat) + w * (a.2 : Rat) + e = 0) (hb : v * (b.1 : Rat) + w * (b.2 : Rat) + e = 0) (hc : v * (c.1 : Rat) + w * (c.2 : Rat) + e = 0) : v = 0 ∧ w = 0 ∧ e = 0 := by
  have hS : ((b.1 : Rat) - a.1) * ((c.2 : Rat) - a.2) - ((b.2 : Rat) - a.2) * ((c.1 : Rat) - a.1) ≠ 0 := by
    intro h
    apply hs
    refine Rat.intCast_inj.1 ?_
    unfold side
    simp only [Rat.intCast_sub, Rat.intCast_add, Rat.intCast_mul]
    simpa using h
  have h1 : v * (((b.1 : Rat) - a.1) * ((c.2 : Rat) - a.2) - ((b.2 : Rat) - a.2) * ((c.1 : Rat) - a.1)) = 0 := by grind
  have h2 : w * (((b.1 : Rat) - a.1) * ((c.2 : Rat) - a.2) - ((b.2 : Rat) - a.2) * ((c.1 : Rat) - a.1)) = 0 := by grind
  have hv : v = 0 := (Rat.mul_eq_zero.1 h1).resolve_right hS
  have hw : w = 0 := (Rat.mul_eq_zero.1 h2).resolve_right hS
  refine ⟨hv, hw, ?_⟩
  rw [hv, hw] at ha
  grind
theorem pw_diff (k k' : Ci) (p : Pt) : pw k' p - pw k p = (-2 * (k'.x - k.x)) * (p.1 : Rat) + (-2 * (k'.y - k.y)) * (p.2 : Rat) + ((k'.x * k'.x + k'.y * k'.y - k'.n) - (k.x * k.x + k.y * k.y - k.n)) := by
  unfold pw
  grind
/-- one circle goes through three points -/
theorem three_one {a b c : Pt} (hs : side a b c ≠ 0) {k k' : Ci} (h : ∀ r ∈ [a, b, c], pw k r = 0) (h' : ∀ r ∈ [a, b, c], pw k' r = 0) : k' = k := by
  have e1 := pw_diff k k' a
  have e2 := pw_diff k k' b
  have e3 := pw_diff k k' c
  rw [h a (by simp), h' a (by simp)] at e1
  rw [h b (by simp), h' b (by simp)] at e2
  rw [h c (by simp), h' c (by simp)] at e3
  obtain ⟨q1, q2, q3⟩ := aff0 hs (by rw [← e1]; grind) (by rw [← e2]; grind) (by rw [← e3]; grind)
  obtain ⟨x, y, n⟩ := k
  obtain ⟨x', y', n'⟩ := k'
  simp only [Ci.mk.injEq] at *
  have hx : x' = x := by grind
  have hy : y' = y := by grind
  refine ⟨hx, hy, ?_⟩
  rw [hx, hy] at q3
  grind
theorem sgn_up {w : Int} (h : w ≠ 0) : 0 < w * sgn w ∧ sgn w * sgn w = 1 := by
  unfold sgn
  by_cases h1 : 0 < w
  · rw [if_pos h1]; omega
  · rw [if_neg h1, if_pos (by omega)]; omega
theorem thr3 (a b c : Pt) (T : List Pt) (hs : side a b c ≠ 0) : ∃ k, Is (thr (a :: b :: c :: T)) k ∧ Md [] [a, b, c] [] k := by
  obtain ⟨hw, hss⟩ := sgn_up (w := 2 * side a b c) (by omega)
  obtain ⟨k, hI, hx, hy, hp⟩ := cir_is ((a.1 * (2 * side a b c) + (c.2 - a.2) * sq (sub b a) - (b.2 - a.2) * sq (sub c a)) * sgn (2 * side a b c))
    ((a.2 * (2 * side a b c) + (b.1 - a.1) * sq (sub c a) - (c.1 - a.1) * sq (sub b a)) * sgn (2 * side a b c)) (2 * side a b c * sgn (2 * side a b c)) a hw
  have hT : (((2 * side a b c : Int)) : Rat) = 2 * (((b.1 : Rat) - a.1) * ((c.2 : Rat) - a.2) - ((b.2 : Rat) - a.2) * ((c.1 : Rat) - a.1)) := by
    unfold side
    simp only [Rat.intCast_sub, Rat.intCast_add, Rat.intCast_mul]
    rfl
  have hT0 : (((2 * side a b c : Int)) : Rat) ≠ 0 := by
    intro h
    have : (2 * side a b c : Int) = 0 := Rat.intCast_inj.1 (by simpa using h)
    omega
  have hg : ((sgn (2 * side a b c) : Int) : Rat) * ((sgn (2 * side a b c) : Int) : Rat) = 1 := by
    rw [← Rat.intCast_mul, hss]; rfl
  have hx2 : k.x * (((2 * side a b c : Int)) : Rat) = (a.1 : Rat) * (((2 * side a b c : Int)) : Rat) + ((c.2 : Rat) - a.2) * (((b.1 : Rat) - a.1) * ((b.1 : Rat) - a.1) + ((b.2 : Rat) - a.2) * ((b.2 : Rat) - a.2)) - ((b.2 : Rat) - a.2) * (((c.1 : Rat) - a.1) * ((c.1 : Rat) - a.1) + ((c.2 : Rat) - a.2) * ((c.2 : Rat) - a.2)) := by
    unfold sq sub at hx
    rw [Rat.intCast_mul, Rat.intCast_mul (_ - _) _] at hx
    simp only [Rat.intCast_sub, Rat.intCast_add, Rat.intCast_mul] at hx ⊢
    grind
  have hy2 : k.y * (((2 * side a b c : Int)) : Rat) = (a.2 : Rat) * (((2 * side a b c : Int)) : Rat) + ((b.1 : Rat) - a.1) * (((c.1 : Rat) - a.1) * ((c.1 : Rat) - a.1) + ((c.2 : Rat) - a.2) * ((c.2 : Rat) - a.2)) - ((c.1 : Rat) - a.1) * (((b.1 : Rat) - a.1) * ((b.1 : Rat) - a.1) + ((b.2 : Rat) - a.2) * ((b.2 : Rat) - a.2)) := by
    unfold sq sub at hy
    rw [Rat.intCast_mul, Rat.intCast_mul (_ - _) _] at hy
    simp only [Rat.intCast_sub, Rat.intCast_add, Rat.intCast_mul] at hy ⊢
    grind
  generalize (((2 * side a b c : Int)) : Rat) = W at *
  have hb : pw k b = 0 := by
    have e : (pw k b - pw k a) * W = 0 := by
      unfold pw
      grind
    rw [hp] at e
    have := (Rat.mul_eq_zero.1 e).resolve_right hT0
    grind
  have hc : pw k c = 0 := by
    have e : (pw k c - pw k a) * W = 0 := by
      unfold pw
      grind
    rw [hp] at e
    have := (Rat.mul_eq_zero.1 e).resolve_right hT0
    grind
  refine ⟨k, hI, ⟨⟨fun p h => (nomatch h), fun r h => ?_⟩, fun s h => (nomatch h), fun s h => (nomatch h), fun v w e _ h => ?_⟩⟩
  · rcases List.mem_cons.1 h with h1 | h1
    · rw [h1]; exact hp
    · rcases List.mem_cons.1 h1 with h2 | h2
      · rw [h2]; exact hb
      · rw [List.mem_singleton.1 h2]; exact hc
  · obtain ⟨q1, q2, q3⟩ := aff0 hs (h a (by simp)) (h b (by simp)) (h c (by simp))
    rw [q1, q2, q3]
    grind
/-- three points of a circle are not on one line -/
theorem three_side {k : Ci} {a b c : Pt} (ha : pw k a = 0) (hb : pw k b = 0) (hc : pw k c = 0) (ab : a ≠ b) (ac : a ≠ c) (bc' : b ≠ c) : side a b c ≠ 0 := by
  intro hs
  have hS : ((b.1 : Rat) - a.1) * ((c.2 : Rat) - a.2) - ((b.2 : Rat) - a.2) * ((c.1 : Rat) - a.1) = 0 := by
    have := congrArg (fun t : Int => (t : Rat)) hs
    unfold side at this
    simp only [Rat.intCast_sub, Rat.intCast_add, Rat.intCast_mul] at this
    simpa using this
  have ne2 : ∀ p q : Pt, p ≠ q → ((q.1 : Rat) - p.1) * ((q.1 : Rat) - p.1) + ((q.2 : Rat) - p.2) * ((q.2 : Rat) - p.2) ≠ 0 := by
    intro p q hpq h0
    apply hpq
    have x2 := rsq ((q.1 : Rat) - p.1)
    have y2 := rsq ((q.2 : Rat) - p.2)
    have hx := rsq0 (a := (q.1 : Rat) - p.1) (by grind)
    have hy := rsq0 (a := (q.2 : Rat) - p.2) (by grind)
    have e1 : q.1 = p.1 := Rat.intCast_inj.1 (by grind)
    have e2 : q.2 = p.2 := Rat.intCast_inj.1 (by grind)
    exact Prod.ext e1.symm e2.symm
  have nb := ne2 a b ab
  have nc := ne2 a c ac
  have nbc := ne2 b c bc'
  unfold pw at ha hb hc
  generalize hu1 : (b.1 : Rat) - a.1 = u1 at *
  generalize hu2 : (b.2 : Rat) - a.2 = u2 at *
  generalize hv1 : (c.1 : Rat) - a.1 = v1 at *
  generalize hv2 : (c.2 : Rat) - a.2 = v2 at *
  generalize hm1 : k.x - (a.1 : Rat) = m1 at *
  generalize hm2 : k.y - (a.2 : Rat) = m2 at *
  have hu : u1 * u1 + u2 * u2 = 2 * (u1 * m1 + u2 * m2) := by grind
  have hv : v1 * v1 + v2 * v2 = 2 * (v1 * m1 + v2 * m2) := by grind
  have k1 : (u1 * u1 + u2 * u2) * (v1 * v1 + v2 * v2 - (u1 * v1 + u2 * v2)) = 0 := by
    have e : (u1 * u1 + u2 * u2) * (v1 * m1 + v2 * m2) = (u1 * v1 + u2 * v2) * (u1 * m1 + u2 * m2) + (u1 * v2 - u2 * v1) * (u1 * m2 - u2 * m1) := by grind
    rw [hS] at e
    grind
  have k2 : (v1 * v1 + v2 * v2) * (u1 * u1 + u2 * u2 - (u1 * v1 + u2 * v2)) = 0 := by
    have e : (v1 * v1 + v2 * v2) * (u1 * m1 + u2 * m2) = (u1 * v1 + u2 * v2) * (v1 * m1 + v2 * m2) - (u1 * v2 - u2 * v1) * (v1 * m2 - v2 * m1) := by grind
    rw [hS] at e
    grind
  have k1' := (Rat.mul_eq_zero.1 k1).resolve_left nb
  have k2' := (Rat.mul_eq_zero.1 k2).resolve_left nc
  apply nbc
  have e1 : (c.1 : Rat) - b.1 = v1 - u1 := by grind
  have e2 : (c.2 : Rat) - b.2 = v2 - u2 := by grind
  rw [e1, e2]
  grind
end Go.Proofs.Ytdcecfgmfmpeeaa

namespace Go.Proofs.Ytdcecfgmfmpeeaa
set_option linter.unusedVariables false
set_option linter.unusedSimpArgs false

theorem mul_self_ge (a : Int) : 0 ≤ a * a := by
  rcases Int.le_total 0 a with h | h
  · exact Int.mul_nonneg h h
  · have := Int.mul_nonneg (show 0 ≤ -a by omega) (show 0 ≤ -a by omega)
    rwa [Int.neg_mul_neg] at this
theorem take_ptAt {P : List Pt} {i : Nat} (h : i < P.length) : P.take (i + 1) = P.take i ++ [ptAt P i] := by
  unfold ptAt
  rw [List.take_add_one, List.getD_eq_getElem?_getD, List.getElem?_eq_getElem h]
  rfl
theorem gd_more {R : List Pt} {p : Pt} {c c0 : Ci} (hl : R.length ≤ 2) (hg : Gd R) (h0 : ∀ r ∈ R, pw c0 r = 0) (hp : 0 < pw c0 p) (hc : ∀ r ∈ R ++ [p], pw c r = 0) : Gd (R ++ [p]) := by
  have ne : ∀ r ∈ R, r ≠ p := fun r hr e => by
    have := h0 r hr
    rw [e] at this
    grind
  match R, hl, hg, ne, hc with
  | [], _, _, _, _ => trivial
  | [a], _, _, ne, _ => exact ne a (by simp)
  | [a, b], _, hg, ne, hc => exact three_side (hc a (by simp)) (hc b (by simp)) (hc p (by simp)) hg (ne a (by simp)) (ne b (by simp))
theorem md_nil {R S : List Pt} {c : Ci} (h : Md [] R S c) : S = [] := by
  cases S with
  | nil => rfl
  | cons s S => exact absurd (h.sub s (by simp)) (by simp)
theorem thr_md {R : List Pt} (hl : R.length ≤ 3) (hne : R ≠ []) (hg : Gd R) : ∃ k, Is (thr R) k ∧ Md [] R [] k := by
  match R, hl, hne, hg with
  | [a], _, _, _ => exact ⟨_, thr1 a⟩
  | [a, b], _, _, _ => obtain ⟨k, h1, h2, _⟩ := thr2 a b; exact ⟨k, h1, h2⟩
  | [a, b, c], _, _, hg => exact thr3 a b c [] hg
/-- smallestCircle -/
theorem smc_md : ∀ (k : Nat) (P R : List Pt), R.length + k = 3 → Gd R → (∃ c, Fea P R c) → (R ≠ [] ∨ P ≠ []) → ∃ ci S, Is (smc k P R) ci ∧ Md P R S ci ∧ S.length ≤ k := by
  intro k
  induction k with
  | zero =>
    intro P R hl hg hF _
    match R, hl, hg, hF with
    | [a, b, c], _, hg, ⟨c', hF⟩ =>
      obtain ⟨k, hI, hM⟩ := thr3 a b c [] hg
      have e : c' = k := three_one hg hM.fea.rim hF.rim
      rw [e] at hF
      exact ⟨k, [], hI, ⟨hF, fun s h => (nomatch h), fun s h => (nomatch h), hM.cer⟩, Nat.le_refl _⟩
  | succ k ih =>
    intro P R hl hg ⟨cF, hF⟩ hne
    have loop : ∀ i, i ≤ P.length → (R ≠ [] ∨ 1 ≤ i) → ∃ ci S, Is (smcI (smc k) P R i) ci ∧ Md (P.take i) R S ci ∧ S.length ≤ k + 1 := by
      intro i
      induction i with
      | zero =>
        intro _ h
        rcases h with h | h
        · obtain ⟨c, h1, h2⟩ := thr_md (by omega) h hg
          exact ⟨c, [], h1, h2, Nat.zero_le _⟩
        · omega
      | succ i ihi =>
        intro hi _
        have hi' : i < P.length := by omega
        by_cases h0 : R ≠ [] ∨ 1 ≤ i
        · obtain ⟨c0, S0, hI0, hM0, hS0⟩ := ihi (by omega) h0
          unfold smcI
          by_cases hout : (smcI (smc k) P R i).N < apt (smcI (smc k) P R i) (ptAt P i)
          · rw [if_pos hout]
            have hp := (hI0.out (ptAt P i)).2 hout
            have hF1 : Fea (P.take i ++ [ptAt P i]) R cF := hF.sub (fun q hq => by rw [← take_ptAt hi'] at hq; exact List.mem_of_mem_take hq)
            obtain ⟨c2, hF2⟩ := hM0.fea.mix hF1 hp
            obtain ⟨c1, S1, hI1, hM1, hS1⟩ := ih (P.take i) (R ++ [ptAt P i]) (by rw [List.length_append]; simp; omega) (gd_more (by omega) hg hM0.fea.rim hp hF2.rim) ⟨c2, hF2⟩ (.inl (by simp))
            refine ⟨c1, ptAt P i :: S1, hI1, ?_, by simp; omega⟩
            rw [take_ptAt hi']
            exact hM0.lift hM1 hp
          · rw [if_neg hout]
            refine ⟨c0, S0, hI0, ?_, hS0⟩
            rw [take_ptAt hi']
            exact hM0.keep ((hI0.inn _).2 (by omega))
        · have hR : R = [] := by
            by_cases h : R = []
            · exact h
            · exact absurd (.inl h) h0
          have hi0 : i = 0 := by
            by_cases h : i = 0
            · exact h
            · exact absurd (.inr (by omega)) h0
          subst hi0
          rw [hR]
          unfold smcI
          have hout : (smcI (smc k) P [] 0).N < apt (smcI (smc k) P [] 0) (ptAt P 0) := by
            show (-1 : Int) < ((ptAt P 0).1 * 1 - 0) * ((ptAt P 0).1 * 1 - 0) + ((ptAt P 0).2 * 1 - 0) * ((ptAt P 0).2 * 1 - 0)
            have a : 0 ≤ ((ptAt P 0).1 * 1 - 0) * ((ptAt P 0).1 * 1 - 0) := mul_self_ge _
            have b : 0 ≤ ((ptAt P 0).2 * 1 - 0) * ((ptAt P 0).2 * 1 - 0) := mul_self_ge _
            omega
          rw [if_pos hout]
          obtain ⟨t1, t2⟩ := thr1 (ptAt P 0)
          rw [hR] at hl
          obtain ⟨c1, S1, hI1, hM1, hS1⟩ := ih [] [ptAt P 0] (by simp at hl ⊢; omega) (show Gd [ptAt P 0] from trivial) ⟨_, t2.fea⟩ (.inl (by simp))
          rw [List.take_zero, List.nil_append]
          have hS1' : S1 = [] := md_nil hM1
          have e := t2.uniq hM1
          rw [e] at hI1 hM1
          refine ⟨_, [ptAt P 0], hI1, ?_, by simp⟩
          have ht : P.take (0 + 1) = [ptAt P 0] := by rw [take_ptAt hi']; rfl
          rw [ht]
          have hz := t2.fea.rim (ptAt P 0) (by simp)
          refine ⟨⟨fun p hp => ?_, fun r hr => (nomatch hr)⟩, fun s hs => hs, fun s hs => ?_, fun v w a hS _ => ?_⟩
          · rw [List.mem_singleton.1 hp, hz]; exact Rat.le_refl
          · rw [List.mem_singleton.1 hs]; exact hz
          · exact hS (ptAt P 0) (by simp)
    have hfin := loop P.length (Nat.le_refl _) (by
      rcases hne with h | h
      · exact .inl h
      · right
        cases P with
        | nil => exact absurd rfl h
        | cons a P => simp)
    rw [List.take_length] at hfin
    exact hfin
/-- some circle has all points -/
theorem fea_any (P : List Pt) : ∃ c, Fea P [] c := by
  suffices h : ∃ n : Rat, ∀ p ∈ P, (p.1 : Rat) * p.1 + (p.2 : Rat) * p.2 ≤ n by
    obtain ⟨n, hn⟩ := h
    refine ⟨⟨0, 0, n⟩, ⟨fun p hp => ?_, fun r hr => (nomatch hr)⟩⟩
    have := hn p hp
    unfold pw
    grind
  induction P with
  | nil => exact ⟨0, fun p hp => (nomatch hp)⟩
  | cons q P ih =>
    obtain ⟨n, hn⟩ := ih
    by_cases h : (q.1 : Rat) * q.1 + (q.2 : Rat) * q.2 ≤ n
    · refine ⟨n, fun p hp => ?_⟩
      rcases List.mem_cons.1 hp with h1 | h1
      · rw [h1]; exact h
      · exact hn p h1
    · refine ⟨(q.1 : Rat) * q.1 + (q.2 : Rat) * q.2, fun p hp => ?_⟩
      rcases List.mem_cons.1 hp with h1 | h1
      · rw [h1]; exact Rat.le_refl
      · have := hn p h1
        grind
theorem ring_md {P : List Pt} (h : P ≠ []) : ∃ ci S, Is (smc 3 P []) ci ∧ Md P [] S ci ∧ S.length ≤ 3 :=
  smc_md 3 P [] rfl trivial (fea_any P) (.inr h)
end Go.Proofs.Ytdcecfgmfmpeeaa

namespace Go.Proofs.Ytdcecfgmfmpeeaa
set_option linter.unusedVariables false
set_option linter.unusedSimpArgs false

theorem popR_sub : ∀ (s : List Pt) (p : Pt), (popR s p).Sublist s := by
  intro s
  induction s with
  | nil => intro p; exact List.Sublist.refl _
  | cons b s ih =>
    intro p
    cases s with
    | nil => exact List.Sublist.refl _
    | cons a t =>
      unfold popR
      split
      · exact (ih p).cons b
      · exact List.Sublist.refl _
theorem pop_wit (lt : Pt → Pt → Prop) (p : Pt) : ∀ s : List Pt, s.Pairwise (fun x y => lt y x) → (∀ q ∈ s, lt q p) → ∀ q ∈ s, q ∈ popR s p ∨ ∃ a ∈ s, lt a q ∧ lt q p ∧ side a q p ≤ 0 := by
  intro s
  induction s with
  | nil => intro _ _ q h; cases h
  | cons b s ih =>
    intro hs hp q hq
    cases s with
    | nil => exact .inl hq
    | cons a t =>
      have hs' := List.pairwise_cons.1 hs
      unfold popR
      split
      · rename_i hle
        rcases List.mem_cons.1 hq with h | h
        · right
          rw [h]
          exact ⟨a, by simp, hs'.1 a (by simp), hp b (by simp), hle⟩
        · rcases ih hs'.2 (fun x hx => hp x (by simp [hx])) q h with h1 | ⟨x, hx, h2⟩
          · exact .inl h1
          · exact .inr ⟨x, by simp [hx], h2⟩
      · exact .inl hq
theorem fold_wit (lt : Pt → Pt → Prop) : ∀ (L s : List Pt), s.Pairwise (fun x y => lt y x) → L.Pairwise lt → (∀ q ∈ s, ∀ p ∈ L, lt q p) → ∀ q, q ∈ s ∨ q ∈ L → q ∈ L.foldl (fun rs p => p :: popR rs p) s ∨ ∃ a c, (a ∈ s ∨ a ∈ L) ∧ (c ∈ s ∨ c ∈ L) ∧ lt a q ∧ lt q c ∧ side a q c ≤ 0 := by
  intro L
  induction L with
  | nil => intro s _ _ _ q h; exact .inl (h.resolve_right (by simp))
  | cons p L ih =>
    intro s hs hL hsl q hq
    have hL' := List.pairwise_cons.1 hL
    have hsub := popR_sub s p
    have key := ih (p :: popR s p) (List.pairwise_cons.2 ⟨fun x hx => hsl x (hsub.subset hx) p (by simp), hs.sublist hsub⟩) hL'.2 (fun x hx y hy => by
      rcases List.mem_cons.1 hx with h | h
      · rw [h]; exact hL'.1 y hy
      · exact hsl x (hsub.subset h) y (by simp [hy]))
    have wide : ∀ x, (x ∈ p :: popR s p ∨ x ∈ L) → (x ∈ s ∨ x ∈ p :: L) := by
      intro x hx
      rcases hx with h | h
      · rcases List.mem_cons.1 h with h1 | h1
        · right; simp [h1]
        · left; exact hsub.subset h1
      · right; simp [h]
    have go : (q ∈ p :: popR s p ∨ q ∈ L) → q ∈ (p :: L).foldl (fun rs p => p :: popR rs p) s ∨ ∃ a c, (a ∈ s ∨ a ∈ p :: L) ∧ (c ∈ s ∨ c ∈ p :: L) ∧ lt a q ∧ lt q c ∧ side a q c ≤ 0 := by
      intro h
      rcases key q h with h1 | ⟨a, c, ha, hc, h2⟩
      · exact .inl h1
      · exact .inr ⟨a, c, wide a ha, wide c hc, h2⟩
    rcases hq with h | h
    · rcases pop_wit lt p s hs (fun x hx => hsl x hx p (by simp)) q h with h1 | ⟨a, ha, h2⟩
      · exact go (.inl (by simp [h1]))
      · exact .inr ⟨a, p, .inl ha, .inr (by simp), h2⟩
    · rcases List.mem_cons.1 h with h1 | h1
      · exact go (.inl (by simp [h1]))
      · exact go (.inr h1)
theorem half_wit (lt : Pt → Pt → Prop) {L : List Pt} (hL : L.Pairwise lt) {q : Pt} (hq : q ∈ L) : q ∈ half L ∨ ∃ a ∈ L, ∃ c ∈ L, lt a q ∧ lt q c ∧ side a q c ≤ 0 := by
  rcases fold_wit lt L [] List.Pairwise.nil hL (fun x hx => (nomatch hx)) q (.inr hq) with h | ⟨a, c, ha, hc, h⟩
  · exact .inl (by unfold half halfR; exact List.mem_reverse.2 h)
  · exact .inr ⟨a, ha.resolve_left (by simp), c, hc.resolve_left (by simp), h⟩
/-- behind in the order of points, as a direction -/
theorem ltp_dir {a b : Pt} (h : ltp a b = true) : ((a.1 : Rat) - b.1 < 0) ∨ ((a.1 : Rat) - b.1 = 0 ∧ (a.2 : Rat) - b.2 < 0) := by
  unfold ltp at h
  rcases of_decide_eq_true h with h1 | ⟨h1, h2⟩
  · left
    have := Rat.intCast_lt_intCast.2 h1
    grind
  · right
    have := Rat.intCast_lt_intCast.2 h2
    rw [h1]
    refine ⟨by grind, by grind⟩
theorem side_q (a q c : Pt) : ((side a q c : Int) : Rat) = -(((a.1 : Rat) - q.1) * ((c.2 : Rat) - q.2) - ((a.2 : Rat) - q.2) * ((c.1 : Rat) - q.1)) := by
  unfold side
  simp only [Rat.intCast_sub, Rat.intCast_add, Rat.intCast_mul]
  grind
/-- u lies behind, v ahead, both on the near side of a line: then the line's direction is told by the side on which they turn -/
theorem dir_of {u1 u2 v1 v2 n1 n2 : Rat} (hu : u1 < 0 ∨ (u1 = 0 ∧ u2 < 0)) (hv : 0 < v1 ∨ (v1 = 0 ∧ 0 < v2)) (nu : n1 * u1 + n2 * u2 < 0) (nv : n1 * v1 + n2 * v2 < 0) :
    0 < (u1 * v2 - u2 * v1) * n2 ∨ ((u1 * v2 - u2 * v1) * n2 = 0 ∧ (u1 * v2 - u2 * v1) * n1 < 0) := by
  have e1 : u1 * (n1 * v1 + n2 * v2) - v1 * (n1 * u1 + n2 * u2) = (u1 * v2 - u2 * v1) * n2 := by grind
  have e2 : u2 * (n1 * v1 + n2 * v2) - v2 * (n1 * u1 + n2 * u2) = -((u1 * v2 - u2 * v1) * n1) := by grind
  generalize n1 * u1 + n2 * u2 = A at *
  generalize n1 * v1 + n2 * v2 = B at *
  rw [← e1]
  have e3 : (u1 * v2 - u2 * v1) * n1 = -(u2 * B - v2 * A) := by grind
  rw [e3]
  clear e1 e2 e3
  rcases hu with hu | ⟨hu, hu'⟩
  · have p1 := Rat.mul_pos (show 0 < -u1 by grind) (show 0 < -B by grind)
    rcases hv with hv | ⟨hv, hv'⟩
    · have p2 := Rat.mul_pos hv (show 0 < -A by grind)
      left
      grind
    · left
      rw [hv]
      grind
  · rcases hv with hv | ⟨hv, hv'⟩
    · have p2 := Rat.mul_pos hv (show 0 < -A by grind)
      left
      rw [hu]
      grind
    · have p1 := Rat.mul_pos (show 0 < -u2 by grind) (show 0 < -B by grind)
      have p2 := Rat.mul_pos hv' (show 0 < -A by grind)
      right
      rw [hu, hv]
      refine ⟨by grind, by grind⟩
/-- on the rim: all others lie beyond the tangent -/
theorem tangent {k : Ci} {p x : Pt} (hp : pw k p = 0) (hx : pw k x ≤ 0) (hne : x ≠ p) : ((p.1 : Rat) - k.x) * ((x.1 : Rat) - p.1) + ((p.2 : Rat) - k.y) * ((x.2 : Rat) - p.2) < 0 := by
  have e : pw k x - pw k p = 2 * (((p.1 : Rat) - k.x) * ((x.1 : Rat) - p.1) + ((p.2 : Rat) - k.y) * ((x.2 : Rat) - p.2)) + (((x.1 : Rat) - p.1) * ((x.1 : Rat) - p.1) + ((x.2 : Rat) - p.2) * ((x.2 : Rat) - p.2)) := by
    unfold pw
    grind
  have x2 := rsq ((x.1 : Rat) - p.1)
  have y2 := rsq ((x.2 : Rat) - p.2)
  have hpos : 0 < ((x.1 : Rat) - p.1) * ((x.1 : Rat) - p.1) + ((x.2 : Rat) - p.2) * ((x.2 : Rat) - p.2) := by
    by_cases h : 0 < ((x.1 : Rat) - p.1) * ((x.1 : Rat) - p.1) + ((x.2 : Rat) - p.2) * ((x.2 : Rat) - p.2)
    · exact h
    · exfalso
      apply hne
      have hx0 := rsq0 (a := (x.1 : Rat) - p.1) (by grind)
      have hy0 := rsq0 (a := (x.2 : Rat) - p.2) (by grind)
      exact Prod.ext (Rat.intCast_inj.1 (by grind)) (Rat.intCast_inj.1 (by grind))
  rw [hp] at e
  grind
theorem ltp_ne {a b : Pt} (h : ltp a b = true) : a ≠ b := by
  intro e
  rw [e] at h
  unfold ltp at h
  have := of_decide_eq_true h
  omega
theorem rim_corner {U : List Pt} {k : Ci} {p : Pt} (hs : SortU U) (hk : ∀ q ∈ U, pw k q ≤ 0) (hp : p ∈ U) (h0 : pw k p = 0) : p ∈ hullM U := by
  unfold hullM
  split
  · exact hp
  · rename_i h3
    have hU2 : ∃ a b L, U = a :: b :: L := by
      match U, h3 with
      | a :: b :: L, _ => exact ⟨a, b, L, rfl⟩
      | [a], h => exact absurd (by simp) h
      | [], h => exact absurd (by simp) h
    have hrev : U.reverse.Pairwise (fun a b => ltp b a = true) := List.pairwise_reverse.2 hs
    rcases half_wit (fun a b => ltp a b = true) hs hp with h1 | ⟨a, ha, c, hc, h1, h2, h3'⟩
    · rw [List.mem_append]
      by_cases hl : p ∈ (half U).dropLast
      · exact .inl hl
      · right
        obtain ⟨a, b, L, hU⟩ := hU2
        -- p is the last one: the first of the way back
        have hne : half U ≠ [] := by intro e; rw [e] at h1; cases h1
        have hlast : p = (half U).getLast hne := by
          have := List.dropLast_concat_getLast hne
          rw [← this] at h1
          rcases List.mem_append.1 h1 with h4 | h4
          · exact absurd h4 hl
          · exact List.mem_singleton.1 h4
        have hgl : (half U).getLast? = some p := by rw [List.getLast?_eq_some_getLast hne, hlast]
        rw [hU, (half_facts (a := a) (L := b :: L) (by simp)).2.1] at hgl
        have hrv : ∃ M, U.reverse = p :: M ∧ M ≠ [] := by
          have e : (b :: L).reverse.head? = some p := by rw [List.head?_reverse]; exact hgl
          cases hr : (b :: L).reverse with
          | nil => rw [hr] at e; cases e
          | cons x M =>
            rw [hr] at e
            have hx : x = p := by simpa using e
            refine ⟨M ++ [a], ?_, by simp⟩
            rw [hU, List.reverse_cons, hr, hx]
            rfl
        obtain ⟨M, hM, hMn⟩ := hrv
        rw [hM]
        have f := half_facts (a := p) (L := M) hMn
        cases hh : half (p :: M) with
        | nil => rw [hh] at f; simp at f
        | cons x T =>
          rw [hh] at f
          have hx : x = p := by simpa using f.1
          cases T with
          | nil => simp at f
          | cons y T => rw [hx]; simp
    · rcases half_wit (fun a b => ltp b a = true) hrev (List.mem_reverse.2 hp) with h4 | ⟨a', ha', c', hc', g1, g2, g3⟩
      · rw [List.mem_append]
        by_cases hl : p ∈ (half U.reverse).dropLast
        · exact .inr hl
        · left
          obtain ⟨a0, b0, L0, hU⟩ := hU2
          have hne : half U.reverse ≠ [] := by intro e; rw [e] at h4; cases h4
          have hlast : p = (half U.reverse).getLast hne := by
            have := List.dropLast_concat_getLast hne
            rw [← this] at h4
            rcases List.mem_append.1 h4 with h5 | h5
            · exact absurd h5 hl
            · exact List.mem_singleton.1 h5
          have hgl : (half U.reverse).getLast? = some p := by rw [List.getLast?_eq_some_getLast hne, hlast]
          have hpa : p = a0 := by
            cases hr : (b0 :: L0).reverse with
            | nil => simp at hr
            | cons x M =>
              have hrv : U.reverse = x :: (M ++ [a0]) := by rw [hU, List.reverse_cons, hr]; rfl
              rw [hrv, (half_facts (a := x) (L := M ++ [a0]) (by simp)).2.1, List.getLast?_append] at hgl
              simpa using hgl.symm
          have f := half_facts (a := a0) (L := b0 :: L0) (by simp)
          rw [hU]
          cases hh : half (a0 :: b0 :: L0) with
          | nil => rw [hh] at f; simp at f
          | cons x T =>
            rw [hh] at f
            have hx : x = a0 := by simpa using f.1
            cases T with
            | nil => simp at f
            | cons y T => rw [hx, hpa]; simp
      · exfalso
        have d1 := dir_of (ltp_dir h1) (by have := ltp_dir h2; grind) (tangent h0 (hk a ha) (ltp_ne h1)) (tangent h0 (hk c hc) (ltp_ne h2).symm)
        have d2 := dir_of (ltp_dir g2) (by have := ltp_dir g1; grind) (tangent h0 (hk c' (List.mem_reverse.1 hc')) (ltp_ne g2)) (tangent h0 (hk a' (List.mem_reverse.1 ha')) (ltp_ne g1).symm)
        have s1 : (0 : Rat) ≤ ((a.1 : Rat) - p.1) * ((c.2 : Rat) - p.2) - ((a.2 : Rat) - p.2) * ((c.1 : Rat) - p.1) := by
          have e := side_q a p c
          have := Rat.intCast_le_intCast.2 h3'
          rw [e] at this
          have z : ((0 : Int) : Rat) = 0 := rfl
          grind
        have s2 : ((c'.1 : Rat) - p.1) * ((a'.2 : Rat) - p.2) - ((c'.2 : Rat) - p.2) * ((a'.1 : Rat) - p.1) ≤ 0 := by
          have e := side_q a' p c'
          have := Rat.intCast_le_intCast.2 g3
          rw [e] at this
          have z : ((0 : Int) : Rat) = 0 := rfl
          grind
        generalize ((a.1 : Rat) - p.1) * ((c.2 : Rat) - p.2) - ((a.2 : Rat) - p.2) * ((c.1 : Rat) - p.1) = A at *
        generalize ((c'.1 : Rat) - p.1) * ((a'.2 : Rat) - p.2) - ((c'.2 : Rat) - p.2) * ((a'.1 : Rat) - p.1) = B at *
        generalize (p.1 : Rat) - k.x = n1 at *
        generalize (p.2 : Rat) - k.y = n2 at *
        -- the one says that n2 is positive (or nought, and n1 negative), the other the contrary
        have q1 : 0 < n2 ∨ (n2 = 0 ∧ n1 < 0) := by
          rcases d1 with d | ⟨d, d'⟩
          · left
            by_cases h : 0 < n2
            · exact h
            · have := rmul s1 (show n2 ≤ 0 by grind); grind
          · have hA : A ≠ 0 := by intro e; rw [e] at d'; grind
            right
            refine ⟨(Rat.mul_eq_zero.1 d).resolve_left hA, ?_⟩
            by_cases h : n1 < 0
            · exact h
            · have := Rat.mul_nonneg s1 (show 0 ≤ n1 by grind); grind
        have q2 : n2 < 0 ∨ (n2 = 0 ∧ 0 < n1) := by
          rcases d2 with d | ⟨d, d'⟩
          · left
            by_cases h : n2 < 0
            · exact h
            · have := Rat.mul_nonneg (show 0 ≤ -B by grind) (show 0 ≤ n2 by grind); grind
          · have hB : B ≠ 0 := by intro e; rw [e] at d'; grind
            right
            refine ⟨(Rat.mul_eq_zero.1 d).resolve_left hB, ?_⟩
            by_cases h : 0 < n1
            · exact h
            · have := Rat.mul_nonneg (show 0 ≤ -B by grind) (show 0 ≤ -n1 by grind); grind
        grind
end Go.Proofs.Ytdcecfgmfmpeeaa

namespace Go.Proofs.Ytdcecfgmfmpeeaa
set_option linter.unusedVariables false
set_option linter.unusedSimpArgs false

/-- the angle at a -/
def dt (a b c : Pt) : Int := (b.1 - a.1) * (c.1 - a.1) + (b.2 - a.2) * (c.2 - a.2)
def Sharp (a b c : Pt) : Prop := 0 ≤ dt a b c ∧ 0 ≤ dt b c a ∧ 0 ≤ dt c a b
theorem dt_q (a b c : Pt) : ((dt a b c : Int) : Rat) = ((b.1 : Rat) - a.1) * ((c.1 : Rat) - a.1) + ((b.2 : Rat) - a.2) * ((c.2 : Rat) - a.2) := by
  unfold dt
  simp only [Rat.intCast_sub, Rat.intCast_add, Rat.intCast_mul]
theorem sd_q (a b c : Pt) : ((side a b c : Int) : Rat) = ((b.1 : Rat) - a.1) * ((c.2 : Rat) - a.2) - ((b.2 : Rat) - a.2) * ((c.1 : Rat) - a.1) := by
  unfold side
  simp only [Rat.intCast_sub, Rat.intCast_add, Rat.intCast_mul]
theorem Cer.mono {S S' R : List Pt} {c : Ci} (h : Cer S R c) (hs : ∀ s ∈ S, s ∈ S') : Cer S' R c := fun v w a hS hR => h v w a (fun s h1 => hS s (hs s h1)) hR
theorem apart_pos {p q : Pt} (h : p ≠ q) : 0 < ((q.1 : Rat) - p.1) * ((q.1 : Rat) - p.1) + ((q.2 : Rat) - p.2) * ((q.2 : Rat) - p.2) := by
  have x2 := rsq ((q.1 : Rat) - p.1)
  have y2 := rsq ((q.2 : Rat) - p.2)
  by_cases h0 : 0 < ((q.1 : Rat) - p.1) * ((q.1 : Rat) - p.1) + ((q.2 : Rat) - p.2) * ((q.2 : Rat) - p.2)
  · exact h0
  · exfalso
    apply h
    have hx0 := rsq0 (a := (q.1 : Rat) - p.1) (by grind)
    have hy0 := rsq0 (a := (q.2 : Rat) - p.2) (by grind)
    exact Prod.ext (Rat.intCast_inj.1 (by grind)) (Rat.intCast_inj.1 (by grind))
theorem cer_one {s : Pt} {c : Ci} (h : Cer [s] [] c) : c.x = (s.1 : Rat) ∧ c.y = (s.2 : Rat) := by
  have nn : ∀ r ∈ ([] : List Pt), True := fun _ _ => trivial
  have one : ∀ v w : Rat, v * c.x + w * c.y + -(v * (s.1 : Rat) + w * (s.2 : Rat)) ≤ 0 := fun v w => h v w _ (fun q hq => by
    rw [List.mem_singleton.1 hq]
    grind) (fun r hr => (nomatch hr))
  have a1 := one 1 0
  have a2 := one (-1) 0
  have a3 := one 0 1
  have a4 := one 0 (-1)
  refine ⟨by grind, by grind⟩
theorem cer_two {s t : Pt} {c : Ci} (h : Cer [s, t] [] c) (hs : pw c s = 0) (ht : pw c t = 0) (hne : s ≠ t) : c.x * 2 = (s.1 : Rat) + (t.1 : Rat) ∧ c.y * 2 = (s.2 : Rat) + (t.2 : Rat) := by
  have key : ∀ g : Rat, g * (((t.1 : Rat) - s.1) * (c.y - s.2) - ((t.2 : Rat) - s.2) * (c.x - s.1)) ≤ 0 := by
    intro g
    have := h (-(g * ((t.2 : Rat) - s.2))) (g * ((t.1 : Rat) - s.1)) (g * (((t.2 : Rat) - s.2) * (s.1 : Rat) - ((t.1 : Rat) - s.1) * (s.2 : Rat))) (fun q hq => by
      rcases List.mem_cons.1 hq with h1 | h1
      · rw [h1]; grind
      · rw [List.mem_singleton.1 h1]; grind) (fun r hr => (nomatch hr))
    grind
  have k1 := key 1
  have k2 := key (-1)
  have hz : ((t.1 : Rat) - s.1) * (c.y - s.2) - ((t.2 : Rat) - s.2) * (c.x - s.1) = 0 := by grind
  have hd := apart_pos hne
  unfold pw at hs ht
  generalize hd1 : (t.1 : Rat) - s.1 = d1 at *
  generalize hd2 : (t.2 : Rat) - s.2 = d2 at *
  have he : d1 * (c.x * 2 - (s.1 : Rat) - (t.1 : Rat)) + d2 * (c.y * 2 - (s.2 : Rat) - (t.2 : Rat)) = 0 := by grind
  have hc : d1 * (c.y * 2 - (s.2 : Rat) - (t.2 : Rat)) - d2 * (c.x * 2 - (s.1 : Rat) - (t.1 : Rat)) = 0 := by grind
  have hn : d1 * d1 + d2 * d2 ≠ 0 := by grind
  have z1 : (d1 * d1 + d2 * d2) * (c.x * 2 - (s.1 : Rat) - (t.1 : Rat)) = 0 := by grind
  have z2 : (d1 * d1 + d2 * d2) * (c.y * 2 - (s.2 : Rat) - (t.2 : Rat)) = 0 := by grind
  have w1 := (Rat.mul_eq_zero.1 z1).resolve_left hn
  have w2 := (Rat.mul_eq_zero.1 z2).resolve_left hn
  refine ⟨by grind, by grind⟩
theorem cer_three {s t r : Pt} {c : Ci} (h : Cer [s, t, r] [] c) (hs : pw c s = 0) (ht : pw c t = 0) (hr : pw c r = 0) (hne : t ≠ r) : 0 ≤ dt s t r := by
  have key := h (((side t r s : Int) : Rat) * ((r.2 : Rat) - t.2)) (-(((side t r s : Int) : Rat) * ((r.1 : Rat) - t.1))) (((side t r s : Int) : Rat) * (((r.1 : Rat) - t.1) * (t.2 : Rat) - ((r.2 : Rat) - t.2) * (t.1 : Rat))) (fun q hq => by
    rcases List.mem_cons.1 hq with h1 | h1
    · rw [h1]
      have e := sd_q t r s
      have := rsq ((side t r s : Int) : Rat)
      generalize ((side t r s : Int) : Rat) = g at *
      have e2 : g * ((r.2 : Rat) - t.2) * (s.1 : Rat) + -(g * ((r.1 : Rat) - t.1)) * (s.2 : Rat) + g * (((r.1 : Rat) - t.1) * (t.2 : Rat) - ((r.2 : Rat) - t.2) * (t.1 : Rat)) = -(g * (((r.1 : Rat) - t.1) * ((s.2 : Rat) - t.2) - ((r.2 : Rat) - t.2) * ((s.1 : Rat) - t.1))) := by grind
      rw [e2, ← e]
      grind
    · rcases List.mem_cons.1 h1 with h2 | h2
      · rw [h2]; grind
      · rw [List.mem_singleton.1 h2]; grind) (fun r hr => (nomatch hr))
  have e := sd_q t r s
  have hd := apart_pos hne
  generalize ((side t r s : Int) : Rat) = g at *
  have k1 : 0 ≤ g * (((r.1 : Rat) - t.1) * (c.y - t.2) - ((r.2 : Rat) - t.2) * (c.x - t.1)) := by grind
  have id2 : 2 * (g * (((r.1 : Rat) - t.1) * (c.y - t.2) - ((r.2 : Rat) - t.2) * (c.x - t.1))) = (((r.1 : Rat) - t.1) * ((r.1 : Rat) - t.1) + ((r.2 : Rat) - t.2) * ((r.2 : Rat) - t.2)) * ((dt s t r : Int) : Rat) := by
    rw [dt_q, e]
    unfold pw at hs ht hr
    clear key k1 h hd e
    generalize hu1 : (r.1 : Rat) - t.1 = u1 at *
    generalize hu2 : (r.2 : Rat) - t.2 = u2 at *
    generalize hv1 : (s.1 : Rat) - t.1 = v1 at *
    generalize hv2 : (s.2 : Rat) - t.2 = v2 at *
    generalize hm1 : c.x - (t.1 : Rat) = m1 at *
    generalize hm2 : c.y - (t.2 : Rat) = m2 at *
    have hu : u1 * u1 + u2 * u2 = 2 * (u1 * m1 + u2 * m2) := by grind
    have hv : v1 * v1 + v2 * v2 = 2 * (v1 * m1 + v2 * m2) := by grind
    have e1 : (t.1 : Rat) - s.1 = -v1 := by grind
    have e2 : (t.2 : Rat) - s.2 = -v2 := by grind
    have e3 : (r.1 : Rat) - s.1 = u1 - v1 := by grind
    have e4 : (r.2 : Rat) - s.2 = u2 - v2 := by grind
    rw [e1, e2, e3, e4]
    clear e1 e2 e3 e4 hu1 hu2 hv1 hv2 hm1 hm2 hs ht hr
    have i1 : -v1 * (u1 - v1) + -v2 * (u2 - v2) = (v1 * v1 + v2 * v2) - (u1 * v1 + u2 * v2) := by grind
    rw [i1]
    have i2 : 2 * ((u1 * v2 - u2 * v1) * (u1 * m2 - u2 * m1)) = 2 * ((u1 * u1 + u2 * u2) * (v1 * m1 + v2 * m2)) - 2 * ((u1 * v1 + u2 * v2) * (u1 * m1 + u2 * m2)) := by grind
    rw [i2]
    grind
  have k2 : 0 ≤ (((r.1 : Rat) - t.1) * ((r.1 : Rat) - t.1) + ((r.2 : Rat) - t.2) * ((r.2 : Rat) - t.2)) * ((dt s t r : Int) : Rat) := by rw [← id2]; grind
  by_cases h0 : 0 ≤ dt s t r
  · exact h0
  · exfalso
    have h1 : ((dt s t r : Int) : Rat) < 0 := by
      have := Rat.intCast_lt_intCast.2 (show dt s t r < 0 by omega)
      simpa using this
    have := Rat.mul_pos hd (show 0 < -((dt s t r : Int) : Rat) by grind)
    grind
theorem told {P S : List Pt} {c : Ci} (h : Md P [] S c) (hl : S.length ≤ 3) :
    (∃ s ∈ P, pw c s = 0 ∧ c.x = (s.1 : Rat) ∧ c.y = (s.2 : Rat)) ∨ (∃ a ∈ P, ∃ b ∈ P, a ≠ b ∧ pw c a = 0 ∧ pw c b = 0 ∧ c.x * 2 = (a.1 : Rat) + (b.1 : Rat) ∧ c.y * 2 = (a.2 : Rat) + (b.2 : Rat)) ∨
    (∃ a ∈ P, ∃ b ∈ P, ∃ d ∈ P, a ≠ b ∧ a ≠ d ∧ b ≠ d ∧ pw c a = 0 ∧ pw c b = 0 ∧ pw c d = 0 ∧ Sharp a b d) := by
  have one : ∀ s ∈ S, Cer [s] [] c → (∃ s ∈ P, pw c s = 0 ∧ c.x = (s.1 : Rat) ∧ c.y = (s.2 : Rat)) := fun s hs hc => ⟨s, h.sub s hs, h.on s hs, cer_one hc⟩
  have two : ∀ s ∈ S, ∀ t ∈ S, s ≠ t → Cer [s, t] [] c → (∃ a ∈ P, ∃ b ∈ P, a ≠ b ∧ pw c a = 0 ∧ pw c b = 0 ∧ c.x * 2 = (a.1 : Rat) + (b.1 : Rat) ∧ c.y * 2 = (a.2 : Rat) + (b.2 : Rat)) :=
    fun s hs t ht hn hc => ⟨s, h.sub s hs, t, h.sub t ht, hn, h.on s hs, h.on t ht, cer_two hc (h.on s hs) (h.on t ht) hn⟩
  have h2 : ∀ s ∈ S, ∀ t ∈ S, Cer [s, t] [] c → (∃ s ∈ P, pw c s = 0 ∧ c.x = (s.1 : Rat) ∧ c.y = (s.2 : Rat)) ∨ (∃ a ∈ P, ∃ b ∈ P, a ≠ b ∧ pw c a = 0 ∧ pw c b = 0 ∧ c.x * 2 = (a.1 : Rat) + (b.1 : Rat) ∧ c.y * 2 = (a.2 : Rat) + (b.2 : Rat)) := by
    intro s hs t ht hc
    by_cases e : s = t
    · exact .inl (one s hs (hc.mono (fun q hq => by
        rw [← e] at hq
        rcases List.mem_cons.1 hq with q1 | q1
        · simp [q1]
        · exact q1)))
    · exact .inr (two s hs t ht e hc)
  match S, hl, h, one, two, h2 with
  | [], _, h, _, _, _ =>
    have := h.cer 0 0 1 (fun s hs => (nomatch hs)) (fun s hs => (nomatch hs))
    exfalso
    grind
  | [s], _, h, one, _, _ => exact .inl (one s (by simp) h.cer)
  | [s, t], _, h, _, _, h2 =>
    rcases h2 s (by simp) t (by simp) h.cer with q | q
    · exact .inl q
    · exact .inr (.inl q)
  | [s, t, r], _, h, _, _, h2 =>
    have pair : ∀ x y, x ∈ [s, t, r] → y ∈ [s, t, r] → Cer [x, y] [] c → _ := fun x y hx hy hc => (h2 x hx y hy hc)
    by_cases e1 : s = t
    · rcases pair s r (by simp) (by simp) (h.cer.mono (fun q hq => by rw [← e1] at hq; simp at hq ⊢; exact hq)) with q | q
      · exact .inl q
      · exact .inr (.inl q)
    · by_cases e2 : s = r
      · rcases pair s t (by simp) (by simp) (h.cer.mono (fun q hq => by rw [← e2] at hq; simp at hq ⊢; grind)) with q | q
        · exact .inl q
        · exact .inr (.inl q)
      · by_cases e3 : t = r
        · rcases pair s t (by simp) (by simp) (h.cer.mono (fun q hq => by rw [← e3] at hq; simp at hq ⊢; exact hq)) with q | q
          · exact .inl q
          · exact .inr (.inl q)
        · refine .inr (.inr ⟨s, h.sub s (by simp), t, h.sub t (by simp), r, h.sub r (by simp), e1, e2, e3, h.on s (by simp), h.on t (by simp), h.on r (by simp), ?_, ?_, ?_⟩)
          · exact cer_three h.cer (h.on s (by simp)) (h.on t (by simp)) (h.on r (by simp)) e3
          · exact cer_three (h.cer.mono (fun q hq => by simp at hq ⊢; grind)) (h.on t (by simp)) (h.on r (by simp)) (h.on s (by simp)) (Ne.symm e2)
          · exact cer_three (h.cer.mono (fun q hq => by simp at hq ⊢; grind)) (h.on r (by simp)) (h.on s (by simp)) (h.on t (by simp)) e1
/-- three without an angle above a right one tell the smallest circle -/
theorem sharp_cer {a b d : Pt} {c : Ci} (ha : pw c a = 0) (hb : pw c b = 0) (hd : pw c d = 0) (hs : side a b d ≠ 0) (h : Sharp a b d) : Cer [a, b, d] [] c := by
  intro v w e hS _
  have sa := hS a (by simp)
  have sb := hS b (by simp)
  have sd := hS d (by simp)
  obtain ⟨q1, q2, q3⟩ := h
  have p1 : (0 : Rat) ≤ ((dt a b d : Int) : Rat) := by have := Rat.intCast_le_intCast.2 q1; simpa using this
  have p2 : (0 : Rat) ≤ ((dt b d a : Int) : Rat) := by have := Rat.intCast_le_intCast.2 q2; simpa using this
  have p3 : (0 : Rat) ≤ ((dt d a b : Int) : Rat) := by have := Rat.intCast_le_intCast.2 q3; simpa using this
  have hW : ((side a b d : Int) : Rat) ≠ 0 := by
    intro h0
    exact hs (Rat.intCast_inj.1 (by simpa using h0))
  have hW2 : 0 < ((side a b d : Int) : Rat) * ((side a b d : Int) : Rat) := by
    have := rsq ((side a b d : Int) : Rat)
    by_cases h0 : 0 < ((side a b d : Int) : Rat) * ((side a b d : Int) : Rat)
    · exact h0
    · exact absurd (rsq0 (by grind)) hW
  rw [dt_q] at p1 p2 p3
  rw [sd_q] at hW2
  unfold pw at ha hb hd
  generalize hu1 : (b.1 : Rat) - a.1 = u1 at *
  generalize hu2 : (b.2 : Rat) - a.2 = u2 at *
  generalize hv1 : (d.1 : Rat) - a.1 = v1 at *
  generalize hv2 : (d.2 : Rat) - a.2 = v2 at *
  generalize hm1 : c.x - (a.1 : Rat) = m1 at *
  generalize hm2 : c.y - (a.2 : Rat) = m2 at *
  have hu : u1 * u1 + u2 * u2 = 2 * (u1 * m1 + u2 * m2) := by grind
  have hv : v1 * v1 + v2 * v2 = 2 * (v1 * m1 + v2 * m2) := by grind
  have e1 : (a.1 : Rat) - b.1 = -u1 := by grind
  have e2 : (a.2 : Rat) - b.2 = -u2 := by grind
  have e3 : (d.1 : Rat) - b.1 = v1 - u1 := by grind
  have e4 : (d.2 : Rat) - b.2 = v2 - u2 := by grind
  have e5 : (a.1 : Rat) - d.1 = -v1 := by grind
  have e6 : (a.2 : Rat) - d.2 = -v2 := by grind
  have e7 : (b.1 : Rat) - d.1 = u1 - v1 := by grind
  have e8 : (b.2 : Rat) - d.2 = u2 - v2 := by grind
  rw [e3, e4, e1, e2] at p2
  rw [e5, e6, e7, e8] at p3
  have hcx : c.x = (a.1 : Rat) + m1 := by grind
  have hcy : c.y = (a.2 : Rat) + m2 := by grind
  have hbx : (b.1 : Rat) = (a.1 : Rat) + u1 := by grind
  have hby : (b.2 : Rat) = (a.2 : Rat) + u2 := by grind
  have hdx : (d.1 : Rat) = (a.1 : Rat) + v1 := by grind
  have hdy : (d.2 : Rat) = (a.2 : Rat) + v2 := by grind
  rw [hbx, hby] at sb
  rw [hdx, hdy] at sd
  rw [hcx, hcy]
  clear e1 e2 e3 e4 e5 e6 e7 e8 hu1 hu2 hv1 hv2 hm1 hm2 ha hb hd hcx hcy hbx hby hdx hdy hS hW
  have n1 : 2 * ((u1 * v2 - u2 * v1) * m1) = (u1 * u1 + u2 * u2) * v2 - (v1 * v1 + v2 * v2) * u2 := by rw [hu, hv]; grind
  have n2 : 2 * ((u1 * v2 - u2 * v1) * m2) = (v1 * v1 + v2 * v2) * u1 - (u1 * u1 + u2 * u2) * v1 := by rw [hu, hv]; grind
  clear hu hv
  have wa := rmul (Rat.mul_nonneg (show 0 ≤ (u1 - v1) * (u1 - v1) + (u2 - v2) * (u2 - v2) by have := rsq (u1 - v1); have := rsq (u2 - v2); grind) p1) sa
  have wb := rmul (Rat.mul_nonneg (show 0 ≤ v1 * v1 + v2 * v2 by have := rsq v1; have := rsq v2; grind) p2) sb
  have wd := rmul (Rat.mul_nonneg (show 0 ≤ u1 * u1 + u2 * u2 by have := rsq u1; have := rsq u2; grind) p3) sd
  refine rneg hW2 ?_
  have fin : 2 * ((u1 * v2 - u2 * v1) * (u1 * v2 - u2 * v1) * (v * ((a.1 : Rat) + m1) + w * ((a.2 : Rat) + m2) + e)) =
      (((u1 - v1) * (u1 - v1) + (u2 - v2) * (u2 - v2)) * (u1 * v1 + u2 * v2)) * (v * (a.1 : Rat) + w * (a.2 : Rat) + e)
      + ((v1 * v1 + v2 * v2) * ((v1 - u1) * -u1 + (v2 - u2) * -u2)) * (v * ((a.1 : Rat) + u1) + w * ((a.2 : Rat) + u2) + e)
      + ((u1 * u1 + u2 * u2) * (-v1 * (u1 - v1) + -v2 * (u2 - v2))) * (v * ((a.1 : Rat) + v1) + w * ((a.2 : Rat) + v2) + e) := by
    have f0 : 2 * ((u1 * v2 - u2 * v1) * (u1 * v2 - u2 * v1) * (v * ((a.1 : Rat) + m1) + w * ((a.2 : Rat) + m2) + e)) = 2 * ((u1 * v2 - u2 * v1) * (u1 * v2 - u2 * v1)) * (v * (a.1 : Rat) + w * (a.2 : Rat) + e) + (u1 * v2 - u2 * v1) * v * (2 * ((u1 * v2 - u2 * v1) * m1)) + (u1 * v2 - u2 * v1) * w * (2 * ((u1 * v2 - u2 * v1) * m2)) := by grind
    rw [f0, n1, n2]
    grind
  grind
end Go.Proofs.Ytdcecfgmfmpeeaa

namespace Go.Proofs.Ytdcecfgmfmpeeaa
open Go.ChangeShapes Go.WideShapes Go.ChangeAt Go.RowKit
set_option linter.unusedVariables false
set_option linter.unusedSimpArgs false

def cmpP (a b : Pt) : Int := orI (cmpI a.1 b.1) (cmpI a.2 b.2)
theorem cmpP_eq (a b : Pt) : cmpP a b = if ltp a b = true then -1 else if ltp b a = true then 1 else 0 := by
  obtain ⟨a1, a2⟩ := a
  obtain ⟨b1, b2⟩ := b
  simp only [cmpP, cmpI, orI, ltp, decide_eq_true_eq]
  by_cases h1 : a1 < b1
  · simp [h1]
  · by_cases h2 : b1 < a1
    · simp [h1, h2]; omega
    · have h3 : a1 = b1 := by omega
      subst h3
      simp
theorem cmpP_neg (a b : Pt) : decide (cmpP a b < 0) = ltp a b := by
  rw [cmpP_eq]
  cases h : ltp a b
  · cases h2 : ltp b a <;> simp
  · simp
set_option maxRecDepth 100000 in
set_option maxHeartbeats 1000000 in
theorem cmp_ints (a1 a2 b1 b2 : Int) (w : World) :
    Calls Try.prog 36 #[.agg #[.int .i64 a1, .int .i64 a2], .agg #[.int .i64 b1, .int .i64 b2]] w fun e w' => e = .returned (.int .i64 (orI (cmpI a1 b1) (cmpI a2 b2))) ∧ ∃ q, w' = (((w.alloc (.cells #[.int .i64 a1, .int .i64 a2] 30)).alloc (.cells #[.int .i64 b1, .int .i64 b2] 30)).drewN q).alloc (.cells #[.int .i64 (cmpI a1 b1), .int .i64 (cmpI a2 b2)] 3) := by
  go_enter Try.func36, Try.ntmps36
  go_wp2_with fail
  go_region_held3 (fun wx => wx.cell? ⟨w.heap.size, 0, none⟩ = some (.int .i64 a1) ∧ wx.cell? ⟨w.heap.size, 1, none⟩ = some (.int .i64 a2) ∧ wx.cell? ⟨w.heap.size + 1, 0, none⟩ = some (.int .i64 b1) ∧ wx.cell? ⟨w.heap.size + 1, 1, none⟩ = some (.int .i64 b2))
    (simp (maxDischargeDepth := 12) [go_sem, le1, lt1, *])
    (first
    | (go_at_call 56; refine (compare_any _ _ _).mono ?_; rintro e w' ⟨rfl, rfl⟩)
    | (go_at_call 63; refine (or_any _ _ _ _ _ (by simp [go_sem]; rfl) (by simp [go_sem]; rfl)).mono ?_; rintro e w' ⟨rfl, rfl⟩))
  all_goals
    go_wp2_with fail
    go_ret
    exact ⟨rfl, 1, rfl⟩
end Go.Proofs.Ytdcecfgmfmpeeaa

namespace Go.Proofs
open Go.Shelf
def Try.l73_ren : Go.Shelf.Ren := ⟨fun | 6 => 73 | n => n, fun | 22 => 23 | 23 => 30 | 25 => 88 | 3 => 3 | 0 => 0 | 4 => 4 | n => n, fun | n => n⟩
theorem Try.l73 : Go.Proofs.SlLaysH0.n6 Try.prog Try.l73_ren := {
  mixed := by kernel_rfl
  f6 := ⟨Try.f73.name, by decide, Try.func73.trans (congrArg some (by kernel_rfl))⟩
  t0 := Try.underlying0
  a0 := Try.isAgg0
  z0 := Try.sizeOf0
  v0 := Try.zeroValue0
  t3 := Try.underlying3
  a3 := Try.isAgg3
  z3 := Try.sizeOf3
  v3 := Try.zeroValue3
  t4 := Try.underlying4
  a4 := Try.isAgg4
  z4 := Try.sizeOf4
  v4 := Try.zeroValue4
  t22 := Try.underlying23
  a22 := Try.isAgg23
  z22 := Try.sizeOf23
  v22 := Try.zeroValue23
  t25 := Try.underlying88
  a25 := Try.isAgg88
  z25 := Try.sizeOf88
  v25 := Try.zeroValue88 }
def Try.l50_ren : Go.Shelf.Ren := ⟨fun | 8 => 50 | 6 => 73 | n => n, fun | 22 => 23 | 23 => 30 | 25 => 88 | 4 => 4 | 3 => 3 | 0 => 0 | n => n, fun | n => n⟩
theorem Try.l50 : Go.Proofs.SlLaysH0.n8 Try.prog Try.l50_ren := {
  mixed := by kernel_rfl
  f6 := ⟨Try.f73.name, by decide, Try.func73.trans (congrArg some (by kernel_rfl))⟩
  f8 := ⟨Try.f50.name, by decide, Try.func50.trans (congrArg some (by kernel_rfl))⟩
  t0 := Try.underlying0
  a0 := Try.isAgg0
  z0 := Try.sizeOf0
  v0 := Try.zeroValue0
  t3 := Try.underlying3
  a3 := Try.isAgg3
  z3 := Try.sizeOf3
  v3 := Try.zeroValue3
  t4 := Try.underlying4
  a4 := Try.isAgg4
  z4 := Try.sizeOf4
  v4 := Try.zeroValue4
  t22 := Try.underlying23
  a22 := Try.isAgg23
  z22 := Try.sizeOf23
  v22 := Try.zeroValue23
  t25 := Try.underlying88
  a25 := Try.isAgg88
  z25 := Try.sizeOf88
  v25 := Try.zeroValue88 }
def Try.l39_ren : Go.Shelf.Ren := ⟨fun | 35 => 39 | n => n, fun | 22 => 23 | 23 => 30 | 3 => 3 | 4 => 4 | 0 => 0 | n => n, fun | n => n⟩
theorem Try.l39 : Go.Proofs.SlLaysE0.n35 Try.prog Try.l39_ren := {
  mixed := by kernel_rfl
  f35 := ⟨Try.f39.name, by decide, Try.func39.trans (congrArg some (by kernel_rfl))⟩
  t0 := Try.underlying0
  a0 := Try.isAgg0
  z0 := Try.sizeOf0
  v0 := Try.zeroValue0
  t3 := Try.underlying3
  a3 := Try.isAgg3
  z3 := Try.sizeOf3
  v3 := Try.zeroValue3
  t4 := Try.underlying4
  a4 := Try.isAgg4
  z4 := Try.sizeOf4
  v4 := Try.zeroValue4
  t22 := Try.underlying23
  a22 := Try.isAgg23
  z22 := Try.sizeOf23
  v22 := Try.zeroValue23 }
def Try.l34_ren : Go.Shelf.Ren := ⟨fun | 41 => 34 | n => n, fun | 22 => 23 | 23 => 30 | 4 => 4 | n => n, fun | n => n⟩
theorem Try.l34 : Go.Proofs.SlLaysE0.n41 Try.prog Try.l34_ren := {
  mixed := by kernel_rfl
  f41 := ⟨Try.f34.name, by decide, Try.func34.trans (congrArg some (by kernel_rfl))⟩
  t4 := Try.underlying4
  a4 := Try.isAgg4
  z4 := Try.sizeOf4
  v4 := Try.zeroValue4
  t22 := Try.underlying23
  a22 := Try.isAgg23
  z22 := Try.sizeOf23
  v22 := Try.zeroValue23 }
end Go.Proofs

namespace Go.Proofs.Ytdcecfgmfmpeeaa
open Go.ChangeShapes Go.WideShapes Go.ChangeAt Go.RowKit Go.Shelf
set_option linter.unusedVariables false
set_option linter.unusedSimpArgs false

def encPt (x : Pt) : List Value := [.int .i64 x.1, .int .i64 x.2]
theorem enc_cells {w : World} {b off : Nat} {L : List Pt} (h : PtsAt w b off L) : ∀ j, j < L.length → ∀ i v, (encPt L[j]!)[i]? = some v → w.cell? ⟨b, off + j * 2 + i, none⟩ = some v := by
  intro j hj i v hi
  obtain ⟨p, hp⟩ : ∃ p, L[j]? = some p := ⟨_, List.getElem?_eq_getElem hj⟩
  have e : L[j]! = p := by rw [List.getElem!_eq_getElem?_getD, hp]; rfl
  rw [e] at hi
  have h1 := h j p hp
  match i, hi with
  | 0, hi => simp [encPt] at hi; rw [← hi]; exact h1.1
  | 1, hi => simp [encPt] at hi; rw [← hi]; exact h1.2
  | i + 2, hi => simp [encPt] at hi
theorem wrong_pred (w : World) : PredBelow Try.prog 60 #[] (fun x : Pt => .agg (encPt x).toArray) (fun x => !ptOk x) w := fun W x hb => by
  show Calls Try.prog 60 #[.agg #[.int .i64 x.1, .int .i64 x.2]] W _
  exact (wrong_ints x.1 x.2 W).mono fun e w' ⟨he, hw⟩ => ⟨he, hb.trans (hw.mono hb.size)⟩
theorem enters42 : ∀ args w, (callFunc 60 args).run Try.prog w = .ok (.enter 60 args) w := enters_of Try.func60 (by kernel_rfl) rfl
theorem any_not_all (L : List Pt) : (!(L.any fun x => !ptOk x)) = L.all ptOk := by
  induction L with
  | nil => rfl
  | cons x L ih => simp only [List.any_cons, List.all_cons, ← ih]; cases ptOk x <;> simp
set_option maxHeartbeats 1000000 in
/-- the program asks of each point of a list whether it is right -/
theorem ptsP_any (b off cap : Nat) (L : List Pt) (w : World) (hn : L.length ≤ 4611686018427387904) (hb : b < w.heap.size) (hc : PtsAt w b off L) :
    Calls Try.prog 33 #[.slice (some ⟨b, off, none⟩) L.length cap] w fun e w' => e = .returned (.bool (L.all ptOk)) ∧ Below w.heap.size w w' := by
  have hcon := AnyQ.slices_ContainsFunc Try.l50 2 Try.isAgg30 Try.sizeOf30 encPt (fun _ => rfl) (fun x => !ptOk x) 60 #[] enters42 b off L.length cap L w (wrong_pred w) (Nat.le_refl _) (by omega) hb (enc_cells hc)
  change Calls Try.prog 50 _ _ _ at hcon
  rw [List.take_length] at hcon
  rw [← any_not_all]
  generalize L.any (fun x => !ptOk x) = t at hcon ⊢
  generalize L.length = N at hcon ⊢
  clear hc hb
  have HC := hide hcon
  clear hcon
  go_enter Try.func33, Try.ntmps33
  go_wp2_with fail
  refine (unhide HC).mono ?_
  rintro e w' ⟨rfl, hb⟩
  have HB := hide hb
  clear hb
  go_wp2_with fail
  go_ret
  exact ⟨rfl, unhide HB⟩

/-- three points in a row of their own -/
theorem pts3 {w : World} {b : Nat} (p q r : Pt) (h0 : w.cell? ⟨b, 0, none⟩ = some (.int .i64 p.1)) (h1 : w.cell? ⟨b, 1, none⟩ = some (.int .i64 p.2)) (h2 : w.cell? ⟨b, 2, none⟩ = some (.int .i64 q.1)) (h3 : w.cell? ⟨b, 3, none⟩ = some (.int .i64 q.2)) (h4 : w.cell? ⟨b, 4, none⟩ = some (.int .i64 r.1)) (h5 : w.cell? ⟨b, 5, none⟩ = some (.int .i64 r.2)) : PtsAt w b 0 [p, q, r] := by
  intro j x hj
  match j, hj with
  | 0, hj => simp at hj; subst hj; exact ⟨h0, h1⟩
  | 1, hj => simp at hj; subst hj; exact ⟨h2, h3⟩
  | 2, hj => simp at hj; subst hj; exact ⟨h4, h5⟩
  | j + 3, hj => simp at hj
theorem pts4 {w : World} {b : Nat} (p q r s : Pt) (h0 : w.cell? ⟨b, 0, none⟩ = some (.int .i64 p.1)) (h1 : w.cell? ⟨b, 1, none⟩ = some (.int .i64 p.2)) (h2 : w.cell? ⟨b, 2, none⟩ = some (.int .i64 q.1)) (h3 : w.cell? ⟨b, 3, none⟩ = some (.int .i64 q.2)) (h4 : w.cell? ⟨b, 4, none⟩ = some (.int .i64 r.1)) (h5 : w.cell? ⟨b, 5, none⟩ = some (.int .i64 r.2)) (h6 : w.cell? ⟨b, 6, none⟩ = some (.int .i64 s.1)) (h7 : w.cell? ⟨b, 7, none⟩ = some (.int .i64 s.2)) : PtsAt w b 0 [p, q, r, s] := by
  intro j x hj
  match j, hj with
  | 0, hj => simp at hj; subst hj; exact ⟨h0, h1⟩
  | 1, hj => simp at hj; subst hj; exact ⟨h2, h3⟩
  | 2, hj => simp at hj; subst hj; exact ⟨h4, h5⟩
  | 3, hj => simp at hj; subst hj; exact ⟨h6, h7⟩
  | j + 4, hj => simp at hj

/-- what Turn answers -/
def turnC (a b c : Pt) : Int := if ([a, b, c].all ptOk) = true then 0 else 1
def turnS (a b c : Pt) : Int := if ([a, b, c].all ptOk) = true then sgn (side a b c) else 0

end Go.Proofs.Ytdcecfgmfmpeeaa

namespace Go.Proofs.Ytdcecfgmfmpeeaa
open Go.ChangeShapes Go.WideShapes Go.ChangeAt Go.RowKit Go.Shelf
set_option linter.unusedVariables false
set_option linter.unusedSimpArgs false

set_option maxHeartbeats 2000000 in
set_option maxRecDepth 100000 in
theorem fzP_any (b cap n : Nat) (L : List Pt) (a1 a2 c1 c2 : Int) (w : World) (hL : L.length = n) (hn : n ≤ 200) (hN : Near L) (ha : (a1, a2) ∈ L) (hc : (c1, c2) ∈ L) (hb : b < w.heap.size) (hI : IntsAt w b 0 (flat2 L)) :
    Calls Try.prog 22 #[.slice (some ⟨b, 0, none⟩) n cap, .agg #[.int .i64 a1, .int .i64 a2, .int .i64 c1, .int .i64 c2]] w fun e w' => e = .returned (zoV ⟨fi L (a1, a2), fi L (c1, c2), fi L (a1, a2), 0, max 1 (sqd (a1, a2) (c1, c2))⟩) ∧ Below w.heap.size w w' := by
  have ra := hN _ ha
  have rc := hN _ hc
  simp only at ra rc
  have oa := near_ok (hN _ ha)
  have oc := near_ok (hN _ hc)
  have HFA := hide (fi_fst ha)
  have HFC := hide (fi_fst hc)
  have HB0 := hide (ba (ba (Below.refl w.heap.size w) (.cells #[.int .i64 a1, .int .i64 a2, .int .i64 c1, .int .i64 c2] 54)) (.cells #[.int .i64 0, .int .i64 0, .int .i64 0, .int .i64 0, .int .i64 0] 26))
  have H3 := hide (cb_new1 w 54 [.int .i64 a1, .int .i64 a2, .int .i64 c1, .int .i64 c2] (.cells #[.int .i64 0, .int .i64 0, .int .i64 0, .int .i64 0, .int .i64 0] 26))
  have H4 : Hid (cb ((w.alloc (.cells #[.int .i64 a1, .int .i64 a2, .int .i64 c1, .int .i64 c2] 54)).alloc (.cells #[.int .i64 0, .int .i64 0, .int .i64 0, .int .i64 0, .int .i64 0] 26)) (w.heap.size + 1) 26 z5) := hide (cb_new2 w 26 z5 (.cells #[.int .i64 a1, .int .i64 a2, .int .i64 c1, .int .i64 c2] 54))
  have HL := hide hL
  have HI := hide hI
  clear hL hI ha hc hN
  go_enter Try.func22, Try.ntmps22
  go_wp2_with fail
  generalize (w.alloc (.cells #[.int .i64 a1, .int .i64 a2, .int .i64 c1, .int .i64 c2] 54)).alloc (.cells #[.int .i64 0, .int .i64 0, .int .i64 0, .int .i64 0, .int .i64 0] 26) = W0 at *
  have k0 := (unhide H3).cell (m := 0) rfl
  have k1 := (unhide H3).cell (m := 1) rfl
  have k2 := (unhide H3).cell (m := 2) rfl
  have k3 := (unhide H3).cell (m := 3) rfl
  try go_wp2_with fail
  refine (sub_bel c1 c2 a1 a2 W0 oc oa).mono ?_
  rintro e W1 ⟨rfl, hb1⟩
  have hA : Below W1.heap.size W1 (W1.alloc (.cells #[.int .i64 (c1 - a1), .int .i64 (c2 - a2)] 30)) := ba (Below.refl _ _) _
  have hbA := bc hb1 hA
  have H3b := hide ((unhide H3).bel hbA)
  have H4b := hide ((unhide H4).bel hbA)
  have H5 := hide (cb_new W1 30 [.int .i64 (c1 - a1), .int .i64 (c2 - a2)] W1.heap.size rfl)
  have HB1 := hide (bc (unhide HB0) hbA)
  have HI1 := hide ((unhide HI).below (unhide HB1) hb)
  have hbl : b < (W1.alloc (.cells #[.int .i64 (c1 - a1), .int .i64 (c2 - a2)] 30)).heap.size := Nat.lt_of_lt_of_le hb (unhide HB1).size
  clear hb1 hA hbA k0 k1 k2 k3 H3 H4 HB0 HI
  go_upto_region 2 with fail
  generalize W1.alloc (.cells #[.int .i64 (c1 - a1), .int .i64 (c2 - a2)] 30) = W2 at *
  generalize W1.heap.size = b5 at *
  have k0 := (unhide H3b).cell (m := 0) rfl
  have k1 := (unhide H3b).cell (m := 1) rfl
  go_wp2_with fail
  refine (idxP_any b cap n L a1 a2 _ W2 HL (by omega) hbl HI1 HFA).mono ?_
  rintro e W3 ⟨rfl, hb3⟩
  have H3x := hide ((unhide H3b).bel hb3)
  have H4x := hide ((unhide H4b).bel hb3)
  have H5x := hide ((unhide H5).bel hb3)
  have HB4 := hide (bc (unhide HB1) hb3)
  have HIx := hide ((unhide HI1).below hb3 hbl)
  have hbx : b < W3.heap.size := Nat.lt_of_lt_of_le hbl hb3.size
  have hb4w : w.heap.size + 1 < W3.heap.size := (unhide H4x).lt
  clear hb3 k0 k1 H3b H4b H5 HB1 HI1
  go_wp2_with fail
  refine Go.Code.wp_mono (Only.to (fun _ _ h => h)) (fz3 (ja := fi L (a1, a2)) (jb := fi L (c1, c2)) (dd := sqd (a1, a2) (c1, c2)) (c1 := c1) (c2 := c2) (w1 := c1 - a1) (w2 := c2 - a2) hb4w (hide ((unhide H3x).cell (m := 2) rfl)) (hide ((unhide H3x).cell (m := 3) rfl)) (hide ((unhide H5x).cell (m := 0) rfl)) (hide ((unhide H5x).cell (m := 1) rfl)) (hide (unhide H4x).zero) (hide (unhide H4x).frozen)
    (hide fun X hX => idxP_any b cap n L c1 c2 _ X HL (by omega) (Nat.lt_of_lt_of_le hbx hX.size) (hide ((unhide HIx).below hX hbx)) HFC)
    (hide fun X hX => by rw [← sq_way a1 a2 c1 c2]; exact aloP_any _ _ _ _ X (by omega) (by omega)) (fun W9 hW9 => ?_))
  have V4 := hide ((((((unhide H4x).bel hW9).set 0 (.int .i64 (fi L (a1, a2) : Int))).set 1 (.int .i64 (fi L (c1, c2) : Int))).set 2 (.int .i64 (fi L (a1, a2) : Int))).set 3 (.int .i64 0) |>.set 4 (.int .i64 (max 1 (sqd (a1, a2) (c1, c2)))))
  have HB9 := hide (bc (unhide HB4) hW9)
  clear hW9
  have s0 := (unhide V4).cell (m := 0) rfl
  have s1 := (unhide V4).cell (m := 1) rfl
  have s2 := (unhide V4).cell (m := 2) rfl
  have s3 := (unhide V4).cell (m := 3) rfl
  have s4 := (unhide V4).cell (m := 4) rfl
  go_wp2_with fail
  refine bodyPost_ret (v := .agg #[.int .i64 (fi L (a1, a2) : Int), .int .i64 (fi L (c1, c2) : Int), .int .i64 (fi L (a1, a2) : Int), .int .i64 0, .int .i64 (max 1 (sqd (a1, a2) (c1, c2)))]) (by simp [results, Try.results22, go_sem, s0, s1, s2, s3, s4]) rfl ⟨rfl, ?_⟩
  exact Below.setCell (Below.setCell (Below.setCell (Below.setCell (Below.setCell (unhide HB9) (by simp) _) (by simp) _) (by simp) _) (by simp) _) (by simp) _
theorem nd_bd {x y : Int} (hx : 0 ≤ x ∧ x ≤ 102400000000) (hy : 0 ≤ y ∧ y ≤ 320000) : 0 ≤ x * y ∧ x * y ≤ 32768000000000000 := by
  have h1 : 0 ≤ x * y := Int.mul_nonneg (by omega) (by omega)
  have h2 := mulB (x := x) (y := y) (a := 102400000000) (b := 320000) (by omega) (by omega) (by omega) (by omega)
  omega
theorem cwP_any (x y : Zo) (w : World) (hx : ZoOk x) (hy : ZoOk y) :
    Calls Try.prog 26 #[zoV x, zoV y] w fun e w' => e = .returned (.int .i64 (cmpI (x.N * y.D) (y.N * x.D))) ∧ Below w.heap.size w w' := by
  have h1 := nd_bd hx.n hy.d
  have h2 := nd_bd hy.n hx.d
  obtain ⟨xA, xB, xC, xN, xD⟩ := x
  obtain ⟨yA, yB, yC, yN, yD⟩ := y
  simp only at h1 h2
  have w1 : IntKind.i64.wrap (xN * yD) = xN * yD := wr64 (by omega) (by omega)
  have w2 : IntKind.i64.wrap (yN * xD) = yN * xD := wr64 (by omega) (by omega)
  unfold zoV
  clear hx hy h1 h2
  go_enter Try.func26, Try.ntmps26
  go_wp2_with fail
  refine (compare_any _ _ _).mono ?_
  rintro e w' ⟨rfl, hq⟩
  rw [hq]
  clear hq
  go_wp2_with fail
  go_ret
  exact ⟨rfl, ba (ba (Below.refl _ _) _) _⟩
/-- strips in a row -/
def flatZ (z : Nat → Zo) (n : Nat) : List Int := (List.range n).flatMap fun i => [(z i).A, (z i).B, (z i).C, (z i).N, (z i).D]
theorem flatZ_succ (z : Nat → Zo) (n : Nat) : flatZ z (n + 1) = flatZ z n ++ [(z n).A, (z n).B, (z n).C, (z n).N, (z n).D] := by simp [flatZ, List.range_succ]
theorem flatZ_len (z : Nat → Zo) : ∀ n, (flatZ z n).length = n * 5
  | 0 => rfl
  | n + 1 => by rw [flatZ_succ, List.length_append, flatZ_len z n]; simp; omega
theorem flatZ_at (z : Nat → Zo) : ∀ (n i : Nat), i < n → (flatZ z n)[i * 5]? = some (z i).A ∧ (flatZ z n)[i * 5 + 1]? = some (z i).B ∧ (flatZ z n)[i * 5 + 2]? = some (z i).C ∧ (flatZ z n)[i * 5 + 3]? = some (z i).N ∧ (flatZ z n)[i * 5 + 4]? = some (z i).D
  | 0, i, h => by omega
  | n + 1, i, h => by
    have hl := flatZ_len z n
    rw [flatZ_succ]
    by_cases e : i = n
    · subst e
      refine ⟨?_, ?_, ?_, ?_, ?_⟩ <;> (rw [List.getElem?_append_right (by omega), hl]) <;> simp
    · obtain ⟨h1, h2, h3, h4, h5⟩ := flatZ_at z n i (by omega)
      refine ⟨?_, ?_, ?_, ?_, ?_⟩ <;> (rw [List.getElem?_append_left (by omega)]; assumption)
theorem enters26 : ∀ args w, (callFunc 26 args).run Try.prog w = .ok (.enter 26 args) w := enters_of Try.func26 (by kernel_rfl) rfl
set_option maxHeartbeats 2000000 in
set_option maxRecDepth 100000 in
theorem mnP_any (g cap n : Nat) (z : Nat → Zo) (w : World) (hn1 : 1 ≤ n) (hn : n ≤ 400) (hz : ∀ i, i < n → ZoOk (z i)) (hg : g < w.heap.size) (hI : IntsAt w g 0 (flatZ z n)) :
    Calls Try.prog 25 #[.slice (some ⟨g, 0, none⟩) n cap, .func (.func 26) #[] #[]] w fun e w' => e = .returned (zoV (bst z (n - 1))) ∧ Below w.heap.size w w' := by
  have HB0 := hide (ba (Below.refl w.heap.size w) (.cells #[.int .i64 0, .int .i64 0, .int .i64 0, .int .i64 0, .int .i64 0] 26))
  have H4 : Hid (cb (w.alloc (.cells #[.int .i64 0, .int .i64 0, .int .i64 0, .int .i64 0, .int .i64 0] 26)) w.heap.size 26 z5) := hide (cb_new w 26 z5 _ rfl)
  have HI : Hid (IntsAt (w.alloc (.cells #[.int .i64 0, .int .i64 0, .int .i64 0, .int .i64 0, .int .i64 0] 26)) g 0 (flatZ z n)) := hide (hI.below (unhide HB0) hg)
  have HAT := hide (fun i (h : i < n) => flatZ_at z n i h)
  have HBO := hide (fun k (h : k < n) => bst_ok (z := z) k (fun i hi => hz i (by omega)))
  have HZK := hide hz
  have d1 : decide ((n : Int) < 1) = false := decide_eq_false (by omega)
  have n1' : (0 : Int) < (n : Int) := by omega
  have n1'' : 0 < n := by omega
  clear hI hz
  obtain ⟨h0A, h0B, h0C, h0N, h0D⟩ := unhide HAT 0 (by omega)
  have c0 := (unhide HI) _ _ h0A
  have c1 := (unhide HI) _ _ h0B
  have c2 := (unhide HI) _ _ h0C
  have c3 := (unhide HI) _ _ h0N
  have c4 := (unhide HI) _ _ h0D
  simp only [Nat.zero_mul, Nat.zero_add] at c0 c1 c2 c3 c4
  clear h0A h0B h0C h0N h0D
  have HHZ : Hid (bst z 0 = z 0) := hide rfl
  go_enter Try.func25, Try.ntmps25
  go_wp2_with fail
  have hA : Below (w.alloc (.cells #[.int .i64 0, .int .i64 0, .int .i64 0, .int .i64 0, .int .i64 0] 26)).heap.size (w.alloc (.cells #[.int .i64 0, .int .i64 0, .int .i64 0, .int .i64 0, .int .i64 0] 26)) ((w.alloc (.cells #[.int .i64 0, .int .i64 0, .int .i64 0, .int .i64 0, .int .i64 0] 26)).alloc (.cells #[.int .i64 (z 0).A, .int .i64 (z 0).B, .int .i64 (z 0).C, .int .i64 (z 0).N, .int .i64 (z 0).D] 26)) := ba (Below.refl _ _) _
  have H5 := hide (cb_new (w.alloc (.cells #[.int .i64 0, .int .i64 0, .int .i64 0, .int .i64 0, .int .i64 0] 26)) 26 [.int .i64 (z 0).A, .int .i64 (z 0).B, .int .i64 (z 0).C, .int .i64 (z 0).N, .int .i64 (z 0).D] (w.heap.size + 1) (by simp))
  have H4b := hide ((unhide H4).bel hA)
  have HB1 := hide (bc (unhide HB0) hA)
  have HI1 := hide ((unhide HI).below hA (Nat.lt_of_lt_of_le hg (unhide HB0).size))
  have hgl : g < ((w.alloc (.cells #[.int .i64 0, .int .i64 0, .int .i64 0, .int .i64 0, .int .i64 0] 26)).alloc (.cells #[.int .i64 (z 0).A, .int .i64 (z 0).B, .int .i64 (z 0).C, .int .i64 (z 0).N, .int .i64 (z 0).D] 26)).heap.size := Nat.lt_of_lt_of_le hg (unhide HB1).size
  have hgw : g < w.heap.size := hg
  clear hA c0 c1 c2 c3 c4 HB0 H4 HI
  go_upto_region 4 with fail
  generalize (w.alloc (.cells #[.int .i64 0, .int .i64 0, .int .i64 0, .int .i64 0, .int .i64 0] 26)).alloc (.cells #[.int .i64 (z 0).A, .int .i64 (z 0).B, .int .i64 (z 0).C, .int .i64 (z 0).N, .int .i64 (z 0).D] 26) = W0 at *
  go_wp2_with fail
  go_loopw [6] (fun zz X => ∃ i : Nat, zz = .int .i64 (i : Int) ∧ 1 ≤ i ∧ i ≤ n ∧ cb X (w.heap.size + 1) 26 [.int .i64 (bst z (i - 1)).A, .int .i64 (bst z (i - 1)).B, .int .i64 (bst z (i - 1)).C, .int .i64 (bst z (i - 1)).N, .int .i64 (bst z (i - 1)).D] ∧ Below (w.heap.size + 1) W0 X) (fun zz _ => n - (intOf zz).toNat)
  case atStart => exact ⟨1, rfl, Nat.le_refl _, hn1, unhide H5, Below.refl _ _⟩
  case round =>
    obtain ⟨i, rfl, hi1, hi2, hv5, hw⟩ := hrel
    have HV5 := hide hv5
    have HW := hide hw
    by_cases h : i < n
    · have i1 : (i : Int) < (n : Int) := by omega
      have i0 : (0 : Int) ≤ (i : Int) := Int.natCast_nonneg _
      have iz : decide ((i : Int) < (n : Int)) = true := decide_eq_true i1
      obtain ⟨hA', hB', hC', hN', hD'⟩ := unhide HAT i h
      have hii := (unhide HI1).below hw (by omega : g < w.heap.size + 1)
      have x0' := hii _ _ hA'
      have x1' := hii _ _ hB'
      have x2' := hii _ _ hC'
      have x3' := hii _ _ hN'
      have x4' := hii _ _ hD'
      simp only [Nat.zero_add] at x0' x1' x2' x3' x4'
      have HCW := hide (fun X => cwP_any (z i) (bst z (i - 1)) X (unhide HZK i h) (unhide HBO (i - 1) (by omega)))
      have HBS : Hid (bst z (i + 1 - 1) = if (z i).N * (bst z (i - 1)).D < (bst z (i - 1)).N * (z i).D then z i else bst z (i - 1)) := hide (by
        obtain ⟨k, rfl⟩ : ∃ k, i = k + 1 := ⟨i - 1, by omega⟩
        simp only [Nat.add_sub_cancel]
        rfl)
      unfold zoV at HCW
      obtain ⟨xz, hxz⟩ : ∃ xz, z i = xz := ⟨_, rfl⟩
      obtain ⟨yz, hyz⟩ : ∃ yz, bst z (i - 1) = yz := ⟨_, rfl⟩
      rw [hxz] at x0' x1' x2' x3' x4' HCW HBS
      rw [hyz] at HV5 HCW HBS
      obtain ⟨x0, x1, x2, x3, x4⟩ := xz
      obtain ⟨y0, y1, y2, y3, y4⟩ := yz
      simp only at x0' x1' x2' x3' x4' HCW HBS HV5
      have e0 := (unhide HV5).cell (m := 0) rfl
      have e1 := (unhide HV5).cell (m := 1) rfl
      have e2 := (unhide HV5).cell (m := 2) rfl
      have e3 := (unhide HV5).cell (m := 3) rfl
      have e4 := (unhide HV5).cell (m := 4) rfl
      have hent := enters26
      obtain ⟨b5, hb5⟩ : ∃ b5, w.heap.size + 1 = b5 := ⟨_, rfl⟩
      have hgb : g ≠ b5 := by omega
      have HB5E := hide hb5
      rw [hb5] at e0 e1 e2 e3 e4 HV5 HW ⊢
      clear hA' hB' hC' hN' hD' hii hxz hyz hv5 hw hb5
      by_cases hlt : x3 * y4 < y3 * x4
      · have HCL : Hid (cmpI (x3 * y4) (y3 * x4) = -1) := hide (by unfold cmpI; rw [if_pos hlt])
        rw [unhide HCL] at HCW
        have dl : decide ((-1 : Int) < 0) = true := by decide
        generalize x3 * y4 = M1 at *
        generalize y3 * x4 = M2 at *
        go_wp2_with fail
        go_region_held3 (fun wx => wx.cell? ⟨g, i * 5, none⟩ = some (.int .i64 x0) ∧ wx.cell? ⟨g, i * 5 + 1, none⟩ = some (.int .i64 x1) ∧ wx.cell? ⟨g, i * 5 + 2, none⟩ = some (.int .i64 x2) ∧ wx.cell? ⟨g, i * 5 + 3, none⟩ = some (.int .i64 x3) ∧ wx.cell? ⟨g, i * 5 + 4, none⟩ = some (.int .i64 x4) ∧ wx.cell? ⟨b5, 0, none⟩ = some (.int .i64 y0) ∧ wx.cell? ⟨b5, 1, none⟩ = some (.int .i64 y1) ∧ wx.cell? ⟨b5, 2, none⟩ = some (.int .i64 y2) ∧ wx.cell? ⟨b5, 3, none⟩ = some (.int .i64 y3) ∧ wx.cell? ⟨b5, 4, none⟩ = some (.int .i64 y4))
          (simp (maxDischargeDepth := 12) [go_sem, le1, lt1, *])
          (first
          | (go_at_call 26; with_reducible refine (unhide HCW _).mono ?_; rintro e w' ⟨rfl, hb'⟩; have HBx := hide (show Below wr.heap.size wr w' from bc (by repeat (first | exact Below.refl _ _ | refine Below.drew ?_)) hb'); have p0 := keep1 hb' (b := g) (o := i * 5) (v := .int .i64 x0) (by simp (maxDischargeDepth := 12) [go_sem, le1, lt1, *]); have p1 := keep1 hb' (b := g) (o := i * 5 + 1) (v := .int .i64 x1) (by simp (maxDischargeDepth := 12) [go_sem, le1, lt1, *]); have p2 := keep1 hb' (b := g) (o := i * 5 + 2) (v := .int .i64 x2) (by simp (maxDischargeDepth := 12) [go_sem, le1, lt1, *]); have p3 := keep1 hb' (b := g) (o := i * 5 + 3) (v := .int .i64 x3) (by simp (maxDischargeDepth := 12) [go_sem, le1, lt1, *]); have p4 := keep1 hb' (b := g) (o := i * 5 + 4) (v := .int .i64 x4) (by simp (maxDischargeDepth := 12) [go_sem, le1, lt1, *]); have p5 := keep1 hb' (b := b5) (o := 0) (v := .int .i64 y0) (by simp (maxDischargeDepth := 12) [go_sem, le1, lt1, *]); have p6 := keep1 hb' (b := b5) (o := 1) (v := .int .i64 y1) (by simp (maxDischargeDepth := 12) [go_sem, le1, lt1, *]); have p7 := keep1 hb' (b := b5) (o := 2) (v := .int .i64 y2) (by simp (maxDischargeDepth := 12) [go_sem, le1, lt1, *]); have p8 := keep1 hb' (b := b5) (o := 3) (v := .int .i64 y3) (by simp (maxDischargeDepth := 12) [go_sem, le1, lt1, *]); have p9 := keep1 hb' (b := b5) (o := 4) (v := .int .i64 y4) (by simp (maxDischargeDepth := 12) [go_sem, le1, lt1, *]); clear hb'))
        all_goals
          have HWx : Hid (Below b5 W0 w') := hide ((unhide HW).trans ((unhide HBx).mono (by have := (unhide HV5).lt; omega)))
          have V5x := hide ((unhide HV5).bel (unhide HBx))
          have fz := (unhide V5x).frozen
          go_wp2_with fail
          go_roundw
          case rel =>
            refine ⟨i + 1, by simp, by omega, h, ?_, ?_⟩
            · rw [unhide HBS, if_pos hlt]
              exact (((((unhide V5x).set 0 _).set 1 _).set 2 _).set 3 _).set 4 _
            · exact Below.setCell (Below.setCell (Below.setCell (Below.setCell (Below.setCell (unhide HWx) (Nat.le_refl _) _) (Nat.le_refl _) _) (Nat.le_refl _) _) (Nat.le_refl _) _) (Nat.le_refl _) _
          case measure => simp only [intOf]; omega
      · have HCL : Hid (0 ≤ cmpI (x3 * y4) (y3 * x4)) := hide (by unfold cmpI; rw [if_neg hlt]; split <;> omega)
        have dl : decide (cmpI (x3 * y4) (y3 * x4) < 0) = false := decide_eq_false (by have := unhide HCL; omega)
        generalize cmpI (x3 * y4) (y3 * x4) = CI at *
        go_wp2_with fail
        go_region_held3 (fun wx => wx.cell? ⟨g, i * 5, none⟩ = some (.int .i64 x0) ∧ wx.cell? ⟨g, i * 5 + 1, none⟩ = some (.int .i64 x1) ∧ wx.cell? ⟨g, i * 5 + 2, none⟩ = some (.int .i64 x2) ∧ wx.cell? ⟨g, i * 5 + 3, none⟩ = some (.int .i64 x3) ∧ wx.cell? ⟨g, i * 5 + 4, none⟩ = some (.int .i64 x4) ∧ wx.cell? ⟨b5, 0, none⟩ = some (.int .i64 y0) ∧ wx.cell? ⟨b5, 1, none⟩ = some (.int .i64 y1) ∧ wx.cell? ⟨b5, 2, none⟩ = some (.int .i64 y2) ∧ wx.cell? ⟨b5, 3, none⟩ = some (.int .i64 y3) ∧ wx.cell? ⟨b5, 4, none⟩ = some (.int .i64 y4))
          (simp (maxDischargeDepth := 12) [go_sem, le1, lt1, *])
          (first
          | (go_at_call 26; with_reducible refine (unhide HCW _).mono ?_; rintro e w' ⟨rfl, hb'⟩; have HBx := hide (show Below wr.heap.size wr w' from bc (by repeat (first | exact Below.refl _ _ | refine Below.drew ?_)) hb'); have p0 := keep1 hb' (b := g) (o := i * 5) (v := .int .i64 x0) (by simp (maxDischargeDepth := 12) [go_sem, le1, lt1, *]); have p1 := keep1 hb' (b := g) (o := i * 5 + 1) (v := .int .i64 x1) (by simp (maxDischargeDepth := 12) [go_sem, le1, lt1, *]); have p2 := keep1 hb' (b := g) (o := i * 5 + 2) (v := .int .i64 x2) (by simp (maxDischargeDepth := 12) [go_sem, le1, lt1, *]); have p3 := keep1 hb' (b := g) (o := i * 5 + 3) (v := .int .i64 x3) (by simp (maxDischargeDepth := 12) [go_sem, le1, lt1, *]); have p4 := keep1 hb' (b := g) (o := i * 5 + 4) (v := .int .i64 x4) (by simp (maxDischargeDepth := 12) [go_sem, le1, lt1, *]); have p5 := keep1 hb' (b := b5) (o := 0) (v := .int .i64 y0) (by simp (maxDischargeDepth := 12) [go_sem, le1, lt1, *]); have p6 := keep1 hb' (b := b5) (o := 1) (v := .int .i64 y1) (by simp (maxDischargeDepth := 12) [go_sem, le1, lt1, *]); have p7 := keep1 hb' (b := b5) (o := 2) (v := .int .i64 y2) (by simp (maxDischargeDepth := 12) [go_sem, le1, lt1, *]); have p8 := keep1 hb' (b := b5) (o := 3) (v := .int .i64 y3) (by simp (maxDischargeDepth := 12) [go_sem, le1, lt1, *]); have p9 := keep1 hb' (b := b5) (o := 4) (v := .int .i64 y4) (by simp (maxDischargeDepth := 12) [go_sem, le1, lt1, *]); clear hb'))
        all_goals
          have HWx : Hid (Below b5 W0 w') := hide ((unhide HW).trans ((unhide HBx).mono (by have := (unhide HV5).lt; omega)))
          have V5x := hide ((unhide HV5).bel (unhide HBx))
          go_wp2_with fail
          go_roundw
          case rel =>
            refine ⟨i + 1, by simp, by omega, h, ?_, ?_⟩
            · rw [unhide HBS, if_neg (by omega)]
              exact unhide V5x
            · exact unhide HWx
          case measure => simp only [intOf]; omega
    · have iz : decide ((i : Int) < (n : Int)) = false := decide_eq_false (by omega)
      obtain rfl : n = i := by omega
      have e0 := hv5.cell (m := 0) rfl
      have e1 := hv5.cell (m := 1) rfl
      have e2 := hv5.cell (m := 2) rfl
      have e3 := hv5.cell (m := 3) rfl
      have e4 := hv5.cell (m := 4) rfl
      have v4 : cb wr w.heap.size 26 z5 := (hw.block w.heap.size (by omega)).trans (unhide H4b)
      have f4 := v4.frozen
      have m0 := v4.cell (m := 0) rfl
      have m1 := v4.cell (m := 1) rfl
      have m2 := v4.cell (m := 2) rfl
      have m3 := v4.cell (m := 3) rfl
      have m4 := v4.cell (m := 4) rfl
      have HV4 := hide v4
      have hne : w.heap.size + 1 ≠ w.heap.size := by omega
      have HBE := hide ((unhide HB1).trans (hw.mono (Nat.le_succ _)))
      obtain ⟨bz, hbz⟩ : ∃ bz, bst z (n - 1) = bz := ⟨_, rfl⟩
      have HZV : Hid (zoV (bst z (n - 1)) = .agg #[.int .i64 bz.A, .int .i64 bz.B, .int .i64 bz.C, .int .i64 bz.N, .int .i64 bz.D]) := hide (by rw [hbz]; rfl)
      rw [hbz] at e0 e1 e2 e3 e4
      clear hbz
      clear hv5 hw v4
      go_wp2_with fail
      have V4 := hide (((((unhide HV4).set 0 (.int .i64 bz.A)).set 1 (.int .i64 bz.B)).set 2 (.int .i64 bz.C)).set 3 (.int .i64 bz.N) |>.set 4 (.int .i64 bz.D))
      have s0 := (unhide V4).cell (m := 0) rfl
      have s1 := (unhide V4).cell (m := 1) rfl
      have s2 := (unhide V4).cell (m := 2) rfl
      have s3 := (unhide V4).cell (m := 3) rfl
      have s4 := (unhide V4).cell (m := 4) rfl
      refine bodyPost_ret (v := .agg #[.int .i64 bz.A, .int .i64 bz.B, .int .i64 bz.C, .int .i64 bz.N, .int .i64 bz.D]) (by simp [results, Try.results25, go_sem, s0, s1, s2, s3, s4]) rfl ⟨by rw [unhide HZV], ?_⟩
      exact Below.setCell (Below.setCell (Below.setCell (Below.setCell (Below.setCell (unhide HBE) (Nat.le_refl _) _) (Nat.le_refl _) _) (Nat.le_refl _) _) (Nat.le_refl _) _) (Nat.le_refl _) _
end Go.Proofs.Ytdcecfgmfmpeeaa

namespace Go.Proofs.Ytdcecfgmfmpeeaa
open Go.ChangeShapes Go.WideShapes Go.ChangeAt Go.RowKit
set_option linter.unusedVariables false
set_option linter.unusedSimpArgs false

noncomputable def reg7 (id : Nat) : Go.Code := match Try.f7.body with | some c => (regOfZ id c).getD .skip | none => .skip
set_option maxHeartbeats 4000000 in
set_option maxRecDepth 100000 in
theorem zp8 {s1 s3 s4 s6 s7 s8 s9 s10 s11 s12 s13 s14 s15 s16 s17 s18 s19 s20 s21 s22 s23 s24 s25 s26 s27 s28 s29 s30 s31 s32 s33 s34 s35 s36 s37 s38 s39 s40 s41 s42 s43 s44 s45 s46 s47 s48 s49 s50 s51 s52 s53 s54 s55 s56 s57 s58 s59 : Value} {b cap n gh m ch q b2 : Nat} {a1 a2 c1 c2 : Int} {z : Zo} {V : World} {K_ : Act → World → Prop} (hb2 : b2 < V.heap.size)
    (HA0 : Hid (V.cell? ⟨gh, 0, none⟩ = some (.int .i64 a1))) (HA1 : Hid (V.cell? ⟨gh, 1, none⟩ = some (.int .i64 a2))) (HC0 : Hid (V.cell? ⟨gh, q * 2, none⟩ = some (.int .i64 c1))) (HC1 : Hid (V.cell? ⟨gh, q * 2 + 1, none⟩ = some (.int .i64 c2)))
    (HWQ : Hid (IntKind.i64.wrap ((m : Int) - 1) = (q : Int))) (HQM : Hid ((q : Int) < (m : Int))) (HM1 : Hid ((0 : Int) < (m : Int)))
    (H2 : Hid (∀ o, o < 5 → V.cell? ⟨b2, o, none⟩ = some (.int .i64 0))) (H2f : Hid (∀ o, V.frozen? ⟨b2, o, none⟩ = false))
    (HF : Hid (∀ X, Below V.heap.size V X → Calls Try.prog 22 #[.slice (some ⟨b, 0, none⟩) n cap, .agg #[.int .i64 a1, .int .i64 a2, .int .i64 c1, .int .i64 c2]] X fun e w' => e = .returned (.agg #[.int .i64 z.A, .int .i64 z.B, .int .i64 z.C, .int .i64 z.N, .int .i64 z.D]) ∧ Below X.heap.size X w'))
    (hQ : ∀ (W1 : World), Below V.heap.size V W1 → K_ { tmps := #[.slice (some ⟨b, 0, none⟩) n cap, s1, .pointer (some ⟨b2, 0, none⟩), .int .i64 (0), s4, .slice (some ⟨gh, 0, none⟩) m ch, s6, s7, s8, s9, s10, s11, s12, s13, s14, s15, s16, s17, s18, s19, s20, s21, s22, s23, s24, s25, s26, s27, .slice (some ⟨b, 0, none⟩) n cap, .slice (some ⟨gh, 0, none⟩) m ch, .pointer (some ⟨gh, 0, none⟩), .agg #[.int .i64 (a1), .int .i64 (a2)], .slice (some ⟨gh, 0, none⟩) m ch, .slice (some ⟨gh, 0, none⟩) m ch, .int .i64 (m : Int), .int .i64 (q : Int), .pointer (some ⟨gh, q * 2, none⟩), .agg #[.int .i64 (c1), .int .i64 (c2)], .agg #[.int .i64 a1, .int .i64 a2, .int .i64 c1, .int .i64 c2], .agg #[.int .i64 z.A, .int .i64 z.B, .int .i64 z.C, .int .i64 z.N, .int .i64 z.D], s40, s41, s42, s43, s44, s45, s46, s47, s48, s49, s50, s51, s52, s53, s54, s55, s56, s57, s58, s59], defers := [] } (((((W1.setCell ⟨b2, 0, none⟩ (.int .i64 z.A)).setCell ⟨b2, 1, none⟩ (.int .i64 z.B)).setCell ⟨b2, 2, none⟩ (.int .i64 z.C)).setCell ⟨b2, 3, none⟩ (.int .i64 z.N)).setCell ⟨b2, 4, none⟩ (.int .i64 z.D))) :
    Go.Code.wp Try.prog (reg7 8) (Only K_) { tmps := #[.slice (some ⟨b, 0, none⟩) n cap, s1, .pointer (some ⟨b2, 0, none⟩), s3, s4, .slice (some ⟨gh, 0, none⟩) m ch, s6, s7, s8, s9, s10, s11, s12, s13, s14, s15, s16, s17, s18, s19, s20, s21, s22, s23, s24, s25, s26, s27, s28, s29, s30, s31, s32, s33, s34, s35, s36, s37, s38, s39, s40, s41, s42, s43, s44, s45, s46, s47, s48, s49, s50, s51, s52, s53, s54, s55, s56, s57, s58, s59], defers := [] } V := by
  have HQ := hide hQ
  clear hQ
  conv => arg 2; whnf
  refine wp_region_inv (fun Lb A W => ∃ (u0 u1 u2 u3 u4 u5 u6 u7 u8 u9 u10 u11 u12 u13 : Bool) (dm : Nat), Lb = #[u0, u1, u2, u3, u4, u5, u6, u7, u8, u9, u10, u11, u12, u13] ∧ A = ({ tmps := #[.slice (some ⟨b, 0, none⟩) n cap, s1, .pointer (some ⟨b2, 0, none⟩), (bif u13 then .int .i64 (0) else s3), s4, .slice (some ⟨gh, 0, none⟩) m ch, s6, s7, s8, s9, s10, s11, s12, s13, s14, s15, s16, s17, s18, s19, s20, s21, s22, s23, s24, s25, s26, s27, (bif u0 then .slice (some ⟨b, 0, none⟩) n cap else s28), (bif u1 then .slice (some ⟨gh, 0, none⟩) m ch else s29), (bif u2 then .pointer (some ⟨gh, 0, none⟩) else s30), (bif u3 then .agg #[.int .i64 (a1), .int .i64 (a2)] else s31), (bif u4 then .slice (some ⟨gh, 0, none⟩) m ch else s32), (bif u5 then .slice (some ⟨gh, 0, none⟩) m ch else s33), (bif u6 then .int .i64 (m : Int) else s34), (bif u7 then .int .i64 (q : Int) else s35), (bif u8 then .pointer (some ⟨gh, q * 2, none⟩) else s36), (bif u9 then .agg #[.int .i64 (c1), .int .i64 (c2)] else s37), (bif u10 then .agg #[.int .i64 a1, .int .i64 a2, .int .i64 c1, .int .i64 c2] else s38), (bif u11 then .agg #[.int .i64 z.A, .int .i64 z.B, .int .i64 z.C, .int .i64 z.N, .int .i64 z.D] else s39), s40, s41, s42, s43, s44, s45, s46, s47, s48, s49, s50, s51, s52, s53, s54, s55, s56, s57, s58, s59], defers := [] } : Act) ∧ (u12 = false → Below V.heap.size V W) ∧ (u12 = true → ∃ W1, Below V.heap.size V W1 ∧ W = (((((W1.setCell ⟨b2, 0, none⟩ (.int .i64 z.A)).setCell ⟨b2, 1, none⟩ (.int .i64 z.B)).setCell ⟨b2, 2, none⟩ (.int .i64 z.C)).setCell ⟨b2, 3, none⟩ (.int .i64 z.N)).setCell ⟨b2, 4, none⟩ (.int .i64 z.D))) ∧ (u2 = true → u1 = true) ∧ (u3 = true → u2 = true) ∧ (u6 = true → u5 = true) ∧ (u7 = true → u6 = true) ∧ (u8 = true → u4 = true ∧ u7 = true) ∧ (u9 = true → u8 = true) ∧ (u10 = true → u3 = true ∧ u9 = true) ∧ (u11 = true → u0 = true ∧ u10 = true) ∧ (u12 = true → u11 = true) ∧ (u13 = true → u0 = true ∧ u1 = true ∧ u2 = true ∧ u3 = true ∧ u4 = true ∧ u5 = true ∧ u6 = true ∧ u7 = true ∧ u8 = true ∧ u9 = true ∧ u10 = true ∧ u11 = true ∧ u12 = true)) (by kernel_rfl) (by kernel_rfl) ?h0 ?hstep ?hend
  case h0 =>
    exact ⟨false, false, false, false, false, false, false, false, false, false, false, false, false, false, 0, rfl, rfl, (fun _ => Below.drew (Below.refl _ _)), (fun h => nomatch h), (fun h => nomatch h), (fun h => nomatch h), (fun h => nomatch h), (fun h => nomatch h), (fun h => nomatch h), (fun h => nomatch h), (fun h => nomatch h), (fun h => nomatch h), (fun h => nomatch h), (fun h => nomatch h)⟩
  case hstep =>
    rintro Lb A W ⟨u0, u1, u2, u3, u4, u5, u6, u7, u8, u9, u10, u11, u12, u13, dm, rfl, rfl, kB, kZ, c2, c3, c6, c7, c8, c9, c10, c11, c12, kF⟩
    refine ⟨?_, ?_, ?_, ?_, ?_, ?_, ?_, ?_, ?_, ?_, ?_, ?_, ?_, ?_, trivial⟩
    · intro h0 hd K hK
      have z : u0 = false := h0
      have z13_ : u13 = false := by
        cases hu : u13 with
        | false => rfl
        | true => exact nomatch z.symm.trans ((kF hu).1)
      have H_kB := hide kB
      have H_kZ := hide kZ
      have H_c2 := hide c2
      have H_c3 := hide c3
      have H_c6 := hide c6
      have H_c7 := hide c7
      have H_c8 := hide c8
      have H_c9 := hide c9
      have H_c10 := hide c10
      have H_c11 := hide c11
      have H_c12 := hide c12
      have H_kF := hide kF
      clear kB kZ c2 c3 c6 c7 c8 c9 c10 c11 c12 kF
      subst z13_
      subst z
      clear h0 hd
      rw [if_pos (by rfl)]
      go_simp
      exact unhide hK _ _ ⟨true, u1, u2, u3, u4, u5, u6, u7, u8, u9, u10, u11, u12, false, dm, rfl, rfl, unhide H_kB, unhide H_kZ, unhide H_c2, unhide H_c3, unhide H_c6, unhide H_c7, unhide H_c8, unhide H_c9, unhide H_c10, (fun h => ⟨rfl, (unhide H_c11 h).2⟩), unhide H_c12, (fun h => nomatch h)⟩
    · intro h0 hd K hK
      have z : u1 = false := h0
      have z13_ : u13 = false := by
        cases hu : u13 with
        | false => rfl
        | true => exact nomatch z.symm.trans ((kF hu).2.1)
      have H_kB := hide kB
      have H_kZ := hide kZ
      have H_c2 := hide c2
      have H_c3 := hide c3
      have H_c6 := hide c6
      have H_c7 := hide c7
      have H_c8 := hide c8
      have H_c9 := hide c9
      have H_c10 := hide c10
      have H_c11 := hide c11
      have H_c12 := hide c12
      have H_kF := hide kF
      clear kB kZ c2 c3 c6 c7 c8 c9 c10 c11 c12 kF
      subst z13_
      subst z
      clear h0 hd
      rw [if_pos (by rfl)]
      go_simp
      exact unhide hK _ _ ⟨u0, true, u2, u3, u4, u5, u6, u7, u8, u9, u10, u11, u12, false, dm, rfl, rfl, unhide H_kB, unhide H_kZ, (fun h => rfl), unhide H_c3, unhide H_c6, unhide H_c7, unhide H_c8, unhide H_c9, unhide H_c10, unhide H_c11, unhide H_c12, (fun h => nomatch h)⟩
    · intro h0 hd K hK
      have z : u2 = false := h0
      have z13_ : u13 = false := by
        cases hu : u13 with
        | false => rfl
        | true => exact nomatch z.symm.trans ((kF hu).2.2.1)
      have zd : u1 = true := by
        simp [Region.binds] at hd
        simp [hd]
      have H_kB := hide kB
      have H_kZ := hide kZ
      have H_c2 := hide c2
      have H_c3 := hide c3
      have H_c6 := hide c6
      have H_c7 := hide c7
      have H_c8 := hide c8
      have H_c9 := hide c9
      have H_c10 := hide c10
      have H_c11 := hide c11
      have H_c12 := hide c12
      have H_kF := hide kF
      clear kB kZ c2 c3 c6 c7 c8 c9 c10 c11 c12 kF
      obtain ⟨rfl⟩ := zd
      subst z13_
      subst z
      clear h0 hd
      rw [if_pos (by rfl)]
      have q1 := unhide HM1
      have q2 : 0 < m := by omega
      go_simp
      exact unhide hK _ _ ⟨u0, true, true, u3, u4, u5, u6, u7, u8, u9, u10, u11, u12, false, dm, rfl, rfl, unhide H_kB, unhide H_kZ, (fun _ => rfl), (fun h => rfl), unhide H_c6, unhide H_c7, unhide H_c8, unhide H_c9, unhide H_c10, unhide H_c11, unhide H_c12, (fun h => nomatch h)⟩
    · intro h0 hd K hK
      have z : u3 = false := h0
      have z13_ : u13 = false := by
        cases hu : u13 with
        | false => rfl
        | true => exact nomatch z.symm.trans ((kF hu).2.2.2.1)
      have z12_ : u12 = false := by
        cases hu : u12 with
        | false => rfl
        | true => exact nomatch z.symm.trans ((c10 (c11 (c12 hu)).2).1)
      have zd : u2 = true := by
        simp [Region.binds] at hd
        simp [hd]
      have H_kB := hide kB
      have H_kZ := hide kZ
      have H_c2 := hide c2
      have H_c3 := hide c3
      have H_c6 := hide c6
      have H_c7 := hide c7
      have H_c8 := hide c8
      have H_c9 := hide c9
      have H_c10 := hide c10
      have H_c11 := hide c11
      have H_c12 := hide c12
      have H_kF := hide kF
      clear kB kZ c2 c3 c6 c7 c8 c9 c10 c11 c12 kF
      obtain ⟨rfl⟩ := zd
      subst z13_
      subst z12_
      subst z
      clear h0 hd
      rw [if_pos (by rfl)]
      have c0 := keep1 (unhide H_kB rfl) (unhide HA0)
      have c1 := keep1 (unhide H_kB rfl) (unhide HA1)
      go_simp
      exact unhide hK _ _ ⟨u0, u1, true, true, u4, u5, u6, u7, u8, u9, u10, u11, false, false, dm, rfl, rfl, unhide H_kB, (fun h => nomatch h), unhide H_c2, (fun _ => rfl), unhide H_c6, unhide H_c7, unhide H_c8, unhide H_c9, (fun h => ⟨rfl, (unhide H_c10 h).2⟩), unhide H_c11, (fun h => nomatch h), (fun h => nomatch h)⟩
    · intro h0 hd K hK
      have z : u4 = false := h0
      have z13_ : u13 = false := by
        cases hu : u13 with
        | false => rfl
        | true => exact nomatch z.symm.trans ((kF hu).2.2.2.2.1)
      have H_kB := hide kB
      have H_kZ := hide kZ
      have H_c2 := hide c2
      have H_c3 := hide c3
      have H_c6 := hide c6
      have H_c7 := hide c7
      have H_c8 := hide c8
      have H_c9 := hide c9
      have H_c10 := hide c10
      have H_c11 := hide c11
      have H_c12 := hide c12
      have H_kF := hide kF
      clear kB kZ c2 c3 c6 c7 c8 c9 c10 c11 c12 kF
      subst z13_
      subst z
      clear h0 hd
      rw [if_pos (by rfl)]
      go_simp
      exact unhide hK _ _ ⟨u0, u1, u2, u3, true, u5, u6, u7, u8, u9, u10, u11, u12, false, dm, rfl, rfl, unhide H_kB, unhide H_kZ, unhide H_c2, unhide H_c3, unhide H_c6, unhide H_c7, (fun h => ⟨rfl, (unhide H_c8 h).2⟩), unhide H_c9, unhide H_c10, unhide H_c11, unhide H_c12, (fun h => nomatch h)⟩
    · intro h0 hd K hK
      have z : u5 = false := h0
      have z13_ : u13 = false := by
        cases hu : u13 with
        | false => rfl
        | true => exact nomatch z.symm.trans ((kF hu).2.2.2.2.2.1)
      have H_kB := hide kB
      have H_kZ := hide kZ
      have H_c2 := hide c2
      have H_c3 := hide c3
      have H_c6 := hide c6
      have H_c7 := hide c7
      have H_c8 := hide c8
      have H_c9 := hide c9
      have H_c10 := hide c10
      have H_c11 := hide c11
      have H_c12 := hide c12
      have H_kF := hide kF
      clear kB kZ c2 c3 c6 c7 c8 c9 c10 c11 c12 kF
      subst z13_
      subst z
      clear h0 hd
      rw [if_pos (by rfl)]
      go_simp
      exact unhide hK _ _ ⟨u0, u1, u2, u3, u4, true, u6, u7, u8, u9, u10, u11, u12, false, dm, rfl, rfl, unhide H_kB, unhide H_kZ, unhide H_c2, unhide H_c3, (fun h => rfl), unhide H_c7, unhide H_c8, unhide H_c9, unhide H_c10, unhide H_c11, unhide H_c12, (fun h => nomatch h)⟩
    · intro h0 hd K hK
      have z : u6 = false := h0
      have z13_ : u13 = false := by
        cases hu : u13 with
        | false => rfl
        | true => exact nomatch z.symm.trans ((kF hu).2.2.2.2.2.2.1)
      have zd : u5 = true := by
        simp [Region.binds] at hd
        simp [hd]
      have H_kB := hide kB
      have H_kZ := hide kZ
      have H_c2 := hide c2
      have H_c3 := hide c3
      have H_c6 := hide c6
      have H_c7 := hide c7
      have H_c8 := hide c8
      have H_c9 := hide c9
      have H_c10 := hide c10
      have H_c11 := hide c11
      have H_c12 := hide c12
      have H_kF := hide kF
      clear kB kZ c2 c3 c6 c7 c8 c9 c10 c11 c12 kF
      obtain ⟨rfl⟩ := zd
      subst z13_
      subst z
      clear h0 hd
      rw [if_pos (by rfl)]
      go_simp
      exact unhide hK _ _ ⟨u0, u1, u2, u3, u4, true, true, u7, u8, u9, u10, u11, u12, false, dm, rfl, rfl, unhide H_kB, unhide H_kZ, unhide H_c2, unhide H_c3, (fun _ => rfl), (fun h => rfl), unhide H_c8, unhide H_c9, unhide H_c10, unhide H_c11, unhide H_c12, (fun h => nomatch h)⟩
    · intro h0 hd K hK
      have z : u7 = false := h0
      have z13_ : u13 = false := by
        cases hu : u13 with
        | false => rfl
        | true => exact nomatch z.symm.trans ((kF hu).2.2.2.2.2.2.2.1)
      have zd : u6 = true := by
        simp [Region.binds] at hd
        simp [hd]
      have H_kB := hide kB
      have H_kZ := hide kZ
      have H_c2 := hide c2
      have H_c3 := hide c3
      have H_c6 := hide c6
      have H_c7 := hide c7
      have H_c8 := hide c8
      have H_c9 := hide c9
      have H_c10 := hide c10
      have H_c11 := hide c11
      have H_c12 := hide c12
      have H_kF := hide kF
      clear kB kZ c2 c3 c6 c7 c8 c9 c10 c11 c12 kF
      obtain ⟨rfl⟩ := zd
      subst z13_
      subst z
      clear h0 hd
      rw [if_pos (by rfl)]
      have wq := unhide HWQ
      go_simp
      exact unhide hK _ _ ⟨u0, u1, u2, u3, u4, u5, true, true, u8, u9, u10, u11, u12, false, dm, rfl, rfl, unhide H_kB, unhide H_kZ, unhide H_c2, unhide H_c3, unhide H_c6, (fun _ => rfl), (fun h => ⟨(unhide H_c8 h).1, rfl⟩), unhide H_c9, unhide H_c10, unhide H_c11, unhide H_c12, (fun h => nomatch h)⟩
    · intro h0 hd K hK
      have z : u8 = false := h0
      have z13_ : u13 = false := by
        cases hu : u13 with
        | false => rfl
        | true => exact nomatch z.symm.trans ((kF hu).2.2.2.2.2.2.2.2.1)
      have zd : u4 = true ∧ u7 = true := by
        simp [Region.binds] at hd
        simp [hd]
      have H_kB := hide kB
      have H_kZ := hide kZ
      have H_c2 := hide c2
      have H_c3 := hide c3
      have H_c6 := hide c6
      have H_c7 := hide c7
      have H_c8 := hide c8
      have H_c9 := hide c9
      have H_c10 := hide c10
      have H_c11 := hide c11
      have H_c12 := hide c12
      have H_kF := hide kF
      clear kB kZ c2 c3 c6 c7 c8 c9 c10 c11 c12 kF
      obtain ⟨rfl, rfl⟩ := zd
      subst z13_
      subst z
      clear h0 hd
      rw [if_pos (by rfl)]
      have q1 := unhide HQM
      have q0 : (0 : Int) ≤ (q : Int) := Int.natCast_nonneg _
      have q2 : q < m := by omega
      go_simp
      exact unhide hK _ _ ⟨u0, u1, u2, u3, true, u5, u6, true, true, u9, u10, u11, u12, false, dm, rfl, rfl, unhide H_kB, unhide H_kZ, unhide H_c2, unhide H_c3, unhide H_c6, unhide H_c7, (fun _ => ⟨rfl, rfl⟩), (fun h => rfl), unhide H_c10, unhide H_c11, unhide H_c12, (fun h => nomatch h)⟩
    · intro h0 hd K hK
      have z : u9 = false := h0
      have z13_ : u13 = false := by
        cases hu : u13 with
        | false => rfl
        | true => exact nomatch z.symm.trans ((kF hu).2.2.2.2.2.2.2.2.2.1)
      have z12_ : u12 = false := by
        cases hu : u12 with
        | false => rfl
        | true => exact nomatch z.symm.trans ((c10 (c11 (c12 hu)).2).2)
      have zd : u8 = true := by
        simp [Region.binds] at hd
        simp [hd]
      have H_kB := hide kB
      have H_kZ := hide kZ
      have H_c2 := hide c2
      have H_c3 := hide c3
      have H_c6 := hide c6
      have H_c7 := hide c7
      have H_c8 := hide c8
      have H_c9 := hide c9
      have H_c10 := hide c10
      have H_c11 := hide c11
      have H_c12 := hide c12
      have H_kF := hide kF
      clear kB kZ c2 c3 c6 c7 c8 c9 c10 c11 c12 kF
      obtain ⟨rfl⟩ := zd
      subst z13_
      subst z12_
      subst z
      clear h0 hd
      rw [if_pos (by rfl)]
      have c0 := keep1 (unhide H_kB rfl) (unhide HC0)
      have c1 := keep1 (unhide H_kB rfl) (unhide HC1)
      go_simp
      exact unhide hK _ _ ⟨u0, u1, u2, u3, u4, u5, u6, u7, true, true, u10, u11, false, false, dm, rfl, rfl, unhide H_kB, (fun h => nomatch h), unhide H_c2, unhide H_c3, unhide H_c6, unhide H_c7, unhide H_c8, (fun _ => rfl), (fun h => ⟨(unhide H_c10 h).1, rfl⟩), unhide H_c11, (fun h => nomatch h), (fun h => nomatch h)⟩
    · intro h0 hd K hK
      have z : u10 = false := h0
      have z13_ : u13 = false := by
        cases hu : u13 with
        | false => rfl
        | true => exact nomatch z.symm.trans ((kF hu).2.2.2.2.2.2.2.2.2.2.1)
      have zd : u3 = true ∧ u9 = true := by
        simp [Region.binds] at hd
        simp [hd]
      have H_kB := hide kB
      have H_kZ := hide kZ
      have H_c2 := hide c2
      have H_c3 := hide c3
      have H_c6 := hide c6
      have H_c7 := hide c7
      have H_c8 := hide c8
      have H_c9 := hide c9
      have H_c10 := hide c10
      have H_c11 := hide c11
      have H_c12 := hide c12
      have H_kF := hide kF
      clear kB kZ c2 c3 c6 c7 c8 c9 c10 c11 c12 kF
      obtain ⟨rfl, rfl⟩ := zd
      subst z13_
      subst z
      clear h0 hd
      rw [if_pos (by rfl)]
      go_simp
      exact unhide hK _ _ ⟨u0, u1, u2, true, u4, u5, u6, u7, u8, true, true, u11, u12, false, dm, rfl, rfl, unhide H_kB, unhide H_kZ, unhide H_c2, unhide H_c3, unhide H_c6, unhide H_c7, unhide H_c8, unhide H_c9, (fun _ => ⟨rfl, rfl⟩), (fun h => ⟨(unhide H_c11 h).1, rfl⟩), unhide H_c12, (fun h => nomatch h)⟩
    · intro h0 hd K hK
      have z : u11 = false := h0
      have z13_ : u13 = false := by
        cases hu : u13 with
        | false => rfl
        | true => exact nomatch z.symm.trans ((kF hu).2.2.2.2.2.2.2.2.2.2.2.1)
      have z12_ : u12 = false := by
        cases hu : u12 with
        | false => rfl
        | true => exact nomatch z.symm.trans ((c12 hu))
      have zd : u0 = true ∧ u10 = true := by
        simp [Region.binds] at hd
        simp [hd]
      have H_kB := hide kB
      have H_kZ := hide kZ
      have H_c2 := hide c2
      have H_c3 := hide c3
      have H_c6 := hide c6
      have H_c7 := hide c7
      have H_c8 := hide c8
      have H_c9 := hide c9
      have H_c10 := hide c10
      have H_c11 := hide c11
      have H_c12 := hide c12
      have H_kF := hide kF
      clear kB kZ c2 c3 c6 c7 c8 c9 c10 c11 c12 kF
      obtain ⟨rfl, rfl⟩ := zd
      subst z13_
      subst z12_
      subst z
      clear h0 hd
      rw [if_pos (by rfl)]
      go_simp
      refine (unhide HF W (unhide H_kB rfl)).mono ?_
      rintro e w8 ⟨rfl, hb8⟩
      exact unhide hK _ _ ⟨true, u1, u2, u3, u4, u5, u6, u7, u8, u9, true, true, false, false, dm, rfl, rfl, (fun _ => bc (unhide H_kB rfl) hb8), (fun h => nomatch h), unhide H_c2, unhide H_c3, unhide H_c6, unhide H_c7, unhide H_c8, unhide H_c9, unhide H_c10, (fun _ => ⟨rfl, rfl⟩), (fun h => nomatch h), (fun h => nomatch h)⟩
    · intro h0 hd K hK
      have z : u12 = false := h0
      have z13_ : u13 = false := by
        cases hu : u13 with
        | false => rfl
        | true => exact nomatch z.symm.trans ((kF hu).2.2.2.2.2.2.2.2.2.2.2.2)
      have zd : u11 = true := by
        simp [Region.binds] at hd
        simp_all
      have H_kB := hide kB
      have H_kZ := hide kZ
      have H_c2 := hide c2
      have H_c3 := hide c3
      have H_c6 := hide c6
      have H_c7 := hide c7
      have H_c8 := hide c8
      have H_c9 := hide c9
      have H_c10 := hide c10
      have H_c11 := hide c11
      have H_c12 := hide c12
      have H_kF := hide kF
      clear kB kZ c2 c3 c6 c7 c8 c9 c10 c11 c12 kF
      obtain ⟨rfl⟩ := zd
      subst z13_
      subst z
      clear h0 hd
      rw [if_pos (by rfl)]
      have hB := (unhide H_kB rfl)
      have q0 := keep1 hB (unhide H2 0 (by omega))
      have q1 := keep1 hB (unhide H2 1 (by omega))
      have q2 := keep1 hB (unhide H2 2 (by omega))
      have q3 := keep1 hB (unhide H2 3 (by omega))
      have q4 := keep1 hB (unhide H2 4 (by omega))
      have fz : ∀ o, W.frozen? ⟨b2, o, none⟩ = false := fun o => keepz hB hb2 (unhide H2f o)
      have HBB := hide hB
      clear hB
      go_simp
      exact unhide hK _ _ ⟨u0, u1, u2, u3, u4, u5, u6, u7, u8, u9, u10, true, true, false, dm, rfl, rfl, (fun h => nomatch h), (fun _ => ⟨W, unhide HBB, rfl⟩), unhide H_c2, unhide H_c3, unhide H_c6, unhide H_c7, unhide H_c8, unhide H_c9, unhide H_c10, unhide H_c11, (fun _ => rfl), (fun h => nomatch h)⟩
    · intro h0 hd K hK
      have z : u13 = false := h0
      have zd : u0 = true ∧ u1 = true ∧ u2 = true ∧ u3 = true ∧ u4 = true ∧ u5 = true ∧ u6 = true ∧ u7 = true ∧ u8 = true ∧ u9 = true ∧ u10 = true ∧ u11 = true ∧ u12 = true := by
        simp [Region.binds] at hd
        simp_all
      have H_kB := hide kB
      have H_kZ := hide kZ
      have H_c2 := hide c2
      have H_c3 := hide c3
      have H_c6 := hide c6
      have H_c7 := hide c7
      have H_c8 := hide c8
      have H_c9 := hide c9
      have H_c10 := hide c10
      have H_c11 := hide c11
      have H_c12 := hide c12
      have H_kF := hide kF
      clear kB kZ c2 c3 c6 c7 c8 c9 c10 c11 c12 kF
      obtain ⟨rfl, rfl, rfl, rfl, rfl, rfl, rfl, rfl, rfl, rfl, rfl, rfl, rfl⟩ := zd
      subst z
      clear h0 hd
      rw [if_pos (by rfl)]
      go_simp
      exact unhide hK _ _ ⟨true, true, true, true, true, true, true, true, true, true, true, true, true, true, dm, rfl, rfl, unhide H_kB, unhide H_kZ, (fun _ => rfl), (fun _ => rfl), (fun _ => rfl), (fun _ => rfl), (fun _ => ⟨rfl, rfl⟩), (fun _ => rfl), (fun _ => ⟨rfl, rfl⟩), (fun _ => ⟨rfl, rfl⟩), (fun _ => rfl), (fun _ => ⟨rfl, rfl, rfl, rfl, rfl, rfl, rfl, rfl, rfl, rfl, rfl, rfl, rfl⟩)⟩
  case hend =>
    rintro Lb A W ⟨u0, u1, u2, u3, u4, u5, u6, u7, u8, u9, u10, u11, u12, u13, dm, rfl, rfl, kB, kZ, c2, c3, c6, c7, c8, c9, c10, c11, c12, kF⟩ hL
    have hl : u0 = true ∧ u1 = true ∧ u2 = true ∧ u3 = true ∧ u4 = true ∧ u5 = true ∧ u6 = true ∧ u7 = true ∧ u8 = true ∧ u9 = true ∧ u10 = true ∧ u11 = true ∧ u12 = true ∧ u13 = true := by
      have h2 := congrArg Array.toList hL
      simpa [List.replicate] using h2
    obtain ⟨rfl, rfl, rfl, rfl, rfl, rfl, rfl, rfl, rfl, rfl, rfl, rfl, rfl, rfl⟩ := hl
    obtain ⟨W1, hA, rfl⟩ := kZ rfl
    exact unhide HQ W1 hA
end Go.Proofs.Ytdcecfgmfmpeeaa

namespace Go.Proofs.Ytdcecfgmfmpeeaa
open Go.ChangeShapes Go.WideShapes Go.ChangeAt Go.RowKit Go.Shelf
set_option linter.unusedVariables false
set_option linter.unusedSimpArgs false

def nrP (p : Pt) : Bool := decide (-200 ≤ p.1 ∧ p.1 ≤ 200 ∧ -200 ≤ p.2 ∧ p.2 ≤ 200)
theorem brP_ints (a1 a2 : Int) (w : World) :
    Calls Try.prog 51 #[.agg #[.int .i64 a1, .int .i64 a2]] w fun e w' => e = .returned (.bool (!nrP (a1, a2))) ∧ Below w.heap.size w w' := by
  have HB := hide (ba (Below.refl w.heap.size w) (.cells #[.int .i64 a1, .int .i64 a2] 30))
  have HE : Hid ((!nrP (a1, a2)) = (!(decide (-200 ≤ a1) && decide (a1 ≤ 200)) || !(decide (-200 ≤ a2) && decide (a2 ≤ 200)))) := hide (by
    unfold nrP
    rw [Bool.eq_iff_iff]
    simp
    omega)
  rw [unhide HE]
  cases h1 : (decide (-200 ≤ a1) && decide (a1 ≤ 200)) with
  | false =>
    have H1 := hide (fun X => btw_any a1 (-200) 200 X)
    rw [h1] at H1
    clear h1
    go_enter Try.func51, Try.ntmps51
    go_wp2_with fail
    refine (unhide H1 _).mono ?_
    rintro e w' ⟨rfl, hq⟩
    rw [hq]
    clear hq
    go_wp2_with fail
    go_ret
    exact ⟨rfl, unhide HB⟩
  | true =>
    have H1 := hide (fun X => btw_any a1 (-200) 200 X)
    have H2 := hide (fun X => btw_any a2 (-200) 200 X)
    rw [h1] at H1
    clear h1
    generalize (decide (-200 ≤ a2) && decide (a2 ≤ 200)) = t2 at *
    go_enter Try.func51, Try.ntmps51
    go_wp2_with fail
    refine (unhide H1 _).mono ?_
    rintro e w' ⟨rfl, hq⟩
    rw [hq]
    clear hq
    go_wp2_with fail
    refine (unhide H2 _).mono ?_
    rintro e w' ⟨rfl, hq⟩
    rw [hq]
    clear hq
    cases t2 <;>
    · go_wp2_with fail
      go_ret
      exact ⟨rfl, unhide HB⟩
theorem br_pred (w : World) : PredBelow Try.prog 51 #[] (fun x : Pt => .agg (encPt x).toArray) (fun x => !nrP x) w := fun W x hb => by
  show Calls Try.prog 51 #[.agg #[.int .i64 x.1, .int .i64 x.2]] W _
  exact (brP_ints x.1 x.2 W).mono fun e w' ⟨he, hw⟩ => ⟨he, hb.trans (hw.mono hb.size)⟩
theorem enters51 : ∀ args w, (callFunc 51 args).run Try.prog w = .ok (.enter 51 args) w := enters_of Try.func51 (by kernel_rfl) rfl
/-- the code of measured points -/
def mcC (L : List Pt) : Int := if 4096 < L.length then 2 else if 1 ≤ L.length ∧ L.length ≤ 200 ∧ L.all nrP = true then 0 else 1
theorem anyN (L : List Pt) : (L.any fun x => !nrP x) = !(L.all nrP) := by
  induction L with
  | nil => rfl
  | cons x L ih => simp only [List.any_cons, List.all_cons, ih]; cases nrP x <;> simp
set_option maxHeartbeats 1000000 in
set_option maxRecDepth 100000 in
theorem mcP_any (b cap : Nat) (L : List Pt) (w : World) (hn : L.length ≤ 4611686018427387904) (hb : b < w.heap.size) (hc : PtsAt w b 0 L) :
    Calls Try.prog 21 #[.slice (some ⟨b, 0, none⟩) L.length cap] w fun e w' => e = .returned (.int .i64 (mcC L)) ∧ Below w.heap.size w w' := by
  have hcon := AnyQ.slices_ContainsFunc Try.l50 2 Try.isAgg30 Try.sizeOf30 encPt (fun _ => rfl) (fun x => !nrP x) 51 #[] enters51 b 0 L.length cap L w (br_pred w) (Nat.le_refl _) (by omega) hb (enc_cells hc)
  change Calls Try.prog 50 _ _ _ at hcon
  rw [List.take_length, anyN] at hcon
  have HCO := hide hcon
  have HBT := hide (fun X => btw_any (L.length : Int) 1 200 X)
  unfold mcC
  clear hcon hc
  by_cases h1 : 4096 < L.length
  · rw [if_pos h1]
    have d0 : decide ((4096 : Int) < (L.length : Int)) = true := decide_eq_true (by omega)
    go_enter Try.func21, Try.ntmps21
    go_wp2_with fail
    go_ret
    exact ⟨rfl, Below.refl _ _⟩
  · rw [if_neg h1]
    have d0 : decide ((4096 : Int) < (L.length : Int)) = false := decide_eq_false (by omega)
    by_cases h2 : 1 ≤ L.length ∧ L.length ≤ 200
    · rw [show (decide ((1 : Int) ≤ (L.length : Int)) && decide ((L.length : Int) ≤ 200)) = true by simp; omega] at HBT
      cases ho : L.all nrP with
      | true =>
        rw [if_pos ⟨h2.1, h2.2, rfl⟩]
        rw [ho] at HCO
        generalize L.length = N at *
        go_enter Try.func21, Try.ntmps21
        go_wp2_with fail
        refine (unhide HBT _).mono ?_
        rintro e w' ⟨rfl, hq⟩
        rw [hq]
        clear hq
        go_wp2_with fail
        refine (unhide HCO).mono ?_
        rintro e w' ⟨rfl, hb'⟩
        have HB := hide hb'
        clear hb'
        go_wp2_with fail
        go_ret
        exact ⟨rfl, unhide HB⟩
      | false =>
        rw [if_neg (by simp)]
        rw [ho] at HCO
        generalize L.length = N at *
        go_enter Try.func21, Try.ntmps21
        go_wp2_with fail
        refine (unhide HBT _).mono ?_
        rintro e w' ⟨rfl, hq⟩
        rw [hq]
        clear hq
        go_wp2_with fail
        refine (unhide HCO).mono ?_
        rintro e w' ⟨rfl, hb'⟩
        have HB := hide hb'
        clear hb'
        go_wp2_with fail
        go_ret
        exact ⟨rfl, unhide HB⟩
    · rw [if_neg (by omega)]
      rw [show (decide ((1 : Int) ≤ (L.length : Int)) && decide ((L.length : Int) ≤ 200)) = false by rw [Bool.and_eq_false_iff, decide_eq_false_iff_not, decide_eq_false_iff_not]; omega] at HBT
      go_enter Try.func21, Try.ntmps21
      go_wp2_with fail
      refine (unhide HBT _).mono ?_
      rintro e w' ⟨rfl, hq⟩
      rw [hq]
      clear hq
      go_wp2_with fail
      go_ret
      exact ⟨rfl, Below.refl _ _⟩
/-- the model's absolute value, as it wraps -/
def abW (x : Int) : Int := if x < 0 then IntKind.i64.wrap (-x) else x
theorem abM_any (x : Int) (w : World) : Calls Try.prog 57 #[.int .i64 x] w fun e w' => e = .returned (.int .i64 (abW x)) ∧ w' = w := by
  unfold abW
  by_cases h : x < 0
  · rw [if_pos h]
    have d := decide_eq_true h
    generalize hq : IntKind.i64.wrap (-x) = q at *
    have hq2 : IntKind.i64.wrap (0 - x) = q := by rw [← hq]; congr 1; omega
    go_enter Try.func57, Try.ntmps57
    go_wp2_with fail
    go_ret
    exact ⟨by first | rfl | (simp [hq, hq2]), rfl⟩
  · rw [if_neg h]
    have d := decide_eq_false h
    go_enter Try.func57, Try.ntmps57
    go_wp2_with fail
    go_ret
    exact ⟨rfl, rfl⟩
theorem ab_far (x : Int) : (200 < abW x ∨ x < -200) ↔ ¬ (-200 ≤ x ∧ x ≤ 200) := by
  unfold abW
  by_cases h : x < 0
  · rw [if_pos h]
    by_cases h2 : x < -200
    · constructor
      · intro _; omega
      · intro _; exact .inr h2
    · have : IntKind.i64.wrap (-x) = -x := wr64 (by omega) (by omega)
      rw [this]
      omega
  · rw [if_neg h]
    omega
theorem nr_iff (x y : Int) : nrP (x, y) = true ↔ (¬ 200 < abW x ∧ ¬ 200 < abW y ∧ ¬ x < -200 ∧ ¬ y < -200) := by
  have h1 := ab_far x
  have h2 := ab_far y
  unfold nrP
  rw [decide_eq_true_iff]
  simp only
  constructor
  · rintro ⟨a1, a2, a3, a4⟩
    exact ⟨fun h => h1.1 (.inl h) ⟨a1, a2⟩, fun h => h2.1 (.inl h) ⟨a3, a4⟩, fun h => h1.1 (.inr h) ⟨a1, a2⟩, fun h => h2.1 (.inr h) ⟨a3, a4⟩⟩
  · rintro ⟨b1, b2, b3, b4⟩
    have c1 : -200 ≤ x ∧ x ≤ 200 := Classical.byContradiction (fun hn => (h1.2 hn).elim b1 b3)
    have c2 : -200 ≤ y ∧ y ≤ 200 := Classical.byContradiction (fun hn => (h2.2 hn).elim b2 b4)
    exact ⟨c1.1, c1.2, c2.1, c2.2⟩
set_option maxHeartbeats 2000000 in
set_option maxRecDepth 100000 in
theorem nrM_any (b cap n : Nat) (L : List Pt) (w : World) (HL : Hid (L.length = n)) (hn : n ≤ 4611686018427387904) (HI : Hid (IntsAt w b 0 (flat2 L))) :
    Calls Try.prog 27 #[.slice (some ⟨b, 0, none⟩) n cap] w fun e w' => e = .returned (.bool (decide (1 ≤ n ∧ n ≤ 200) && L.all nrP)) ∧ Same w w' := by
  by_cases h1 : n < 1
  · have d1 : decide ((n : Int) < 1) = true := decide_eq_true (by omega)
    have e1 : decide (1 ≤ n ∧ n ≤ 200) = false := decide_eq_false (by omega)
    rw [e1]
    go_enter Try.func27, Try.ntmps27
    go_wp2_with fail
    go_ret
    exact ⟨rfl, Same.refl _⟩
  · have d1 : decide ((n : Int) < 1) = false := decide_eq_false (by omega)
    by_cases h2 : 200 < n
    · have d2 : decide ((200 : Int) < (n : Int)) = true := decide_eq_true (by omega)
      have e1 : decide (1 ≤ n ∧ n ≤ 200) = false := decide_eq_false (by omega)
      rw [e1]
      go_enter Try.func27, Try.ntmps27
      go_wp2_with fail
      go_ret
      exact ⟨rfl, Same.refl _⟩
    · have d2 : decide ((200 : Int) < (n : Int)) = false := decide_eq_false (by omega)
      have e1 : decide (1 ≤ n ∧ n ≤ 200) = true := decide_eq_true (by omega)
      rw [e1, Bool.true_and]
      go_enter Try.func27, Try.ntmps27
      go_wp2_with fail
      go_loopw [3] (fun z X => ∃ i : Nat, z = .int .i64 (i : Int) ∧ i ≤ n ∧ (∀ j p, j < i → L[j]? = some p → nrP p = true) ∧ Same w X) (fun z _ => n - (intOf z).toNat)
      case atStart => exact ⟨0, rfl, Nat.zero_le _, fun j p h => by omega, Same.refl _⟩
      case round =>
        obtain ⟨i, rfl, hi, hall, hs⟩ := hrel
        have HA := hide hall
        have HS := hide hs
        by_cases h : i < n
        · have i1 : (i : Int) < (n : Int) := by omega
          have i0 : (0 : Int) ≤ (i : Int) := Int.natCast_nonneg _
          have iz : decide ((i : Int) < (n : Int)) = true := decide_eq_true i1
          obtain ⟨⟨x, y⟩, hx⟩ : ∃ q, L[i]? = some q := ⟨_, List.getElem?_eq_getElem (by rw [unhide HL]; omega)⟩
          obtain ⟨c0, c1⟩ := pts_at (unhide HI) hx
          rw [← hs.cell] at c0 c1
          have HX := hide hx
          have HAX := hide (fun X => abM_any x X)
          have HAY := hide (fun X => abM_any y X)
          have HNO : Hid (nrP (x, y) = false → L.all nrP = false) := hide (fun h0 => by
            rw [List.all_eq_false]
            exact ⟨(x, y), List.mem_of_getElem? hx, by rw [h0]; simp⟩)
          have HIF := hide (nr_iff x y)
          generalize abW x = ax at *
          generalize abW y = ay at *
          clear hall hs hx
          by_cases g1 : 200 < ax
          · have t1 := decide_eq_true g1
            have HR : Hid (L.all nrP = false) := hide (unhide HNO (Bool.eq_false_iff.2 (fun e => ((unhide HIF).1 e).1 g1)))
            go_wp2_with fail
            refine (unhide HAX _).mono ?_
            rintro e w' ⟨rfl, hq⟩
            rw [hq]
            clear hq
            go_wp2_with fail
            go_ret
            exact ⟨ret_bool (unhide HR).symm, unhide HS⟩
          · have t1 := decide_eq_false g1
            by_cases g2 : 200 < ay
            · have t2 := decide_eq_true g2
              have HR : Hid (L.all nrP = false) := hide (unhide HNO (Bool.eq_false_iff.2 (fun e => ((unhide HIF).1 e).2.1 g2)))
              go_wp2_with fail
              refine (unhide HAX _).mono ?_
              rintro e w' ⟨rfl, hq⟩
              rw [hq]
              clear hq
              go_wp2_with fail
              refine (unhide HAY _).mono ?_
              rintro e w' ⟨rfl, hq⟩
              rw [hq]
              clear hq
              go_wp2_with fail
              go_ret
              exact ⟨ret_bool (unhide HR).symm, unhide HS⟩
            · have t2 := decide_eq_false g2
              by_cases g3 : x < -200
              · have t3 := decide_eq_true g3
                have HR : Hid (L.all nrP = false) := hide (unhide HNO (Bool.eq_false_iff.2 (fun e => ((unhide HIF).1 e).2.2.1 g3)))
                go_wp2_with fail
                refine (unhide HAX _).mono ?_
                rintro e w' ⟨rfl, hq⟩
                rw [hq]
                clear hq
                go_wp2_with fail
                refine (unhide HAY _).mono ?_
                rintro e w' ⟨rfl, hq⟩
                rw [hq]
                clear hq
                go_wp2_with fail
                go_ret
                exact ⟨ret_bool (unhide HR).symm, unhide HS⟩
              · have t3 := decide_eq_false g3
                by_cases g4 : y < -200
                · have t4 := decide_eq_true g4
                  have HR : Hid (L.all nrP = false) := hide (unhide HNO (Bool.eq_false_iff.2 (fun e => ((unhide HIF).1 e).2.2.2 g4)))
                  go_wp2_with fail
                  refine (unhide HAX _).mono ?_
                  rintro e w' ⟨rfl, hq⟩
                  rw [hq]
                  clear hq
                  go_wp2_with fail
                  refine (unhide HAY _).mono ?_
                  rintro e w' ⟨rfl, hq⟩
                  rw [hq]
                  clear hq
                  go_wp2_with fail
                  go_ret
                  exact ⟨ret_bool (unhide HR).symm, unhide HS⟩
                · have t4 := decide_eq_false g4
                  have HOK : Hid (nrP (x, y) = true) := hide ((unhide HIF).2 ⟨g1, g2, g3, g4⟩)
                  go_wp2_with fail
                  refine (unhide HAX _).mono ?_
                  rintro e w' ⟨rfl, hq⟩
                  rw [hq]
                  clear hq
                  go_wp2_with fail
                  refine (unhide HAY _).mono ?_
                  rintro e w' ⟨rfl, hq⟩
                  rw [hq]
                  clear hq
                  go_wp2_with fail
                  go_roundw
                  case rel =>
                    refine ⟨i + 1, by simp, h, fun j p hj hp => ?_, unhide HS⟩
                    by_cases e : j = i
                    · subst e
                      rw [unhide HX] at hp
                      cases hp
                      exact unhide HOK
                    · exact unhide HA j p (by omega) hp
                  case measure => simp only [intOf]; omega
        · have iz : decide ((i : Int) < (n : Int)) = false := decide_eq_false (by omega)
          have HR : Hid (L.all nrP = true) := hide (by
            rw [List.all_eq_true]
            intro p hp
            obtain ⟨j, hj, rfl⟩ := List.getElem_of_mem hp
            exact hall j _ (by rw [unhide HL] at hj; omega) (List.getElem?_eq_getElem hj))
          clear hall hs
          go_wp2_with fail
          go_ret
          exact ⟨ret_bool (unhide HR).symm, unhide HS⟩
end Go.Proofs.Ytdcecfgmfmpeeaa

namespace Go.Proofs.Ytdcecfgmfmpeeaa
open Go.ChangeShapes Go.WideShapes Go.ChangeAt Go.RowKit
set_option linter.unusedVariables false
set_option linter.unusedSimpArgs false

/-- the first k of a row, each run once: how it grows -/
theorem compU_snoc (L : List Pt) (a b : Pt) : compU (L ++ [a, b]) = if a = b then compU (L ++ [a]) else compU (L ++ [a]) ++ [b] := by
  induction L with
  | nil =>
    by_cases h : a = b
    · subst h
      simp [compU]
    · simp [compU, h]
  | cons x L ih =>
    cases L with
    | nil =>
      show compU (x :: a :: [b]) = _
      rw [compU]
      show _ = if a = b then compU (x :: [a]) else compU (x :: [a]) ++ [b]
      by_cases h : a = b
      · subst h
        by_cases h2 : x = a
        · subst h2
          simp [compU]
        · simp [compU, h2]
      · by_cases h2 : x = a
        · subst h2
          simp [compU, h]
        · simp [compU, h, h2]
    | cons y L =>
      show compU (x :: y :: (L ++ [a, b])) = _
      rw [compU]
      have ih' : compU (y :: (L ++ [a, b])) = if a = b then compU (y :: (L ++ [a])) else compU (y :: (L ++ [a])) ++ [b] := ih
      show _ = if a = b then compU (x :: y :: (L ++ [a])) else compU (x :: y :: (L ++ [a])) ++ [b]
      rw [show compU (x :: y :: (L ++ [a])) = if x = y then compU (y :: (L ++ [a])) else x :: compU (y :: (L ++ [a])) from by rw [compU]]
      rw [ih']
      by_cases h : a = b
      · rw [if_pos h, if_pos h]
      · rw [if_neg h, if_neg h]
        by_cases h2 : x = y
        · rw [if_pos h2, if_pos h2]
        · rw [if_neg h2, if_neg h2]
          rfl
theorem compU_step {D : List Pt} {k : Nat} {a b : Pt} (ha : D[k]? = some a) (hb : D[k + 1]? = some b) : compU (D.take (k + 2)) = if a = b then compU (D.take (k + 1)) else compU (D.take (k + 1)) ++ [b] := by
  have e1 : D.take (k + 1) = D.take k ++ [a] := by rw [List.take_add_one, ha]; rfl
  have e2 : D.take (k + 2) = D.take k ++ [a, b] := by rw [show k + 2 = k + 1 + 1 by rfl, List.take_add_one, hb, e1]; simp
  rw [e1, e2]
  exact compU_snoc _ a b
theorem compU_none {D : List Pt} : ∀ k, k ≤ D.length → (∀ j a b, j + 1 < k → D[j]? = some a → D[j + 1]? = some b → a ≠ b) → compU (D.take k) = D.take k := by
  intro k
  induction k with
  | zero => intro _ _; rfl
  | succ k ih =>
    intro hk h
    cases k with
    | zero =>
      cases D with
      | nil => simp at hk
      | cons x D => rfl
    | succ k =>
      have ha := List.getElem?_eq_getElem (show k < D.length by omega)
      have hb := List.getElem?_eq_getElem (show k + 1 < D.length by omega)
      rw [compU_step ha hb, if_neg (h k _ _ (by omega) ha hb), ih (by omega) (fun j a b hj => h j a b (by omega))]
      rw [show k + 1 + 1 = (k + 1) + 1 by rfl, List.take_add_one (l := D) (i := k + 1), hb]
      rfl
theorem compU_len (L : List Pt) : (compU L).length ≤ L.length := by
  induction L with
  | nil => simp [compU]
  | cons a L ih =>
    cases L with
    | nil => simp [compU]
    | cons b L =>
      unfold compU
      split
      · simp at ih ⊢; omega
      · simp at ih ⊢; omega
end Go.Proofs.Ytdcecfgmfmpeeaa

namespace Go.Proofs.Ytdcecfgmfmpeeaa
open Go.ChangeShapes Go.WideShapes Go.ChangeAt Go.RowKit
set_option linter.unusedVariables false
set_option linter.unusedSimpArgs false

theorem Row.set {w : World} {B t k g n cap : Nat} {L : List Int} (h : Row w B t k (.slice (some ⟨g, 0, none⟩) n cap) n L) (j : Nat) (hj : j < n * k) (x : Int) :
    Row (w.setCell ⟨g, j, none⟩ (.int .i64 x)) B t k (.slice (some ⟨g, 0, none⟩) n cap) n (L.set j x) := by
  refine ⟨by have := h.1; simpa using this, ?_⟩
  rcases h.2 with ⟨h1, h2⟩ | ⟨g', cap', cur, hv, hB, hh, hn, hm, hs, ht⟩
  · cases h1
  · cases hv
    refine .inr ⟨g, cap, cur.setIfInBounds j (.int .i64 x), rfl, hB, ?_, hn, hm, by simp [hs], ?_⟩
    · show (w.heap.modify g _)[g]? = _
      rw [Array.getElem?_modify, if_pos rfl, hh]
      simp
    · rw [Array.toList_setIfInBounds, List.take_set, ht, List.map_set]
theorem Row.sets {B t k g n cap : Nat} : ∀ (xs : List Int) (o : Nat) (w : World) (L : List Int), Row w B t k (.slice (some ⟨g, 0, none⟩) n cap) n L → o + xs.length ≤ n * k → ∃ L', Row (w.setCells g o (xs.map (Value.int .i64))) B t k (.slice (some ⟨g, 0, none⟩) n cap) n L' ∧ L'.take o = L.take o := by
  intro xs
  induction xs with
  | nil => intro o w L h _; exact ⟨L, h, rfl⟩
  | cons x xs ih =>
    intro o w L h ho
    simp only [List.length_cons] at ho
    obtain ⟨L', h1, h2⟩ := ih (o + 1) (w.setCell ⟨g, o, none⟩ (.int .i64 x)) (L.set o x) (h.set o (by omega) x) (by omega)
    refine ⟨L', h1, ?_⟩
    have e := congrArg (List.take o) h2
    rw [List.take_take, List.take_take, Nat.min_eq_left (by omega), List.take_set] at e
    rw [e]
    apply List.set_eq_of_length_le
    rw [List.length_take]
    omega
theorem Below.sets {B g : Nat} (hg : B ≤ g) : ∀ (vs : List Value) (o : Nat) (w0 w : World), Below B w0 w → Below B w0 (w.setCells g o vs) := by
  intro vs
  induction vs with
  | nil => intro o w0 w h; exact h
  | cons v vs ih => intro o w0 w h; exact ih (o + 1) w0 _ (Below.setCell h hg v)
theorem zero_pts (n : Nat) : (Builtin.zeroCells (Value.agg #[.int .i64 0, .int .i64 0]).cells n).toList = (List.replicate (n * 2) (0 : Int)).map (Value.int .i64) := by
  apply List.ext_getElem
  · simp [Builtin.zeroCells, Value.cells]
  · intro i h1 h2
    have : i % 2 = 0 ∨ i % 2 = 1 := by omega
    rcases this with e | e <;> simp [Builtin.zeroCells, Value.cells, e]
theorem zero26 : ∀ w, (zeroValue 30).run Try.prog w = .ok (.agg #[.int .i64 0, .int .i64 0]) w := Try.zeroValue30
theorem run_clear_pts (w : World) (ty : TypeId) (b o n c : Nat) (hn : 0 < n) (hc : ∀ j, j < n * 2 → (w.cell? ⟨b, o + j, none⟩).isSome = true) (hf : ∀ j, j < n * 2 → w.frozen? ⟨b, o + j, none⟩ = false) :
    (Builtin.clear_ #[23] ty #[.slice (some ⟨b, o, none⟩) n c]).run Try.prog w = .ok (.tuple #[]) (w.setCells b o ((List.replicate (n * 2) (0 : Int)).map (Value.int .i64))) := by
  have hst := run_storeCells_cells (P := Try.prog) b o ((List.replicate (n * 2) (0 : Int)).map (Value.int .i64)) 0 w (by simpa using hc) (by simpa using hf) (by intro v hv'; obtain ⟨x, _, rfl⟩ := List.mem_map.1 hv'; rfl)
  simp only [Nat.add_zero] at hst
  have hzc := zero_pts n
  obtain ⟨m, rfl⟩ : ∃ m, n = m + 1 := ⟨n - 1, by omega⟩
  simp only [Value.cells] at hzc
  rw [List.map_replicate] at hst hzc ⊢
  simp [Builtin.clear_, run_underlying Try.underlying23, zero26, Value.cells, hzc, hst]
theorem pts_cells {w : World} {g : Nat} {E : List Pt} (h : IntsAt w g 0 (flat2 E)) {m : Nat} {x y : Int} (hm : E[m]? = some (x, y)) : w.cell? ⟨g, m * 2, none⟩ = some (.int .i64 x) ∧ w.cell? ⟨g, m * 2 + 1, none⟩ = some (.int .i64 y) := by
  have h0 := h _ _ (flat2_at hm).1
  have h1 := h _ _ (flat2_at hm).2
  rw [Nat.zero_add] at h0 h1
  exact ⟨h0, h1⟩
theorem flat2_set (E : List Pt) (m : Nat) (x y : Int) (hm : m < E.length) : ((flat2 E).set (m * 2) x).set (m * 2 + 1) y = flat2 (E.set m (x, y)) := by
  induction E generalizing m with
  | nil => simp at hm
  | cons a E ih =>
    cases m with
    | zero => rfl
    | succ m =>
      have := ih m (by simpa using hm)
      rw [show (m + 1) * 2 = m * 2 + 1 + 1 by omega]
      show a.1 :: a.2 :: (((flat2 E).set (m * 2) x).set (m * 2 + 1) y) = _
      rw [this]
      rfl
theorem Row.blk2 {w : World} {B t k g n cap : Nat} {L : List Int} (h : Row w B t k (.slice (some ⟨g, 0, none⟩) n cap) n L) : ∃ cur, w.heap[g]? = some (.cells cur t) ∧ n * k ≤ cur.size := by
  rcases h.2 with ⟨h1, h2⟩ | ⟨g', cap', cur, hv, hB, hh, hn, hm, hs, ht⟩
  · cases h1
  · cases hv
    exact ⟨cur, hh, by rw [hs]; exact Nat.mul_le_mul_right k hn⟩

set_option maxHeartbeats 4000000 in
set_option maxRecDepth 100000 in
theorem compact_any (B g cap : Nat) (D : List Pt) (w : World) (hB : B ≤ w.heap.size) (hgB : B ≤ g) (hn : D.length ≤ 4096) (hrow : Row w B 30 2 (.slice (some ⟨g, 0, none⟩) D.length cap) D.length (flat2 D)) :
    Calls Try.prog 37 #[.slice (some ⟨g, 0, none⟩) D.length cap] w fun e w' => e = .returned (.slice (some ⟨g, 0, none⟩) (compU D).length cap) ∧ Row w' B 30 2 (.slice (some ⟨g, 0, none⟩) (compU D).length cap) (compU D).length (flat2 (compU D)) ∧ Below B w w' := by
  have HR := hide hrow
  obtain ⟨_, _, hvg, _, hg2, hc1, hc2⟩ := hrow.sm (by simp)
  cases hvg
  clear hrow
  by_cases hn2 : D.length < 2
  · have d2 : decide ((D.length : Int) < 2) = true := decide_eq_true (by omega)
    have e : compU D = D := by
      cases D with
      | nil => rfl
      | cons a D =>
        cases D with
        | nil => rfl
        | cons b D => simp at hn2; omega
    rw [e]
    go_enter Try.func37, Try.ntmps37
    go_wp2_with fail
    go_ret
    exact ⟨rfl, unhide HR, Below.refl _ _⟩
  · have d2 : decide ((D.length : Int) < 2) = false := decide_eq_false (by omega)
    go_enter Try.func37, Try.ntmps37
    go_wp2_with fail
    go_loopw [3] (fun s W => ∃ k : Nat, s = .int .i64 (k : Int) ∧ 1 ≤ k ∧ k ≤ D.length ∧ (∀ j a b, j + 1 < k → D[j]? = some a → D[j + 1]? = some b → a ≠ b) ∧ Row W B 30 2 (.slice (some ⟨g, 0, none⟩) D.length cap) D.length (flat2 D) ∧ Below w.heap.size w W) (fun s _ => D.length - (intOf s).toNat)
    case atStart => exact ⟨1, rfl, by omega, by omega, (fun j a b hj => by omega), unhide HR, Below.refl _ _⟩
    case round =>
      obtain ⟨k, rfl, hk1, hk2, hno, hrow, hw⟩ := hrel
      have HNO := hide hno
      have HRW := hide hrow
      have HW := hide hw
      have HI := hide hrow.ints
      have hszw := hw.size
      clear hno hrow hw
      by_cases h : k < D.length
      · have kz : decide ((k : Int) < (D.length : Int)) = true := decide_eq_true (by omega)
        have i1 : (k : Int) < (D.length : Int) := by omega
        have i0 : (0 : Int) ≤ (k : Int) := by omega
        obtain ⟨K, hK⟩ : ∃ K : Nat, k = K + 1 := ⟨k - 1, by omega⟩
        obtain ⟨a1, a2, ha⟩ : ∃ a1 a2 : Int, D[K]? = some (a1, a2) := ⟨_, _, List.getElem?_eq_getElem (show K < D.length by omega)⟩
        obtain ⟨b1, b2, hb⟩ : ∃ b1 b2 : Int, D[k]? = some (b1, b2) := ⟨_, _, List.getElem?_eq_getElem h⟩
        obtain ⟨qa0, qa1⟩ := pts_cells (unhide HI) ha
        obtain ⟨qb0, qb1⟩ := pts_cells (unhide HI) hb
        have wk : IntKind.i64.wrap ((k : Int) - 1) = (K : Int) := by rw [show (k : Int) - 1 = (K : Int) by omega]; exact wrap_i (by omega) (by omega)
        have wp : IntKind.i64.wrap ((k : Int) + 1) = (k : Int) + 1 := wrap_i (by omega) (by omega)
        have j1 : (K : Int) < (D.length : Int) := by omega
        have j0 : (0 : Int) ≤ (K : Int) := by omega
        have HA := hide ha
        have HB := hide hb
        have EK := hide hK
        have lg := cell_lt qa0
        clear ha hb hK
        have NEXT : (b1, b2) ≠ (a1, a2) → ∀ j a b, j + 1 < k + 1 → D[j]? = some a → D[j + 1]? = some b → a ≠ b := by
          intro hne j a b hj h1 h2
          by_cases hjk : j + 1 < k
          · exact unhide HNO j a b hjk h1 h2
          · have ej : j = K := by have := unhide EK; omega
            subst ej
            rw [unhide HA] at h1
            have e2 := unhide HB
            rw [unhide EK] at e2
            rw [e2] at h2
            intro e
            exact hne (by rw [Option.some.inj h2, ← e, ← Option.some.inj h1])
        have HNEXT := hide NEXT
        clear NEXT
        by_cases e1 : b1 = a1
        · by_cases e2 : b2 = a2
          · subst e1 e2
            go_wp2_with fail
            go_quiet (fail)
            go_wp2_with fail
            have HDN0 : Hid (Below wr.heap.size wr (wr.drewN nq)) := hide ⟨rfl, rfl, rfl, Nat.le_refl _, fun _ _ => rfl⟩
            have HRV := hide ((unhide HRW).below (unhide HDN0))
            have HBV : Hid (Below B w (wr.drewN nq)) := hide ((bc (unhide HW) (unhide HDN0)).mono hB)
            have HC0 : Hid (compU (D.take (k + 1)) = D.take k) := hide (by
              have hb' := unhide HB
              have e := unhide EK
              rw [e] at hb'
              have h1 := compU_step (unhide HA) hb'
              rw [if_pos rfl] at h1
              rw [e, show K + 1 + 1 = K + 2 by rfl, h1, ← e]
              exact compU_none k (by omega) (unhide HNO))
            clear qa0 qa1 qb0 qb1 lg wk HI HRW HW
            obtain ⟨N2, hN2⟩ : ∃ N2 : Nat, N2 = D.length - k := ⟨_, rfl⟩
            obtain ⟨C2, hC2⟩ : ∃ C2 : Nat, C2 = cap - k := ⟨_, rfl⟩
            rw [← hN2, ← hC2]
            have hck : ¬ cap = k := by omega
            have EN2 := hide hN2
            have EC2 := hide hC2
            clear hN2 hC2
            generalize wr.drewN nq = V at *
            go_loopw [3, 5] (fun s t W => ∃ (kk j : Nat) (E : List Pt), s = .int .i64 (kk : Int) ∧ t = .int .i64 (j : Int) ∧ 1 ≤ j ∧ k + j ≤ D.length ∧ E.length = D.length ∧ kk + 1 ≤ k + j ∧ E.take kk = compU (D.take (k + j)) ∧ (∀ m, k + j ≤ m + 1 → E[m]? = D[m]?) ∧ Row W B 30 2 (.slice (some ⟨g, 0, none⟩) D.length cap) D.length (flat2 E) ∧ Below B w W) (fun _ t _ => D.length - (intOf t).toNat)
            case atStart => exact ⟨k, 1, D, rfl, rfl, Nat.le_refl _, by omega, rfl, Nat.le_refl _, (unhide HC0).symm, (fun m _ => rfl), unhide HRV, unhide HBV⟩
            case round =>
              obtain ⟨kk, j, E, rfl, rfl, hj1, hjn, hEl, hkk, hEt, hEq, hrow3, hb3⟩ := hrel
              have HEq := hide hEq
              have HR3 := hide hrow3
              have HB3 := hide hb3
              have HI3 := hide hrow3.ints
              have hsz3 := hb3.size
              have hN2 := unhide EN2
              clear hEq hrow3 hb3
              have k0 : (0 : Int) ≤ (kk : Int) := by omega
              have kn : (kk : Int) < (D.length : Int) := by omega
              have wkk : IntKind.i64.wrap ((kk : Int) + 1) = (kk : Int) + 1 := wrap_i (by omega) (by omega)
              have wj : IntKind.i64.wrap ((j : Int) + 1) = (j : Int) + 1 := wrap_i (by omega) (by omega)
              by_cases hjN : j < N2
              · have jz : decide ((j : Int) < (N2 : Int)) = true := decide_eq_true (by omega)
                have jl : (j : Int) < (N2 : Int) := by omega
                have jg : (0 : Int) ≤ (j : Int) := by omega
                obtain ⟨J, hJ⟩ : ∃ J : Nat, j = J + 1 := ⟨j - 1, by omega⟩
                have wJ : IntKind.i64.wrap ((j : Int) - 1) = (J : Int) := by rw [show (j : Int) - 1 = (J : Int) by omega]; exact wrap_i (by omega) (by omega)
                have Jl : (J : Int) < (N2 : Int) := by omega
                have Jg : (0 : Int) ≤ (J : Int) := by omega
                obtain ⟨a1', a2', ha⟩ : ∃ a1' a2' : Int, D[k + J]? = some (a1', a2') := ⟨_, _, List.getElem?_eq_getElem (show k + J < D.length by omega)⟩
                obtain ⟨b1', b2', hb⟩ : ∃ b1' b2' : Int, D[k + J + 1]? = some (b1', b2') := ⟨_, _, List.getElem?_eq_getElem (show k + J + 1 < D.length by omega)⟩
                obtain ⟨c1', c2', hc⟩ : ∃ c1' c2' : Int, E[kk]? = some (c1', c2') := ⟨_, _, List.getElem?_eq_getElem (show kk < E.length by omega)⟩
                obtain ⟨qa0, qa1⟩ := pts_cells (unhide HI3) ((unhide HEq (k + J) (by omega)).trans ha)
                obtain ⟨qb0, qb1⟩ := pts_cells (unhide HI3) ((unhide HEq (k + J + 1) (by omega)).trans hb)
                obtain ⟨qk0, qk1⟩ := pts_cells (unhide HI3) hc
                rw [show (k + J) * 2 = k * 2 + J * 2 by omega] at qa0 qa1
                rw [show (k + J + 1) * 2 = k * 2 + j * 2 by omega] at qb0 qb1
                have HST : Hid (compU (D.take (k + j + 1)) = if (a1', a2') = (b1', b2') then compU (D.take (k + j)) else compU (D.take (k + j)) ++ [(b1', b2')]) := hide (by have := compU_step ha hb; rw [show k + j + 1 = k + J + 2 by omega, show k + j = k + J + 1 by omega]; exact this)
                have EJ := hide hJ
                have lq := cell_lt qa0
                clear ha hb hc hJ HI3 hN2
                by_cases e1 : b1' = a1'
                · by_cases e2 : b2' = a2'
                  · subst e1 e2
                    go_wp2_with fail
                    go_quiet (fail)
                    go_wp2_with fail
                    go_roundw
                    case rel =>
                      have HDN : Below wr.heap.size wr (wr.drewN nq) := ⟨rfl, rfl, rfl, Nat.le_refl _, fun _ _ => rfl⟩
                      have H : ∃ (kk' j' : Nat) (E' : List Pt), Value.int .i64 ((kk : Int)) = .int .i64 (kk' : Int) ∧ Value.int .i64 ((j : Int) + 1) = .int .i64 (j' : Int) ∧ 1 ≤ j' ∧ k + j' ≤ D.length ∧ E'.length = D.length ∧ kk' + 1 ≤ k + j' ∧ E'.take kk' = compU (D.take (k + j')) ∧ (∀ m, k + j' ≤ m + 1 → E'[m]? = D[m]?) ∧ Row (wr.drewN nq) B 30 2 (.slice (some ⟨g, 0, none⟩) D.length cap) D.length (flat2 E') ∧ Below B w (wr.drewN nq) :=
                        ⟨kk, j + 1, E, rfl, by simp, by omega, by have := unhide EN2; omega, hEl, by omega, by rw [hEt, show k + (j + 1) = k + j + 1 by omega]; have := unhide HST; simp at this; exact this.symm, fun m hm => unhide HEq m (by omega), (unhide HR3).below HDN, (unhide HB3).trans (HDN.mono (by omega))⟩
                      first | exact H | ((repeat apply Exists.intro); refine ⟨?_, rfl⟩; exact H)
                    case measure => simp only [intOf]; omega
                  · subst e1
                    have f1 : (b1' != b1') = false := by simp
                    have f2 : (b2' != a2') = true := by simp [e2]
                    have HNE : ¬ (b1', a2') = (b1', b2') := fun e => e2 (congrArg Prod.snd e).symm
                    go_wp2_with fail
                    go_quiet (fail)
                    have HDN : Hid (Below wr.heap.size wr (wr.drewN nq)) := hide ⟨rfl, rfl, rfl, Nat.le_refl _, fun _ _ => rfl⟩
                    have HRD := hide ((unhide HR3).below (unhide HDN))
                    have s0 := keep1 (unhide HDN) qb0
                    have s1 := keep1 (unhide HDN) qb1
                    have t0 := keep1 (unhide HDN) qk0
                    have t1 := keep1 (unhide HDN) qk1
                    have ls := cell_lt s0
                    obtain ⟨cur, hblk, _⟩ := (unhide HR3).blk2
                    have fz0 : (wr.drewN nq).frozen? ⟨g, kk * 2, none⟩ = false := by simp [World.frozen?, hblk]
                    have fz1 : (wr.drewN nq).frozen? ⟨g, kk * 2 + 1, none⟩ = false := by simp [World.frozen?, hblk]
                    have HBD : Hid (Below B w (wr.drewN nq)) := hide ((unhide HB3).trans ((unhide HDN).mono (by omega)))
                    clear hblk qa0 qa1 qb0 qb1 qk0 qk1
                    generalize wr.drewN nq = V2 at *
                    have HRN : Hid (Row ((V2.setCell ⟨g, kk * 2, none⟩ (.int .i64 b1')).setCell ⟨g, kk * 2 + 1, none⟩ (.int .i64 b2')) B 30 2 (.slice (some ⟨g, 0, none⟩) D.length cap) D.length (flat2 (E.set kk (b1', b2')))) := hide (by rw [← flat2_set E kk b1' b2' (by omega)]; exact ((unhide HRD).set (kk * 2) (by omega) _).set (kk * 2 + 1) (by omega) _)
                    have HBN : Hid (Below B w ((V2.setCell ⟨g, kk * 2, none⟩ (.int .i64 b1')).setCell ⟨g, kk * 2 + 1, none⟩ (.int .i64 b2'))) := hide (Below.setCell (Below.setCell (unhide HBD) hgB _) hgB _)
                    go_wp2_with fail
                    go_roundw
                    case rel =>
                      have H : ∃ (kk' j' : Nat) (E' : List Pt), Value.int .i64 ((kk : Int) + 1) = .int .i64 (kk' : Int) ∧ Value.int .i64 ((j : Int) + 1) = .int .i64 (j' : Int) ∧ 1 ≤ j' ∧ k + j' ≤ D.length ∧ E'.length = D.length ∧ kk' + 1 ≤ k + j' ∧ E'.take kk' = compU (D.take (k + j')) ∧ (∀ m, k + j' ≤ m + 1 → E'[m]? = D[m]?) ∧ Row ((V2.setCell ⟨g, kk * 2, none⟩ (.int .i64 b1')).setCell ⟨g, kk * 2 + 1, none⟩ (.int .i64 b2')) B 30 2 (.slice (some ⟨g, 0, none⟩) D.length cap) D.length (flat2 E') ∧ Below B w ((V2.setCell ⟨g, kk * 2, none⟩ (.int .i64 b1')).setCell ⟨g, kk * 2 + 1, none⟩ (.int .i64 b2')) := by
                        refine ⟨kk + 1, j + 1, E.set kk (b1', b2'), by simp, by simp, by omega, by have := unhide EN2; omega, by rw [List.length_set]; exact hEl, by omega, ?_, fun m hm => ?_, unhide HRN, unhide HBN⟩
                        · have hst := unhide HST
                          rw [if_neg HNE] at hst
                          rw [show k + (j + 1) = k + j + 1 by omega, hst, ← hEt, List.take_add_one, List.getElem?_set_self (by omega), List.take_set]
                          rw [List.set_eq_of_length_le (by rw [List.length_take]; omega)]
                          rfl
                        · rw [List.getElem?_set_ne (by omega)]
                          exact unhide HEq m (by omega)
                      first | exact H | ((repeat apply Exists.intro); refine ⟨?_, rfl⟩; exact H)
                    case measure => simp only [intOf]; omega
                · have f1 : (b1' != a1') = true := by simp [e1]
                  have HNE : ¬ (a1', a2') = (b1', b2') := fun e => e1 (congrArg Prod.fst e).symm
                  go_wp2_with fail
                  go_quiet (fail)
                  have HDN : Hid (Below wr.heap.size wr (wr.drewN nq)) := hide ⟨rfl, rfl, rfl, Nat.le_refl _, fun _ _ => rfl⟩
                  have HRD := hide ((unhide HR3).below (unhide HDN))
                  have s0 := keep1 (unhide HDN) qb0
                  have s1 := keep1 (unhide HDN) qb1
                  have t0 := keep1 (unhide HDN) qk0
                  have t1 := keep1 (unhide HDN) qk1
                  have ls := cell_lt s0
                  obtain ⟨cur, hblk, _⟩ := (unhide HR3).blk2
                  have fz0 : (wr.drewN nq).frozen? ⟨g, kk * 2, none⟩ = false := by simp [World.frozen?, hblk]
                  have fz1 : (wr.drewN nq).frozen? ⟨g, kk * 2 + 1, none⟩ = false := by simp [World.frozen?, hblk]
                  have HBD : Hid (Below B w (wr.drewN nq)) := hide ((unhide HB3).trans ((unhide HDN).mono (by omega)))
                  clear hblk qa0 qa1 qb0 qb1 qk0 qk1
                  generalize wr.drewN nq = V2 at *
                  have HRN : Hid (Row ((V2.setCell ⟨g, kk * 2, none⟩ (.int .i64 b1')).setCell ⟨g, kk * 2 + 1, none⟩ (.int .i64 b2')) B 30 2 (.slice (some ⟨g, 0, none⟩) D.length cap) D.length (flat2 (E.set kk (b1', b2')))) := hide (by rw [← flat2_set E kk b1' b2' (by omega)]; exact ((unhide HRD).set (kk * 2) (by omega) _).set (kk * 2 + 1) (by omega) _)
                  have HBN : Hid (Below B w ((V2.setCell ⟨g, kk * 2, none⟩ (.int .i64 b1')).setCell ⟨g, kk * 2 + 1, none⟩ (.int .i64 b2'))) := hide (Below.setCell (Below.setCell (unhide HBD) hgB _) hgB _)
                  go_wp2_with fail
                  go_roundw
                  case rel =>
                    have H : ∃ (kk' j' : Nat) (E' : List Pt), Value.int .i64 ((kk : Int) + 1) = .int .i64 (kk' : Int) ∧ Value.int .i64 ((j : Int) + 1) = .int .i64 (j' : Int) ∧ 1 ≤ j' ∧ k + j' ≤ D.length ∧ E'.length = D.length ∧ kk' + 1 ≤ k + j' ∧ E'.take kk' = compU (D.take (k + j')) ∧ (∀ m, k + j' ≤ m + 1 → E'[m]? = D[m]?) ∧ Row ((V2.setCell ⟨g, kk * 2, none⟩ (.int .i64 b1')).setCell ⟨g, kk * 2 + 1, none⟩ (.int .i64 b2')) B 30 2 (.slice (some ⟨g, 0, none⟩) D.length cap) D.length (flat2 E') ∧ Below B w ((V2.setCell ⟨g, kk * 2, none⟩ (.int .i64 b1')).setCell ⟨g, kk * 2 + 1, none⟩ (.int .i64 b2')) := by
                      refine ⟨kk + 1, j + 1, E.set kk (b1', b2'), by simp, by simp, by omega, by have := unhide EN2; omega, by rw [List.length_set]; exact hEl, by omega, ?_, fun m hm => ?_, unhide HRN, unhide HBN⟩
                      · have hst := unhide HST
                        rw [if_neg HNE] at hst
                        rw [show k + (j + 1) = k + j + 1 by omega, hst, ← hEt, List.take_add_one, List.getElem?_set_self (by omega), List.take_set]
                        rw [List.set_eq_of_length_le (by rw [List.length_take]; omega)]
                        rfl
                      · rw [List.getElem?_set_ne (by omega)]
                        exact unhide HEq m (by omega)
                    first | exact H | ((repeat apply Exists.intro); refine ⟨?_, rfl⟩; exact H)
                  case measure => simp only [intOf]; omega
              · have jz : decide ((j : Int) < (N2 : Int)) = false := decide_eq_false (by omega)
                have jl : ¬ (j : Int) < (N2 : Int) := by omega
                have hcD : compU D = E.take kk := by rw [hEt, show k + j = D.length by omega, List.take_length]
                have hcl : ∀ ty, (Builtin.clear_ #[23] ty #[.slice (some ⟨g, kk * 2, none⟩) (D.length - kk) (cap - kk)]).run Try.prog wr = .ok (.tuple #[]) (wr.setCells g (kk * 2) ((List.replicate ((D.length - kk) * 2) (0 : Int)).map (Value.int .i64))) := by
                  obtain ⟨cur, hblk, hcur⟩ := (unhide HR3).blk2
                  refine fun ty => run_clear_pts wr ty g (kk * 2) (D.length - kk) (cap - kk) (by omega) (fun j hj => ?_) (fun j hj => by simp [World.frozen?, hblk])
                  simp [World.cell?, hblk]
                  omega
                obtain ⟨L', hL1, hL2⟩ := (unhide HR3).sets (List.replicate ((D.length - kk) * 2) (0 : Int)) (kk * 2) wr (flat2 E) (by rw [List.length_replicate]; omega)
                have HBC := hide (Below.sets hgB ((List.replicate ((D.length - kk) * 2) (0 : Int)).map (Value.int .i64)) (kk * 2) w wr (unhide HB3))
                have HPO := hide (hL1.pop (m := kk) (by omega))
                rw [hL2, flat2_take, ← hcD, List.map_replicate] at HPO
                rw [List.map_replicate] at HBC
                have hkl : (compU D).length = kk := by rw [hcD, List.length_take]; omega
                have hck2 : ¬ cap = kk := by omega
                have kc : (kk : Int) ≤ (cap : Int) := by omega
                have kn2 : (kk : Int) ≤ (D.length : Int) := by omega
                have nc : (D.length : Int) ≤ (cap : Int) := by omega
                have EKL := hide hkl
                clear hL1 hL2 hcD hkl hN2 hEt hEl
                go_wp2_with fail
                go_ret
                exact ⟨by rw [unhide EKL]; rfl, by rw [unhide EKL]; exact unhide HPO, unhide HBC⟩
          · have f1 : (b1 == a1) = true := by simp [e1]
            have f2 : (b2 == a2) = false := by simp [e2]
            go_wp2_with fail
            go_quiet (fail)
            go_wp2_with fail
            go_roundw
            case rel =>
              have H : ∃ k' : Nat, Value.int .i64 ((k : Int) + 1) = .int .i64 (k' : Int) ∧ 1 ≤ k' ∧ k' ≤ D.length ∧ (∀ j a b, j + 1 < k' → D[j]? = some a → D[j + 1]? = some b → a ≠ b) ∧ Row (wr.drewN nq) B 30 2 (.slice (some ⟨g, 0, none⟩) D.length cap) D.length (flat2 D) ∧ Below w.heap.size w (wr.drewN nq) :=
                ⟨k + 1, by simp, by omega, by omega, unhide HNEXT (fun e => e2 (congrArg Prod.snd e)), (unhide HRW).below ⟨rfl, rfl, rfl, Nat.le_refl _, fun _ _ => rfl⟩, bc (unhide HW) ⟨rfl, rfl, rfl, Nat.le_refl _, fun _ _ => rfl⟩⟩
              first | exact H | ((repeat apply Exists.intro); refine ⟨?_, rfl⟩; exact H)
            case measure => simp only [intOf]; omega
        · have f1 : (b1 == a1) = false := by simp [e1]
          go_wp2_with fail
          go_quiet (fail)
          go_wp2_with fail
          go_roundw
          case rel =>
            have H : ∃ k' : Nat, Value.int .i64 ((k : Int) + 1) = .int .i64 (k' : Int) ∧ 1 ≤ k' ∧ k' ≤ D.length ∧ (∀ j a b, j + 1 < k' → D[j]? = some a → D[j + 1]? = some b → a ≠ b) ∧ Row (wr.drewN nq) B 30 2 (.slice (some ⟨g, 0, none⟩) D.length cap) D.length (flat2 D) ∧ Below w.heap.size w (wr.drewN nq) :=
              ⟨k + 1, by simp, by omega, by omega, unhide HNEXT (fun e => e1 (congrArg Prod.fst e)), (unhide HRW).below ⟨rfl, rfl, rfl, Nat.le_refl _, fun _ _ => rfl⟩, bc (unhide HW) ⟨rfl, rfl, rfl, Nat.le_refl _, fun _ _ => rfl⟩⟩
            first | exact H | ((repeat apply Exists.intro); refine ⟨?_, rfl⟩; exact H)
          case measure => simp only [intOf]; omega
      · have kz : decide ((k : Int) < (D.length : Int)) = false := decide_eq_false (by omega)
        have e : compU D = D := by
          have := compU_none (D := D) D.length (Nat.le_refl _) (fun j a b hj => unhide HNO j a b (by omega))
          rwa [List.take_length] at this
        go_wp2_with fail
        go_ret
        rw [e]
        exact ⟨rfl, unhide HRW, (unhide HW).mono hB⟩
end Go.Proofs.Ytdcecfgmfmpeeaa

namespace Go.Proofs
open Go.Shelf
def Try.l35_ren : Go.Shelf.Ren := ⟨fun | 6 => 35 | 15 => 62 | 14 => 61 | 28 => 85 | 29 => 86 | 20 => 77 | 21 => 78 | 22 => 79 | 23 => 80 | 24 => 81 | 25 => 82 | 26 => 83 | 27 => 84 | 46 => 92 | 47 => 93 | 48 => 94 | 49 => 95 | 50 => 96 | 57 => 99 | n => n, fun | 22 => 23 | 24 => 30 | 25 => 63 | 3 => 3 | 39 => 93 | 0 => 0 | 53 => 113 | 55 => 115 | 4 => 4 | 46 => 106 | 45 => 105 | 50 => 110 | 5 => 5 | 9 => 9 | 66 => 119 | 70 => 123 | 76 => 127 | 77 => 128 | n => n, fun | n => n⟩
theorem Try.l35 : Go.Proofs.SlLaysF0.n6 Try.prog Try.l35_ren := {
  mixed := by kernel_rfl
  f6 := ⟨Try.f35.name, by decide, Try.func35.trans (congrArg some (by kernel_rfl))⟩
  f14 := ⟨Try.f61.name, by decide, Try.func61.trans (congrArg some (by kernel_rfl))⟩
  f15 := Try.func62.trans (congrArg some (by kernel_rfl))
  f20 := ⟨Try.f77.name, by decide, Try.func77.trans (congrArg some (by kernel_rfl))⟩
  f21 := ⟨Try.f78.name, by decide, Try.func78.trans (congrArg some (by kernel_rfl))⟩
  f22 := ⟨Try.f79.name, by decide, Try.func79.trans (congrArg some (by kernel_rfl))⟩
  f23 := ⟨Try.f80.name, by decide, Try.func80.trans (congrArg some (by kernel_rfl))⟩
  f24 := ⟨Try.f81.name, by decide, Try.func81.trans (congrArg some (by kernel_rfl))⟩
  f25 := ⟨Try.f82.name, by decide, Try.func82.trans (congrArg some (by kernel_rfl))⟩
  f26 := ⟨Try.f83.name, by decide, Try.func83.trans (congrArg some (by kernel_rfl))⟩
  f27 := ⟨Try.f84.name, by decide, Try.func84.trans (congrArg some (by kernel_rfl))⟩
  f28 := Try.func85.trans (congrArg some (by kernel_rfl))
  f29 := Try.func86.trans (congrArg some (by kernel_rfl))
  f46 := ⟨Try.f92.name, by decide, Try.func92.trans (congrArg some (by kernel_rfl))⟩
  f47 := Try.func93.trans (congrArg some (by kernel_rfl))
  f48 := Try.func94.trans (congrArg some (by kernel_rfl))
  f49 := ⟨Try.f95.name, by decide, Try.func95.trans (congrArg some (by kernel_rfl))⟩
  f50 := ⟨Try.f96.name, by decide, Try.func96.trans (congrArg some (by kernel_rfl))⟩
  f57 := ⟨Try.f99.name, by decide, Try.func99.trans (congrArg some (by kernel_rfl))⟩
  t0 := Try.underlying0
  a0 := Try.isAgg0
  z0 := Try.sizeOf0
  v0 := Try.zeroValue0
  t3 := Try.underlying3
  a3 := Try.isAgg3
  z3 := Try.sizeOf3
  v3 := Try.zeroValue3
  t4 := Try.underlying4
  a4 := Try.isAgg4
  z4 := Try.sizeOf4
  v4 := Try.zeroValue4
  t5 := Try.underlying5
  a5 := Try.isAgg5
  z5 := Try.sizeOf5
  v5 := Try.zeroValue5
  t9 := Try.underlying9
  a9 := Try.isAgg9
  z9 := Try.sizeOf9
  v9 := Try.zeroValue9
  t22 := Try.underlying23
  a22 := Try.isAgg23
  z22 := Try.sizeOf23
  v22 := Try.zeroValue23
  t25 := Try.underlying63
  a25 := Try.isAgg63
  z25 := Try.sizeOf63
  v25 := Try.zeroValue63
  t39 := Try.underlying93
  a39 := Try.isAgg93
  z39 := Try.sizeOf93
  v39 := Try.zeroValue93
  t45 := Try.underlying105
  a45 := Try.isAgg105
  z45 := Try.sizeOf105
  v45 := Try.zeroValue105
  t46 := Try.underlying106
  a46 := Try.isAgg106
  z46 := Try.sizeOf106
  v46 := Try.zeroValue106
  t50 := Try.underlying110
  a50 := Try.isAgg110
  z50 := Try.sizeOf110
  v50 := Try.zeroValue110
  t53 := Try.underlying113
  a53 := Try.isAgg113
  z53 := Try.sizeOf113
  v53 := Try.zeroValue113
  t55 := Try.underlying115
  a55 := Try.isAgg115
  z55 := Try.sizeOf115
  v55 := Try.zeroValue115
  t66 := Try.underlying119
  a66 := Try.isAgg119
  z66 := Try.sizeOf119
  v66 := Try.zeroValue119
  t70 := Try.underlying123
  a70 := Try.isAgg123
  z70 := Try.sizeOf123
  v70 := Try.zeroValue123
  t76 := Try.underlying127
  a76 := Try.isAgg127
  z76 := Try.sizeOf127
  v76 := Try.zeroValue127
  t77 := Try.underlying128
  a77 := Try.isAgg128
  z77 := Try.sizeOf128
  v77 := Try.zeroValue128 }
end Go.Proofs

namespace Go.Proofs.Ytdcecfgmfmpeeaa
open Go.ChangeShapes Go.WideShapes Go.ChangeAt Go.RowKit
open Go.Sort (flatK HoldsK SWO PermIn SortedIn grow grow_grow alloc_eq_grow putRowK)
set_option linter.unusedVariables false
set_option linter.unusedSimpArgs false

theorem Row.put {w : World} {B t k g n cap : Nat} {L : List Int} (h : Row w B t k (.slice (some ⟨g, 0, none⟩) n cap) n L) (M : List Int) (hM : M.length = n * k) : Row (Sort.putRow id w g 0 (M.map (Value.int .i64)).toArray) B t k (.slice (some ⟨g, 0, none⟩) n cap) n M := by
  rcases h.2 with ⟨h1, _⟩ | ⟨g', cap', cur, hv, hB, hh, hn, hm, hs, ht⟩
  · cases h1
  · cases hv
    have hnk : n * k ≤ cur.size := by rw [hs]; exact Nat.mul_le_mul_right k hn
    refine ⟨by simpa using hM, .inr ⟨g, cap, Sort.putCells id 0 (M.map (Value.int .i64)).toArray cur, rfl, hB, ?_, hn, hm, by simp [Sort.putCells, hs], ?_⟩⟩
    · show (w.heap.modify g _)[g]? = _
      rw [Array.getElem?_modify, if_pos rfl, hh]
      rfl
    · apply List.ext_getElem?
      intro j
      rw [List.getElem?_take]
      by_cases hj : j < n * k
      · rw [if_pos hj, Array.getElem?_toList]
        have hc : cur[j]? = some cur[j] := Array.getElem?_eq_getElem (by omega)
        simp only [Sort.putCells, Array.getElem?_mapIdx, hc, Option.map_some, id]
        rw [if_pos ⟨Nat.zero_le _, by simp [hM]; omega⟩]
        rw [List.getElem?_map, List.getElem?_eq_getElem (by omega)]
        simp [hM, hj]
      · rw [if_neg hj, List.getElem?_eq_none (by simp [hM]; omega)]
theorem flatK_pts (L : List Pt) : flatK encPt 2 L.toArray = ((flat2 L).map (Value.int .i64)).toArray := by
  apply Array.ext
  · simp [flat2_len]
  · intro t h1 h2
    have ht : t < L.length * 2 := by simpa using h1
    have hi : t / 2 < L.length := by omega
    obtain ⟨p, hp⟩ : ∃ p, L[t / 2]? = some p := ⟨_, List.getElem?_eq_getElem hi⟩
    obtain ⟨f0, f1⟩ := flat2_at hp
    have ep : L.toArray[t / 2]! = p := by
      rw [getElem!_pos L.toArray (t / 2) (by simpa using hi)]
      rw [List.getElem?_eq_getElem hi] at hp
      simpa using hp
    simp only [flatK, Array.getElem_map, Array.getElem_range, List.getElem_toArray, List.getElem_map]
    rw [ep]
    rcases Nat.mod_two_eq_zero_or_one t with e | e
    · have et : t / 2 * 2 = t := by omega
      rw [et, List.getElem?_eq_getElem (by rw [flat2_len]; exact ht)] at f0
      rw [Option.some.inj f0, e]
      rfl
    · have et : t / 2 * 2 + 1 = t := by omega
      rw [et, List.getElem?_eq_getElem (by rw [flat2_len]; exact ht)] at f1
      rw [Option.some.inj f1, e]
      rfl
theorem Row.holds {w : World} {B g cap : Nat} {L : List Pt} (h : Row w B 30 2 (.slice (some ⟨g, 0, none⟩) L.length cap) L.length (flat2 L)) : HoldsK encPt 2 w g 0 L.toArray := by
  unfold HoldsK
  rw [flatK_pts]
  intro j hj
  have hj2 : j < (flat2 L).length := by simpa using hj
  obtain ⟨cur, hblk, _⟩ := h.blk2
  refine ⟨?_, by simp [World.frozen?, hblk]⟩
  rw [h.ints j _ (List.getElem?_eq_getElem hj2)]
  have e : ((flat2 L).map (Value.int .i64)).toArray[j]! = .int .i64 (flat2 L)[j] := by
    rw [getElem!_pos (((flat2 L).map (Value.int .i64)).toArray) j hj]
    simp
  rw [e]
  rfl
theorem cmpP_lt (x y : Pt) : ltOf cmpP x y = ltp x y := by
  unfold ltOf
  exact cmpP_neg x y
theorem cmpP_swo : SWO (ltOf cmpP) where
  irrefl x := by rw [cmpP_lt]; exact ltp_irrefl x
  trans x y z h1 h2 := by rw [cmpP_lt] at *; exact ltp_trans x y z h1 h2
  ntrans x y z h1 h2 := by rw [cmpP_lt] at *; exact ltp_ntrans x y z h1 h2
theorem cmp_lays (blk off size : Nat) (w : World) : CmpLays Try.prog 36 #[] encPt 2 cmpP blk off size w := by
  intro m os dk hs x y
  refine (cmp_ints x.1 x.2 y.1 y.2 _).mono ?_
  rintro e w' ⟨rfl, q, rfl⟩
  refine ⟨rfl, q, #[.cells #[.int .i64 x.1, .int .i64 x.2] 30] ++ #[.cells #[.int .i64 y.1, .int .i64 y.2] 30] ++ #[.cells #[.int .i64 (cmpI x.1 y.1), .int .i64 (cmpI x.2 y.2)] 3], ?_⟩
  rw [alloc_eq_grow, alloc_eq_grow, alloc_eq_grow, ← grow_grow, ← grow_grow]
  rfl
theorem enters54 : ∀ args w, (callFunc 36 args).run Try.prog w = .ok (.enter 36 args) w := enters_of Try.func36 (by kernel_rfl) rfl
theorem sortF_any (B g cap : Nat) (D : List Pt) (w : World) (hB : B ≤ w.heap.size) (hgB : B ≤ g) (hn : D.length ≤ 4096) (hrow : Row w B 30 2 (.slice (some ⟨g, 0, none⟩) D.length cap) D.length (flat2 D)) :
    Calls Try.prog 35 #[.slice (some ⟨g, 0, none⟩) D.length cap, .func (.func 36) #[] #[]] w fun e w' => e = .returned (.tuple #[]) ∧ ∃ M : List Pt, M.length = D.length ∧ (∀ q, q ∈ M ↔ q ∈ D) ∧ M.Pairwise (fun a b => ltp b a = false) ∧ Row w' B 30 2 (.slice (some ⟨g, 0, none⟩) D.length cap) D.length (flat2 M) ∧ Below B w w' := by
  obtain ⟨_, _, hvg, _, hg2, hc1, hc2⟩ := hrow.sm (by simp)
  cases hvg
  have hcon := AnyQ.slices_SortFunc Try.l35 2 Try.isAgg30 Try.sizeOf30 encPt (fun _ => rfl) (fun x v hv => by simp [encPt] at hv; rcases hv with rfl | rfl <;> rfl) cmpP cmpP_swo 36 #[] g 0 cap D.toArray w enters54 (cmp_lays g 0 _ w) hrow.holds hg2 (by simp; omega)
  change Calls Try.prog 35 _ _ _ at hcon
  rw [List.size_toArray] at hcon
  refine hcon.mono ?_
  rintro e w' ⟨rfl, d', n, os, hp, hs, rfl⟩
  have hsz : d'.size = D.length := by have := hp.1; simpa using this
  have hperm : d'.toList.Perm D := by
    have := hp.2.2
    rw [← hsz] at this
    simpa [Array.extract_eq_self_of_le, hsz] using this
  refine ⟨rfl, d'.toList, by simpa using hsz, fun q => hperm.mem_iff, ?_, ?_, ?_⟩
  · rw [List.pairwise_iff_getElem]
    intro i j hi hj hij
    have := hs i j (Nat.zero_le _) hij (by simpa [hsz] using hj)
    rw [cmpP_lt] at this
    rw [getElem!_pos _ _ (by simpa using hj), getElem!_pos _ _ (by simpa using hi)] at this
    simpa using this
  · have hf : flatK encPt 2 d' = ((flat2 d'.toList).map (Value.int .i64)).toArray := by have := flatK_pts d'.toList; simpa using this
    have h1 := (hrow.put (flat2 d'.toList) (by rw [flat2_len]; simp [hsz]))
    unfold sortWorldK putRowK
    rw [hf]
    refine (show Row (Sort.putRow id (Sort.ahead w n) g 0 ((flat2 d'.toList).map (Value.int .i64)).toArray) B 30 2 (.slice (some ⟨g, 0, none⟩) D.length cap) D.length (flat2 d'.toList) from h1).kept' (fun b hb => ?_)
    have hbl := (World.ownsRow.lt h1 b hb).2
    show (_ ++ os)[b]? = _
    rw [Array.getElem?_append_left (by exact hbl)]
  · refine ⟨rfl, rfl, rfl, ?_, fun i hi => ?_⟩
    · show w.heap.size ≤ (_ ++ os).size
      simp [putRowK, Sort.putRow, Sort.mapBlock, Sort.ahead]
    · show (((Sort.putRow id (Sort.ahead w n) g 0 (flatK encPt 2 d')).heap) ++ os)[i]? = _
      have hsz2 : (Sort.putRow id (Sort.ahead w n) g 0 (flatK encPt 2 d')).heap.size = w.heap.size := by simp [Sort.putRow, Sort.mapBlock, Sort.ahead]
      rw [Array.getElem?_append_left (by rw [hsz2]; omega)]
      show (w.heap.modify g _)[i]? = _
      rw [Array.getElem?_modify, if_neg (by omega)]
end Go.Proofs.Ytdcecfgmfmpeeaa

namespace Go.Proofs.Ytdcecfgmfmpeeaa
open Go.ChangeShapes Go.WideShapes Go.ChangeAt Go.RowKit
open Go.Sort (flatK HoldsK putRowK)
set_option linter.unusedVariables false
set_option linter.unusedSimpArgs false

theorem cloneP_any (g cap : Nat) (L : List Pt) (w : World) (hn : L.length ≤ 4096) (hI : IntsAt w g 0 (flat2 L)) :
    Calls Try.prog 34 #[.slice (some ⟨g, 0, none⟩) L.length cap] w fun e w' => ∃ g' c', e = .returned (.slice (some ⟨g', 0, none⟩) L.length c') ∧ Row w' w.heap.size 30 2 (.slice (some ⟨g', 0, none⟩) L.length c') L.length (flat2 L) ∧ Below w.heap.size w w' := by
  obtain ⟨i0, hi, hz0, hz1, hz2⟩ := info_parts info26
  have h := AnyE.slices_Clone Try.l34 i0 (.agg #[.int .i64 0, .int .i64 0]) 2 16 hi hz0 hz1 hz2 rfl (by omega) Try.sizeOf30 g 0 L.length cap ((flat2 L).map (Value.int .i64)) w (by simp [flat2_len]) (by unfold maxLen; omega) (by omega)
    (fun j u hj => by
      rw [List.getElem?_map] at hj
      obtain ⟨x, hx, rfl⟩ := Option.map_eq_some_iff.1 hj
      exact hI j x hx) ints_one
  refine Calls.mono h ?_
  rintro e w' ⟨v, rfl, hown, hv, hb⟩
  have hr : Row w' w.heap.size 30 2 v L.length (flat2 L) := hown
  obtain ⟨g', c', rfl, _⟩ := hr.sm hv
  exact ⟨g', c', rfl, hr, hb⟩
theorem revP_any (B g cap : Nat) (D : List Pt) (w : World) (hB : B ≤ w.heap.size) (hgB : B ≤ g) (hn : D.length ≤ 4096) (hrow : Row w B 30 2 (.slice (some ⟨g, 0, none⟩) D.length cap) D.length (flat2 D)) :
    Calls Try.prog 39 #[.slice (some ⟨g, 0, none⟩) D.length cap] w fun e w' => e = .returned (.tuple #[]) ∧ Row w' B 30 2 (.slice (some ⟨g, 0, none⟩) D.length cap) D.length (flat2 D.reverse) ∧ Below B w w' ∧ ∀ i, i ≠ g → w'.heap[i]? = w.heap[i]? := by
  have hcon := AnyQ.slices_Reverse Try.l39 2 Try.isAgg30 Try.sizeOf30 encPt (fun _ => rfl) (fun x v hv => by simp [encPt] at hv; rcases hv with rfl | rfl <;> rfl) g 0 cap D.toArray w hrow.holds (by simp; omega)
  change Calls Try.prog 39 _ _ _ at hcon
  rw [List.size_toArray] at hcon
  refine hcon.mono ?_
  rintro e w' ⟨rfl, n, rfl⟩
  have hf : flatK encPt 2 D.toArray.reverse = ((flat2 D.reverse).map (Value.int .i64)).toArray := by have := flatK_pts D.reverse; simpa using this
  have h1 := hrow.put (flat2 D.reverse) (by rw [flat2_len]; simp)
  have hne : ∀ i, i ≠ g → (putRowK encPt 2 (Sort.ahead w n) g 0 D.toArray.reverse).heap[i]? = w.heap[i]? := fun i hi => by
    show (w.heap.modify g _)[i]? = _
    rw [Array.getElem?_modify, if_neg (fun e => hi e.symm)]
  refine ⟨rfl, ?_, ⟨rfl, rfl, rfl, ?_, fun i hi => hne i (by omega)⟩, hne⟩
  · unfold putRowK
    rw [hf]
    exact h1
  · show w.heap.size ≤ (w.heap.modify g _).size
    simp

/-- what Hull answers: the code, the points -/
def hullC (L : List Pt) : Int := if 4096 < L.length then 2 else if 1 ≤ L.length ∧ L.length ≤ 200 ∧ L.all ptOk = true then 0 else 1
def hullL (L : List Pt) : List Pt := if 4096 < L.length then [] else if 1 ≤ L.length ∧ L.length ≤ 200 ∧ L.all ptOk = true then hullM (srtU L) else []
theorem hullM_le (U : List Pt) : (hullM U).length ≤ 2 * U.length := by
  unfold hullM
  split
  · omega
  · have h1 : (half U).length ≤ U.length := by have := halfR_le U; unfold half; rw [List.length_reverse]; exact this
    have h2 : (half U.reverse).length ≤ U.length := by have := halfR_le U.reverse; unfold half; rw [List.length_reverse]; rw [List.length_reverse] at this; exact this
    rw [List.length_append, List.length_dropLast, List.length_dropLast]
    omega
theorem hullL_le (L : List Pt) : (hullL L).length ≤ 400 := by
  unfold hullL
  split
  · simp
  · split
    · rename_i h
      have h1 := hullM_le (srtU L)
      have h2 := srtU_len L
      omega
    · simp

set_option maxHeartbeats 4000000 in
set_option maxRecDepth 100000 in
theorem hullP_good (b cap : Nat) (L : List Pt) (w : World) (h1 : 1 ≤ L.length) (h2 : L.length ≤ 200) (hok : L.all ptOk = true) (hb : b < w.heap.size) (hI : IntsAt w b 0 (flat2 L)) (HPR : Hid (Calls Try.prog 33 #[.slice (some ⟨b, 0, none⟩) L.length cap] w fun e w' => e = .returned (.bool true) ∧ Below w.heap.size w w')) :
    Calls Try.prog 9 #[.slice (some ⟨b, 0, none⟩) L.length cap] w fun e w' => ∃ v, e = .returned (.tuple #[v, .int .i64 0]) ∧ Row w' w.heap.size 30 2 v (hullM (srtU L)).length (flat2 (hullM (srtU L))) ∧ Below w.heap.size w w' := by
  obtain ⟨iP, hi1, hy0, hy1, hy2⟩ := info_parts info26
  have d0 : decide ((4096 : Int) < (L.length : Int)) = false := decide_eq_false (by omega)
  have d1 : decide ((1 : Int) ≤ (L.length : Int)) = true := decide_eq_true (by omega)
  have d2 : decide ((L.length : Int) ≤ 200) = true := decide_eq_true (by omega)
  have HI := hide hI
  have HOK : Hid (∀ p ∈ L, ptOk p = true) := hide (List.all_eq_true.1 hok)
  have HNE : Hid (L ≠ []) := hide (fun e => by rw [e] at h1; simp at h1)
  clear hI hok
  go_enter Try.func9, Try.ntmps9
  go_wp2_with fail
  refine (btw_any _ _ _ _).mono ?_
  rintro e w' ⟨rfl, hww⟩
  have hww' := hww.symm
  clear hww
  subst hww'
  rw [d1, d2]
  go_wp2_with fail
  refine (unhide HPR).mono ?_
  rintro e W1 ⟨rfl, hb1⟩
  have HB1 := hide hb1
  have HI1 := hide ((unhide HI).below hb1 hb)
  clear hb1 HPR
  go_wp2_with fail
  refine (cloneP_any b cap L W1 (by omega) (unhide HI1)).mono ?_
  rintro e W2 ⟨g, c, rfl, hr2, hb2⟩
  obtain ⟨_, _, hvg, hg1, hg2, hc1, hc2⟩ := hr2.sm (by simp)
  cases hvg
  have HR2 := hide hr2
  have HB2 := hide hb2
  have hs2 := hb2.size
  clear hr2 hb2
  go_wp2_with fail
  refine (sortF_any W1.heap.size g c L W2 hs2 hg1 (by omega) (unhide HR2)).mono ?_
  rintro e W3 ⟨rfl, M, hMl, hMm, hMs, hr3, hb3⟩
  have HCS := hide (comp_srt hMs hMm)
  have hs3 := hb3.size
  have HR3 : Hid (Row W3 W1.heap.size 30 2 (.slice (some ⟨g, 0, none⟩) M.length c) M.length (flat2 M)) := hide (by rw [hMl]; exact hr3)
  have HB3 : Hid (Below W1.heap.size W1 W3) := hide ((unhide HB2).trans hb3)
  have EML := hide hMl
  clear hMm hMs hr3 hb3 HR2
  have HCO := hide (compact_any W1.heap.size g c M W3 (by omega) hg1 (by omega) (unhide HR3))
  rw [unhide EML, unhide HCS] at HCO
  have hUl := srtU_len L
  have HUN := hide (srtU_ne (unhide HNE))
  have HUO : Hid (∀ p ∈ srtU L, ptOk p = true) := hide (fun p hp => unhide HOK p (((srtU_facts L).2 p).1 hp))
  have HEQ := hide (hull_eq (srtU L) (srtU_ne (unhide HNE)))
  clear hMl
  generalize hU : srtU L = U at *
  have EU := hide hU
  clear hU
  go_wp2_with fail
  refine (unhide HCO).mono ?_
  rintro e W4 ⟨rfl, hr4, hb4⟩
  obtain ⟨_, _, hvg, _, hg4, hc4, hc42⟩ := hr4.sm (by simp)
  cases hvg
  have HR4 := hide hr4
  have HB4 : Hid (Below W1.heap.size W1 W4) := hide ((unhide HB3).trans hb4)
  have hs4 := hb4.size
  clear hr4 hb4 HCO HB3
  go_wp2_with fail
  refine (leftTurns_any g c U W4 (by omega) hg4 (unhide HUO) (unhide HR4).ints).mono ?_
  rintro e W5 ⟨v5, rfl, hr5, hb5⟩
  have HR5 := hide hr5
  have HR5g := hide ((unhide HR4).below hb5)
  have HB5 : Hid (Below W1.heap.size W1 W5) := hide (bc (unhide HB4) hb5)
  have hs5 := hb5.size
  clear hr5 hb5
  go_wp2_with fail
  refine (revP_any W1.heap.size g c U W5 (by omega) hg1 (by omega) (unhide HR5g)).mono ?_
  rintro e W6 ⟨rfl, hr6, hb6, hne6⟩
  have HR6 : Hid (Row W6 W1.heap.size 30 2 (.slice (some ⟨g, 0, none⟩) U.reverse.length c) U.reverse.length (flat2 U.reverse)) := hide (by rw [List.length_reverse]; exact hr6)
  have HR5' : Hid (Row W6 W4.heap.size 30 2 v5 (half U).length (flat2 (half U))) := hide ((unhide HR5).kept' (fun x hx => hne6 x (by have := (World.ownsRow.lt (unhide HR5) x hx).1; omega)))
  have HB6 : Hid (Below W1.heap.size W1 W6) := hide ((unhide HB5).trans hb6)
  have hs6 := hb6.size
  have hg6 : g < W6.heap.size := by omega
  clear hr6 hb6 hne6 HR5 HR5g
  have HLT := hide (leftTurns_any g c U.reverse W6 (by rw [List.length_reverse]; omega) hg6 (fun p hp => unhide HUO p (List.mem_reverse.1 hp)) (unhide HR6).ints)
  rw [List.length_reverse] at HLT
  go_wp2_with fail
  refine (unhide HLT).mono ?_
  rintro e W7 ⟨v7, rfl, hr7, hb7⟩
  have HR7 := hide hr7
  have HRV : Hid (Row W7 w.heap.size 30 2 v5 (half U).length (flat2 (half U))) := hide (((unhide HR5').below hb7).mono (by have := (unhide HB1).size; omega))
  have HBW : Hid (Below w.heap.size w W7) := hide (bc (unhide HB1) (bc (unhide HB6) hb7))
  have hp1 := half_pos U (unhide HUN)
  have hp2 := half_pos U.reverse (by rw [Ne, List.reverse_eq_nil_iff]; exact unhide HUN)
  have l1 : (half U).length ≤ U.length := by have := halfR_le U; unfold half; rw [List.length_reverse]; exact this
  have l2 : (half U.reverse).length ≤ U.length := by have := halfR_le U.reverse; unfold half; rw [List.length_reverse]; rw [List.length_reverse] at this; exact this
  obtain ⟨g7, c7, rfl, hg71, hg72, hi7, hc7, hc72⟩ := hr7.full (by omega)
  have HI7 := hide hi7
  obtain ⟨u5, c5, rfl, _⟩ := (unhide HRV).form
  have hs7 := hb7.size
  clear hr7 hb7 hi7 HLT HR6 HR5' HB6 HB5 HB4
  unfold hullP at HEQ
  generalize half U = X at *
  generalize half U.reverse = Y at *
  obtain ⟨M1, hM1⟩ : ∃ M1 : Nat, M1 = max 1 (Y.length - 1) := ⟨_, rfl⟩
  have wy : IntKind.i64.wrap ((Y.length : Int) - 1) = (Y.length : Int) - 1 := wrap_i (by omega) (by omega)
  have hmx : max (1 : Int) ((Y.length : Int) - 1) = (M1 : Int) := by omega
  have m1 : (1 : Int) ≤ (M1 : Int) := by omega
  have m2 : (M1 : Int) ≤ (c7 : Int) := by omega
  have m3 : (0 : Int) ≤ (M1 : Int) := by omega
  have EM1 := hide hM1
  by_cases hc : c7 = 1
  · have hY1 : Y.length = 1 := by omega
    have hm0 : M1 = 1 := by omega
    clear hM1
    subst hm0
    subst hc
    have HY1 := hide hY1
    have hmx2 : max (1 : Int) ((Y.length : Int) - 1) = 1 := by omega
    clear hY1 hmx m1 m2 m3
    go_wp2_with (at_builtin; refine unhide ?_)
    refine hide ?_
    refine wpList_append_own _ rfl _ _ 23 rfl w.heap.size 30 iP _ 2 16 Try.underlying23 hi1 hy0 hy1 hy2 rfl (by decide) _ _ _ rfl (unhide HRV) ⟨g7, 0, none⟩ 0 0 ((flat2 ((Y.drop 1).take (1 - 1))).map (Value.int .i64)) rfl (by rw [List.length_map, flat2_len, List.length_take, List.length_drop]; have := unhide EM1; omega) (fun j u hj => by simp [flat2] at hj) ints_one (by unfold maxLen; omega) (by omega) (by have := (unhide HBW).size; omega) ?_
    intro v' wz hown' hgrow _
    have R := hide (own_more (wr := W7) (news := flat2 ((Y.drop 1).take (1 - 1))) (Below.refl _ _) (by have := (unhide HBW).size; omega) (unhide HRV) hown' hgrow)
    clear hown' hgrow
    go_wp2_with fail
    have HF : Hid (Row wz w.heap.size 30 2 v' (hullM U).length (flat2 (hullM U))) := hide (by
      have hR := (unhide R).1
      rw [← unhide HEQ, ← unhide EM1, List.length_append, flat2_app]
      have e : ((Y.drop 1).take (1 - 1)).length = 0 := by rw [List.length_take, List.length_drop]; have := unhide EM1; omega
      rw [e]
      exact hR)
    exact bodyPost_ret (v := .tuple #[v', .int .i64 0]) (by simp [results, Try.results9, go_sem]) rfl ⟨_, rfl, by rw [unhide EU]; exact unhide HF, (unhide HBW).trans (unhide R).2⟩
  · clear hM1
    go_wp2_with (at_builtin; refine unhide ?_)
    refine hide ?_
    refine wpList_append_own _ rfl _ _ 23 rfl w.heap.size 30 iP _ 2 16 Try.underlying23 hi1 hy0 hy1 hy2 rfl (by decide) _ _ _ rfl (unhide HRV) ⟨g7, 2, none⟩ (M1 - 1) (c7 - 1) ((flat2 ((Y.drop 1).take (M1 - 1))).map (Value.int .i64)) rfl (by rw [List.length_map, flat2_len, List.length_take, List.length_drop]; have := unhide EM1; omega) (src_cells (unhide HI7) _ 2 (fun j x hj => by rw [← flat2_take, ← flat2_drop] at hj; rw [List.getElem?_take] at hj; split at hj; exact (by rw [List.getElem?_drop] at hj; exact hj); cases hj)) ints_one (by unfold maxLen; omega) (by omega) (by have := (unhide HBW).size; omega) ?_
    intro v' wz hown' hgrow _
    have R := hide (own_more (wr := W7) (news := flat2 ((Y.drop 1).take (M1 - 1))) (Below.refl _ _) (by have := (unhide HBW).size; omega) (unhide HRV) hown' hgrow)
    clear hown' hgrow
    go_wp2_with fail
    have HF : Hid (Row wz w.heap.size 30 2 v' (hullM U).length (flat2 (hullM U))) := hide (by
      have hR := (unhide R).1
      rw [← unhide HEQ, ← unhide EM1, List.length_append, flat2_app]
      have e : ((Y.drop 1).take (M1 - 1)).length = M1 - 1 := by rw [List.length_take, List.length_drop]; have := unhide EM1; omega
      rw [e]
      exact hR)
    exact bodyPost_ret (v := .tuple #[v', .int .i64 0]) (by simp [results, Try.results9, go_sem]) rfl ⟨_, rfl, by rw [unhide EU]; exact unhide HF, (unhide HBW).trans (unhide R).2⟩
end Go.Proofs.Ytdcecfgmfmpeeaa

namespace Go.Proofs.Ytdcecfgmfmpeeaa
open Go.ChangeShapes Go.WideShapes Go.ChangeAt Go.RowKit
set_option linter.unusedVariables false
set_option linter.unusedSimpArgs false

theorem ptsAt_flat {w : World} {g : Nat} {L : List Pt} (h : IntsAt w g 0 (flat2 L)) : PtsAt w g 0 L := by
  intro j p hj
  exact ⟨h _ _ (flat2_at hj).1, h _ _ (flat2_at hj).2⟩
set_option maxHeartbeats 2000000 in
set_option maxRecDepth 100000 in
theorem hullI_any (b cap : Nat) (L : List Pt) (w : World) (hn : L.length ≤ 4611686018427387904) (hb : b < w.heap.size) (hI : IntsAt w b 0 (flat2 L)) :
    Calls Try.prog 9 #[.slice (some ⟨b, 0, none⟩) L.length cap] w fun e w' => ∃ v, e = .returned (.tuple #[v, .int .i64 (hullC L)]) ∧ Row w' w.heap.size 30 2 v (hullL L).length (flat2 (hullL L)) ∧ Below w.heap.size w w' := by
  have HP := hide (ptsP_any b 0 cap L w hn hb (ptsAt_flat hI))
  have HI := hide hI
  unfold hullC hullL
  clear hI
  by_cases h1 : 4096 < L.length
  · rw [if_pos h1, if_pos h1]
    have d0 : decide ((4096 : Int) < (L.length : Int)) = true := decide_eq_true (by omega)
    go_enter Try.func9, Try.ntmps9
    go_wp2_with fail
    exact bodyPost_ret (v := .tuple #[.slice none 0 0, .int .i64 2]) (by simp [results, Try.results9, go_sem]) rfl ⟨_, rfl, World.ownsRow_nil _ _ _ _, Below.refl _ _⟩
  · rw [if_neg h1, if_neg h1]
    have d0 : decide ((4096 : Int) < (L.length : Int)) = false := decide_eq_false (by omega)
    by_cases h2 : 1 ≤ L.length ∧ L.length ≤ 200
    · have d1 : decide ((1 : Int) ≤ (L.length : Int)) = true := decide_eq_true (by omega)
      have d2 : decide ((L.length : Int) ≤ 200) = true := decide_eq_true (by omega)
      cases ho : L.all ptOk with
      | false =>
        rw [if_neg (by simp), if_neg (by simp)]
        rw [ho] at HP
        go_enter Try.func9, Try.ntmps9
        go_wp2_with fail
        refine (btw_any _ _ _ _).mono ?_
        rintro e w' ⟨rfl, hww⟩
        have hww' := hww.symm
        clear hww
        subst hww'
        rw [d1, d2]
        go_wp2_with fail
        refine (unhide HP).mono ?_
        rintro e W1 ⟨rfl, hb1⟩
        have HB1 := hide hb1
        clear hb1
        go_wp2_with fail
        exact bodyPost_ret (v := .tuple #[.slice none 0 0, .int .i64 1]) (by simp [results, Try.results9, go_sem]) rfl ⟨_, rfl, World.ownsRow_nil _ _ _ _, unhide HB1⟩
      | true =>
        rw [if_pos ⟨h2.1, h2.2, rfl⟩, if_pos ⟨h2.1, h2.2, rfl⟩]
        rw [ho] at HP
        exact hullP_good b cap L w h2.1 h2.2 ho hb (unhide HI) HP
    · rw [if_neg (fun h => h2 ⟨h.1, h.2.1⟩), if_neg (fun h => h2 ⟨h.1, h.2.1⟩)]
      have d3 : (decide ((1 : Int) ≤ (L.length : Int)) && decide ((L.length : Int) ≤ 200)) = false := by
        rw [Bool.and_eq_false_iff]
        by_cases h3 : 1 ≤ L.length
        · exact .inr (decide_eq_false (by omega))
        · exact .inl (decide_eq_false (by omega))
      go_enter Try.func9, Try.ntmps9
      go_wp2_with fail
      refine (btw_any _ _ _ _).mono ?_
      rintro e w' ⟨rfl, hww⟩
      have hww' := hww.symm
      clear hww
      subst hww'
      rw [d3]
      go_wp2_with fail
      exact bodyPost_ret (v := .tuple #[.slice none 0 0, .int .i64 1]) (by simp [results, Try.results9, go_sem]) rfl ⟨_, rfl, World.ownsRow_nil _ _ _ _, Below.refl _ _⟩
end Go.Proofs.Ytdcecfgmfmpeeaa

namespace Go.Proofs.Ytdcecfgmfmpeeaa
open Go.ChangeShapes Go.WideShapes Go.ChangeAt Go.RowKit
set_option linter.unusedVariables false
set_option linter.unusedSimpArgs false

theorem fold_mem (L : List Pt) : ∀ (s : List Pt) (q : Pt), q ∈ L.foldl (fun rs p => p :: popR rs p) s → q ∈ s ∨ q ∈ L := by
  induction L with
  | nil => intro s q h; exact .inl h
  | cons p L ih =>
    intro s q h
    rcases ih _ q h with h1 | h1
    · rcases List.mem_cons.1 h1 with h2 | h2
      · exact .inr (by simp [h2])
      · exact .inl (popR_mem s p q h2)
    · exact .inr (by simp [h1])
theorem half_mem {L : List Pt} {q : Pt} (h : q ∈ half L) : q ∈ L := by
  unfold half halfR at h
  rw [List.mem_reverse] at h
  rcases fold_mem L [] q h with h1 | h1
  · cases h1
  · exact h1
theorem hull_mem {U : List Pt} {q : Pt} (h : q ∈ hullM U) : q ∈ U := by
  unfold hullM at h
  split at h
  · exact h
  · rcases List.mem_append.1 h with h1 | h1
    · exact half_mem ((List.dropLast_sublist _).subset h1)
    · have := half_mem ((List.dropLast_sublist _).subset h1)
      rwa [List.mem_reverse] at this
theorem hull_in {L : List Pt} {q : Pt} (h : q ∈ hullM (srtU L)) : q ∈ L := ((srtU_facts L).2 q).1 (hull_mem h)
theorem half_some {a : Pt} {L : List Pt} : 1 ≤ (half (a :: L)).length := half_pos _ (by simp)
theorem hull_some {U : List Pt} (h : U ≠ []) : 1 ≤ (hullM U).length := by
  unfold hullM
  split
  · cases U with
    | nil => exact absurd rfl h
    | cons a U => simp
  · rename_i h3
    cases U with
    | nil => exact absurd rfl h
    | cons a U =>
      cases U with
      | nil => simp at h3
      | cons b U =>
        have := (half_facts (a := a) (L := b :: U) (by simp)).2.2.1
        rw [List.length_append, List.length_dropLast]
        omega
theorem hull_sides {L : List Pt} (h3 : 3 ≤ (hullM (srtU L)).length) {i : Nat} (hi : i < (hullM (srtU L)).length) : ∀ q ∈ L, 0 ≤ side (ptAt (hullM (srtU L)) i) (ptAt (hullM (srtU L)) ((i + 1) % (hullM (srtU L)).length)) q := by
  intro q hq
  have hU : 3 ≤ (srtU L).length := by
    by_cases h : (srtU L).length < 3
    · have : hullM (srtU L) = srtU L := by unfold hullM; rw [if_pos h]
      rw [this] at h3
      omega
    · omega
  exact hull_left (srtU_facts L).1 hU (ptAt_some hi) (ptAt_some (Nat.mod_lt _ (by omega))) q (((srtU_facts L).2 q).2 hq)
theorem nr_near {L : List Pt} (h : L.all nrP = true) : Near L := fun p hp => by
  have := List.all_eq_true.1 h p hp
  unfold nrP at this
  exact of_decide_eq_true this
theorem nr_ptok {L : List Pt} (h : L.all nrP = true) : L.all ptOk = true := List.all_eq_true.2 (fun p hp => near_ok (nr_near h p hp))
def zhl (L : List Pt) (i : Nat) : Zo := zn L (ptAt (hullM (srtU L)) i) (ptAt (hullM (srtU L)) ((i + 1) % (hullM (srtU L)).length))
/-- the strip -/
def zoR (L : List Pt) : Zo := if mcC L ≠ 0 then ⟨0, 0, 0, 0, 0⟩ else if (hullM (srtU L)).length < 3 then ⟨fi L (ptAt (hullM (srtU L)) 0), fi L (ptAt (hullM (srtU L)) ((hullM (srtU L)).length - 1)), fi L (ptAt (hullM (srtU L)) 0), 0, max 1 (sqd (ptAt (hullM (srtU L)) 0) (ptAt (hullM (srtU L)) ((hullM (srtU L)).length - 1)))⟩ else bst (zhl L) ((hullM (srtU L)).length - 1)
theorem zon_info : (Try.prog.info? 26).map (fun i => (i.zero, i.size, i.bytes)) = some (some (.agg #[.int .i64 0, .int .i64 0, .int .i64 0, .int .i64 0, .int .i64 0]), 5, 40) := by kernel_rfl
/-- all but one block is as it was -/
structure Mz (g : Nat) (w w' : World) : Prop where
  os : w'.os = w.os
  tape : w'.tape = w.tape
  output : w'.output = w.output
  size : w.heap.size ≤ w'.heap.size
  block : ∀ k, k < w.heap.size → k ≠ g → w'.heap[k]? = w.heap[k]?
theorem Mz.of_bel {g : Nat} {w w' : World} (h : Below w.heap.size w w') : Mz g w w' := ⟨h.os, h.tape, h.output, h.size, fun k hk _ => h.block k hk⟩
theorem Mz.trans {g : Nat} {x y z : World} (h : Mz g x y) (k : Mz g y z) : Mz g x z :=
  ⟨k.os.trans h.os, k.tape.trans h.tape, k.output.trans h.output, Nat.le_trans h.size k.size, fun i hi h1 => (k.block i (Nat.lt_of_lt_of_le hi h.size) h1).trans (h.block i hi h1)⟩
theorem Mz.set {g : Nat} {x y : World} (h : Mz g x y) (o : Nat) (v : Value) : Mz g x (y.setCell ⟨g, o, none⟩ v) :=
  h.trans ⟨rfl, rfl, rfl, by simp [World.setCell], fun k _ h1 => Below.heap_setCell _ _ _ _ h1⟩
theorem Mz.bel {g B : Nat} {x y : World} (h : Mz g x y) (hB : B ≤ x.heap.size) (hg : B ≤ g) : Below B x y := ⟨h.os, h.tape, h.output, h.size, fun k hk => h.block k (by omega) (by omega)⟩
theorem iblk_at {w : World} {g t : Nat} {F : List Int} (h : iblk w g t F) : IntsAt w g 0 F := h.ints
set_option maxHeartbeats 4000000 in
set_option maxRecDepth 100000 in
theorem zoP_any (b cap : Nat) (L : List Pt) (w : World) (hn : L.length ≤ 1048576) (hb : b < w.heap.size) (hI : IntsAt w b 0 (flat2 L)) :
    Calls Try.prog 7 #[.slice (some ⟨b, 0, none⟩) L.length cap] w fun e w' => e = .returned (.tuple #[zoV (zoR L), .int .i64 (mcC L)]) ∧ Below w.heap.size w w' := by
  have HB0 := hide (ba (Below.refl w.heap.size w) (.cells #[.int .i64 0, .int .i64 0, .int .i64 0, .int .i64 0, .int .i64 0] 26))
  have H2 : Hid (cb (w.alloc (.cells #[.int .i64 0, .int .i64 0, .int .i64 0, .int .i64 0, .int .i64 0] 26)) w.heap.size 26 z5) := hide (cb_new w 26 z5 _ rfl)
  have HMC := hide (mcP_any b cap L (w.alloc (.cells #[.int .i64 0, .int .i64 0, .int .i64 0, .int .i64 0, .int .i64 0] 26)) (by omega) (Nat.lt_of_lt_of_le hb (unhide HB0).size) (ptsAt_flat (hI.below (unhide HB0) hb)))
  have HI := hide hI
  by_cases h0 : mcC L = 0
  · have hall : 1 ≤ L.length ∧ L.length ≤ 200 ∧ L.all nrP = true := by
      unfold mcC at h0
      split at h0
      · omega
      · split at h0
        · assumption
        · omega
    have hN := nr_near hall.2.2
    have hLne : L ≠ [] := fun e => by rw [e] at hall; simp at hall
    have HHU := hide (fun X (hX : Below w.heap.size w X) => hullI_any b cap L X (by omega) (Nat.lt_of_lt_of_le hb hX.size) (hI.below hX hb))
    have hhC : hullC L = 0 := by unfold hullC; rw [if_neg (by omega), if_pos ⟨hall.1, hall.2.1, nr_ptok hall.2.2⟩]
    have hhL : hullL L = hullM (srtU L) := by unfold hullL; rw [if_neg (by omega), if_pos ⟨hall.1, hall.2.1, nr_ptok hall.2.2⟩]
    rw [hhC, hhL] at HHU
    have hm1 : 1 ≤ (hullM (srtU L)).length := hull_some (srtU_ne hLne)
    have hm400 : (hullM (srtU L)).length ≤ 400 := by
      have h1 := hullM_le (srtU L)
      have h2 := srtU_len L
      omega
    have HHI := hide (fun q (h : q ∈ hullM (srtU L)) => hull_in (L := L) h)
    have HHS := hide (fun h3 i hi => hull_sides (L := L) h3 (i := i) hi)
    have HZR : Hid (zoR L = if (hullM (srtU L)).length < 3 then ⟨fi L (ptAt (hullM (srtU L)) 0), fi L (ptAt (hullM (srtU L)) ((hullM (srtU L)).length - 1)), fi L (ptAt (hullM (srtU L)) 0), 0, max 1 (sqd (ptAt (hullM (srtU L)) 0) (ptAt (hullM (srtU L)) ((hullM (srtU L)).length - 1)))⟩ else bst (fun i => zn L (ptAt (hullM (srtU L)) i) (ptAt (hullM (srtU L)) ((i + 1) % (hullM (srtU L)).length))) ((hullM (srtU L)).length - 1)) := hide (by unfold zoR; rw [if_neg (by simp [h0])]; rfl)
    rw [h0] at HMC ⊢
    obtain ⟨Hl, hHl⟩ : ∃ Hl, hullM (srtU L) = Hl := ⟨_, rfl⟩
    rw [hHl] at HHU hm1 hm400 HHI HHS HZR
    obtain ⟨m, hm⟩ : ∃ m, Hl.length = m := ⟨_, rfl⟩
    rw [hm] at HHU hm1 hm400 HHS HZR
    have HHM := hide hm
    obtain ⟨n, hLn⟩ : ∃ n, L.length = n := ⟨_, rfl⟩
    have HLN := hide hLn
    rw [hLn] at HMC HHU hn hall ⊢
    clear hhC hhL hHl hm hI h0 hLn
    go_enter Try.func7, Try.ntmps7
    go_wp2_with fail
    generalize w.alloc (.cells #[.int .i64 0, .int .i64 0, .int .i64 0, .int .i64 0, .int .i64 0] 26) = W0 at *
    refine (unhide HMC).mono ?_
    rintro e W1 ⟨rfl, hb1⟩
    have H2a := hide ((unhide H2).bel hb1)
    have HBa := hide (bc (unhide HB0) hb1)
    clear hb1 H2 HB0 HMC
    go_wp2_with fail
    refine (unhide HHU _ (unhide HBa)).mono ?_
    rintro e W2 ⟨v, rfl, hr2, hb2⟩
    obtain ⟨gh, ch, rfl, hgh1, hgh2, hhi, hcm1, hcm2⟩ := hr2.full (by omega)
    have HHX := hide hhi
    have H2b := hide ((unhide H2a).bel hb2)
    have HBb := hide (bc (unhide HBa) hb2)
    have HIb := hide ((unhide HI).below (unhide HBb) hb)
    have hbb : b < W2.heap.size := Nat.lt_of_lt_of_le hb (unhide HBb).size
    have hwb : w.heap.size < W2.heap.size := (unhide H2b).lt
    clear hr2 hb2 hhi H2a HBa HHU HI
    by_cases h3 : m < 3
    · have d3 : decide ((m : Int) < 3) = true := decide_eq_true (by omega)
      obtain ⟨q, hq⟩ : ∃ q, m - 1 = q := ⟨_, rfl⟩
      have wq : IntKind.i64.wrap ((m : Int) - 1) = (q : Int) := (wr64 (by omega) (by omega)).trans (by omega)
      have hp0 := ptAt_some (L := Hl) (i := 0) (by rw [unhide HHM]; omega)
      have hpq := ptAt_some (L := Hl) (i := q) (by rw [unhide HHM]; omega)
      have ma := unhide HHI _ (List.mem_of_getElem? hp0)
      have mc := unhide HHI _ (List.mem_of_getElem? hpq)
      have HZ3 : Hid (zoR L = ⟨fi L (ptAt Hl 0), fi L (ptAt Hl q), fi L (ptAt Hl 0), 0, max 1 (sqd (ptAt Hl 0) (ptAt Hl q))⟩) := hide (by rw [unhide HZR, if_pos h3, hq])
      obtain ⟨⟨a1, a2⟩, ha⟩ : ∃ a, ptAt Hl 0 = a := ⟨_, rfl⟩
      obtain ⟨⟨c1, c2⟩, hc⟩ : ∃ c, ptAt Hl q = c := ⟨_, rfl⟩
      rw [ha] at hp0 ma HZ3
      rw [hc] at hpq mc HZ3
      obtain ⟨A0, A1⟩ := pts_at (unhide HHX) hp0
      obtain ⟨C0, C1⟩ := pts_at (unhide HHX) hpq
      simp only [Nat.zero_mul, Nat.zero_add] at A0 A1
      have HA0 := hide A0
      have HA1 := hide A1
      have HC0 := hide C0
      have HC1 := hide C1
      have hqm : q < m := by omega
      clear ha hc hp0 hpq A0 A1 C0 C1 hq
      go_wp2_with fail
      refine Go.Code.wp_mono (Only.to (fun _ _ h => h)) (zp8 (z := ⟨fi L (a1, a2), fi L (c1, c2), fi L (a1, a2), 0, max 1 (sqd (a1, a2) (c1, c2))⟩) hwb HA0 HA1 HC0 HC1 (hide wq) (hide (by omega)) (hide (by omega)) (hide (unhide H2b).zero) (hide (unhide H2b).frozen)
        (hide fun X hX => fzP_any b cap n L a1 a2 c1 c2 X (unhide HLN) (by omega) hN ma mc (Nat.lt_of_lt_of_le hbb hX.size) ((unhide HIb).below hX hbb)) (fun W9 hW9 => ?_))
      have V4 := hide ((((((unhide H2b).bel hW9).set 0 (.int .i64 (fi L (a1, a2) : Int))).set 1 (.int .i64 (fi L (c1, c2) : Int))).set 2 (.int .i64 (fi L (a1, a2) : Int))).set 3 (.int .i64 0) |>.set 4 (.int .i64 (max 1 (sqd (a1, a2) (c1, c2)))))
      have HB9 := hide (bc (unhide HBb) hW9)
      clear hW9
      have s0 := (unhide V4).cell (m := 0) rfl
      have s1 := (unhide V4).cell (m := 1) rfl
      have s2 := (unhide V4).cell (m := 2) rfl
      have s3 := (unhide V4).cell (m := 3) rfl
      have s4 := (unhide V4).cell (m := 4) rfl
      go_wp2_with fail
      refine bodyPost_ret (v := .tuple #[.agg #[.int .i64 (fi L (a1, a2) : Int), .int .i64 (fi L (c1, c2) : Int), .int .i64 (fi L (a1, a2) : Int), .int .i64 0, .int .i64 (max 1 (sqd (a1, a2) (c1, c2)))], .int .i64 0]) (by simp [results, Try.results7, go_sem, s0, s1, s2, s3, s4]) rfl ⟨by rw [unhide HZ3]; rfl, ?_⟩
      exact Below.setCell (Below.setCell (Below.setCell (Below.setCell (Below.setCell (unhide HB9) (Nat.le_refl _) _) (Nat.le_refl _) _) (Nat.le_refl _) _) (Nat.le_refl _) _) (Nat.le_refl _) _
    · have d3 : decide ((m : Int) < 3) = false := decide_eq_false (by omega)
      obtain ⟨z, hz⟩ : ∃ z : Nat → Zo, (fun i => zn L (ptAt Hl i) (ptAt Hl ((i + 1) % m))) = z := ⟨_, rfl⟩
      have hze : ∀ i, zn L (ptAt Hl i) (ptAt Hl ((i + 1) % m)) = z i := fun i => by rw [← hz]
      have HZ3 : Hid (zoR L = bst z (m - 1)) := hide (by rw [unhide HZR, if_neg h3, hz])
      have HZK : Hid (∀ i, i < m → ZoOk (z i)) := hide (fun i hi => by
        rw [← hze]
        exact zn_ok hN (by rw [unhide HLN]; exact hall.1) (unhide HHI _ (List.mem_of_getElem? (ptAt_some (by rw [unhide HHM]; exact hi)))) (unhide HHI _ (List.mem_of_getElem? (ptAt_some (by rw [unhide HHM]; exact Nat.mod_lt _ (by omega))))))
      have HZA : Hid (∀ i X, i < m → b < X.heap.size → IntsAt X b 0 (flat2 L) → Calls Try.prog 24 #[.slice (some ⟨b, 0, none⟩) n cap, .agg #[.int .i64 (ptAt Hl i).1, .int .i64 (ptAt Hl i).2, .int .i64 (ptAt Hl ((i + 1) % m)).1, .int .i64 (ptAt Hl ((i + 1) % m)).2]] X fun e w' => e = .returned (zoV (z i)) ∧ Below X.heap.size X w') := hide (fun i X hi hbX hIX => by
        rw [← hze]
        exact zaP_any b cap n L _ _ _ _ X (unhide HLN) hall.1 hall.2.1 hN (unhide HHI _ (List.mem_of_getElem? (ptAt_some (by rw [unhide HHM]; exact hi)))) (unhide HHI _ (List.mem_of_getElem? (ptAt_some (by rw [unhide HHM]; exact Nat.mod_lt _ (by omega))))) (unhide HHS (by omega) i hi) hbX hIX)
      have HSO := hide (fun X (hX : Below W2.heap.size W2 X) => sidesOf_any gh 0 ch m Hl X HHM hm400 (Nat.lt_of_lt_of_le hgh2 hX.size) (hide (ptsAt_flat ((unhide HHX).below hX hgh2))))
      have HSA : Hid (∀ i, i < m → (flatG (sides Hl))[i * 4]? = some (ptAt Hl i).1 ∧ (flatG (sides Hl))[i * 4 + 1]? = some (ptAt Hl i).2 ∧ (flatG (sides Hl))[i * 4 + 2]? = some (ptAt Hl ((i + 1) % m)).1 ∧ (flatG (sides Hl))[i * 4 + 3]? = some (ptAt Hl ((i + 1) % m)).2) := hide fun i hi => by
        have h1 := flatG_at (sides Hl) i _ (sides_at Hl i (by rw [unhide HHM]; exact hi))
        rw [unhide HHM] at h1
        exact h1
      have hmk := fun W => make_ints (P := Try.prog) 55 26 5 40 m Try.underlying55 (.agg #[.int .i64 0, .int .i64 0, .int .i64 0, .int .i64 0, .int .i64 0]) (by rfl) (by omega) zon_info (by omega) (by omega) W
      have HFL : Hid ((flatZ z m).length = m * 5) := hide (flatZ_len z m)
      have HFA := hide (fun i (h : i < m) => flatZ_at z m i h)
      obtain ⟨F, hF⟩ : ∃ F, flatZ z m = F := ⟨_, rfl⟩
      rw [hF] at HFL
      simp only [hF] at HFA
      have HFE := hide hF
      generalize flatG (sides Hl) = G at *
      generalize hzz : zeros (m * 5) = Z at hmk
      have HZZ := hide hzz
      clear hzz hF hz hze
      go_wp2_with fail
      have HG := hide (iblk_new W2 26 Z)
      have HBZ := hide (ba (Below.refl W2.heap.size W2) (.cells (Z.map (Value.int .i64)).toArray 26))
      clear hmk
      try go_wp2_with fail
      generalize W2.alloc (.cells (Z.map (Value.int .i64)).toArray 26) = W3 at *
      obtain ⟨gz, hgz⟩ : ∃ gz, W2.heap.size = gz := ⟨_, rfl⟩
      refine (unhide HSO _ (unhide HBZ)).mono ?_
      rintro e W4 ⟨⟨gs, rfl, hgs1, hgs2⟩, hb4⟩
      have HGI := hide hgs2.ints
      have HGZ : Hid (iblk W4 gz 26 Z) := hide (by rw [← hgz]; exact (unhide HG).bel hb4)
      have HB4 := hide (bc (unhide HBZ) hb4)
      have hgsl := hgs2.lt
      have hgzs : gz < gs := by have := (unhide HG).lt; omega
      have HBB4 : Hid (Below w.heap.size w W4) := hide (bc (unhide HBb) (unhide HB4))
      have H2d := hide ((unhide H2b).bel (unhide HB4))
      have HI4 := hide ((unhide HIb).below (unhide HB4) hbb)
      have hb4l : b < W4.heap.size := Nat.lt_of_lt_of_le hbb (unhide HB4).size
      have hbz : b ≠ gz := by omega
      have hwz : w.heap.size ≠ gz := by omega
      have hwzl : w.heap.size < gz := by omega
      rw [hgz]
      clear hgs1 hgs2 hb4 HG HBZ HSO HB4 H2b HIb HBb hgz
      go_wp2_with fail
      go_loopw [46] (fun zz X => ∃ i : Nat, zz = .int .i64 (i : Int) ∧ i ≤ m ∧ iblk X gz 26 (F.take (i * 5) ++ zeros (F.length - i * 5)) ∧ Mz gz W4 X) (fun zz _ => m - (intOf zz).toNat)
      case atStart =>
        refine ⟨0, rfl, Nat.zero_le _, ?_, Mz.of_bel (Below.refl _ _)⟩
        have e : F.take (0 * 5) ++ zeros (F.length - 0 * 5) = Z := by rw [unhide HFL, ← unhide HZZ]; simp
        rw [e]
        exact unhide HGZ
      case round =>
        obtain ⟨i, rfl, hi, hzb, hw⟩ := hrel
        have HZB := hide hzb
        have HW := hide hw
        by_cases h : i < m
        · have i1 : (i : Int) < (m : Int) := by omega
          have i0 : (0 : Int) ≤ (i : Int) := Int.natCast_nonneg _
          have iz : decide ((i : Int) < (m : Int)) = true := decide_eq_true i1
          obtain ⟨g0, g1, g2, g3⟩ := unhide HSA i h
          have hgx : IntsAt wr gs 0 G := fun j v hj => (World.cell?_of_block (w := W4) (a := ⟨gs, 0 + j, none⟩) (hw.block gs hgsl (by omega))).trans ((unhide HGI) j v hj)
          have x0 := hgx _ _ g0
          have x1 := hgx _ _ g1
          have x2 := hgx _ _ g2
          have x3 := hgx _ _ g3
          simp only [Nat.zero_add] at x0 x1 x2 x3
          have hIw : IntsAt wr b 0 (flat2 L) := fun j v hj => (World.cell?_of_block (w := W4) (a := ⟨b, 0 + j, none⟩) (hw.block b hb4l hbz)).trans ((unhide HI4) j v hj)
          have hbw : b < wr.heap.size := Nat.lt_of_lt_of_le hb4l hw.size
          have HZAi := hide (fun X h1 h2 => unhide HZA i X h h1 h2)
          have HAT := hide (unhide HFA i h)
          obtain ⟨⟨p1, p2⟩, hp⟩ : ∃ p, ptAt Hl i = p := ⟨_, rfl⟩
          obtain ⟨⟨q1, q2⟩, hq⟩ : ∃ q, ptAt Hl ((i + 1) % m) = q := ⟨_, rfl⟩
          rw [hp] at x0 x1 HZAi
          rw [hq] at x2 x3 HZAi
          simp only at x0 x1 x2 x3 HZAi
          unfold zoV at HZAi
          obtain ⟨⟨zA, zB, zC, zN, zD⟩, hzi⟩ : ∃ q, z i = q := ⟨_, rfl⟩
          rw [hzi] at HZAi HAT
          simp only at HZAi HAT
          have HXW : Hid (Below wr.heap.size wr (wr.alloc (.cells #[.int .i64 p1, .int .i64 p2, .int .i64 q1, .int .i64 q2] 54))) := hide (ba (Below.refl _ _) _)
          have V9 := hide (cb_new wr 54 [.int .i64 p1, .int .i64 p2, .int .i64 q1, .int .i64 q2] wr.heap.size rfl)
          have HIx := hide (hIw.below (unhide HXW) hbw)
          have hbx : b < (wr.alloc (.cells #[.int .i64 p1, .int .i64 p2, .int .i64 q1, .int .i64 q2] 54)).heap.size := Nat.lt_of_lt_of_le hbw (unhide HXW).size
          have HZBx := hide (hzb.bel (unhide HXW))
          have HWx := hide ((unhide HW).trans (Mz.of_bel (unhide HXW)))
          clear g0 g1 g2 g3 hgx hp hq hzi hzb hw HW HZB hIw
          go_wp2_with fail
          generalize wr.alloc (.cells #[.int .i64 p1, .int .i64 p2, .int .i64 q1, .int .i64 q2] 54) = Wx at *
          generalize wr.heap.size = b9 at *
          have n0 := (unhide V9).cell (m := 0) rfl
          have n1 := (unhide V9).cell (m := 1) rfl
          have n2 := (unhide V9).cell (m := 2) rfl
          have n3 := (unhide V9).cell (m := 3) rfl
          clear x0 x1 x2 x3
          try go_wp2_with fail
          refine (unhide HZAi Wx hbx (unhide HIx)).mono ?_
          rintro e Wy ⟨rfl, hby⟩
          have HZBy := hide ((unhide HZBx).bel hby)
          have HWy := hide ((unhide HWx).trans (Mz.of_bel hby))
          have j0 : i * 5 + 4 < F.length := by rw [unhide HFL]; omega
          have m0' : Wy.cell? ⟨gz, i * 5, none⟩ = some (.int .i64 0) := (unhide HZBy).cell (fill_at F (i * 5) 0 (by omega))
          have m1' : Wy.cell? ⟨gz, i * 5 + 1, none⟩ = some (.int .i64 0) := (unhide HZBy).cell (fill_at F (i * 5) 1 (by omega))
          have m2' : Wy.cell? ⟨gz, i * 5 + 2, none⟩ = some (.int .i64 0) := (unhide HZBy).cell (fill_at F (i * 5) 2 (by omega))
          have m3' : Wy.cell? ⟨gz, i * 5 + 3, none⟩ = some (.int .i64 0) := (unhide HZBy).cell (fill_at F (i * 5) 3 (by omega))
          have m4' : Wy.cell? ⟨gz, i * 5 + 4, none⟩ = some (.int .i64 0) := (unhide HZBy).cell (fill_at F (i * 5) 4 (by omega))
          have fz : ∀ o, Wy.frozen? ⟨gz, o, none⟩ = false := (unhide HZBy).frozen
          have J0 := hide j0
          clear hby j0 n0 n1 n2 n3 HZBx HWx
          go_wp2_with fail
          go_roundw
          case rel =>
            refine ⟨i + 1, by simp, h, ?_, ?_⟩
            · have h1 := (((((unhide HZBy).set (i * 5) zA).set (i * 5 + 1) zB).set (i * 5 + 2) zC).set (i * 5 + 3) zN).set (i * 5 + 4) zD
              have jj := unhide J0
              rw [fill_step F (i * 5) (by omega) _ (unhide HAT).1, fill_step F (i * 5 + 1) (by omega) _ (unhide HAT).2.1, fill_step F (i * 5 + 2) (by omega) _ (unhide HAT).2.2.1, fill_step F (i * 5 + 3) (by omega) _ (unhide HAT).2.2.2.1, fill_step F (i * 5 + 4) (by omega) _ (unhide HAT).2.2.2.2] at h1
              rw [show (i + 1) * 5 = i * 5 + 5 by omega]
              exact h1
            · exact (((((unhide HWy).set _ _).set _ _).set _ _).set _ _).set _ _
          case measure => simp only [intOf]; omega
        · have iz : decide ((i : Int) < (m : Int)) = false := decide_eq_false (by omega)
          obtain rfl : m = i := by omega
          have hfin : IntsAt wr gz 0 (flatZ z m) := by
            have h1 := hzb
            rw [List.take_of_length_le (by rw [unhide HFL]; omega), show F.length - m * 5 = 0 by rw [unhide HFL]; omega] at h1
            have h2 : iblk wr gz 26 F := by simpa [zeros] using h1
            rw [unhide HFE]
            exact h2.ints
          have hgzl : gz < wr.heap.size := hzb.lt
          have HMN := hide (mnP_any gz m m z wr hm1 hm400 (unhide HZK) hgzl hfin)
          have H2x : Hid (cb wr w.heap.size 26 z5) := hide ((hw.block w.heap.size (unhide H2d).lt hwz).trans (unhide H2d))
          have HBX : Hid (Below w.heap.size w wr) := hide ((unhide HBB4).trans (hw.bel (by have := (unhide HBB4).size; omega) (by omega)))
          obtain ⟨bz, hbze⟩ : ∃ bz, bst z (m - 1) = bz := ⟨_, rfl⟩
          rw [hbze] at HMN HZ3
          unfold zoV at HMN
          clear hzb hw hfin hbze
          go_wp2_with fail
          refine (unhide HMN).mono ?_
          rintro e We ⟨rfl, hbe⟩
          have H2y := hide ((unhide H2x).bel hbe)
          have HBY := hide (bc (unhide HBX) hbe)
          have o0 := (unhide H2y).cell (m := 0) rfl
          have o1 := (unhide H2y).cell (m := 1) rfl
          have o2 := (unhide H2y).cell (m := 2) rfl
          have o3 := (unhide H2y).cell (m := 3) rfl
          have o4 := (unhide H2y).cell (m := 4) rfl
          have of := (unhide H2y).frozen
          clear hbe
          go_wp2_with fail
          have V4 := hide (((((unhide H2y).set 0 (.int .i64 bz.A)).set 1 (.int .i64 bz.B)).set 2 (.int .i64 bz.C)).set 3 (.int .i64 bz.N) |>.set 4 (.int .i64 bz.D))
          have s0 := (unhide V4).cell (m := 0) rfl
          have s1 := (unhide V4).cell (m := 1) rfl
          have s2 := (unhide V4).cell (m := 2) rfl
          have s3 := (unhide V4).cell (m := 3) rfl
          have s4 := (unhide V4).cell (m := 4) rfl
          refine bodyPost_ret (v := .tuple #[.agg #[.int .i64 bz.A, .int .i64 bz.B, .int .i64 bz.C, .int .i64 bz.N, .int .i64 bz.D], .int .i64 0]) (by simp [results, Try.results7, go_sem, s0, s1, s2, s3, s4]) rfl ⟨by rw [unhide HZ3]; rfl, ?_⟩
          exact Below.setCell (Below.setCell (Below.setCell (Below.setCell (Below.setCell (unhide HBY) (Nat.le_refl _) _) (Nat.le_refl _) _) (Nat.le_refl _) _) (Nat.le_refl _) _) (Nat.le_refl _) _
  · have HZR : Hid (zoR L = ⟨0, 0, 0, 0, 0⟩) := hide (by unfold zoR; rw [if_pos h0])
    have d0 : (mcC L != 0) = true := by simpa using h0
    generalize mcC L = cc at *
    clear hI h0
    go_enter Try.func7, Try.ntmps7
    go_wp2_with fail
    generalize w.alloc (.cells #[.int .i64 0, .int .i64 0, .int .i64 0, .int .i64 0, .int .i64 0] 26) = W0 at *
    refine (unhide HMC).mono ?_
    rintro e W1 ⟨rfl, hb1⟩
    have H2y := hide ((unhide H2).bel hb1)
    have HBY := hide (bc (unhide HB0) hb1)
    have o0 := (unhide H2y).cell (m := 0) rfl
    have o1 := (unhide H2y).cell (m := 1) rfl
    have o2 := (unhide H2y).cell (m := 2) rfl
    have o3 := (unhide H2y).cell (m := 3) rfl
    have o4 := (unhide H2y).cell (m := 4) rfl
    have of := (unhide H2y).frozen
    clear hb1
    go_wp2_with fail
    have V4 := hide (((((unhide H2y).set 0 (.int .i64 0)).set 1 (.int .i64 0)).set 2 (.int .i64 0)).set 3 (.int .i64 0) |>.set 4 (.int .i64 0))
    have s0 := (unhide V4).cell (m := 0) rfl
    have s1 := (unhide V4).cell (m := 1) rfl
    have s2 := (unhide V4).cell (m := 2) rfl
    have s3 := (unhide V4).cell (m := 3) rfl
    have s4 := (unhide V4).cell (m := 4) rfl
    refine bodyPost_ret (v := .tuple #[.agg #[.int .i64 0, .int .i64 0, .int .i64 0, .int .i64 0, .int .i64 0], .int .i64 cc]) (by simp [results, Try.results7, go_sem, s0, s1, s2, s3, s4]) rfl ⟨by rw [unhide HZR]; rfl, ?_⟩
    exact Below.setCell (Below.setCell (Below.setCell (Below.setCell (Below.setCell (unhide HBY) (Nat.le_refl _) _) (Nat.le_refl _) _) (Nat.le_refl _) _) (Nat.le_refl _) _) (Nat.le_refl _) _
end Go.Proofs.Ytdcecfgmfmpeeaa

namespace Go.Proofs.Ytdcecfgmfmpeeaa
set_option linter.unusedVariables false
set_option linter.unusedSimpArgs false

theorem md_hull {P S : List Pt} {c : Ci} (h : Md P [] S c) : Md (hullM (srtU P)) [] S c := by
  refine ⟨⟨fun q hq => h.fea.has q (hull_in hq), fun r hr => (nomatch hr)⟩, fun s hs => ?_, h.on, h.cer⟩
  exact rim_corner (srtU_facts P).1 (fun q hq => h.fea.has q (((srtU_facts P).2 q).1 hq)) (((srtU_facts P).2 s).2 (h.sub s hs)) (h.on s hs)
theorem rim_hull {P S : List Pt} {c : Ic} {k : Ci} {p : Pt} (hI : Is c k) (h : Md P [] S k) (hp : p ∈ P) (h0 : apt c p = c.N) : p ∈ hullM (srtU P) :=
  rim_corner (srtU_facts P).1 (fun q hq => h.fea.has q (((srtU_facts P).2 q).1 hq)) (((srtU_facts P).2 p).2 hp) ((hI.onr p).2 h0)
theorem pair_cer {a b : Pt} {k : Ci} (hx : k.x * 2 = (a.1 : Rat) + (b.1 : Rat)) (hy : k.y * 2 = (a.2 : Rat) + (b.2 : Rat)) : Cer [a, b] [] k := by
  intro v w e hS _
  have h1 := hS a (by simp)
  have h2 := hS b (by simp)
  have e0 : (v * k.x + w * k.y + e) * 2 = (v * (a.1 : Rat) + w * (a.2 : Rat) + e) + (v * (b.1 : Rat) + w * (b.2 : Rat) + e) := by
    have e1 : (v * k.x + w * k.y + e) * 2 = v * (k.x * 2) + w * (k.y * 2) + 2 * e := by grind
    rw [e1, hx, hy]
    grind
  grind
theorem pair_iff {P S : List Pt} {c : Ic} {k : Ci} {a b : Pt} (hI : Is c k) (h : Md P [] S k) (ha : a ∈ hullM (srtU P)) (hb : b ∈ hullM (srtU P)) :
    (∀ q ∈ hullM (srtU P), apt (thr [a, b]) q ≤ (thr [a, b]).N) ↔ (apt c a = c.N ∧ apt c b = c.N ∧ thr [a, b] = c) := by
  obtain ⟨k2, hI2, hM2, hx, hy⟩ := thr2 a b
  have on : ∀ s ∈ [a, b], pw k2 s = 0 := hM2.fea.rim
  constructor
  · intro hh
    have hm : Md (hullM (srtU P)) [] [a, b] k2 := ⟨⟨fun q hq => (hI2.inn q).2 (hh q hq), fun r hr => (nomatch hr)⟩, fun s hs => by
      rcases List.mem_cons.1 hs with h1 | h1
      · rw [h1]; exact ha
      · rw [List.mem_singleton.1 h1]; exact hb, on, pair_cer hx hy⟩
    have e := (md_hull h).uniq hm
    rw [e] at hI2 on
    exact ⟨(hI.onr a).1 (on a (by simp)), (hI.onr b).1 (on b (by simp)), hI2.uniq hI⟩
  · rintro ⟨_, _, e⟩ q hq
    rw [e]
    exact (hI.inn q).1 (h.fea.has q (hull_in hq))
/-- the model's circle through three points -/
def tM (a b d : Pt) : Ic := cir (redM (sq a * (b.2 - d.2) + sq b * (d.2 - a.2) + sq d * (a.2 - b.2)) (sq a * (d.1 - b.1) + sq b * (a.1 - d.1) + sq d * (b.1 - a.1)) (2 * side a b d)) a
theorem tM_is {a b d : Pt} (hs : side a b d ≠ 0) : ∃ k, Is (tM a b d) k ∧ pw k a = 0 ∧ pw k b = 0 ∧ pw k d = 0 := by
  have hT : (((2 * side a b d : Int)) : Rat) = 2 * (((b.1 : Rat) - a.1) * ((d.2 : Rat) - a.2) - ((b.2 : Rat) - a.2) * ((d.1 : Rat) - a.1)) := by
    rw [Rat.intCast_mul, sd_q]; rfl
  have hT0 : (((2 * side a b d : Int)) : Rat) ≠ 0 := by
    intro h
    have : (2 * side a b d : Int) = 0 := Rat.intCast_inj.1 (by simpa using h)
    omega
  have core : ∃ k : Ci, Is (tM a b d) k ∧ k.x * (((2 * side a b d : Int)) : Rat) = (((sq a * (b.2 - d.2) + sq b * (d.2 - a.2) + sq d * (a.2 - b.2) : Int)) : Rat) ∧ k.y * (((2 * side a b d : Int)) : Rat) = (((sq a * (d.1 - b.1) + sq b * (a.1 - d.1) + sq d * (b.1 - a.1) : Int)) : Rat) ∧ pw k a = 0 := by
    unfold tM redM
    split
    · rename_i hneg
      obtain ⟨k, hI, hx, hy, hp⟩ := cir_is (-(sq a * (b.2 - d.2) + sq b * (d.2 - a.2) + sq d * (a.2 - b.2))) (-(sq a * (d.1 - b.1) + sq b * (a.1 - d.1) + sq d * (b.1 - a.1))) (-(2 * side a b d)) a (by omega)
      rw [Rat.intCast_neg, Rat.intCast_neg] at hx hy
      exact ⟨k, hI, by grind, by grind, hp⟩
    · exact cir_is _ _ _ a (by omega)
  obtain ⟨k, hI, hx, hy, hp⟩ := core
  refine ⟨k, hI, hp, ?_, ?_⟩
  all_goals
    unfold sq at hx hy
    simp only [Rat.intCast_sub, Rat.intCast_add, Rat.intCast_mul] at hx hy
    rw [← Rat.intCast_mul] at hx hy
    generalize (((2 * side a b d : Int)) : Rat) = W at *
  · have e : (pw k b - pw k a) * W = 0 := by
      unfold pw
      grind
    rw [hp] at e
    have := (Rat.mul_eq_zero.1 e).resolve_right hT0
    grind
  · have e : (pw k d - pw k a) * W = 0 := by
      unfold pw
      grind
    rw [hp] at e
    have := (Rat.mul_eq_zero.1 e).resolve_right hT0
    grind
theorem mem3 {a b d : Pt} {Q : Pt → Prop} (ha : Q a) (hb : Q b) (hd : Q d) : ∀ r ∈ [a, b, d], Q r := by
  intro r hr
  rcases List.mem_cons.1 hr with h | h
  · rw [h]; exact ha
  · rcases List.mem_cons.1 h with h | h
    · rw [h]; exact hb
    · rw [List.mem_singleton.1 h]; exact hd
theorem tri_iff {P S : List Pt} {c : Ic} {k : Ci} {a b d : Pt} (hI : Is c k) (h : Md P [] S k) (ha : a ∈ hullM (srtU P)) (hb : b ∈ hullM (srtU P)) (hd : d ∈ hullM (srtU P)) (ab : a ≠ b) (ad : a ≠ d) (bd : b ≠ d) :
    (side a b d ≠ 0 ∧ Sharp a b d ∧ ∀ q ∈ hullM (srtU P), apt (tM a b d) q ≤ (tM a b d).N) ↔ (apt c a = c.N ∧ apt c b = c.N ∧ apt c d = c.N ∧ Sharp a b d) := by
  constructor
  · rintro ⟨hs, hsh, hh⟩
    obtain ⟨k2, hI2, pa, pb, pd⟩ := tM_is hs
    have hm : Md (hullM (srtU P)) [] [a, b, d] k2 := ⟨⟨fun q hq => (hI2.inn q).2 (hh q hq), fun r hr => (nomatch hr)⟩, mem3 ha hb hd, mem3 pa pb pd, sharp_cer pa pb pd hs hsh⟩
    have e := (md_hull h).uniq hm
    rw [e] at pa pb pd
    exact ⟨(hI.onr a).1 pa, (hI.onr b).1 pb, (hI.onr d).1 pd, hsh⟩
  · rintro ⟨pa, pb, pd, hsh⟩
    have qa := (hI.onr a).2 pa
    have qb := (hI.onr b).2 pb
    have qd := (hI.onr d).2 pd
    have hs := three_side qa qb qd ab ad bd
    obtain ⟨k2, hI2, ra, rb, rd⟩ := tM_is hs
    have e : k2 = k := three_one hs (mem3 qa qb qd) (mem3 ra rb rd)
    rw [e] at hI2
    have ec := hI2.uniq hI
    refine ⟨hs, hsh, fun q hq => ?_⟩
    rw [ec]
    exact (hI.inn q).1 (h.fea.has q (hull_in hq))
theorem tri_c {P S : List Pt} {c : Ic} {k : Ci} {a b d : Pt} (hI : Is c k) (ab : a ≠ b) (ad : a ≠ d) (bd : b ≠ d) (pa : apt c a = c.N) (pb : apt c b = c.N) (pd : apt c d = c.N) : tM a b d = c := by
  have qa := (hI.onr a).2 pa
  have qb := (hI.onr b).2 pb
  have qd := (hI.onr d).2 pd
  have hs := three_side qa qb qd ab ad bd
  obtain ⟨k2, hI2, ra, rb, rd⟩ := tM_is hs
  have e : k2 = k := three_one hs (mem3 qa qb qd) (mem3 ra rb rd)
  rw [e] at hI2
  exact hI2.uniq hI

/-- the first pair, the first triple of a row -/
def fp (Q : Nat → Nat → Bool) : List Nat → Option (Nat × Nat)
  | [] => none
  | a :: L => match L.find? (Q a) with
    | some b => some (a, b)
    | none => fp Q L
def ft (Q : Nat → Nat → Nat → Bool) : List Nat → Option (Nat × Nat × Nat)
  | [] => none
  | a :: L => match fp (Q a) L with
    | some (b, d) => some (a, b, d)
    | none => ft Q L
theorem find_congr {α : Type} {p q : α → Bool} : ∀ {L : List α}, (∀ x ∈ L, p x = q x) → L.find? p = L.find? q := by
  intro L
  induction L with
  | nil => intro _; rfl
  | cons a L ih =>
    intro h
    rw [List.find?_cons, List.find?_cons, h a (by simp), ih (fun x hx => h x (by simp [hx]))]
theorem fp_congr {Q Q' : Nat → Nat → Bool} : ∀ {L : List Nat}, L.Pairwise (fun i j => Q i j = Q' i j) → fp Q L = fp Q' L := by
  intro L
  induction L with
  | nil => intro _; rfl
  | cons a L ih =>
    intro h
    have h' := List.pairwise_cons.1 h
    unfold fp
    rw [find_congr (fun x hx => h'.1 x hx), ih h'.2]
theorem find_filter' {p B : Nat → Bool} (h : ∀ x, p x = true → B x = true) (L : List Nat) : (L.filter B).find? p = L.find? p := by
  induction L with
  | nil => rfl
  | cons a L ih =>
    by_cases hb : B a = true
    · rw [List.filter_cons_of_pos hb, List.find?_cons, List.find?_cons, ih]
    · rw [List.filter_cons_of_neg hb, List.find?_cons, ih]
      have : p a = false := by
        cases hp : p a with
        | false => rfl
        | true => exact absurd (h a hp) hb
      rw [this]
theorem fp_filter {Q : Nat → Nat → Bool} {B : Nat → Bool} (h : ∀ i j, Q i j = true → B i = true ∧ B j = true) (L : List Nat) : fp Q (L.filter B) = fp Q L := by
  induction L with
  | nil => rfl
  | cons a L ih =>
    by_cases hb : B a = true
    · rw [List.filter_cons_of_pos hb]
      unfold fp
      rw [find_filter' (fun x hx => (h a x hx).2), ih]
    · rw [List.filter_cons_of_neg hb, ih]
      have hn : L.find? (Q a) = none := by
        rw [List.find?_eq_none]
        intro x _ hx
        exact hb (h a x hx).1
      conv => rhs; unfold fp
      rw [hn]
theorem fp_none {Q : Nat → Nat → Bool} : ∀ {L : List Nat}, fp Q L = none → L.Pairwise (fun i j => Q i j = false) := by
  intro L
  induction L with
  | nil => intro _; exact List.Pairwise.nil
  | cons a L ih =>
    intro h
    unfold fp at h
    cases hf : L.find? (Q a) with
    | some b => rw [hf] at h; cases h
    | none =>
      rw [hf] at h
      refine List.pairwise_cons.2 ⟨fun x hx => ?_, ih h⟩
      have := List.find?_eq_none.1 hf x hx
      simpa using this
theorem ft_filter {Q : Nat → Nat → Nat → Bool} {B : Nat → Bool} (h : ∀ i j l, Q i j l = true → B i = true ∧ B j = true ∧ B l = true) (L : List Nat) : ft Q (L.filter B) = ft Q L := by
  induction L with
  | nil => rfl
  | cons a L ih =>
    by_cases hb : B a = true
    · rw [List.filter_cons_of_pos hb]
      unfold ft
      rw [fp_filter (fun i j hij => (h a i j hij).2), ih]
    · rw [List.filter_cons_of_neg hb, ih]
      have hn : fp (Q a) L = none := by
        have e : fp (Q a) L = fp (fun _ _ => false) L := fp_congr (List.pairwise_of_forall (fun i j => by
          cases hq : Q a i j with
          | false => rfl
          | true => exact absurd (h a i j hq).1 hb))
        rw [e]
        clear ih e
        induction L with
        | nil => rfl
        | cons x L ih2 =>
          unfold fp
          rw [show L.find? (fun _ => false) = none by rw [List.find?_eq_none]; intro _ _ h; cases h]
          exact ih2
      conv => rhs; unfold ft
      rw [hn]
theorem ft_congr {Q Q' : Nat → Nat → Nat → Bool} : ∀ {L : List Nat}, L.Pairwise (· < ·) → (∀ i ∈ L, ∀ j ∈ L, ∀ l ∈ L, i < j → j < l → Q i j l = Q' i j l) → ft Q L = ft Q' L := by
  intro L
  induction L with
  | nil => intro _ _; rfl
  | cons a L ih =>
    intro hs h
    have h' := List.pairwise_cons.1 hs
    unfold ft
    have e : fp (Q a) L = fp (Q' a) L := fp_congr (by
      refine List.Pairwise.imp_of_mem ?_ h'.2
      intro x y hx hy hxy
      exact h a (by simp) x (by simp [hx]) y (by simp [hy]) (h'.1 x hx) hxy)
    rw [e, ih h'.2 (fun i hi j hj l hl => h i (by simp [hi]) j (by simp [hj]) l (by simp [hl]))]
theorem ft_none {Q : Nat → Nat → Nat → Bool} : ∀ {L : List Nat}, L.Pairwise (· < ·) → ft Q L = none → ∀ i ∈ L, ∀ j ∈ L, ∀ l ∈ L, i < j → j < l → Q i j l = false := by
  intro L
  induction L with
  | nil => intro _ _ i hi; cases hi
  | cons a L ih =>
    intro hs h i hi j hj l hl hij hjl
    have h' := List.pairwise_cons.1 hs
    unfold ft at h
    cases hf : fp (Q a) L with
    | some b => rw [hf] at h; cases h
    | none =>
      rw [hf] at h
      have gt : ∀ x ∈ a :: L, a ≤ x := fun x hx => by
        rcases List.mem_cons.1 hx with e | e
        · omega
        · have := h'.1 x e; omega
      have hj' : j ∈ L := by
        rcases List.mem_cons.1 hj with e | e
        · have := gt i hi; omega
        · exact e
      have hl' : l ∈ L := by
        rcases List.mem_cons.1 hl with e | e
        · have := gt i hi; omega
        · exact e
      rcases List.mem_cons.1 hi with e | e
      · have hp := fp_none hf
        rw [e]
        have two : ∀ {M : List Nat}, M.Pairwise (· < ·) → M.Pairwise (fun i j => Q a i j = false) → ∀ x ∈ M, ∀ y ∈ M, x < y → Q a x y = false := by
          intro M
          induction M with
          | nil => intro _ _ x hx; cases hx
          | cons m M ihm =>
            intro s1 s2 x hx y hy hxy
            have t1 := List.pairwise_cons.1 s1
            have t2 := List.pairwise_cons.1 s2
            rcases List.mem_cons.1 hy with ey | ey
            · rcases List.mem_cons.1 hx with ex | ex
              · omega
              · have := t1.1 x ex; omega
            · rcases List.mem_cons.1 hx with ex | ex
              · rw [ex]; exact t2.1 y ey
              · exact ihm t1.2 t2.2 x ex y ey hxy
        exact two h'.2 hp j hj' l hl' hjl
      · exact ih h'.2 h i e j hj' l hl' hij hjl
end Go.Proofs.Ytdcecfgmfmpeeaa

namespace Go.Proofs.Ytdcecfgmfmpeeaa
open Go.ChangeShapes Go.WideShapes Go.ChangeAt Go.RowKit
set_option linter.unusedVariables false
set_option linter.unusedSimpArgs false

def icV (c : Ic) : Value := .agg #[.int .i64 c.X, .int .i64 c.Y, .int .i64 c.D, .int .i64 c.N]
/-- a centre that lies near -/
structure NrS (s : Sp) : Prop where
  x1 : -400000000 ≤ s.1
  x2 : s.1 ≤ 400000000
  y1 : -400000000 ≤ s.2.1
  y2 : s.2.1 ≤ 400000000
  d1 : 0 < s.2.2
  d2 : s.2.2 ≤ 640000
def Nr1 (p : Pt) : Prop := -200 ≤ p.1 ∧ p.1 ≤ 200 ∧ -200 ≤ p.2 ∧ p.2 ≤ 200
theorem way_bd {s : Sp} {p : Pt} (h : NrS s) (hp : Nr1 p) : (-128000000 ≤ p.1 * s.2.2 ∧ p.1 * s.2.2 ≤ 128000000) ∧ (-128000000 ≤ p.2 * s.2.2 ∧ p.2 * s.2.2 ≤ 128000000) := by
  obtain ⟨h1, h2, h3, h4⟩ := hp
  have := h.d1
  have := h.d2
  have a := mulB (x := p.1) (y := s.2.2) (a := 200) (b := 640000) (by omega) (by omega) (by omega) (by omega)
  have b := mulB (x := p.2) (y := s.2.2) (a := 200) (b := 640000) (by omega) (by omega) (by omega) (by omega)
  constructor <;> constructor <;> omega
theorem alongW (a1 a2 b1 b2 : Int) (w : World) (ha : -600000000 ≤ a1 ∧ a1 ≤ 600000000 ∧ -600000000 ≤ a2 ∧ a2 ≤ 600000000) (hb : -600000000 ≤ b1 ∧ b1 ≤ 600000000 ∧ -600000000 ≤ b2 ∧ b2 ≤ 600000000) :
    Calls Try.prog 54 #[.agg #[.int .i64 a1, .int .i64 a2], .agg #[.int .i64 b1, .int .i64 b2]] w fun e w' => e = .returned (.int .i64 (a1 * b1 + a2 * b2)) ∧ Below w.heap.size w w' := by
  have h1 := mulB (x := a1) (y := b1) (a := 600000000) (b := 600000000) (by omega) (by omega) (by omega) (by omega)
  have h2 := mulB (x := a2) (y := b2) (a := 600000000) (b := 600000000) (by omega) (by omega) (by omega) (by omega)
  have w3 : IntKind.i64.wrap (a1 * b1) = a1 * b1 := wr64 (by omega) (by omega)
  have w4 : IntKind.i64.wrap (a2 * b2) = a2 * b2 := wr64 (by omega) (by omega)
  have w5 : IntKind.i64.wrap (a1 * b1 + a2 * b2) = a1 * b1 + a2 * b2 := wr64 (by omega) (by omega)
  go_enter Try.func54, Try.ntmps54
  go_wp2_with fail
  go_ret
  exact ⟨rfl, ba (ba (Below.refl _ _) _) _⟩
theorem apart_core (X Y D N p1 p2 u v : Int) (w : World) (HU : Hid (u = p1 * D - X)) (HV : Hid (v = p2 * D - Y)) (h1 : IntKind.i64.wrap (p1 * D) = p1 * D) (h2 : IntKind.i64.wrap (p2 * D) = p2 * D) (h3 : IntKind.i64.wrap (p1 * D - X) = u) (h4 : IntKind.i64.wrap (p2 * D - Y) = v)
    (HA : Hid (∀ W : World, Calls Try.prog 54 #[.agg #[.int .i64 u, .int .i64 v], .agg #[.int .i64 u, .int .i64 v]] W fun e w' => e = .returned (.int .i64 (u * u + v * v)) ∧ Below W.heap.size W w')) :
    Calls Try.prog 66 #[.agg #[.int .i64 X, .int .i64 Y, .int .i64 D, .int .i64 N], .agg #[.int .i64 p1, .int .i64 p2]] w fun e w' => e = .returned (.int .i64 (u * u + v * v)) ∧ Below w.heap.size w w' := by
  go_enter Try.func66, Try.ntmps66
  go_wp2_with fail
  refine (unhide HA _).mono ?_
  rintro e W1 ⟨rfl, hb1⟩
  go_wp2_with fail
  go_ret
  exact ⟨rfl, bc (ba (ba (ba (Below.refl _ _) _) _) _) hb1⟩
theorem apart_any (c : Ic) (p : Pt) (w : World) (h : NrS (c.X, c.Y, c.D)) (hp : Nr1 p) :
    Calls Try.prog 66 #[icV c, .agg #[.int .i64 p.1, .int .i64 p.2]] w fun e w' => e = .returned (.int .i64 (apt c p)) ∧ Below w.heap.size w w' := by
  have b := way_bd h hp
  have := h.x1
  have := h.x2
  have := h.y1
  have := h.y2
  simp only at *
  exact apart_core c.X c.Y c.D c.N p.1 p.2 (p.1 * c.D - c.X) (p.2 * c.D - c.Y) w (hide rfl) (hide rfl) (wr64 (by omega) (by omega)) (wr64 (by omega) (by omega)) (wr64 (by omega) (by omega)) (wr64 (by omega) (by omega)) (hide fun W => alongW _ _ _ _ W (by omega) (by omega))
/-- the model's circle: Count, A, B, C, X, Y, D, N -/
def rgV (n a b d : Int) (c : Ic) : Value := .agg #[.int .i64 n, .int .i64 a, .int .i64 b, .int .i64 d, .int .i64 c.X, .int .i64 c.Y, .int .i64 c.D, .int .i64 c.N]
set_option maxHeartbeats 2000000 in
set_option maxRecDepth 100000 in
theorem circM_core (x y d p1 p2 X Y D u v uu vv n : Int) (w : World) (h1 : IntKind.i64.wrap (p1 * D) = p1 * D) (h2 : IntKind.i64.wrap (p2 * D) = p2 * D) (h3 : IntKind.i64.wrap (p1 * D - X) = u) (h4 : IntKind.i64.wrap (p2 * D - Y) = v)
    (h5 : IntKind.i64.wrap (u * u) = uu) (h6 : IntKind.i64.wrap (v * v) = vv) (h7 : IntKind.i64.wrap (uu + vv) = n)
    (HS : Hid (∀ W : World, Calls Try.prog 70 #[.int .i64 x, .int .i64 y, .int .i64 d] W fun e w' => e = .returned (.agg #[.int .i64 X, .int .i64 Y, .int .i64 D]) ∧ Below W.heap.size W w')) :
    Calls Try.prog 42 #[.int .i64 x, .int .i64 y, .int .i64 d, .agg #[.int .i64 p1, .int .i64 p2]] w fun e w' => e = .returned (.agg #[.int .i64 0, .int .i64 0, .int .i64 0, .int .i64 0, .int .i64 X, .int .i64 Y, .int .i64 D, .int .i64 n]) ∧ Below w.heap.size w w' := by
  have HB0 : Hid (Below w.heap.size w ((w.alloc (.cells #[.int .i64 p1, .int .i64 p2] 30)).alloc (.cells #[.int .i64 0, .int .i64 0, .int .i64 0, .int .i64 0, .int .i64 0, .int .i64 0, .int .i64 0, .int .i64 0] 34))) := hide (ba (ba (Below.refl _ _) _) _)
  have H7 : Hid (iblk ((w.alloc (.cells #[.int .i64 p1, .int .i64 p2] 30)).alloc (.cells #[.int .i64 0, .int .i64 0, .int .i64 0, .int .i64 0, .int .i64 0, .int .i64 0, .int .i64 0, .int .i64 0] 34)) w.heap.size 30 [p1, p2]) := hide ((iblk_new w 30 [p1, p2]).bel (ba (Below.refl _ _) _))
  have H8 : Hid (iblk ((w.alloc (.cells #[.int .i64 p1, .int .i64 p2] 30)).alloc (.cells #[.int .i64 0, .int .i64 0, .int .i64 0, .int .i64 0, .int .i64 0, .int .i64 0, .int .i64 0, .int .i64 0] 34)) (w.heap.size + 1) 34 [0, 0, 0, 0, 0, 0, 0, 0]) := hide (by
    have h := iblk_new (w.alloc (.cells #[.int .i64 p1, .int .i64 p2] 30)) 34 [0, 0, 0, 0, 0, 0, 0, 0]
    have e : (w.alloc (.cells #[.int .i64 p1, .int .i64 p2] 30)).heap.size = w.heap.size + 1 := by simp
    rw [e] at h
    exact h)
  go_enter Try.func42, Try.ntmps42
  go_wp2_with fail
  generalize (w.alloc (.cells #[.int .i64 p1, .int .i64 p2] 30)).alloc (.cells #[.int .i64 0, .int .i64 0, .int .i64 0, .int .i64 0, .int .i64 0, .int .i64 0, .int .i64 0, .int .i64 0] 34) = W0 at *
  refine (unhide HS _).mono ?_
  rintro e W1 ⟨rfl, hb1⟩
  have H7a := hide ((unhide H7).bel hb1)
  have H8a := hide ((unhide H8).bel hb1)
  have HB1 := hide (bc (unhide HB0) hb1)
  have l7 := (unhide H7a).lt
  have l8 := (unhide H8a).lt
  have c0 := (unhide H7a).cell (m := 0) rfl
  have c1 := (unhide H7a).cell (m := 1) rfl
  have o0 := (unhide H8a).cell (m := 0) rfl
  have o1 := (unhide H8a).cell (m := 1) rfl
  have o2 := (unhide H8a).cell (m := 2) rfl
  have o3 := (unhide H8a).cell (m := 3) rfl
  have o4 := (unhide H8a).cell (m := 4) rfl
  have o5 := (unhide H8a).cell (m := 5) rfl
  have o6 := (unhide H8a).cell (m := 6) rfl
  have o7 := (unhide H8a).cell (m := 7) rfl
  have f8 := (unhide H8a).frozen
  clear hb1 H7 H8
  go_wp2_with fail
  have V := ((((((((unhide H8a).set 0 0).set 1 0).set 2 0).set 3 0).set 4 X).set 5 Y).set 6 D).set 7 n
  have hBV : Below w.heap.size w ((((((((W1.setCell ⟨w.heap.size + 1, 0, none⟩ (.int .i64 0)).setCell ⟨w.heap.size + 1, 1, none⟩ (.int .i64 0)).setCell ⟨w.heap.size + 1, 2, none⟩ (.int .i64 0)).setCell ⟨w.heap.size + 1, 3, none⟩ (.int .i64 0)).setCell ⟨w.heap.size + 1, 4, none⟩ (.int .i64 X)).setCell ⟨w.heap.size + 1, 5, none⟩ (.int .i64 Y)).setCell ⟨w.heap.size + 1, 6, none⟩ (.int .i64 D)).setCell ⟨w.heap.size + 1, 7, none⟩ (.int .i64 n)) :=
    Below.setCell (Below.setCell (Below.setCell (Below.setCell (Below.setCell (Below.setCell (Below.setCell (Below.setCell (unhide HB1) (Nat.le_succ _) _) (Nat.le_succ _) _) (Nat.le_succ _) _) (Nat.le_succ _) _) (Nat.le_succ _) _) (Nat.le_succ _) _) (Nat.le_succ _) _) (Nat.le_succ _) _
  generalize ((((((((W1.setCell ⟨w.heap.size + 1, 0, none⟩ (.int .i64 0)).setCell ⟨w.heap.size + 1, 1, none⟩ (.int .i64 0)).setCell ⟨w.heap.size + 1, 2, none⟩ (.int .i64 0)).setCell ⟨w.heap.size + 1, 3, none⟩ (.int .i64 0)).setCell ⟨w.heap.size + 1, 4, none⟩ (.int .i64 X)).setCell ⟨w.heap.size + 1, 5, none⟩ (.int .i64 Y)).setCell ⟨w.heap.size + 1, 6, none⟩ (.int .i64 D)).setCell ⟨w.heap.size + 1, 7, none⟩ (.int .i64 n)) = W9 at *
  have V2 : iblk ((W9.alloc (.cells #[.int .i64 X, .int .i64 Y, .int .i64 D] 70)).alloc (.cells #[.int .i64 0, .int .i64 0, .int .i64 0, .int .i64 0, .int .i64 X, .int .i64 Y, .int .i64 D, .int .i64 n] 34)) (w.heap.size + 1) 34 _ := V.bel (ba (ba (Below.refl _ _) _) _)
  have hB2 : Below w.heap.size w ((W9.alloc (.cells #[.int .i64 X, .int .i64 Y, .int .i64 D] 70)).alloc (.cells #[.int .i64 0, .int .i64 0, .int .i64 0, .int .i64 0, .int .i64 X, .int .i64 Y, .int .i64 D, .int .i64 n] 34)) := ba (ba hBV _) _
  have s0 := V2.cell (m := 0) rfl
  have s1 := V2.cell (m := 1) rfl
  have s2 := V2.cell (m := 2) rfl
  have s3 := V2.cell (m := 3) rfl
  have s4 := V2.cell (m := 4) rfl
  have s5 := V2.cell (m := 5) rfl
  have s6 := V2.cell (m := 6) rfl
  have s7 := V2.cell (m := 7) rfl
  have ls := V2.lt
  generalize ((W9.alloc (.cells #[.int .i64 X, .int .i64 Y, .int .i64 D] 70)).alloc (.cells #[.int .i64 0, .int .i64 0, .int .i64 0, .int .i64 0, .int .i64 X, .int .i64 Y, .int .i64 D, .int .i64 n] 34)) = W10 at *
  refine bodyPost_ret (v := .agg #[.int .i64 0, .int .i64 0, .int .i64 0, .int .i64 0, .int .i64 X, .int .i64 Y, .int .i64 D, .int .i64 n]) (by simp [results, Try.results42, go_sem, s0, s1, s2, s3, s4, s5, s6, s7, ls]) rfl ⟨rfl, ?_⟩
  exact hB2
end Go.Proofs.Ytdcecfgmfmpeeaa

namespace Go.Proofs.Ytdcecfgmfmpeeaa
open Go.ChangeShapes Go.WideShapes Go.ChangeAt Go.RowKit
set_option linter.unusedVariables false
set_option linter.unusedSimpArgs false

theorem red_nr {x y d : Int} (hx : -400000000 ≤ x ∧ x ≤ 400000000) (hy : -400000000 ≤ y ∧ y ≤ 400000000) (hd : 0 < d ∧ d ≤ 640000) : NrS (red x y d) := by
  obtain ⟨g, hg, ex, ey, ed, hD, hc⟩ := red_facts x y d hd.1
  have b1 := tdiv_bd x (redG x y d) 400000000 (by omega) (by omega)
  have b2 := tdiv_bd y (redG x y d) 400000000 (by omega) (by omega)
  have b3 := tdiv_bd d (redG x y d) 640000 (by omega) (by omega)
  exact ⟨b1.1, b1.2, b2.1, b2.2, hD, b3.2⟩
theorem redM_nr {x y d : Int} (hx : -400000000 ≤ x ∧ x ≤ 400000000) (hy : -400000000 ≤ y ∧ y ≤ 400000000) (hd : d ≠ 0 ∧ -640000 ≤ d ∧ d ≤ 640000) : NrS (redM x y d) := by
  unfold redM
  split
  · exact red_nr (by omega) (by omega) (by omega)
  · exact red_nr (by omega) (by omega) (by omega)
theorem circM_any (x y d : Int) (p : Pt) (w : World) (hx : -400000000 ≤ x ∧ x ≤ 400000000) (hy : -400000000 ≤ y ∧ y ≤ 400000000) (hd : d ≠ 0 ∧ -640000 ≤ d ∧ d ≤ 640000) (hp : Nr1 p) :
    Calls Try.prog 42 #[.int .i64 x, .int .i64 y, .int .i64 d, .agg #[.int .i64 p.1, .int .i64 p.2]] w fun e w' => e = .returned (rgV 0 0 0 0 (cir (redM x y d) p)) ∧ Below w.heap.size w w' := by
  have h := redM_nr hx hy hd
  have b := way_bd h hp
  have := h.x1
  have := h.x2
  have := h.y1
  have := h.y2
  have m1 := mulB (x := p.1 * (redM x y d).2.2 - (redM x y d).1) (y := p.1 * (redM x y d).2.2 - (redM x y d).1) (a := 600000000) (b := 600000000) (by omega) (by omega) (by omega) (by omega)
  have m2 := mulB (x := p.2 * (redM x y d).2.2 - (redM x y d).2.1) (y := p.2 * (redM x y d).2.2 - (redM x y d).2.1) (a := 600000000) (b := 600000000) (by omega) (by omega) (by omega) (by omega)
  exact circM_core x y d p.1 p.2 (redM x y d).1 (redM x y d).2.1 (redM x y d).2.2 (p.1 * (redM x y d).2.2 - (redM x y d).1) (p.2 * (redM x y d).2.2 - (redM x y d).2.1) _ _ _ w (wr64 (by omega) (by omega)) (wr64 (by omega) (by omega)) (wr64 (by omega) (by omega)) (wr64 (by omega) (by omega)) (wr64 (by omega) (by omega)) (wr64 (by omega) (by omega)) (wr64 (by omega) (by omega)) (hide fun W => spotM x y d W hd.1 (by omega) (by omega) (by omega))
theorem sharpM_core (a1 a2 b1 b2 c1 c2 : Int) (t : Bool) (w : World) (h1 : IntKind.i64.wrap (b1 - a1) = b1 - a1) (h2 : IntKind.i64.wrap (c1 - a1) = c1 - a1) (h3 : IntKind.i64.wrap (b2 - a2) = b2 - a2) (h4 : IntKind.i64.wrap (c2 - a2) = c2 - a2)
    (h5 : IntKind.i64.wrap ((b1 - a1) * (c1 - a1)) = (b1 - a1) * (c1 - a1)) (h6 : IntKind.i64.wrap ((b2 - a2) * (c2 - a2)) = (b2 - a2) * (c2 - a2)) (h7 : IntKind.i64.wrap ((b1 - a1) * (c1 - a1) + (b2 - a2) * (c2 - a2)) = (b1 - a1) * (c1 - a1) + (b2 - a2) * (c2 - a2)) (ht : decide (0 ≤ (b1 - a1) * (c1 - a1) + (b2 - a2) * (c2 - a2)) = t) :
    Calls Try.prog 71 #[.agg #[.int .i64 a1, .int .i64 a2], .agg #[.int .i64 b1, .int .i64 b2], .agg #[.int .i64 c1, .int .i64 c2]] w fun e w' => e = .returned (.bool t) ∧ Below w.heap.size w w' := by
  go_enter Try.func71, Try.ntmps71
  go_wp2_with fail
  go_ret
  refine ⟨?_, ba (ba (ba (Below.refl _ _) _) _) _⟩
  simp only [← ht]
  first | rfl | (congr 1; simp [Int.not_lt])
theorem sharpM_any (a b c : Pt) (w : World) (ha : Nr1 a) (hb : Nr1 b) (hc : Nr1 c) :
    Calls Try.prog 71 #[.agg #[.int .i64 a.1, .int .i64 a.2], .agg #[.int .i64 b.1, .int .i64 b.2], .agg #[.int .i64 c.1, .int .i64 c.2]] w fun e w' => e = .returned (.bool (decide (0 ≤ dt a b c))) ∧ Below w.heap.size w w' := by
  obtain ⟨a1, a2, a3, a4⟩ := ha
  obtain ⟨b1, b2, b3, b4⟩ := hb
  obtain ⟨c1, c2, c3, c4⟩ := hc
  have m1 := mulB (x := b.1 - a.1) (y := c.1 - a.1) (a := 400) (b := 400) (by omega) (by omega) (by omega) (by omega)
  have m2 := mulB (x := b.2 - a.2) (y := c.2 - a.2) (a := 400) (b := 400) (by omega) (by omega) (by omega) (by omega)
  exact sharpM_core a.1 a.2 b.1 b.2 c.1 c.2 _ w (wr64 (by omega) (by omega)) (wr64 (by omega) (by omega)) (wr64 (by omega) (by omega)) (wr64 (by omega) (by omega)) (wr64 (by omega) (by omega)) (wr64 (by omega) (by omega)) (wr64 (by omega) (by omega)) rfl
set_option maxHeartbeats 2000000 in
set_option maxRecDepth 100000 in
theorem pairM_core (a1 a2 b1 b2 X Y D n : Int) (w : World) (h1 : IntKind.i64.wrap (a1 + b1) = a1 + b1) (h2 : IntKind.i64.wrap (a2 + b2) = a2 + b2)
    (HS : Hid (∀ W : World, Calls Try.prog 42 #[.int .i64 (a1 + b1), .int .i64 (a2 + b2), .int .i64 2, .agg #[.int .i64 a1, .int .i64 a2]] W fun e w' => e = .returned (.agg #[.int .i64 0, .int .i64 0, .int .i64 0, .int .i64 0, .int .i64 X, .int .i64 Y, .int .i64 D, .int .i64 n]) ∧ Below W.heap.size W w')) :
    Calls Try.prog 43 #[.agg #[.int .i64 a1, .int .i64 a2], .agg #[.int .i64 b1, .int .i64 b2]] w fun e w' => e = .returned (.agg #[.int .i64 0, .int .i64 0, .int .i64 0, .int .i64 0, .int .i64 X, .int .i64 Y, .int .i64 D, .int .i64 n]) ∧ Below w.heap.size w w' := by
  have HB0 : Hid (Below w.heap.size w (((w.alloc (.cells #[.int .i64 a1, .int .i64 a2] 30)).alloc (.cells #[.int .i64 b1, .int .i64 b2] 30)).alloc (.cells #[.int .i64 0, .int .i64 0, .int .i64 0, .int .i64 0, .int .i64 0, .int .i64 0, .int .i64 0, .int .i64 0] 34))) := hide (ba (ba (ba (Below.refl _ _) _) _) _)
  have H8 : Hid (iblk (((w.alloc (.cells #[.int .i64 a1, .int .i64 a2] 30)).alloc (.cells #[.int .i64 b1, .int .i64 b2] 30)).alloc (.cells #[.int .i64 0, .int .i64 0, .int .i64 0, .int .i64 0, .int .i64 0, .int .i64 0, .int .i64 0, .int .i64 0] 34)) (w.heap.size + 1 + 1) 34 [0, 0, 0, 0, 0, 0, 0, 0]) := hide (by
    have h := iblk_new ((w.alloc (.cells #[.int .i64 a1, .int .i64 a2] 30)).alloc (.cells #[.int .i64 b1, .int .i64 b2] 30)) 34 [0, 0, 0, 0, 0, 0, 0, 0]
    have e : ((w.alloc (.cells #[.int .i64 a1, .int .i64 a2] 30)).alloc (.cells #[.int .i64 b1, .int .i64 b2] 30)).heap.size = w.heap.size + 1 + 1 := by simp
    rw [e] at h
    exact h)
  go_enter Try.func43, Try.ntmps43
  go_wp2_with fail
  generalize (((w.alloc (.cells #[.int .i64 a1, .int .i64 a2] 30)).alloc (.cells #[.int .i64 b1, .int .i64 b2] 30)).alloc (.cells #[.int .i64 0, .int .i64 0, .int .i64 0, .int .i64 0, .int .i64 0, .int .i64 0, .int .i64 0, .int .i64 0] 34)) = W0 at *
  refine (unhide HS _).mono ?_
  rintro e W1 ⟨rfl, hb1⟩
  have H8a := hide ((unhide H8).bel hb1)
  have HB1 := hide (bc (unhide HB0) hb1)
  have l8 := (unhide H8a).lt
  have o0 := (unhide H8a).cell (m := 0) rfl
  have o1 := (unhide H8a).cell (m := 1) rfl
  have o2 := (unhide H8a).cell (m := 2) rfl
  have o3 := (unhide H8a).cell (m := 3) rfl
  have o4 := (unhide H8a).cell (m := 4) rfl
  have o5 := (unhide H8a).cell (m := 5) rfl
  have o6 := (unhide H8a).cell (m := 6) rfl
  have o7 := (unhide H8a).cell (m := 7) rfl
  have f8 := (unhide H8a).frozen
  clear hb1 H8
  go_wp2_with fail
  have V := ((((((((unhide H8a).set 0 0).set 1 0).set 2 0).set 3 0).set 4 X).set 5 Y).set 6 D).set 7 n
  have h2n : w.heap.size ≤ w.heap.size + 1 + 1 := by omega
  have hBV : Below w.heap.size w ((((((((W1.setCell ⟨w.heap.size + 1 + 1, 0, none⟩ (.int .i64 0)).setCell ⟨w.heap.size + 1 + 1, 1, none⟩ (.int .i64 0)).setCell ⟨w.heap.size + 1 + 1, 2, none⟩ (.int .i64 0)).setCell ⟨w.heap.size + 1 + 1, 3, none⟩ (.int .i64 0)).setCell ⟨w.heap.size + 1 + 1, 4, none⟩ (.int .i64 X)).setCell ⟨w.heap.size + 1 + 1, 5, none⟩ (.int .i64 Y)).setCell ⟨w.heap.size + 1 + 1, 6, none⟩ (.int .i64 D)).setCell ⟨w.heap.size + 1 + 1, 7, none⟩ (.int .i64 n)) :=
    Below.setCell (Below.setCell (Below.setCell (Below.setCell (Below.setCell (Below.setCell (Below.setCell (Below.setCell (unhide HB1) h2n _) h2n _) h2n _) h2n _) h2n _) h2n _) h2n _) h2n _
  have s0 := V.cell (m := 0) rfl
  have s1 := V.cell (m := 1) rfl
  have s2 := V.cell (m := 2) rfl
  have s3 := V.cell (m := 3) rfl
  have s4 := V.cell (m := 4) rfl
  have s5 := V.cell (m := 5) rfl
  have s6 := V.cell (m := 6) rfl
  have s7 := V.cell (m := 7) rfl
  generalize ((((((((W1.setCell ⟨w.heap.size + 1 + 1, 0, none⟩ (.int .i64 0)).setCell ⟨w.heap.size + 1 + 1, 1, none⟩ (.int .i64 0)).setCell ⟨w.heap.size + 1 + 1, 2, none⟩ (.int .i64 0)).setCell ⟨w.heap.size + 1 + 1, 3, none⟩ (.int .i64 0)).setCell ⟨w.heap.size + 1 + 1, 4, none⟩ (.int .i64 X)).setCell ⟨w.heap.size + 1 + 1, 5, none⟩ (.int .i64 Y)).setCell ⟨w.heap.size + 1 + 1, 6, none⟩ (.int .i64 D)).setCell ⟨w.heap.size + 1 + 1, 7, none⟩ (.int .i64 n)) = W9 at *
  refine bodyPost_ret (v := .agg #[.int .i64 0, .int .i64 0, .int .i64 0, .int .i64 0, .int .i64 X, .int .i64 Y, .int .i64 D, .int .i64 n]) (by simp [results, Try.results43, go_sem, s0, s1, s2, s3, s4, s5, s6, s7]) rfl ⟨rfl, ?_⟩
  exact hBV
theorem pairM_any (a b : Pt) (w : World) (ha : Nr1 a) (hb : Nr1 b) :
    Calls Try.prog 43 #[.agg #[.int .i64 a.1, .int .i64 a.2], .agg #[.int .i64 b.1, .int .i64 b.2]] w fun e w' => e = .returned (rgV 0 0 0 0 (thr [a, b])) ∧ Below w.heap.size w w' := by
  have hp := ha
  obtain ⟨a1, a2, a3, a4⟩ := ha
  obtain ⟨b1, b2, b3, b4⟩ := hb
  have h := pairM_core a.1 a.2 b.1 b.2 (cir (redM (a.1 + b.1) (a.2 + b.2) 2) a).X (cir (redM (a.1 + b.1) (a.2 + b.2) 2) a).Y (cir (redM (a.1 + b.1) (a.2 + b.2) 2) a).D (cir (redM (a.1 + b.1) (a.2 + b.2) 2) a).N w (wr64 (by omega) (by omega)) (wr64 (by omega) (by omega)) (hide fun W => circM_any (a.1 + b.1) (a.2 + b.2) 2 a W (by omega) (by omega) (by omega) hp)
  have e : cir (redM (a.1 + b.1) (a.2 + b.2) 2) a = thr [a, b] := by
    unfold redM
    rw [if_neg (by omega)]
    rfl
  rw [e] at h
  exact h
end Go.Proofs.Ytdcecfgmfmpeeaa

namespace Go.Proofs.Ytdcecfgmfmpeeaa
open Go.ChangeShapes Go.WideShapes Go.ChangeAt Go.RowKit
set_option linter.unusedVariables false
set_option linter.unusedSimpArgs false

def hasB (L : List Pt) (c : Ic) : Bool := L.all fun q => decide (apt c q ≤ c.N)
theorem apt_w {c : Ic} {x y : Int} (h : NrS (c.X, c.Y, c.D)) (hp : Nr1 (x, y)) : IntKind.i64.wrap (x * c.D) = x * c.D ∧ IntKind.i64.wrap (y * c.D) = y * c.D ∧ IntKind.i64.wrap (x * c.D - c.X) = x * c.D - c.X ∧ IntKind.i64.wrap (y * c.D - c.Y) = y * c.D - c.Y ∧ IntKind.i64.wrap ((x * c.D - c.X) * (x * c.D - c.X)) = (x * c.D - c.X) * (x * c.D - c.X) ∧ IntKind.i64.wrap ((y * c.D - c.Y) * (y * c.D - c.Y)) = (y * c.D - c.Y) * (y * c.D - c.Y) ∧ IntKind.i64.wrap ((x * c.D - c.X) * (x * c.D - c.X) + (y * c.D - c.Y) * (y * c.D - c.Y)) = (x * c.D - c.X) * (x * c.D - c.X) + (y * c.D - c.Y) * (y * c.D - c.Y) := by
  have b := way_bd h hp
  have := h.x1
  have := h.x2
  have := h.y1
  have := h.y2
  simp only at *
  have m1 := mulB (x := x * c.D - c.X) (y := x * c.D - c.X) (a := 600000000) (b := 600000000) (by omega) (by omega) (by omega) (by omega)
  have m2 := mulB (x := y * c.D - c.Y) (y := y * c.D - c.Y) (a := 600000000) (b := 600000000) (by omega) (by omega) (by omega) (by omega)
  exact ⟨wr64 (by omega) (by omega), wr64 (by omega) (by omega), wr64 (by omega) (by omega), wr64 (by omega) (by omega), wr64 (by omega) (by omega), wr64 (by omega) (by omega), wr64 (by omega) (by omega)⟩
set_option maxHeartbeats 4000000 in
set_option maxRecDepth 100000 in
theorem hasM_core (b cap n : Nat) (L : List Pt) (q a d f X Y D N : Int) (w : World) (HL : Hid (L.length = n)) (hn : n ≤ 4611686018427387904) (hb : b < w.heap.size) (HI : Hid (IntsAt w b 0 (flat2 L)))
    (HW : Hid (∀ x y : Int, (x, y) ∈ L → IntKind.i64.wrap (x * D) = x * D ∧ IntKind.i64.wrap (y * D) = y * D ∧ IntKind.i64.wrap (x * D - X) = x * D - X ∧ IntKind.i64.wrap (y * D - Y) = y * D - Y ∧ IntKind.i64.wrap ((x * D - X) * (x * D - X)) = (x * D - X) * (x * D - X) ∧ IntKind.i64.wrap ((y * D - Y) * (y * D - Y)) = (y * D - Y) * (y * D - Y) ∧ IntKind.i64.wrap ((x * D - X) * (x * D - X) + (y * D - Y) * (y * D - Y)) = (x * D - X) * (x * D - X) + (y * D - Y) * (y * D - Y))) :
    Calls Try.prog 44 #[.slice (some ⟨b, 0, none⟩) n cap, .agg #[.int .i64 q, .int .i64 a, .int .i64 d, .int .i64 f, .int .i64 X, .int .i64 Y, .int .i64 D, .int .i64 N]] w fun e w' => e = .returned (.bool (hasB L ⟨X, Y, D, N⟩)) ∧ Below w.heap.size w w' := by
  have HB0 := hide (ba (Below.refl w.heap.size w) (.cells #[.int .i64 q, .int .i64 a, .int .i64 d, .int .i64 f, .int .i64 X, .int .i64 Y, .int .i64 D, .int .i64 N] 34))
  have H3 := hide (iblk_new w 34 [q, a, d, f, X, Y, D, N])
  have HI1 := hide ((unhide HI).below (unhide HB0) hb)
  go_enter Try.func44, Try.ntmps44
  go_wp2_with fail
  have H3' : Hid (iblk (w.alloc (.cells #[.int .i64 q, .int .i64 a, .int .i64 d, .int .i64 f, .int .i64 X, .int .i64 Y, .int .i64 D, .int .i64 N] 34)) w.heap.size 34 [q, a, d, f, X, Y, D, N]) := H3
  clear H3
  generalize w.alloc (.cells #[.int .i64 q, .int .i64 a, .int .i64 d, .int .i64 f, .int .i64 X, .int .i64 Y, .int .i64 D, .int .i64 N] 34) = W0 at *
  go_loopw [5] (fun z V => ∃ i : Nat, z = .int .i64 (i : Int) ∧ i ≤ n ∧ (∀ j p, j < i → L[j]? = some p → apt ⟨X, Y, D, N⟩ p ≤ N) ∧ Same W0 V) (fun z _ => n - (intOf z).toNat)
  case atStart => exact ⟨0, rfl, Nat.zero_le _, fun j p h => by omega, Same.refl _⟩
  case round =>
    obtain ⟨i, rfl, hi, hall, hs⟩ := hrel
    have HA := hide hall
    have HS := hide hs
    by_cases h : i < n
    · have i1 : (i : Int) < (n : Int) := by omega
      have i0 : (0 : Int) ≤ (i : Int) := Int.natCast_nonneg _
      have iz : decide ((i : Int) < (n : Int)) = true := decide_eq_true i1
      obtain ⟨⟨x, y⟩, hx⟩ : ∃ q, L[i]? = some q := ⟨_, List.getElem?_eq_getElem (by rw [unhide HL]; omega)⟩
      obtain ⟨c0, c1⟩ := pts_at (unhide HI1) hx
      obtain ⟨w1, w2, w3, w4, w5, w6, w7⟩ := unhide HW x y (List.mem_of_getElem? hx)
      have k4 := (unhide H3').cell (m := 4) rfl
      have k5 := (unhide H3').cell (m := 5) rfl
      have k6 := (unhide H3').cell (m := 6) rfl
      have k7 := (unhide H3').cell (m := 7) rfl
      rw [← hs.cell] at c0 c1 k4 k5 k6 k7
      have HX := hide hx
      have HE : Hid (apt ⟨X, Y, D, N⟩ (x, y) = (x * D - X) * (x * D - X) + (y * D - Y) * (y * D - Y)) := hide rfl
      clear hall hs hx
      by_cases g : N < (x * D - X) * (x * D - X) + (y * D - Y) * (y * D - Y)
      · have t1 := decide_eq_true g
        have HR : Hid (hasB L ⟨X, Y, D, N⟩ = false) := hide (by
          unfold hasB
          rw [List.all_eq_false]
          exact ⟨(x, y), List.mem_of_getElem? (unhide HX), by rw [unhide HE]; simp; exact g⟩)
        go_wp2_with fail
        go_quiet (fail)
        go_wp2_with fail
        go_quiet (fail)
        go_wp2_with fail
        go_ret
        refine ⟨ret_bool (unhide HR).symm, ?_⟩
        first | exact bc (unhide HB0) (Same.bel (sameDn (unhide HS) _)) | exact bc (unhide HB0) (Same.bel (sameDn (sameDn (unhide HS) _) _))
      · have t1 := decide_eq_false g
        have HN : Hid (∀ j p, j < i + 1 → L[j]? = some p → apt ⟨X, Y, D, N⟩ p ≤ N) := hide (fun j p hj hp => by
          by_cases e : j < i
          · exact unhide HA j p e hp
          · have e2 : j = i := by omega
            rw [e2, unhide HX] at hp
            have := Option.some.inj hp
            rw [← this, unhide HE]
            omega)
        have wi : IntKind.i64.wrap ((i : Int) + 1) = (i : Int) + 1 := wr64 (by omega) (by omega)
        go_wp2_with fail
        go_quiet (fail)
        go_wp2_with fail
        go_quiet (fail)
        go_wp2_with fail
        go_roundw
        case rel => exact ⟨i + 1, by simp, by omega, unhide HN, by first | exact sameDn (unhide HS) _ | exact sameDn (sameDn (unhide HS) _) _⟩
        case measure => simp only [intOf]; omega
    · have iz : decide ((i : Int) < (n : Int)) = false := decide_eq_false (by omega)
      have HR : Hid (hasB L ⟨X, Y, D, N⟩ = true) := hide (by
        unfold hasB
        rw [List.all_eq_true]
        intro p hp
        obtain ⟨j, hj, e⟩ := List.getElem_of_mem hp
        rw [decide_eq_true_eq]
        exact hall j p (by rw [unhide HL] at hj; omega) (by rw [List.getElem?_eq_getElem hj, e]))
      clear hall hs
      go_wp2_with fail
      go_ret
      exact ⟨ret_bool (unhide HR).symm, bc (unhide HB0) (unhide HS).bel⟩
theorem hasM_any (b cap n : Nat) (L : List Pt) (q a d f : Int) (c : Ic) (w : World) (hL : L.length = n) (hn : n ≤ 4611686018427387904) (hb : b < w.heap.size) (hI : IntsAt w b 0 (flat2 L)) (hc : NrS (c.X, c.Y, c.D)) (hN : ∀ p ∈ L, Nr1 p) :
    Calls Try.prog 44 #[.slice (some ⟨b, 0, none⟩) n cap, rgV q a d f c] w fun e w' => e = .returned (.bool (hasB L c)) ∧ Below w.heap.size w w' :=
  hasM_core b cap n L q a d f c.X c.Y c.D c.N w (hide hL) hn hb (hide hI) (hide fun x y h => apt_w hc (hN _ h))
end Go.Proofs.Ytdcecfgmfmpeeaa
