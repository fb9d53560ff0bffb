/-
  The smallest circle: what makes it the smallest, that there is but one, and how it grows by a point. Plain rationals. Circles in whole numbers: a centre as a spot, and the square of the radius in its parts. The smallest circle by growing: what the program's smallestCircle works out, in plain lists. smallestCircle is the smallest circle; at most three points on its rim tell it.
-/
import Derived.Test.YtdcecfgmfmpeeaaPlaneq
import Derived.Test.YtdcecfgmfmpeeaaHtaq
namespace Go.Proofs.Ytdcecfgmfmpeeaa
set_option linter.unusedVariables false
set_option linter.unusedSimpArgs false
theorem rsq (a : Rat) : 0 ≤ a * a := by
 by_cases h : 0 ≤ a
 ·exact Rat.mul_nonneg h h
 ·have := Rat.mul_nonneg (a := -a) (b := -a) (by grind) (by grind)
  grind
theorem rsq0 {a : Rat} (h : a * a ≤ 0) : a = 0 := by
 have := rsq a
 have h0 : a * a = 0 := by grind
 grind
theorem rneg {a b : Rat} (h : 0 < a) (h2 : a * b ≤ 0) : b ≤ 0 := by
 by_cases h3 : b ≤ 0
 ·exact h3
 ·have h4 : 0 < b := by grind
  have := Rat.mul_pos h h4
  grind
theorem rmul {a b : Rat} (h : 0 ≤ a) (h2 : b ≤ 0) : a * b ≤ 0 := by
 have := Rat.mul_nonneg h (show 0 ≤ -b by grind)
 grind
structure Ci where
 x : Rat
 y : Rat
 n : Rat
def pw (c : Ci) (p : Pt) : Rat := ((p.1 : Rat) - c.x) * ((p.1 : Rat) - c.x) + ((p.2 : Rat) - c.y) * ((p.2 : Rat) - c.y) - c.n
structure Fea (P R : List Pt) (c : Ci) : Prop where
 has : ∀ p ∈ P, pw c p ≤ 0
 rim : ∀ r ∈ R, pw c r = 0
def Cer (S R : List Pt) (c : Ci) : Prop := ∀ v w a : Rat, (∀ s ∈ S, v * (s.1 : Rat) + w * (s.2 : Rat) + a ≤ 0) → (∀ r ∈ R, v * (r.1 : Rat) + w * (r.2 : Rat) + a = 0) → v * c.x + w * c.y + a ≤ 0
structure Md (P R S : List Pt) (c : Ci) : Prop where
 fea : Fea P R c
 sub : ∀ s ∈ S, s ∈ P
 on : ∀ s ∈ S, pw c s = 0
 cer : Cer S R c
theorem Fea.sub {P P' R : List Pt} {c : Ci} (h : Fea P R c) (hs : ∀ p ∈ P', p ∈ P) : Fea P' R c := ⟨fun p hp => h.has p (hs p hp), h.rim⟩
theorem Md.least {P R S : List Pt} {c c' : Ci} (h : Md P R S c) (h' : Fea P R c') : c.n + ((c'.x - c.x) * (c'.x - c.x) + (c'.y - c.y) * (c'.y - c.y)) ≤ c'.n := by
 have h1 := h.cer (-2 * (c'.x - c.x)) (-2 * (c'.y - c.y)) ((c'.x * c'.x + c'.y * c'.y - c'.n) - (c.x * c.x + c.y * c.y - c.n)) (fun s hs => by
  have a := h'.has s (h.sub s hs)
  have b := h.on s hs
  unfold pw at a b
  grind) (fun r hr => by
  have a := h'.rim r hr
  have b := h.fea.rim r hr
  unfold pw at a b
  grind)
 grind
theorem Md.uniq {P R S S' : List Pt} {c c' : Ci} (h : Md P R S c) (h' : Md P R S' c') : c' = c := by
 have a := h.least h'.fea
 have b := h'.least h.fea
 have x2 := rsq (c'.x - c.x)
 have y2 := rsq (c'.y - c.y)
 have hx : c'.x - c.x = 0 := rsq0 (by grind)
 have hy : c'.y - c.y = 0 := rsq0 (by grind)
 rw [hx, hy] at a
 obtain ⟨cx, cy, cn⟩ := c
 obtain ⟨cx', cy', cn'⟩ := c'
 simp only [Ci.mk.injEq] at *
 refine ⟨by grind, by grind, by grind⟩
theorem Md.keep {P R S : List Pt} {c : Ci} {p : Pt} (h : Md P R S c) (hp : pw c p ≤ 0) : Md (P ++ [p]) R S c := by
 refine ⟨⟨fun q hq => ?_, h.fea.rim⟩, fun s hs => by simp [h.sub s hs], h.on, h.cer⟩
 rcases List.mem_append.1 hq with h1 | h1
 ·exact h.fea.has q h1
 ·rw [List.mem_singleton.1 h1]; exact hp
theorem Md.lift {P R S0 S1 : List Pt} {c0 c1 : Ci} {p : Pt} (h0 : Md P R S0 c0) (h1 : Md P (R ++ [p]) S1 c1) (hp : 0 < pw c0 p) : Md (P ++ [p]) R (p :: S1) c1 := by
 have hpz : pw c1 p = 0 := h1.fea.rim p (by simp)
 have hf : Fea P R c1 := ⟨h1.fea.has, fun r hr => h1.fea.rim r (by simp [hr])⟩
 refine ⟨⟨fun q hq => ?_, fun r hr => h1.fea.rim r (by simp [hr])⟩, fun s hs => ?_, fun s hs => ?_, fun v w a hS hR => ?_⟩
 ·rcases List.mem_append.1 hq with h | h
  ·exact h1.fea.has q h
  ·rw [List.mem_singleton.1 h, hpz]; exact Rat.le_refl
 ·rcases List.mem_cons.1 hs with h | h
  ·simp [h]
  ·simp [h1.sub s h]
 ·rcases List.mem_cons.1 hs with h | h
  ·rw [h]; exact hpz
  ·exact h1.on s h
 ·have hl := h0.least hf
  have x2 := rsq (c1.x - c0.x)
  have y2 := rsq (c1.y - c0.y)
  have lp := hS p (by simp)
  -- the one number that g is about
  generalize hg1 : -2 * (c0.x - c1.x) = gv at *
  generalize hg2 : -2 * (c0.y - c1.y) = gw at *
  generalize hg3 : (c0.x * c0.x + c0.y * c0.y - c0.n) - (c1.x * c1.x + c1.y * c1.y - c1.n) = ga at *
  generalize hL : v * (p.1 : Rat) + w * (p.2 : Rat) + a = Lp at *
  generalize hG : pw c0 p = G at *
  have hGp : gv * (p.1 : Rat) + gw * (p.2 : Rat) + ga = G := by
   rw [← hG]
   unfold pw at hpz ⊢
   grind
  have hgc : 0 ≤ gv * c1.x + gw * c1.y + ga := by
   have e : gv * c1.x + gw * c1.y + ga = ((c1.x - c0.x) * (c1.x - c0.x) + (c1.y - c0.y) * (c1.y - c0.y)) - c0.n + c1.n := by
    rw [← hg1, ← hg2, ← hg3]
    grind
   rw [e]
   clear e hg1 hg2 hg3 hL hGp hG hS hR lp
   grind
  have hq := h1.cer (G * v - Lp * gv) (G * w - Lp * gw) (G * a - Lp * ga) (fun s hs => ?_) (fun r hr => ?_)
  ·have e1 : G * (v * c1.x + w * c1.y + a) = (G * v - Lp * gv) * c1.x + (G * w - Lp * gw) * c1.y + (G * a - Lp * ga) + Lp * (gv * c1.x + gw * c1.y + ga) := by grind
   have e2 := rmul hgc lp
   refine rneg hp ?_
   rw [e1]
   grind
  ·have a1 := hS s (by simp [hs])
   have a2 := h0.fea.has s (h1.sub s hs)
   have a3 := h1.on s hs
   have e0 : gv * (s.1 : Rat) + gw * (s.2 : Rat) + ga = pw c0 s - pw c1 s := by
    unfold pw
    grind
   rw [a3] at e0
   have e1 : (G * v - Lp * gv) * (s.1 : Rat) + (G * w - Lp * gw) * (s.2 : Rat) + (G * a - Lp * ga) = G * (v * (s.1 : Rat) + w * (s.2 : Rat) + a) - Lp * (gv * (s.1 : Rat) + gw * (s.2 : Rat) + ga) := by grind
   rw [e1, e0]
   have m1 := rmul (Rat.le_of_lt hp) a1
   have m2 := Rat.mul_nonneg (show 0 ≤ -Lp by grind) (show 0 ≤ -(pw c0 s - 0) by grind)
   grind
  ·rcases List.mem_append.1 hr with h | h
   ·have a1 := hR r h
    have a2 := h0.fea.rim r h
    have a3 := h1.fea.rim r hr
    have e0 : gv * (r.1 : Rat) + gw * (r.2 : Rat) + ga = pw c0 r - pw c1 r := by
     unfold pw
     grind
    rw [a2, a3] at e0
    have e1 : (G * v - Lp * gv) * (r.1 : Rat) + (G * w - Lp * gw) * (r.2 : Rat) + (G * a - Lp * ga) = G * (v * (r.1 : Rat) + w * (r.2 : Rat) + a) - Lp * (gv * (r.1 : Rat) + gw * (r.2 : Rat) + ga) := by grind
    rw [e1, e0, a1]
    grind
   ·rw [List.mem_singleton.1 h]
    have e1 : (G * v - Lp * gv) * (p.1 : Rat) + (G * w - Lp * gw) * (p.2 : Rat) + (G * a - Lp * ga) = G * (v * (p.1 : Rat) + w * (p.2 : Rat) + a) - Lp * (gv * (p.1 : Rat) + gw * (p.2 : Rat) + ga) := by grind
    rw [e1, hGp, hL]
    grind
theorem Fea.mix {P R : List Pt} {c0 c' : Ci} {p : Pt} (h0 : Fea P R c0) (h' : Fea (P ++ [p]) R c') (hp : 0 < pw c0 p) : ∃ c, Fea P (R ++ [p]) c := by
 have hq : pw c' p ≤ 0 := h'.has p (by simp)
 have hd : 0 < pw c0 p - pw c' p := by grind
 have hd0 : pw c0 p - pw c' p ≠ 0 := by grind
 obtain ⟨t, ht⟩ : ∃ t : Rat, t * (pw c0 p - pw c' p) = pw c0 p := ⟨pw c0 p / (pw c0 p - pw c' p), Rat.div_mul_cancel hd0⟩
 have t0 : 0 ≤ t := by
  by_cases h : 0 ≤ t
  ·exact h
  ·have := Rat.mul_pos (show 0 < -t by grind) hd
   grind
 have t1 : 0 ≤ 1 - t := by
  by_cases h : 0 ≤ 1 - t
  ·exact h
  ·have := Rat.mul_pos (show 0 < t - 1 by grind) hd
   grind
 have key : ∀ q : Pt, pw ⟨(1 - t) * c0.x + t * c'.x, (1 - t) * c0.y + t * c'.y, ((1 - t) * c0.x + t * c'.x) * ((1 - t) * c0.x + t * c'.x) + ((1 - t) * c0.y + t * c'.y) * ((1 - t) * c0.y + t * c'.y) - ((1 - t) * (c0.x * c0.x + c0.y * c0.y - c0.n) + t * (c'.x * c'.x + c'.y * c'.y - c'.n))⟩ q = (1 - t) * pw c0 q + t * pw c' q := by
  intro q
  unfold pw
  grind
 refine ⟨⟨(1 - t) * c0.x + t * c'.x, (1 - t) * c0.y + t * c'.y, ((1 - t) * c0.x + t * c'.x) * ((1 - t) * c0.x + t * c'.x) + ((1 - t) * c0.y + t * c'.y) * ((1 - t) * c0.y + t * c'.y) - ((1 - t) * (c0.x * c0.x + c0.y * c0.y - c0.n) + t * (c'.x * c'.x + c'.y * c'.y - c'.n))⟩, ⟨fun q hq => ?_, fun r hr => ?_⟩⟩
 ·rw [key q]
  have a := rmul t1 (h0.has q hq)
  have b := rmul t0 (h'.has q (by simp [hq]))
  grind
 ·rw [key r]
  rcases List.mem_append.1 hr with h | h
  ·rw [h0.rim r h, h'.rim r h]
   grind
  ·rw [List.mem_singleton.1 h]
   grind
structure Ic where
 X : Int
 Y : Int
 D : Int
 N : Int
deriving DecidableEq
def aptS (s : Sp) (p : Pt) : Int := (p.1 * s.2.2 - s.1) * (p.1 * s.2.2 - s.1) + (p.2 * s.2.2 - s.2.1) * (p.2 * s.2.2 - s.2.1)
def apt (c : Ic) (p : Pt) : Int := aptS (c.X, c.Y, c.D) p
structure Is (c : Ic) (k : Ci) : Prop where
 pos : 0 < c.D
 ex : k.x * (c.D : Rat) = (c.X : Rat)
 ey : k.y * (c.D : Rat) = (c.Y : Rat)
 en : k.n * ((c.D : Rat) * (c.D : Rat)) = (c.N : Rat)
 cop : redG c.X c.Y c.D = 1
theorem Is.rpos {c : Ic} {k : Ci} (h : Is c k) : (0 : Rat) < (c.D : Rat) * (c.D : Rat) := by
 have h1 : (0 : Rat) < (c.D : Rat) := by have := Rat.intCast_lt_intCast.2 h.pos; simpa using this
 exact Rat.mul_pos h1 h1
theorem Is.pw {c : Ic} {k : Ci} (h : Is c k) (p : Pt) : pw k p * ((c.D : Rat) * (c.D : Rat)) = ((apt c p - c.N : Int) : Rat) := by
 have e1 := h.ex
 have e2 := h.ey
 have e3 := h.en
 unfold apt aptS Go.Proofs.Ytdcecfgmfmpeeaa.pw
 simp only [Rat.intCast_sub, Rat.intCast_add, Rat.intCast_mul]
 rw [← e1, ← e2, ← e3]
 grind
theorem Is.out {c : Ic} {k : Ci} (h : Is c k) (p : Pt) : 0 < Go.Proofs.Ytdcecfgmfmpeeaa.pw k p ↔ c.N < apt c p := by
 have e := h.pw p
 have hp := h.rpos
 constructor
 ·intro h1
  have := Rat.mul_pos h1 hp
  rw [e] at this
  have h2 : (0 : Int) < apt c p - c.N := Rat.intCast_lt_intCast.1 (by simpa using this)
  omega
 ·intro h1
  have h2 : (0 : Rat) < ((apt c p - c.N : Int) : Rat) := by
   have := Rat.intCast_lt_intCast.2 (show (0 : Int) < apt c p - c.N by omega)
   simpa using this
  rw [← e] at h2
  by_cases h3 : 0 < Go.Proofs.Ytdcecfgmfmpeeaa.pw k p
  ·exact h3
  ·have := rmul (Rat.le_of_lt hp) (show Go.Proofs.Ytdcecfgmfmpeeaa.pw k p ≤ 0 by grind)
   grind
theorem Is.onr {c : Ic} {k : Ci} (h : Is c k) (p : Pt) : Go.Proofs.Ytdcecfgmfmpeeaa.pw k p = 0 ↔ apt c p = c.N := by
 have e := h.pw p
 have hp := h.rpos
 constructor
 ·intro h1
  rw [h1, Rat.zero_mul] at e
  have : (apt c p - c.N : Int) = 0 := Rat.intCast_inj.1 (by simpa using e.symm)
  omega
 ·intro h1
  rw [h1, Int.sub_self] at e
  have e' : Go.Proofs.Ytdcecfgmfmpeeaa.pw k p * ((c.D : Rat) * (c.D : Rat)) = 0 := by simpa using e
  rcases Rat.mul_eq_zero.1 e' with h2 | h2
  ·exact h2
  ·grind
theorem Is.inn {c : Ic} {k : Ci} (h : Is c k) (p : Pt) : Go.Proofs.Ytdcecfgmfmpeeaa.pw k p ≤ 0 ↔ apt c p ≤ c.N := by
 have := h.out p
 constructor
 ·intro h1
  by_cases h2 : c.N < apt c p
  ·have := this.2 h2; grind
  ·omega
 ·intro h1
  by_cases h2 : 0 < Go.Proofs.Ytdcecfgmfmpeeaa.pw k p
  ·have := this.1 h2; omega
  ·grind
theorem red_facts (x y d : Int) (hd : 0 < d) : ∃ g : Int, 0 < g ∧ x = (red x y d).1 * g ∧ y = (red x y d).2.1 * g ∧ d = (red x y d).2.2 * g ∧ 0 < (red x y d).2.2 ∧ redG (red x y d).1 (red x y d).2.1 (red x y d).2.2 = 1 := by
 obtain ⟨g1, g2⟩ := redG_le x y d (by omega)
 have hx : redG x y d ∣ x.natAbs := Nat.dvd_trans (Nat.gcd_dvd_left _ _) (Nat.gcd_dvd_left _ _)
 have hy : redG x y d ∣ y.natAbs := Nat.dvd_trans (Nat.gcd_dvd_left _ _) (Nat.gcd_dvd_right _ _)
 have hdd : redG x y d ∣ d.natAbs := Nat.gcd_dvd_right _ _
 have ix : ((redG x y d : Nat) : Int) ∣ x := Int.natAbs_dvd_natAbs.1 (by rw [Int.natAbs_natCast]; exact hx)
 have iy : ((redG x y d : Nat) : Int) ∣ y := Int.natAbs_dvd_natAbs.1 (by rw [Int.natAbs_natCast]; exact hy)
 have id' : ((redG x y d : Nat) : Int) ∣ d := Int.natAbs_dvd_natAbs.1 (by rw [Int.natAbs_natCast]; exact hdd)
 have ex := (Int.tdiv_mul_cancel ix).symm
 have ey := (Int.tdiv_mul_cancel iy).symm
 have ed := (Int.tdiv_mul_cancel id').symm
 have hg : (0 : Int) < (redG x y d : Nat) := by omega
 have hD : 0 < d.tdiv (redG x y d : Nat) := by
  by_cases h : 0 < d.tdiv (redG x y d : Nat)
  ·exact h
  ·have := Int.mul_nonneg (show 0 ≤ -(d.tdiv (redG x y d : Nat)) by omega) (Int.le_of_lt hg)
   rw [Int.neg_mul, ← ed] at this
   omega
 refine ⟨(redG x y d : Nat), hg, ex, ey, ed, hD, ?_⟩
 show redG (x.tdiv (redG x y d : Nat)) (y.tdiv (redG x y d : Nat)) (d.tdiv (redG x y d : Nat)) = 1
 have hm : redG x y d = redG (x.tdiv (redG x y d : Nat)) (y.tdiv (redG x y d : Nat)) (d.tdiv (redG x y d : Nat)) * redG x y d := by
  have e : redG (x.tdiv (redG x y d : Nat) * (redG x y d : Nat)) (y.tdiv (redG x y d : Nat) * (redG x y d : Nat)) (d.tdiv (redG x y d : Nat) * (redG x y d : Nat)) = redG (x.tdiv (redG x y d : Nat)) (y.tdiv (redG x y d : Nat)) (d.tdiv (redG x y d : Nat)) * redG x y d := by
   generalize redG x y d = G
   unfold redG
   rw [Int.natAbs_mul, Int.natAbs_mul, Int.natAbs_mul, Int.natAbs_natCast, Nat.gcd_mul_right, Nat.gcd_mul_right]
  rw [← ex, ← ey, ← ed] at e
  exact e
 exact Nat.eq_of_mul_eq_mul_right g1 (by rw [Nat.one_mul]; exact hm.symm)
def cir (s : Sp) (p : Pt) : Ic := ⟨s.1, s.2.1, s.2.2, aptS s p⟩
theorem cir_is (x y d : Int) (p : Pt) (hd : 0 < d) : ∃ k : Ci, Is (cir (red x y d) p) k ∧ k.x * (d : Rat) = (x : Rat) ∧ k.y * (d : Rat) = (y : Rat) ∧ pw k p = 0 := by
 obtain ⟨g, hg, ex, ey, ed, hD, hc⟩ := red_facts x y d hd
 have rD : (0 : Rat) < ((red x y d).2.2 : Rat) := by have := Rat.intCast_lt_intCast.2 hD; simpa using this
 have rD0 : ((red x y d).2.2 : Rat) ≠ 0 := by grind
 obtain ⟨kx, hx⟩ : ∃ k : Rat, k * ((red x y d).2.2 : Rat) = ((red x y d).1 : Rat) := ⟨_, Rat.div_mul_cancel rD0⟩
 obtain ⟨ky, hy⟩ : ∃ k : Rat, k * ((red x y d).2.2 : Rat) = ((red x y d).2.1 : Rat) := ⟨_, Rat.div_mul_cancel rD0⟩
 have hI : Is (cir (red x y d) p) ⟨kx, ky, ((p.1 : Rat) - kx) * ((p.1 : Rat) - kx) + ((p.2 : Rat) - ky) * ((p.2 : Rat) - ky)⟩ := by
  refine ⟨hD, hx, hy, ?_, hc⟩
  show (((p.1 : Rat) - kx) * ((p.1 : Rat) - kx) + ((p.2 : Rat) - ky) * ((p.2 : Rat) - ky)) * (((red x y d).2.2 : Rat) * ((red x y d).2.2 : Rat)) = ((aptS (red x y d) p : Int) : Rat)
  unfold aptS
  simp only [Rat.intCast_sub, Rat.intCast_add, Rat.intCast_mul]
  rw [← hx, ← hy]
  grind
 have cx := congrArg (fun t : Int => (t : Rat)) ex
 have cy := congrArg (fun t : Int => (t : Rat)) ey
 have cd := congrArg (fun t : Int => (t : Rat)) ed
 simp only [Rat.intCast_mul] at cx cy cd
 refine ⟨_, hI, ?_, ?_, ?_⟩
 ·show kx * (d : Rat) = (x : Rat)
  rw [cx, cd, ← hx]
  grind
 ·show ky * (d : Rat) = (y : Rat)
  rw [cy, cd, ← hy]
  grind
 ·unfold pw
  grind
theorem Is.uniq {c c' : Ic} {k : Ci} (h : Is c k) (h' : Is c' k) : c = c' := by
 have hd : c.D ∣ c'.D ∧ c'.D ∣ c.D := by
  have key : ∀ a b : Ic, Is a k → Is b k → a.D ∣ b.D := by
   intro a b ha hb
   have x1 : a.X * b.D = b.X * a.D := by
    have h1 := ha.ex
    have h2 := hb.ex
    refine Rat.intCast_inj.1 ?_
    rw [Rat.intCast_mul, Rat.intCast_mul, ← h1, ← h2]
    grind
   have y1 : a.Y * b.D = b.Y * a.D := by
    have h1 := ha.ey
    have h2 := hb.ey
    refine Rat.intCast_inj.1 ?_
    rw [Rat.intCast_mul, Rat.intCast_mul, ← h1, ← h2]
    grind
   have dx : a.D.natAbs ∣ a.X.natAbs * b.D.natAbs := by rw [← Int.natAbs_mul, x1, Int.natAbs_mul]; exact Nat.dvd_mul_left _ _
   have dy : a.D.natAbs ∣ a.Y.natAbs * b.D.natAbs := by rw [← Int.natAbs_mul, y1, Int.natAbs_mul]; exact Nat.dvd_mul_left _ _
   have dd : a.D.natAbs ∣ a.D.natAbs * b.D.natAbs := Nat.dvd_mul_right _ _
   have := Nat.dvd_gcd (Nat.dvd_gcd dx dy) dd
   rw [Nat.gcd_mul_right, Nat.gcd_mul_right] at this
   have hc := ha.cop
   unfold redG at hc
   rw [hc, Nat.one_mul] at this
   exact Int.natAbs_dvd_natAbs.1 this
  exact ⟨key c c' h h', key c' c h' h⟩
 have hD : c.D = c'.D := Int.dvd_antisymm (Int.le_of_lt h.pos) (Int.le_of_lt h'.pos) hd.1 hd.2
 have hX : c.X = c'.X := Rat.intCast_inj.1 (by rw [← h.ex, ← h'.ex, hD])
 have hY : c.Y = c'.Y := Rat.intCast_inj.1 (by rw [← h.ey, ← h'.ey, hD])
 have hN : c.N = c'.N := Rat.intCast_inj.1 (by rw [← h.en, ← h'.en, hD])
 obtain ⟨a1, a2, a3, a4⟩ := c
 obtain ⟨b1, b2, b3, b4⟩ := c'
 simp only at hD hX hY hN
 rw [hD, hX, hY, hN]
def sq (p : Pt) : Int := p.1 * p.1 + p.2 * p.2
def ctr (a b c : Pt) : Sp :=
 red ((a.1 * (2 * side a b c) + (c.2 - a.2) * sq (sub b a) - (b.2 - a.2) * sq (sub c a)) * sgn (2 * side a b c))
  ((a.2 * (2 * side a b c) + (b.1 - a.1) * sq (sub c a) - (c.1 - a.1) * sq (sub b a)) * sgn (2 * side a b c))
  (2 * side a b c * sgn (2 * side a b c))
def thr : List Pt → Ic
 | [] => ⟨0, 0, 1, -1⟩
 | [a] => cir (red a.1 a.2 1) a
 | [a, b] => cir (red (a.1 + b.1) (a.2 + b.2) 2) a
 | a :: b :: c :: _ => cir (ctr a b c) a
def smcI (f : List Pt → List Pt → Ic) (P R : List Pt) : Nat → Ic
 | 0 => thr R
 | i + 1 => if (smcI f P R i).N < apt (smcI f P R i) (ptAt P i) then f (P.take i) (R ++ [ptAt P i]) else smcI f P R i
def smc : Nat → List Pt → List Pt → Ic
 | 0 => fun P R => thr R
 | k + 1 => fun P R => smcI (smc k) P R P.length
def Gd : List Pt → Prop
 | [a, b] => a ≠ b
 | a :: b :: c :: _ => side a b c ≠ 0
 | _ => True
theorem thr1 (a : Pt) : Is (thr [a]) ⟨a.1, a.2, 0⟩ ∧ Md [] [a] [] ⟨a.1, a.2, 0⟩ := by
 obtain ⟨k, hI, hx, hy, hp⟩ := cir_is a.1 a.2 1 a (by decide)
 have hx' : k.x = (a.1 : Rat) := by simpa using hx
 have hy' : k.y = (a.2 : Rat) := by simpa using hy
 have hk : k = ⟨a.1, a.2, 0⟩ := by
  obtain ⟨x, y, n⟩ := k
  simp only at hx' hy'
  unfold pw at hp
  simp only [Ci.mk.injEq]
  refine ⟨hx', hy', ?_⟩
  rw [hx', hy'] at hp
  grind
 rw [hk] at hI hp
 refine ⟨hI, ⟨⟨fun p h => (nomatch h), fun r h => by rw [List.mem_singleton.1 h]; exact hp⟩, fun s h => (nomatch h), fun s h => (nomatch h), fun v w b _ h => ?_⟩⟩
 have := h a (by simp)
 show v * (a.1 : Rat) + w * (a.2 : Rat) + b ≤ 0
 rw [this]
 exact Rat.le_refl
theorem thr2 (a b : Pt) : ∃ k, Is (thr [a, b]) k ∧ Md [] [a, b] [] k ∧ k.x * 2 = (a.1 : Rat) + (b.1 : Rat) ∧ k.y * 2 = (a.2 : Rat) + (b.2 : Rat) := by
 obtain ⟨k, hI, hx, hy, hp⟩ := cir_is (a.1 + b.1) (a.2 + b.2) 2 a (by decide)
 have hx' : k.x * 2 = (a.1 : Rat) + (b.1 : Rat) := by rw [Rat.intCast_add] at hx; simpa using hx
 have hy' : k.y * 2 = (a.2 : Rat) + (b.2 : Rat) := by rw [Rat.intCast_add] at hy; simpa using hy
 have hb : pw k b = 0 := by
  unfold pw at hp ⊢
  have e1 : (b.1 : Rat) - k.x = -((a.1 : Rat) - k.x) := by grind
  have e2 : (b.2 : Rat) - k.y = -((a.2 : Rat) - k.y) := by grind
  rw [e1, e2]
  grind
 refine ⟨k, hI, ⟨⟨fun p h => (nomatch h), fun r h => ?_⟩, fun s h => (nomatch h), fun s h => (nomatch h), fun v w c _ h => ?_⟩, hx', hy'⟩
 ·rcases List.mem_cons.1 h with h1 | h1
  ·rw [h1]; exact hp
  ·rw [List.mem_singleton.1 h1]; exact hb
 ·have h1 := h a (by simp)
  have h2 := h b (by simp)
  have e : (v * k.x + w * k.y + c) * 2 = (v * (a.1 : Rat) + w * (a.2 : Rat) + c) + (v * (b.1 : Rat) + w * (b.2 : Rat) + c) := by
   have e0 : (v * k.x + w * k.y + c) * 2 = v * (k.x * 2) + w * (k.y * 2) + 2 * c := by grind
   rw [e0, hx', hy']
   grind
  rw [h1, h2] at e
  grind
theorem aff0 {a b c : Pt} (hs : side a b c ≠ 0) {v w e : Rat} (ha : v * (a.1 : Rat) + w * (a.2 : Rat) + e = 0) (hb : v * (b.1 : Rat) + w * (b.2 : Rat) + e = 0) (hc : v * (c.1 : Rat) + w * (c.2 : Rat) + e = 0) : v = 0 ∧ w = 0 ∧ e = 0 := by
 have hS : ((b.1 : Rat) - a.1) * ((c.2 : Rat) - a.2) - ((b.2 : Rat) - a.2) * ((c.1 : Rat) - a.1) ≠ 0 := by
  intro h
  apply hs
  refine Rat.intCast_inj.1 ?_
  unfold side
  simp only [Rat.intCast_sub, Rat.intCast_add, Rat.intCast_mul]
  simpa using h
 have h1 : v * (((b.1 : Rat) - a.1) * ((c.2 : Rat) - a.2) - ((b.2 : Rat) - a.2) * ((c.1 : Rat) - a.1)) = 0 := by grind
 have h2 : w * (((b.1 : Rat) - a.1) * ((c.2 : Rat) - a.2) - ((b.2 : Rat) - a.2) * ((c.1 : Rat) - a.1)) = 0 := by grind
 have hv : v = 0 := (Rat.mul_eq_zero.1 h1).resolve_right hS
 have hw : w = 0 := (Rat.mul_eq_zero.1 h2).resolve_right hS
 refine ⟨hv, hw, ?_⟩
 rw [hv, hw] at ha
 grind
theorem pw_diff (k k' : Ci) (p : Pt) : pw k' p - pw k p = (-2 * (k'.x - k.x)) * (p.1 : Rat) + (-2 * (k'.y - k.y)) * (p.2 : Rat) + ((k'.x * k'.x + k'.y * k'.y - k'.n) - (k.x * k.x + k.y * k.y - k.n)) := by
 unfold pw
 grind
theorem three_one {a b c : Pt} (hs : side a b c ≠ 0) {k k' : Ci} (h : ∀ r ∈ [a, b, c], pw k r = 0) (h' : ∀ r ∈ [a, b, c], pw k' r = 0) : k' = k := by
 have e1 := pw_diff k k' a
 have e2 := pw_diff k k' b
 have e3 := pw_diff k k' c
 rw [h a (by simp), h' a (by simp)] at e1
 rw [h b (by simp), h' b (by simp)] at e2
 rw [h c (by simp), h' c (by simp)] at e3
 obtain ⟨q1, q2, q3⟩ := aff0 hs (by rw [← e1]; grind) (by rw [← e2]; grind) (by rw [← e3]; grind)
 obtain ⟨x, y, n⟩ := k
 obtain ⟨x', y', n'⟩ := k'
 simp only [Ci.mk.injEq] at *
 have hx : x' = x := by grind
 have hy : y' = y := by grind
 refine ⟨hx, hy, ?_⟩
 rw [hx, hy] at q3
 grind
theorem sgn_up {w : Int} (h : w ≠ 0) : 0 < w * sgn w ∧ sgn w * sgn w = 1 := by
 unfold sgn
 by_cases h1 : 0 < w
 ·rw [if_pos h1]; omega
 ·rw [if_neg h1, if_pos (by omega)]; omega
theorem thr3 (a b c : Pt) (T : List Pt) (hs : side a b c ≠ 0) : ∃ k, Is (thr (a :: b :: c :: T)) k ∧ Md [] [a, b, c] [] k := by
 obtain ⟨hw, hss⟩ := sgn_up (w := 2 * side a b c) (by omega)
 obtain ⟨k, hI, hx, hy, hp⟩ := cir_is ((a.1 * (2 * side a b c) + (c.2 - a.2) * sq (sub b a) - (b.2 - a.2) * sq (sub c a)) * sgn (2 * side a b c))
  ((a.2 * (2 * side a b c) + (b.1 - a.1) * sq (sub c a) - (c.1 - a.1) * sq (sub b a)) * sgn (2 * side a b c)) (2 * side a b c * sgn (2 * side a b c)) a hw
 have hT : (((2 * side a b c : Int)) : Rat) = 2 * (((b.1 : Rat) - a.1) * ((c.2 : Rat) - a.2) - ((b.2 : Rat) - a.2) * ((c.1 : Rat) - a.1)) := by
  unfold side
  simp only [Rat.intCast_sub, Rat.intCast_add, Rat.intCast_mul]
  rfl
 have hT0 : (((2 * side a b c : Int)) : Rat) ≠ 0 := by
  intro h
  have : (2 * side a b c : Int) = 0 := Rat.intCast_inj.1 (by simpa using h)
  omega
 have hg : ((sgn (2 * side a b c) : Int) : Rat) * ((sgn (2 * side a b c) : Int) : Rat) = 1 := by
  rw [← Rat.intCast_mul, hss]; rfl
 have hx2 : k.x * (((2 * side a b c : Int)) : Rat) = (a.1 : Rat) * (((2 * side a b c : Int)) : Rat) + ((c.2 : Rat) - a.2) * (((b.1 : Rat) - a.1) * ((b.1 : Rat) - a.1) + ((b.2 : Rat) - a.2) * ((b.2 : Rat) - a.2)) - ((b.2 : Rat) - a.2) * (((c.1 : Rat) - a.1) * ((c.1 : Rat) - a.1) + ((c.2 : Rat) - a.2) * ((c.2 : Rat) - a.2)) := by
  unfold sq sub at hx
  rw [Rat.intCast_mul, Rat.intCast_mul (_ - _) _] at hx
  simp only [Rat.intCast_sub, Rat.intCast_add, Rat.intCast_mul] at hx ⊢
  grind
 have hy2 : k.y * (((2 * side a b c : Int)) : Rat) = (a.2 : Rat) * (((2 * side a b c : Int)) : Rat) + ((b.1 : Rat) - a.1) * (((c.1 : Rat) - a.1) * ((c.1 : Rat) - a.1) + ((c.2 : Rat) - a.2) * ((c.2 : Rat) - a.2)) - ((c.1 : Rat) - a.1) * (((b.1 : Rat) - a.1) * ((b.1 : Rat) - a.1) + ((b.2 : Rat) - a.2) * ((b.2 : Rat) - a.2)) := by
  unfold sq sub at hy
  rw [Rat.intCast_mul, Rat.intCast_mul (_ - _) _] at hy
  simp only [Rat.intCast_sub, Rat.intCast_add, Rat.intCast_mul] at hy ⊢
  grind
 generalize (((2 * side a b c : Int)) : Rat) = W at *
 have hb : pw k b = 0 := by
  have e : (pw k b - pw k a) * W = 0 := by
   unfold pw
   grind
  rw [hp] at e
  have := (Rat.mul_eq_zero.1 e).resolve_right hT0
  grind
 have hc : pw k c = 0 := by
  have e : (pw k c - pw k a) * W = 0 := by
   unfold pw
   grind
  rw [hp] at e
  have := (Rat.mul_eq_zero.1 e).resolve_right hT0
  grind
 refine ⟨k, hI, ⟨⟨fun p h => (nomatch h), fun r h => ?_⟩, fun s h => (nomatch h), fun s h => (nomatch h), fun v w e _ h => ?_⟩⟩
 ·rcases List.mem_cons.1 h with h1 | h1
  ·rw [h1]; exact hp
  ·rcases List.mem_cons.1 h1 with h2 | h2
   ·rw [h2]; exact hb
   ·rw [List.mem_singleton.1 h2]; exact hc
 ·obtain ⟨q1, q2, q3⟩ := aff0 hs (h a (by simp)) (h b (by simp)) (h c (by simp))
  rw [q1, q2, q3]
  grind
theorem three_side {k : Ci} {a b c : Pt} (ha : pw k a = 0) (hb : pw k b = 0) (hc : pw k c = 0) (ab : a ≠ b) (ac : a ≠ c) (bc' : b ≠ c) : side a b c ≠ 0 := by
 intro hs
 have hS : ((b.1 : Rat) - a.1) * ((c.2 : Rat) - a.2) - ((b.2 : Rat) - a.2) * ((c.1 : Rat) - a.1) = 0 := by
  have := congrArg (fun t : Int => (t : Rat)) hs
  unfold side at this
  simp only [Rat.intCast_sub, Rat.intCast_add, Rat.intCast_mul] at this
  simpa using this
 have ne2 : ∀ p q : Pt, p ≠ q → ((q.1 : Rat) - p.1) * ((q.1 : Rat) - p.1) + ((q.2 : Rat) - p.2) * ((q.2 : Rat) - p.2) ≠ 0 := by
  intro p q hpq h0
  apply hpq
  have x2 := rsq ((q.1 : Rat) - p.1)
  have y2 := rsq ((q.2 : Rat) - p.2)
  have hx := rsq0 (a := (q.1 : Rat) - p.1) (by grind)
  have hy := rsq0 (a := (q.2 : Rat) - p.2) (by grind)
  have e1 : q.1 = p.1 := Rat.intCast_inj.1 (by grind)
  have e2 : q.2 = p.2 := Rat.intCast_inj.1 (by grind)
  exact Prod.ext e1.symm e2.symm
 have nb := ne2 a b ab
 have nc := ne2 a c ac
 have nbc := ne2 b c bc'
 unfold pw at ha hb hc
 generalize hu1 : (b.1 : Rat) - a.1 = u1 at *
 generalize hu2 : (b.2 : Rat) - a.2 = u2 at *
 generalize hv1 : (c.1 : Rat) - a.1 = v1 at *
 generalize hv2 : (c.2 : Rat) - a.2 = v2 at *
 generalize hm1 : k.x - (a.1 : Rat) = m1 at *
 generalize hm2 : k.y - (a.2 : Rat) = m2 at *
 have hu : u1 * u1 + u2 * u2 = 2 * (u1 * m1 + u2 * m2) := by grind
 have hv : v1 * v1 + v2 * v2 = 2 * (v1 * m1 + v2 * m2) := by grind
 have k1 : (u1 * u1 + u2 * u2) * (v1 * v1 + v2 * v2 - (u1 * v1 + u2 * v2)) = 0 := by
  have e : (u1 * u1 + u2 * u2) * (v1 * m1 + v2 * m2) = (u1 * v1 + u2 * v2) * (u1 * m1 + u2 * m2) + (u1 * v2 - u2 * v1) * (u1 * m2 - u2 * m1) := by grind
  rw [hS] at e
  grind
 have k2 : (v1 * v1 + v2 * v2) * (u1 * u1 + u2 * u2 - (u1 * v1 + u2 * v2)) = 0 := by
  have e : (v1 * v1 + v2 * v2) * (u1 * m1 + u2 * m2) = (u1 * v1 + u2 * v2) * (v1 * m1 + v2 * m2) - (u1 * v2 - u2 * v1) * (v1 * m2 - v2 * m1) := by grind
  rw [hS] at e
  grind
 have k1' := (Rat.mul_eq_zero.1 k1).resolve_left nb
 have k2' := (Rat.mul_eq_zero.1 k2).resolve_left nc
 apply nbc
 have e1 : (c.1 : Rat) - b.1 = v1 - u1 := by grind
 have e2 : (c.2 : Rat) - b.2 = v2 - u2 := by grind
 rw [e1, e2]
 grind
theorem mul_self_ge (a : Int) : 0 ≤ a * a := by
 rcases Int.le_total 0 a with h | h
 ·exact Int.mul_nonneg h h
 ·have := Int.mul_nonneg (show 0 ≤ -a by omega) (show 0 ≤ -a by omega)
  rwa [Int.neg_mul_neg] at this
theorem take_ptAt {P : List Pt} {i : Nat} (h : i < P.length) : P.take (i + 1) = P.take i ++ [ptAt P i] := by
 unfold ptAt
 rw [List.take_add_one, List.getD_eq_getElem?_getD, List.getElem?_eq_getElem h]
 rfl
theorem gd_more {R : List Pt} {p : Pt} {c c0 : Ci} (hl : R.length ≤ 2) (hg : Gd R) (h0 : ∀ r ∈ R, pw c0 r = 0) (hp : 0 < pw c0 p) (hc : ∀ r ∈ R ++ [p], pw c r = 0) : Gd (R ++ [p]) := by
 have ne : ∀ r ∈ R, r ≠ p := fun r hr e => by
  have := h0 r hr
  rw [e] at this
  grind
 match R, hl, hg, ne, hc with
 | [], _, _, _, _ => trivial
 | [a], _, _, ne, _ => exact ne a (by simp)
 | [a, b], _, hg, ne, hc => exact three_side (hc a (by simp)) (hc b (by simp)) (hc p (by simp)) hg (ne a (by simp)) (ne b (by simp))
theorem md_nil {R S : List Pt} {c : Ci} (h : Md [] R S c) : S = [] := by
 cases S with
 | nil => rfl
 | cons s S => exact absurd (h.sub s (by simp)) (by simp)
theorem thr_md {R : List Pt} (hl : R.length ≤ 3) (hne : R ≠ []) (hg : Gd R) : ∃ k, Is (thr R) k ∧ Md [] R [] k := by
 match R, hl, hne, hg with
 | [a], _, _, _ => exact ⟨_, thr1 a⟩
 | [a, b], _, _, _ => obtain ⟨k, h1, h2, _⟩ := thr2 a b; exact ⟨k, h1, h2⟩
 | [a, b, c], _, _, hg => exact thr3 a b c [] hg
theorem smc_md : ∀ (k : Nat) (P R : List Pt), R.length + k = 3 → Gd R → (∃ c, Fea P R c) → (R ≠ [] ∨ P ≠ []) → ∃ ci S, Is (smc k P R) ci ∧ Md P R S ci ∧ S.length ≤ k := by
 intro k
 induction k with
 | zero =>
  intro P R hl hg hF _
  match R, hl, hg, hF with
  | [a, b, c], _, hg, ⟨c', hF⟩ =>
   obtain ⟨k, hI, hM⟩ := thr3 a b c [] hg
   have e : c' = k := three_one hg hM.fea.rim hF.rim
   rw [e] at hF
   exact ⟨k, [], hI, ⟨hF, fun s h => (nomatch h), fun s h => (nomatch h), hM.cer⟩, Nat.le_refl _⟩
 | succ k ih =>
  intro P R hl hg ⟨cF, hF⟩ hne
  have loop : ∀ i, i ≤ P.length → (R ≠ [] ∨ 1 ≤ i) → ∃ ci S, Is (smcI (smc k) P R i) ci ∧ Md (P.take i) R S ci ∧ S.length ≤ k + 1 := by
   intro i
   induction i with
   | zero =>
    intro _ h
    rcases h with h | h
    ·obtain ⟨c, h1, h2⟩ := thr_md (by omega) h hg
     exact ⟨c, [], h1, h2, Nat.zero_le _⟩
    ·omega
   | succ i ihi =>
    intro hi _
    have hi' : i < P.length := by omega
    by_cases h0 : R ≠ [] ∨ 1 ≤ i
    ·obtain ⟨c0, S0, hI0, hM0, hS0⟩ := ihi (by omega) h0
     unfold smcI
     by_cases hout : (smcI (smc k) P R i).N < apt (smcI (smc k) P R i) (ptAt P i)
     ·rw [if_pos hout]
      have hp := (hI0.out (ptAt P i)).2 hout
      have hF1 : Fea (P.take i ++ [ptAt P i]) R cF := hF.sub (fun q hq => by rw [← take_ptAt hi'] at hq; exact List.mem_of_mem_take hq)
      obtain ⟨c2, hF2⟩ := hM0.fea.mix hF1 hp
      obtain ⟨c1, S1, hI1, hM1, hS1⟩ := ih (P.take i) (R ++ [ptAt P i]) (by rw [List.length_append]; simp; omega) (gd_more (by omega) hg hM0.fea.rim hp hF2.rim) ⟨c2, hF2⟩ (.inl (by simp))
      refine ⟨c1, ptAt P i :: S1, hI1, ?_, by simp; omega⟩
      rw [take_ptAt hi']
      exact hM0.lift hM1 hp
     ·rw [if_neg hout]
      refine ⟨c0, S0, hI0, ?_, hS0⟩
      rw [take_ptAt hi']
      exact hM0.keep ((hI0.inn _).2 (by omega))
    ·have hR : R = [] := by
      by_cases h : R = []
      ·exact h
      ·exact absurd (.inl h) h0
     have hi0 : i = 0 := by
      by_cases h : i = 0
      ·exact h
      ·exact absurd (.inr (by omega)) h0
     subst hi0
     rw [hR]
     unfold smcI
     have hout : (smcI (smc k) P [] 0).N < apt (smcI (smc k) P [] 0) (ptAt P 0) := by
      show (-1 : Int) < ((ptAt P 0).1 * 1 - 0) * ((ptAt P 0).1 * 1 - 0) + ((ptAt P 0).2 * 1 - 0) * ((ptAt P 0).2 * 1 - 0)
      have a : 0 ≤ ((ptAt P 0).1 * 1 - 0) * ((ptAt P 0).1 * 1 - 0) := mul_self_ge _
      have b : 0 ≤ ((ptAt P 0).2 * 1 - 0) * ((ptAt P 0).2 * 1 - 0) := mul_self_ge _
      omega
     rw [if_pos hout]
     obtain ⟨t1, t2⟩ := thr1 (ptAt P 0)
     rw [hR] at hl
     obtain ⟨c1, S1, hI1, hM1, hS1⟩ := ih [] [ptAt P 0] (by simp at hl ⊢; omega) (show Gd [ptAt P 0] from trivial) ⟨_, t2.fea⟩ (.inl (by simp))
     rw [List.take_zero, List.nil_append]
     have hS1' : S1 = [] := md_nil hM1
     have e := t2.uniq hM1
     rw [e] at hI1 hM1
     refine ⟨_, [ptAt P 0], hI1, ?_, by simp⟩
     have ht : P.take (0 + 1) = [ptAt P 0] := by rw [take_ptAt hi']; rfl
     rw [ht]
     have hz := t2.fea.rim (ptAt P 0) (by simp)
     refine ⟨⟨fun p hp => ?_, fun r hr => (nomatch hr)⟩, fun s hs => hs, fun s hs => ?_, fun v w a hS _ => ?_⟩
     ·rw [List.mem_singleton.1 hp, hz]; exact Rat.le_refl
     ·rw [List.mem_singleton.1 hs]; exact hz
     ·exact hS (ptAt P 0) (by simp)
  have hfin := loop P.length (Nat.le_refl _) (by
   rcases hne with h | h
   ·exact .inl h
   ·right
    cases P with
    | nil => exact absurd rfl h
    | cons a P => simp)
  rw [List.take_length] at hfin
  exact hfin
theorem fea_any (P : List Pt) : ∃ c, Fea P [] c := by
 suffices h : ∃ n : Rat, ∀ p ∈ P, (p.1 : Rat) * p.1 + (p.2 : Rat) * p.2 ≤ n by
  obtain ⟨n, hn⟩ := h
  refine ⟨⟨0, 0, n⟩, ⟨fun p hp => ?_, fun r hr => (nomatch hr)⟩⟩
  have := hn p hp
  unfold pw
  grind
 induction P with
 | nil => exact ⟨0, fun p hp => (nomatch hp)⟩
 | cons q P ih =>
  obtain ⟨n, hn⟩ := ih
  by_cases h : (q.1 : Rat) * q.1 + (q.2 : Rat) * q.2 ≤ n
  ·refine ⟨n, fun p hp => ?_⟩
   rcases List.mem_cons.1 hp with h1 | h1
   ·rw [h1]; exact h
   ·exact hn p h1
  ·refine ⟨(q.1 : Rat) * q.1 + (q.2 : Rat) * q.2, fun p hp => ?_⟩
   rcases List.mem_cons.1 hp with h1 | h1
   ·rw [h1]; exact Rat.le_refl
   ·have := hn p h1
    grind
theorem ring_md {P : List Pt} (h : P ≠ []) : ∃ ci S, Is (smc 3 P []) ci ∧ Md P [] S ci ∧ S.length ≤ 3 :=
 smc_md 3 P [] rfl trivial (fea_any P) (.inr h)
end Go.Proofs.Ytdcecfgmfmpeeaa
