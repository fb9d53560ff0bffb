/-
  The law of tones in plain numbers, step by step.
-/
import Derived.Test.YtgocgcnpgmamiaaSqSum
namespace Go.Proofs.Ytgocgcnpgmamiaa
open Go.ChangeShapes Go.WideShapes Go.ChangeAt Go.RowKit
set_option linter.unusedVariables false
set_option linter.unusedSimpArgs false

def Qv (L : List Nat) (j : Nat) : Rat := Xv L j * Xv L j
/-- how great the numbers are -/
def Sv (L : List Nat) : Rat := 1 + sm (Qv L) 8
theorem sq_nonneg (x : Rat) : 0 ≤ x * x := by
  by_cases h : 0 ≤ x
  · exact Rat.mul_nonneg h h
  · have := Rat.mul_nonneg (show 0 ≤ -x by grind) (show 0 ≤ -x by grind)
    grind
/-- what is known of right numbers -/
structure Rt (L : List Nat) (S : Rat) : Prop where
  one : 1 ≤ S
  big : S ≤ 10000000000000
  num : ∀ j, j < 8 → isNum .f64 (L.getD j 0)
  x : ∀ j, j < 8 → -S ≤ Xv L j ∧ Xv L j ≤ S
  q : ∀ j, j < 8 → 0 ≤ Qv L j ∧ Qv L j ≤ S
  pre : ∀ i, i ≤ 8 → 1 + sm (Qv L) i ≤ S ∧ 0 ≤ sm (Qv L) i
  tot : 1 + sm (Qv L) 8 = S
theorem sm_mono {f : Nat → Rat} (h : ∀ j, j < 8 → 0 ≤ f j) : ∀ i, i ≤ 8 → 0 ≤ sm f i ∧ sm f i ≤ sm f 8 := by
  have h0 := h 0 (by omega)
  have h1 := h 1 (by omega)
  have h2 := h 2 (by omega)
  have h3 := h 3 (by omega)
  have h4 := h 4 (by omega)
  have h5 := h 5 (by omega)
  have h6 := h 6 (by omega)
  have h7 := h 7 (by omega)
  intro i hi
  match i, hi with
  | 0, _ => simp only [sm]; grind
  | 1, _ => simp only [sm]; grind
  | 2, _ => simp only [sm]; grind
  | 3, _ => simp only [sm]; grind
  | 4, _ => simp only [sm]; grind
  | 5, _ => simp only [sm]; grind
  | 6, _ => simp only [sm]; grind
  | 7, _ => simp only [sm]; grind
  | 8, _ => simp only [sm]; grind
theorem rt_of {L : List Nat} (hl : L.length = 8) (ha : L.all smp = true) : Rt L (Sv L) := by
  have hx : ∀ j, j < 8 → smp (L.getD j 0) = true := fun j hj => by
    have : L[j]? = some (L[j]'(by omega)) := List.getElem?_eq_getElem _
    rw [List.getD_eq_getElem?_getD, this]
    exact List.all_eq_true.1 ha _ (List.getElem_mem _)
  have hq : ∀ j, j < 8 → 0 ≤ Qv L j ∧ Qv L j ≤ 1000000000000 := fun j hj => by
    obtain ⟨b1, b2⟩ := smp_val (hx j hj)
    have h1 : -1000000 ≤ Xv L j := b1
    have h2 : Xv L j ≤ 1000000 := b2
    refine ⟨sq_nonneg _, ?_⟩
    have := Rat.mul_nonneg (show 0 ≤ 1000000 - Xv L j by grind) (show 0 ≤ 1000000 + Xv L j by grind)
    unfold Qv
    grind
  have hpre := sm_mono (f := Qv L) (fun j hj => (hq j hj).1)
  have hS : Sv L ≤ 10000000000000 := by
    unfold Sv
    rw [sm8]
    have := hq 0 (by omega)
    have := hq 1 (by omega)
    have := hq 2 (by omega)
    have := hq 3 (by omega)
    have := hq 4 (by omega)
    have := hq 5 (by omega)
    have := hq 6 (by omega)
    have := hq 7 (by omega)
    grind
  have one_q : ∀ j, j < 8 → Qv L j ≤ sm (Qv L) 8 := fun j hj => by
    have h1 := hpre j (by omega)
    have h2 := hpre (j + 1) (by omega)
    simp only [sm] at h2
    have : sm (Qv L) (j + 1) = sm (Qv L) j + Qv L j := rfl
    grind
  refine ⟨?_, hS, fun j hj => smp_num (hx j hj), fun j hj => ?_, fun j hj => ⟨(hq j hj).1, ?_⟩, fun i hi => ⟨?_, (hpre i hi).1⟩, rfl⟩
  · unfold Sv; have := (hpre 8 (by omega)).1; grind
  · have h1 := one_q j hj
    have h2 := sq_nonneg (Xv L j - 1)
    have h3 := sq_nonneg (Xv L j + 1)
    have hq' : Qv L j = Xv L j * Xv L j := rfl
    have h0 := (hpre 8 (by omega)).1
    rw [hq'] at h1
    unfold Sv
    generalize sm (Qv L) 8 = T at *
    generalize Xv L j = x at *
    clear hq hpre hS one_q hx
    constructor <;> grind
  · unfold Sv; have := one_q j hj; grind
  · unfold Sv; have := (hpre i hi).2; grind
/-- what holds between the rounds of the first loop -/
structure L1 (L : List Nat) (S : Rat) (i re im su sz : Nat) : Prop where
  re : Nr .f64 re (sm (fun k => TR (Xv L) k 8) i) ((i : Rat) * (3 / 10000000000000 * S))
  im : Nr .f64 im (sm (fun k => TI (Xv L) k 8) i) ((i : Rat) * (3 / 10000000000000 * S))
  su : Nr .f64 su (sm (Xv L) i) ((i : Rat) * (2 / 100000000000000 * S))
  sz : Nr .f64 sz (1 + sm (Qv L) i) ((i : Rat) * (1 / 100000000000000 * S))
  b1 : -((i : Rat) * (8 * S)) ≤ sm (fun k => TR (Xv L) k 8) i
  b2 : sm (fun k => TR (Xv L) k 8) i ≤ (i : Rat) * (8 * S)
  b3 : -((i : Rat) * (8 * S)) ≤ sm (fun k => TI (Xv L) k 8) i
  b4 : sm (fun k => TI (Xv L) k 8) i ≤ (i : Rat) * (8 * S)
  b5 : -((i : Rat) * S) ≤ sm (Xv L) i
  b6 : sm (Xv L) i ≤ (i : Rat) * S
theorem L1.start {L : List Nat} {S : Rat} (h : Rt L S) : L1 L S 0 0 0 0 4607182418800017408 := by
  have h1 := val_0
  have h2 := val_1
  have h3 := h.one
  constructor
  · exact ⟨num_0, by simp only [sm]; grind, by simp only [sm]; grind⟩
  · exact ⟨num_0, by simp only [sm]; grind, by simp only [sm]; grind⟩
  · exact ⟨num_0, by simp only [sm]; grind, by simp only [sm]; grind⟩
  · exact ⟨num_1, by simp only [sm]; grind, by simp only [sm]; grind⟩
  all_goals (simp only [sm]; grind)
/-- a tone as it lies there -/
structure Tb (L : List Nat) (S : Rat) (k a b : Nat) : Prop where
  re : Nr .f64 a (TR (Xv L) k 8) (16 / 100000000000000 * S)
  im : Nr .f64 b (TI (Xv L) k 8) (16 / 100000000000000 * S)
  r1 : -(8 * S) ≤ TR (Xv L) k 8
  r2 : TR (Xv L) k 8 ≤ 8 * S
  i1 : -(8 * S) ≤ TI (Xv L) k 8
  i2 : TI (Xv L) k 8 ≤ 8 * S
theorem spF_at (L : List Nat) (n k : Nat) (h : k < n) : (spF L n)[k * 2]? = some (spS L k 8).1 ∧ (spF L n)[k * 2 + 1]? = some (spS L k 8).2 := by
  induction n with
  | zero => omega
  | succ n ih =>
    simp only [spF]
    by_cases hk : k < n
    · rw [List.getElem?_append_left (by rw [spF_len]; omega), List.getElem?_append_left (by rw [spF_len]; omega)]
      exact ih hk
    · have : k = n := by omega
      subst this
      rw [List.getElem?_append_right (by rw [spF_len]; omega), List.getElem?_append_right (by rw [spF_len]; omega), spF_len, Nat.sub_self, show k * 2 + 1 - k * 2 = 1 by omega]
      exact ⟨rfl, rfl⟩
theorem fv_eq {k : FloatKind} {x y : Nat} (h : Fv k x = some y) : x = y := by
  rcases fv_cases k x with h1 | h1
  · rw [h1] at h; exact Option.some.inj h
  · rw [h1] at h; cases h
theorem tone_at {L R : List Nat} {S : Rat} (h : Rt L S) (hF : R.map (Fv .f64) = spF L 8) (k : Nat) (hk : k < 8) : ∃ a b, R[k * 2]? = some a ∧ R[k * 2 + 1]? = some b ∧ Tb L S k a b := by
  obtain ⟨a, b, hs, na, nb, t1, t2, u1, u2⟩ := tone_near h.num h.one h.big h.x k 8 (by omega)
  obtain ⟨h1, h2⟩ := spF_at L 8 k hk
  rw [← hF, List.getElem?_map, hs] at h1 h2
  obtain ⟨a', ha, ea⟩ := map_some' h1
  obtain ⟨b', hb, eb⟩ := map_some' h2
  have := fv_eq ea
  have := fv_eq eb
  subst a' b'
  have e8 : ((8 : Nat) : Rat) = 8 := rfl
  rw [e8] at na nb t1 t2 u1 u2
  exact ⟨a, b, ha, hb, ⟨⟨na.1, by have := na.2.1; grind, by have := na.2.2; grind⟩, ⟨nb.1, by have := nb.2.1; grind, by have := nb.2.2; grind⟩, by grind, by grind, by grind, by grind⟩⟩
theorem L1.step {L : List Nat} {S : Rat} {i re im su sz a b : Nat} (h : L1 L S i re im su sz) (hr : Rt L S) (hi : i < 8) (ht : Tb L S i a b) :
    ∃ r1 r2 r3 p r4, floatBits .add .f64 re a = some r1 ∧ floatBits .add .f64 im b = some r2 ∧ floatBits .add .f64 su (L.getD i 0) = some r3 ∧ floatBits .mul .f64 (L.getD i 0) (L.getD i 0) = some p ∧ floatBits .add .f64 sz p = some r4 ∧ L1 L S (i + 1) r1 r2 r3 r4 := by
  obtain ⟨h1, h2, h3, h4, b1, b2, b3, b4, b5, b6⟩ := h
  obtain ⟨t1, t2, c1, c2, c3, c4⟩ := ht
  have hS := hr.one
  have hS2 := hr.big
  have hi7 : (i : Rat) ≤ 7 := by have : i ≤ 7 := by omega
                                 exact_mod_cast this
  have hi0 : (0 : Rat) ≤ (i : Rat) := by exact_mod_cast Nat.zero_le i
  have hiS := Rat.mul_le_mul_of_nonneg_right hi7 (show 0 ≤ S by grind)
  have hiS0 := Rat.mul_nonneg hi0 (show 0 ≤ S by grind)
  have hcast : ((i + 1 : Nat) : Rat) = (i : Rat) + 1 := by simp
  obtain ⟨x1, x2⟩ := hr.x i hi
  obtain ⟨q1, q2⟩ := hr.q i hi
  obtain ⟨p1, p2'⟩ := hr.pre i (by omega)
  obtain ⟨p3, _⟩ := hr.pre (i + 1) (by omega)
  have nx := hr.num i hi
  obtain ⟨r1, e1', n1⟩ := add_near h1 t1 (M := 80 * S) (by grind) (by grind) (by grind)
  obtain ⟨r2, e2', n2⟩ := add_near h2 t2 (M := 80 * S) (by grind) (by grind) (by grind)
  obtain ⟨r3, e3', n3⟩ := add_near h3 (Nr.self nx) (M := 10 * S) (by unfold Xv at *; grind) (by unfold Xv at *; grind) (by grind)
  obtain ⟨p, ep, np⟩ := mul_near nx nx (M := S) (by unfold Qv Xv at q2; grind) (by unfold Qv Xv at q1; grind) (by grind)
  obtain ⟨r4, e4', n4⟩ := add_near h4 np (M := 2 * S) (by unfold Qv Xv at *; simp only [sm] at p3; grind) (by unfold Qv Xv at *; grind) (by grind)
  have s1 : sm (fun k => TR (Xv L) k 8) (i + 1) = sm (fun k => TR (Xv L) k 8) i + TR (Xv L) i 8 := rfl
  have s2 : sm (fun k => TI (Xv L) k 8) (i + 1) = sm (fun k => TI (Xv L) k 8) i + TI (Xv L) i 8 := rfl
  have s3 : sm (Xv L) (i + 1) = sm (Xv L) i + val .f64 (L.getD i 0) := rfl
  have s4 : sm (Qv L) (i + 1) = sm (Qv L) i + val .f64 (L.getD i 0) * val .f64 (L.getD i 0) := rfl
  have x1' : -S ≤ val .f64 (L.getD i 0) := x1
  have x2' : val .f64 (L.getD i 0) ≤ S := x2
  refine ⟨r1, r2, r3, p, r4, e1', e2', e3', ep, e4', ?_⟩
  constructor
  · rw [hcast, s1]; exact ⟨n1.1, by have := n1.2.1; grind, by have := n1.2.2; grind⟩
  · rw [hcast, s2]; exact ⟨n2.1, by have := n2.2.1; grind, by have := n2.2.2; grind⟩
  · rw [hcast, s3]; exact ⟨n3.1, by have := n3.2.1; grind, by have := n3.2.2; grind⟩
  · rw [hcast, s4]; exact ⟨n4.1, by have := n4.2.1; grind, by have := n4.2.2; grind⟩
  all_goals (rw [hcast]; (first | rw [s1] | rw [s2] | rw [s3]); grind)

theorem num_c5 : isNum .f64 4532020583610935537 ∧ 9 / 1000000 ≤ val .f64 4532020583610935537 ∧ val .f64 4532020583610935537 ≤ 2 / 100000 := by
  have := cval (k := .f64) (x := 4532020583610935537) (s := false) (m := 5902958103587057) (n := 69) rfl
  have e : ((2 ^ 69 : Nat) : Rat) = 590295810358705651712 := rfl
  rw [e] at this
  simp only [sg] at this
  refine ⟨⟨_, _, _, rfl⟩, ?_, ?_⟩ <;> grind
theorem num_8 : isNum .f64 4620693217682128896 ∧ val .f64 4620693217682128896 = 8 := by
  have := cval (k := .f64) (x := 4620693217682128896) (s := false) (m := 4503599627370496) (n := 49) rfl
  have e : ((2 ^ 49 : Nat) : Rat) = 562949953421312 := rfl
  rw [e] at this
  simp only [sg] at this
  exact ⟨⟨_, _, _, rfl⟩, by grind⟩
/-- how far off the law lets it be -/
theorem eps_of {L : List Nat} {S : Rat} {re im su sz : Nat} (h : L1 L S 8 re im su sz) (hr : Rt L S) : ∃ ep, floatBits .mul .f64 4532020583610935537 sz = some ep ∧ isNum .f64 ep ∧ 8 / 1000000 * S ≤ val .f64 ep := by
  obtain ⟨nc, c1, c2⟩ := num_c5
  obtain ⟨nz, z1, z2⟩ := h.sz
  have e8 : ((8 : Nat) : Rat) = 8 := rfl
  rw [e8] at z1 z2
  have hS := hr.one
  have hS2 := hr.big
  have hq := hr.tot
  have z3 : 99 / 100 * S ≤ val .f64 sz := by grind
  have z4 : val .f64 sz ≤ 101 / 100 * S := by grind
  have m1 := Rat.mul_le_mul_of_nonneg_right c1 (show 0 ≤ val .f64 sz by grind)
  have m2 := Rat.mul_le_mul_of_nonneg_right c2 (show 0 ≤ val .f64 sz by grind)
  obtain ⟨ep, he, ne, e1', e2'⟩ := mul_near nc nz (M := S) (by grind) (by grind) (by grind)
  exact ⟨ep, he, ne, by grind⟩
theorem end_re {L : List Nat} {S : Rat} {re im su sz : Nat} (h : L1 L S 8 re im su sz) (hr : Rt L S) : ∃ p r, floatBits .mul .f64 4620693217682128896 (L.getD 0 0) = some p ∧ floatBits .sub .f64 re p = some r ∧ isNum .f64 r ∧ val .f64 r ≤ 1 / 100000000000 * S ∧ -(1 / 100000000000 * S) ≤ val .f64 r := by
  obtain ⟨n8, v8⟩ := num_8
  have h1 := h.re
  have e8 : ((8 : Nat) : Rat) = 8 := rfl
  rw [all_re, e8] at h1
  have hS := hr.one
  have hS2 := hr.big
  obtain ⟨x1, x2⟩ := hr.x 0 (by omega)
  have x0 : Xv L 0 = val .f64 (L.getD 0 0) := rfl
  obtain ⟨p, ep, np⟩ := mul_near n8 (hr.num 0 (by omega)) (M := 8 * S) (by rw [v8, ← x0]; grind) (by rw [v8, ← x0]; grind) (by grind)
  rw [v8, ← x0] at np
  obtain ⟨r, er, nr, r1, r2⟩ := sub_near h1 np (M := S) (by grind) (by grind) (by grind)
  exact ⟨p, r, ep, er, nr, by grind, by grind⟩
theorem end_im {L : List Nat} {S : Rat} {re im su sz : Nat} (h : L1 L S 8 re im su sz) (hr : Rt L S) : isNum .f64 im ∧ val .f64 im ≤ 1 / 100000000000 * S ∧ -(1 / 100000000000 * S) ≤ val .f64 im := by
  obtain ⟨n, h1, h2⟩ := h.im
  have e8 : ((8 : Nat) : Rat) = 8 := rfl
  rw [all_im, e8] at h1 h2
  have hS := hr.one
  exact ⟨n, by grind, by grind⟩
theorem end_t0 {L : List Nat} {S : Rat} {re im su sz a b : Nat} (h : L1 L S 8 re im su sz) (hr : Rt L S) (ht : Tb L S 0 a b) : ∃ r, floatBits .sub .f64 a su = some r ∧ isNum .f64 r ∧ val .f64 r ≤ 1 / 100000000000 * S ∧ -(1 / 100000000000 * S) ≤ val .f64 r := by
  have h1 := h.su
  have t1 := ht.re
  have e8 : ((8 : Nat) : Rat) = 8 := rfl
  rw [e8] at h1
  rw [(tone_0 (Xv L)).1] at t1
  have hS := hr.one
  have hS2 := hr.big
  obtain ⟨r, er, nr, r1, r2⟩ := sub_near t1 h1 (M := S) (by grind) (by grind) (by grind)
  exact ⟨r, er, nr, by grind, by grind⟩
theorem end_i0 {L : List Nat} {S : Rat} {a b : Nat} (hr : Rt L S) (ht : Tb L S 0 a b) : isNum .f64 b ∧ val .f64 b ≤ 1 / 100000000000 * S ∧ -(1 / 100000000000 * S) ≤ val .f64 b := by
  obtain ⟨n, h1, h2⟩ := ht.im
  rw [(tone_0 (Xv L)).2] at h1 h2
  have hS := hr.one
  exact ⟨n, by grind, by grind⟩
theorem end_mirror {L : List Nat} {S : Rat} {k a0 a1 b0 b1 : Nat} (hr : Rt L S) (h0 : 1 ≤ k) (h8 : k < 8) (ha : Tb L S k a0 a1) (hb : Tb L S (8 - k) b0 b1) : ∃ r1 r2, floatBits .sub .f64 a0 b0 = some r1 ∧ floatBits .add .f64 a1 b1 = some r2 ∧ (isNum .f64 r1 ∧ val .f64 r1 ≤ 1 / 100000000000 * S ∧ -(1 / 100000000000 * S) ≤ val .f64 r1) ∧ (isNum .f64 r2 ∧ val .f64 r2 ≤ 1 / 100000000000 * S ∧ -(1 / 100000000000 * S) ≤ val .f64 r2) := by
  obtain ⟨m1, m2⟩ := mirror (Xv L) k h0 h8
  have hS := hr.one
  have hS2 := hr.big
  have t1 := ha.re
  have t2 := ha.im
  rw [m1] at t1
  rw [m2] at t2
  obtain ⟨r1, er, nr, q1, q2⟩ := sub_near t1 hb.re (M := S) (by grind) (by grind) (by grind)
  obtain ⟨r2, es, ns, q3, q4⟩ := add_near t2 hb.im (M := S) (by grind) (by grind) (by grind)
  exact ⟨r1, r2, er, es, ⟨nr, by grind, by grind⟩, ⟨ns, by grind, by grind⟩⟩
theorem within_ok (d e : Nat) (w : World) (nd : isNum .f64 d) (ne : isNum .f64 e) (h1 : val .f64 d ≤ val .f64 e) (h2 : -val .f64 e ≤ val .f64 d) : Calls Try.prog 18 #[.float .f64 d, .float .f64 e] w fun e w' => e = .returned (.bool true) ∧ w' = w := by
  obtain ⟨nn, vn⟩ := neg_num ne
  have o1 : (FloatKind.f64.format.order d e == some .lt || FloatKind.f64.format.order d e == some .eq) = true := by
    rw [order_val nd ne]
    split
    · rfl
    · split
      · rfl
      · grind
  have o2 : (FloatKind.f64.format.order d (Op.negFloat .f64 e) == some .gt || FloatKind.f64.format.order d (Op.negFloat .f64 e) == some .eq) = true := by
    rw [order_val nd nn, vn]
    split
    · grind
    · split <;> rfl
  have ng : ∀ W : World, (Op.unary .neg (.float .f64 e)).run Try.prog W = .ok (.float .f64 (Op.negFloat .f64 e)) W := fun W => rfl
  clear nd ne nn vn h1 h2
  go_enter Try.func18, Try.ntmps18
  go_wp2
  go_ret
  exact ⟨by simp [*], rfl⟩
theorem near_within {S : Rat} (d e : Nat) (w : World) (hS : 1 ≤ S) (nd : isNum .f64 d ∧ val .f64 d ≤ 1 / 100000000000 * S ∧ -(1 / 100000000000 * S) ≤ val .f64 d) (ne : isNum .f64 e) (h1 : 8 / 1000000 * S ≤ val .f64 e) : Calls Try.prog 18 #[.float .f64 d, .float .f64 e] w fun e w' => e = .returned (.bool true) ∧ w' = w :=
  within_ok d e w nd.1 ne (by have := nd.2.1; grind) (by have := nd.2.2; grind)
end Go.Proofs.Ytgocgcnpgmamiaa
