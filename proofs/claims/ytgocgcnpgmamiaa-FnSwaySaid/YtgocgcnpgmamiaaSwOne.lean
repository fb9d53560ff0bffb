/-
  A mass alone: times what holds it, its sway is 1, but for rounding; close; the law's own sum.
-/
import Derived.Test.YtgocgcnpgmamiaaSwS
namespace Go.Proofs.Ytgocgcnpgmamiaa
open Go.ChangeShapes Go.WideShapes Go.ChangeAt Go.RowKit
set_option linter.unusedVariables false
set_option linter.unusedSimpArgs false

/-- the law's sum of what the first springs give -/
def Sm (L : List Nat) (i s : Nat) : Prop := isNum .f64 s ∧ (i = 0 → val .f64 s = 0) ∧ (0 < i → Rel (i + 1) (val .f64 s) (SK L i))
theorem sm_step {L : List Nat} {i s : Nat} (h : Sm L i s) (hm : ∀ j, j < i + 1 → msOk L j = true) (hi : i < 20) : ∃ q r, floatBits .quo .f64 4607182418800017408 (L.getD (i * 3 + 2) 0) = some q ∧ floatBits .add .f64 s q = some r ∧ Sm L (i + 1) r := by
  obtain ⟨ns, h0, h1⟩ := h
  obtain ⟨nk, k1, k2⟩ := mko_val (ms_parts (hm i (by omega))).2.2
  obtain ⟨e1', e2', e3, e4⟩ := inv_bd _ _ (by grind) k1 k2
  have eq : val .f64 4607182418800017408 / val .f64 (L.getD (i * 3 + 2) 0) = 1 / Kv L i := by rw [val_1]; rfl
  obtain ⟨q, fq', nq, rq⟩ := quo_rel num_1 nk (by grind) (by rw [val_1]; grind) (by rw [val_1]; grind)
  rw [eq] at rq
  have eSK : SK L (i + 1) = SK L i + 1 / Kv L i := rfl
  obtain ⟨b1, b2⟩ := sk_bd2 (i := i) hm hi
  have q1 : qp 1 = 1 + 1 / 100000000000000 := by simp only [qp, qq_v]; grind
  have rq3 := rq.2.2.1
  have rq4 := rq.2.2.2
  rw [q1] at rq3 rq4
  have rq0 := rq.1
  have e5 : 1 / Kv L i ≤ 1001 := by show 1 / val .f64 (L.getD (i * 3 + 2) 0) ≤ 1001; grind
  have e6 : 1 / 1000000 ≤ 1 / Kv L i := by show 1 / 1000000 ≤ 1 / val .f64 (L.getD (i * 3 + 2) 0); grind
  by_cases hi0 : i = 0
  · obtain ⟨r, fr, nr, vr⟩ := add_keep' ns nq (h0 hi0) (by grind) (by grind)
    refine ⟨q, r, fq', fr, nr, fun h => by omega, fun _ => ?_⟩
    rw [vr, eSK]
    subst hi0
    rw [show SK L 0 + 1 / Kv L 0 = 1 / Kv L 0 by simp only [SK]; grind]
    exact rq.up (by omega)
  · have hs := h1 (by omega)
    have ha := hs.add (rq.up (show 1 ≤ i + 1 by omega))
    obtain ⟨t1, t2⟩ := ha.two (by omega)
    have t0 := ha.1
    obtain ⟨r, fr, nr, rr⟩ := add_rel ns nq (by grind) (by grind)
    refine ⟨q, r, fq', fr, nr, fun h => by omega, fun _ => ?_⟩
    rw [eSK]
    exact (rr.trans ha).up (by omega)
theorem num_e6 : isNum .f64 4517329193108106637 ∧ 99 / 100000000 ≤ val .f64 4517329193108106637 ∧ val .f64 4517329193108106637 ≤ 101 / 100000000 := by
  refine ⟨⟨_, _, _, rfl⟩, ?_⟩
  have := cval (k := .f64) (x := 4517329193108106637) (s := false) (m := 4722366482869645) (n := 72) rfl
  have e : ((2 ^ 72 : Nat) : Rat) = 4722366482869645213696 := rfl
  rw [e] at this
  simp only [sg] at this
  constructor <;> grind
theorem ord_gt {x y : Nat} (hx : isNum .f64 x) (hy : isNum .f64 y) : (FloatKind.f64.format.order x y == some .gt) = decide (val .f64 y < val .f64 x) := by
  rw [order_val hx hy]
  by_cases h1 : val .f64 x < val .f64 y
  · rw [if_pos h1, decide_eq_false (by grind)]; rfl
  · rw [if_neg h1]
    by_cases h2 : val .f64 x = val .f64 y
    · rw [if_pos h2, decide_eq_false (by grind)]; rfl
    · rw [if_neg h2, decide_eq_true (by grind)]; rfl
theorem ord_lt {x y : Nat} (hx : isNum .f64 x) (hy : isNum .f64 y) : (FloatKind.f64.format.order x y == some .lt) = decide (val .f64 x < val .f64 y) := by
  rw [order_val hx hy]
  by_cases h1 : val .f64 x < val .f64 y
  · rw [if_pos h1, decide_eq_true h1]; rfl
  · rw [if_neg h1, decide_eq_false h1]
    by_cases h2 : val .f64 x = val .f64 y
    · rw [if_pos h2]; rfl
    · rw [if_neg h2]; rfl
theorem close_ok (a b : Nat) (w : World) (na : isNum .f64 a) (nb : isNum .f64 b) (ha1 : -1 ≤ val .f64 a) (ha2 : val .f64 a ≤ 1000000000) (hd : ∀ m, 1 ≤ m → val .f64 a ≤ m → val .f64 a - val .f64 b ≤ 5 / 10000000 * m ∧ -(5 / 10000000 * m) ≤ val .f64 a - val .f64 b) :
    Calls Try.prog 11 #[.float .f64 a, .float .f64 b] w fun e w' => e = .returned (.bool true) ∧ w' = w := by
  obtain ⟨ne, e1', e2'⟩ := num_e6
  have e1v : e1 .f64 = 1 / 1000000000000000 := rfl
  have e2v : e2 = 1 / 1000000000000000000000000000000 := rfl
  have olt := ord_lt na num_n1
  rw [val_n1, decide_eq_false (by grind)] at olt
  have ogt := ord_gt na num_1
  rw [val_1] at ogt
  by_cases h1 : 1 < val .f64 a
  · obtain ⟨d1, d2⟩ := hd (val .f64 a) (by grind) (Rat.le_refl)
    obtain ⟨d, fd, nd, r1, r2⟩ := sub_val na nb (1 / 1000000 * val .f64 a) (by grind) (by grind) (Rat.le_trans (by grind) top64)
    have m1 := Rat.mul_le_mul_of_nonneg_right e1' (show 0 ≤ val .f64 a by grind)
    have m2 := Rat.mul_le_mul_of_nonneg_right e2' (show 0 ≤ val .f64 a by grind)
    obtain ⟨e, fe, nee, s1, s2⟩ := mul_val ne na (2 / 1000000 * val .f64 a) (by grind) (by grind) (Rat.le_trans (by grind) top64)
    rw [e1v, e2v] at r1 r2 s1 s2
    obtain ⟨nn, vn⟩ := neg_num nee
    have o1 : (FloatKind.f64.format.order d e == some .lt || FloatKind.f64.format.order d e == some .eq) = true := by
      rw [order_val nd nee, if_pos (by grind)]; rfl
    have o2 : (FloatKind.f64.format.order d (Op.negFloat .f64 e) == some .gt || FloatKind.f64.format.order d (Op.negFloat .f64 e) == some .eq) = true := by
      rw [order_val nd nn, vn, if_neg (by grind), if_neg (by grind)]; rfl
    have ng : ∀ W : World, (Op.unary .neg (.float .f64 e)).run Try.prog W = .ok (.float .f64 (Op.negFloat .f64 e)) W := fun W => rfl
    rw [decide_eq_true h1] at ogt
    have q1 := fun W : World => run_float_arith (P := Try.prog) W .sub 28 .f64 a b d fd
    have q2 := fun W : World => run_float_arith (P := Try.prog) W .mul 28 .f64 4517329193108106637 a e fe
    clear fd nd r1 r2 fe nee s1 s2 nn vn d1 d2 hd m1 m2 ne e1' e2' na nb ha1 ha2 h1
    go_enter Try.func11, Try.ntmps11
    go_wp2
    go_ret
    exact ⟨by simp [*], rfl⟩
  · obtain ⟨d1, d2⟩ := hd 1 (by grind) (by grind)
    obtain ⟨d, fd, nd, r1, r2⟩ := sub_val na nb (1 / 1000000) (by grind) (by grind) (Rat.le_trans (by grind) top64)
    rw [e1v, e2v] at r1 r2
    obtain ⟨nn, vn⟩ := neg_num ne
    have o1 : (FloatKind.f64.format.order d 4517329193108106637 == some .lt || FloatKind.f64.format.order d 4517329193108106637 == some .eq) = true := by
      rw [order_val nd ne, if_pos (by grind)]; rfl
    have o2 : (FloatKind.f64.format.order d (Op.negFloat .f64 4517329193108106637) == some .gt || FloatKind.f64.format.order d (Op.negFloat .f64 4517329193108106637) == some .eq) = true := by
      rw [order_val nd nn, vn, if_neg (by grind), if_neg (by grind)]; rfl
    have ng : ∀ W : World, (Op.unary .neg (.float .f64 4517329193108106637)).run Try.prog W = .ok (.float .f64 (Op.negFloat .f64 4517329193108106637)) W := fun W => rfl
    rw [decide_eq_false h1] at ogt
    have q1 := fun W : World => run_float_arith (P := Try.prog) W .sub 28 .f64 a b d fd
    clear fd nd r1 r2 nn vn d1 d2 hd ne e1' e2' na nb ha1 ha2 h1
    generalize Op.negFloat .f64 4517329193108106637 = ngb at *
    go_enter Try.func11, Try.ntmps11
    go_wp2
    go_ret
    exact ⟨by simp [*], rfl⟩
/-- a sway at the pulse 0 is close to the law's sum -/
theorem tr_close {L : List Nat} {i s : Nat} {t : Tn} (ht : Tr t 6000000 (SK L (i + 1))) (hs : Sm L (i + 1) s) (hm : ∀ j, j < i + 1 → msOk L j = true) (hi : i < 20) : ∃ a b, t = (some a, some b) ∧ (∀ w : World, Calls Try.prog 11 #[.float .f64 a, .float .f64 s] w fun e w' => e = .returned (.bool true) ∧ w' = w) ∧ (∀ w : World, Calls Try.prog 11 #[.float .f64 b, .float .f64 0] w fun e w' => e = .returned (.bool true) ∧ w' = w) := by
  obtain ⟨a, b, e, na, nb, zb, ra⟩ := ht
  obtain ⟨ns, _, hs⟩ := hs
  have hs := hs (by omega)
  obtain ⟨b1, b2⟩ := sk_bd2 (i := i) hm hi
  obtain ⟨a1, a2⟩ := ra.two (by omega)
  obtain ⟨s1, s2⟩ := hs.two (by omega)
  have a0 := ra.1
  refine ⟨a, b, e, fun w => close_ok a s w na ns (by grind) (by grind) ?_, fun w => close_ok b 0 w nb num_0 (by rw [zb]; grind) (by rw [zb]; grind) ?_⟩
  · intro m m1 m2
    constructor <;> grind
  · intro m m1 m2
    rw [zb, val_0]
    constructor <;> grind
end Go.Proofs.Ytgocgcnpgmamiaa
