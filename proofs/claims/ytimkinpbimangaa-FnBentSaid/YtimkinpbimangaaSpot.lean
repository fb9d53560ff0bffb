/-
  A spot reduced, by the model and by the program.
-/
import Derived.Test.YtimkinpbimangaaLeaves2
import Derived.Test.YtimkinpbimangaaFMath
namespace Go.Proofs.Ytimkinpbimangaa
open Go.ChangeShapes Go.WideShapes Go.ChangeAt Go.RowKit
set_option linter.unusedVariables false
set_option linter.unusedSimpArgs false

theorem abs_any (n : Int) (w : World) (h1 : -9223372036854775807 ≤ n) (h2 : n ≤ 9223372036854775807) :
    Calls Try.prog 51 #[.int .i64 n] w fun e w' => e = .returned (.int .i64 (n.natAbs : Int)) ∧ w' = w := by
  by_cases hn : n < 0
  · go_enter Try.func51, Try.ntmps51
    go_wp2
    go_ret
    exact ⟨ret_int (by omega), rfl⟩
  · go_enter Try.func51, Try.ntmps51
    go_wp2
    go_ret
    exact ⟨ret_int (by omega), rfl⟩
set_option maxHeartbeats 400000 in
theorem gcd_any (a b : Int) (w : World) (ha1 : -9223372036854775808 ≤ a) (ha2 : a ≤ 9223372036854775807) (hb1 : -9223372036854775808 ≤ b) (hb2 : b ≤ 9223372036854775807) :
    Calls Try.prog 71 #[.int .i64 a, .int .i64 b] w fun e w' => (∃ r : Int, e = .returned (.int .i64 r) ∧ r.natAbs = Nat.gcd a.natAbs b.natAbs ∧ -9223372036854775808 ≤ r ∧ r ≤ 9223372036854775807) ∧ w' = w := by
  go_enter Try.func71, Try.ntmps71
  go_wp2
  go_loop [0, 1] (fun s t => ∃ x y : Int, s = .int .i64 x ∧ t = .int .i64 y ∧ Nat.gcd x.natAbs y.natAbs = Nat.gcd a.natAbs b.natAbs ∧ -9223372036854775808 ≤ x ∧ x ≤ 9223372036854775807 ∧ -9223372036854775808 ≤ y ∧ y ≤ 9223372036854775807) (fun _ t => (intOf t).natAbs)
  case atStart => exact ⟨a, b, rfl, rfl, rfl, ha1, ha2, hb1, hb2⟩
  case round =>
    obtain ⟨x, y, rfl, rfl, hg, hx1, hx2, hy1, hy2⟩ := hrel
    have HG := hide hg
    clear hg
    by_cases hy : y = 0
    · have hb : (y != 0) = false := by simp [hy]
      have hb' : (y == 0) = true := by simp [hy]
      have HY := hide hy
      clear hy
      go_wp2
      go_ret
      exact ⟨⟨x, rfl, by have := unhide HG; rw [unhide HY] at this; simpa using this, hx1, hx2⟩, rfl⟩
    · have hb : (y != 0) = true := by simp [hy]
      have hb' : (y == 0) = false := by simp [hy]
      have hbd := tmod_bd x y ⟨hx1, hx2⟩
      have hlt := tmod_lt x y hy
      have HG2 : Hid (Nat.gcd y.natAbs (x.tmod y).natAbs = Nat.gcd a.natAbs b.natAbs) := hide ((gcd_step x y).trans (unhide HG))
      go_wp2
      go_round
      case rel => exact ⟨y, x.tmod y, rfl, rfl, unhide HG2, hy1, hy2, hbd.1, hbd.2⟩
      case measure => simp only [intOf]; exact hlt
theorem wrap_neg (n : Int) (h1 : -9223372036854775808 ≤ n) (h2 : n < 0) : IntKind.u64.wrap (-IntKind.u64.wrap n) = (n.natAbs : Int) := by
  simp only [IntKind.wrap, IntKind.bits, IntKind.signed]
  simp
  omega
theorem mag_any (n : Int) (w : World) (h1 : -9223372036854775808 ≤ n) (h2 : n ≤ 9223372036854775807) :
    Calls Try.prog 84 #[.int .i64 n] w fun e w' => e = .returned (.int .u64 (n.natAbs : Int)) ∧ w' = w := by
  by_cases hn : n < 0
  · go_enter Try.func84, Try.ntmps84
    go_wp2
    go_ret
    exact ⟨ret_int (wrap_neg n h1 hn), rfl⟩
  · go_enter Try.func84, Try.ntmps84
    go_wp2
    go_ret
    exact ⟨ret_int (by omega), rfl⟩
set_option maxHeartbeats 400000 in
theorem com_any (a b : Nat) (w : World) (ha : a ≤ 9223372036854775808) (hb : b ≤ 9223372036854775808) :
    Calls Try.prog 85 #[.int .u64 (a : Int), .int .u64 (b : Int)] w fun e w' => e = .returned (.int .u64 (Nat.gcd a b : Int)) ∧ ∃ q, w' = w.drewN q := by
  go_enter Try.func85, Try.ntmps85
  go_wp2
  go_loopw [0, 1] (fun s t w' => ∃ x y q : Nat, s = .int .u64 (x : Int) ∧ t = .int .u64 (y : Int) ∧ Nat.gcd x y = Nat.gcd a b ∧ x ≤ 9223372036854775808 ∧ y ≤ 9223372036854775808 ∧ w' = w.drewN q) (fun _ t _ => (intOf t).natAbs)
  case atStart => exact ⟨a, b, 0, rfl, rfl, rfl, ha, hb, rfl⟩
  case round =>
    obtain ⟨x, y, q, rfl, rfl, hg, hx, hy, rfl⟩ := hrel
    have HG := hide hg
    clear hg
    by_cases h0 : y = 0
    · subst h0
      go_wp2
      go_ret
      exact ⟨ret_int (by rw [← unhide HG, Nat.gcd_zero_right]), q, rfl⟩
    · have hb : ((y : Int) != 0) = true := by simp; omega
      have hb' : ((y : Int) == 0) = false := by simp; omega
      have hlt : x % y < y := Nat.mod_lt _ (by omega)
      have HG2 : Hid (Nat.gcd y (x % y) = Nat.gcd a b) := hide (by rw [Nat.gcd_comm, ← Nat.gcd_rec, Nat.gcd_comm]; exact unhide HG)
      go_wp2
      go_region
      all_goals
        go_wp2
        go_roundw
        case rel => exact ⟨y, x % y, q + 1, rfl, by go_num, unhide HG2, hy, by omega, rfl⟩
        case measure => simp only [intOf]; omega

theorem redG_le (x y d : Int) (h : d ≠ 0) : 1 ≤ redG x y d ∧ redG x y d ≤ d.natAbs := by
  unfold redG
  exact ⟨Nat.gcd_pos_of_pos_right _ (by omega), Nat.gcd_le_right _ (by omega)⟩
theorem tdiv_bd (x : Int) (g A : Nat) (h1 : -(A : Int) ≤ x) (h2 : x ≤ A) : -(A : Int) ≤ x.tdiv g ∧ x.tdiv g ≤ A := by
  have h : (x.tdiv (g : Int)).natAbs ≤ x.natAbs := by
    rw [Int.natAbs_tdiv]
    exact Nat.div_le_self _ _
  omega
theorem redG_neg (x y d : Int) : redG (-x) (-y) (-d) = redG x y d := by simp [redG]

theorem bdN {B : Nat} {w W : World} (h : Below B w W) (q : Nat) : Below B w (W.drewN q) := by
  induction q with
  | zero => exact h
  | succ q ih => exact ih.drew
abbrev spv (s : Sp) : Value := .agg #[.int .i64 s.1, .int .i64 s.2.1, .int .i64 s.2.2]

set_option maxRecDepth 100000 in
set_option maxHeartbeats 1000000 in
theorem spotP (x y d : Int) (w : World) (hd : 0 < d) (hd2 : d ≤ 1000000000000000000) (hx : -1000000000000000000 ≤ x ∧ x ≤ 1000000000000000000) (hy : -1000000000000000000 ≤ y ∧ y ≤ 1000000000000000000) :
    Calls Try.prog 75 #[.int .i64 x, .int .i64 y, .int .i64 d] w fun e w' => e = .returned (spv (red x y d)) ∧ Below w.heap.size w w' := by
  obtain ⟨g1, g2⟩ := redG_le x y d (by omega)
  obtain ⟨x1, x2⟩ := hx
  obtain ⟨y1, y2⟩ := hy
  have bx := tdiv_bd x (redG x y d) 1000000000000000000 (by omega) (by omega)
  have by' := tdiv_bd y (redG x y d) 1000000000000000000 (by omega) (by omega)
  have bd := tdiv_bd d (redG x y d) 1000000000000000000 (by omega) (by omega)
  show Calls Try.prog 75 #[.int .i64 x, .int .i64 y, .int .i64 d] w fun e w' => e = .returned (.agg #[.int .i64 (x.tdiv (redG x y d)), .int .i64 (y.tdiv (redG x y d)), .int .i64 (d.tdiv (redG x y d))]) ∧ Below w.heap.size w w'
  have hG : Nat.gcd (Nat.gcd x.natAbs y.natAbs) d.natAbs = redG x y d := rfl
  generalize redG x y d = G at *
  have gb : Nat.gcd x.natAbs y.natAbs ≤ 1000000000000000000 := by
    by_cases h0 : x.natAbs = 0
    · rw [h0, Nat.gcd_zero_left]; omega
    · exact Nat.le_trans (Nat.gcd_le_left _ (by omega)) (by omega)
  have HG := hide hG
  clear hG
  have hg1 : ((G : Int) == -1) = false := beq_false_of_ne (by omega)
  have hg0 : ((G : Int) == 0) = false := beq_false_of_ne (by omega)
  have w1 : wrap64 (x.tdiv (G : Int)) = x.tdiv (G : Int) := IntWalk.wrap64_in _ ⟨by omega, by omega⟩
  have w2 : wrap64 (y.tdiv (G : Int)) = y.tdiv (G : Int) := IntWalk.wrap64_in _ ⟨by omega, by omega⟩
  have w3 : wrap64 (d.tdiv (G : Int)) = d.tdiv (G : Int) := IntWalk.wrap64_in _ ⟨by omega, by omega⟩
  go_enter Try.func75, Try.ntmps75
  go_wp2_with fail
  refine (mag_any _ _ (by omega) (by omega)).mono ?_
  rintro e w' ⟨rfl, rfl⟩
  go_wp2_with fail
  refine (mag_any _ _ (by omega) (by omega)).mono ?_
  rintro e w' ⟨rfl, rfl⟩
  go_wp2_with fail
  refine (com_any _ _ _ (by omega) (by omega)).mono ?_
  rintro e w' ⟨rfl, q1, rfl⟩
  go_wp2_with fail
  refine (mag_any _ _ (by omega) (by omega)).mono ?_
  rintro e w' ⟨rfl, rfl⟩
  go_wp2_with fail
  refine (com_any _ _ _ (by omega) (by omega)).mono ?_
  rintro e w' ⟨rfl, q2, rfl⟩
  rw [unhide HG]
  clear gb HG
  go_wp2_with fail
  go_region
  all_goals
    go_wp2_with fail
    refine bodyPost_ret (v := .agg #[.int .i64 (x.tdiv (G : Int)), .int .i64 (y.tdiv (G : Int)), .int .i64 (d.tdiv (G : Int))]) (by simp [results, Try.results75, go_sem]) rfl ⟨rfl, ?_⟩
    repeat (first | exact Below.refl _ _ | refine Below.setCell ?_ (by simp) _ | refine ba ?_ _ | refine Below.drew ?_ | refine bdN ?_ _)

set_option maxRecDepth 100000 in
set_option maxHeartbeats 1000000 in
theorem spotM_core (x y d : Int) (X Y D : Int) (G : Nat) (w : World) (hd : d ≠ 0) (hd2 : -1000000000000000000 ≤ d ∧ d ≤ 1000000000000000000) (hx : -1000000000000000000 ≤ x ∧ x ≤ 1000000000000000000) (hy : -1000000000000000000 ≤ y ∧ y ≤ 1000000000000000000)
    (g1 : 1 ≤ G) (g2 : G ≤ 1000000000000000000) (HG : Hid (Nat.gcd (Nat.gcd X.natAbs Y.natAbs) D.natAbs = G)) (gb : Nat.gcd X.natAbs Y.natAbs ≤ 1000000000000000000) (hc : d < 0 ∧ X = -x ∧ Y = -y ∧ D = -d ∨ ¬ d < 0 ∧ X = x ∧ Y = y ∧ D = d) (QX QY QD : Int) (eX : X.tdiv (G : Int) = QX) (eY : Y.tdiv (G : Int) = QY) (eD : D.tdiv (G : Int) = QD)
    (w1 : wrap64 QX = QX) (w2 : wrap64 QY = QY) (w3 : wrap64 QD = QD) :
    Calls Try.prog 81 #[.int .i64 x, .int .i64 y, .int .i64 d] w fun e w' => e = .returned (.agg #[.int .i64 QX, .int .i64 QY, .int .i64 QD]) ∧ Below w.heap.size w w' := by
  have hg1 : ((G : Int) == -1) = false := beq_false_of_ne (by omega)
  have hg0 : ((G : Int) == 0) = false := beq_false_of_ne (by omega)
  obtain ⟨x1, x2⟩ := hx
  obtain ⟨y1, y2⟩ := hy
  obtain ⟨d1, d2⟩ := hd2
  rcases hc with ⟨hn, rfl, rfl, rfl⟩ | ⟨hn, rfl, rfl, rfl⟩
  all_goals
    go_enter Try.func81, Try.ntmps81
    go_wp2_with fail
    refine (gcd_any _ _ _ (by omega) (by omega) (by omega) (by omega)).mono ?_
    rintro e w' ⟨⟨r, rfl, hr, hr1, hr2⟩, rfl⟩
    have HR := hide hr
    clear hr
    go_wp2_with fail
    refine (gcd_any _ _ _ (by omega) (by omega) (by omega) (by omega)).mono ?_
    rintro e w' ⟨⟨r2, rfl, hr3, hr4, hr5⟩, rfl⟩
    rw [unhide HR, unhide HG] at hr3
    have hr6 : -9223372036854775807 ≤ r2 := by omega
    have hr7 : (r2.natAbs : Int) = (G : Int) := by omega
    clear hr3 HR HG gb
    go_wp2_with fail
    refine (abs_any _ _ hr6 (by omega)).mono ?_
    rintro e w' ⟨rfl, rfl⟩
    rw [hr7]
    clear hr7 hr6 hr4 hr5 hr1 hr2
    go_wp2_with fail
    go_region
    all_goals
      go_wp2_with fail
      refine bodyPost_ret (v := .agg #[.int .i64 QX, .int .i64 QY, .int .i64 QD]) (by simp [results, Try.results81, go_sem]) rfl ⟨rfl, ?_⟩
      repeat (first | exact Below.refl _ _ | refine Below.setCell ?_ (by simp) _ | refine ba ?_ _ | refine Below.drew ?_ | refine bdN ?_ _)
theorem spotM (x y d : Int) (w : World) (hd : d ≠ 0) (hd2 : -1000000000000000000 ≤ d ∧ d ≤ 1000000000000000000) (hx : -1000000000000000000 ≤ x ∧ x ≤ 1000000000000000000) (hy : -1000000000000000000 ≤ y ∧ y ≤ 1000000000000000000) :
    Calls Try.prog 81 #[.int .i64 x, .int .i64 y, .int .i64 d] w fun e w' => e = .returned (spv (redM x y d)) ∧ Below w.heap.size w w' := by
  have key : ∀ X Y D : Int, (d < 0 ∧ X = -x ∧ Y = -y ∧ D = -d ∨ ¬ d < 0 ∧ X = x ∧ Y = y ∧ D = d) → Calls Try.prog 81 #[.int .i64 x, .int .i64 y, .int .i64 d] w fun e w' => e = .returned (spv (red X Y D)) ∧ Below w.heap.size w w' := by
    intro X Y D hc
    obtain ⟨g1, g2⟩ := redG_le X Y D (by omega)
    have bx := tdiv_bd X (redG X Y D) 1000000000000000000 (by omega) (by omega)
    have by' := tdiv_bd Y (redG X Y D) 1000000000000000000 (by omega) (by omega)
    have bd := tdiv_bd D (redG X Y D) 1000000000000000000 (by omega) (by omega)
    have gb : Nat.gcd X.natAbs Y.natAbs ≤ 1000000000000000000 := by
      by_cases h0 : X.natAbs = 0
      · rw [h0, Nat.gcd_zero_left]; omega
      · exact Nat.le_trans (Nat.gcd_le_left _ (by omega)) (by omega)
    exact spotM_core x y d X Y D (redG X Y D) w hd hd2 hx hy g1 (by omega) (hide rfl) gb hc (X.tdiv (redG X Y D : Nat)) (Y.tdiv (redG X Y D : Nat)) (D.tdiv (redG X Y D : Nat)) rfl rfl rfl (IntWalk.wrap64_in _ ⟨by omega, by omega⟩) (IntWalk.wrap64_in _ ⟨by omega, by omega⟩) (IntWalk.wrap64_in _ ⟨by omega, by omega⟩)
  unfold redM
  split
  · exact key _ _ _ (.inl ⟨by assumption, rfl, rfl, rfl⟩)
  · exact key _ _ _ (.inr ⟨by assumption, rfl, rfl, rfl⟩)
end Go.Proofs.Ytimkinpbimangaa
