/-
  Rules of sketches: which are right, and how both sides tell it of one.
-/
import Derived.Test.YtchdmigeopmacaaMakes
namespace Go.Proofs.Ytchdmigeopmacaa
open Go.ChangeShapes Go.WideShapes Go.ChangeAt Go.RowKit
set_option linter.unusedVariables false
set_option linter.unusedSimpArgs false

theorem wrap_i {x : Int} (h1 : -9223372036854775808 ≤ x) (h2 : x ≤ 9223372036854775807) : IntKind.i64.wrap x = x := by
  simp only [IntKind.wrap, IntKind.bits, IntKind.signed]
  simp
  omega
/-- Kind, A, B, Num -/
abbrev Ru := Int × Int × Int × Int
abbrev ruv (r : Ru) : Value := .agg #[.int .i64 r.1, .int .i64 r.2.1, .int .i64 r.2.2.1, .int .i64 r.2.2.2]
/-- the rules lie in the cells from off on -/
def RusAt (w : World) (b off : Nat) (rs : List Ru) : Prop :=
  ∀ j (r : Ru), rs[j]? = some r → w.cell? ⟨b, off + j * 4, none⟩ = some (.int .i64 r.1) ∧ w.cell? ⟨b, off + j * 4 + 1, none⟩ = some (.int .i64 r.2.1) ∧ w.cell? ⟨b, off + j * 4 + 2, none⟩ = some (.int .i64 r.2.2.1) ∧ w.cell? ⟨b, off + j * 4 + 3, none⟩ = some (.int .i64 r.2.2.2)
theorem RusAt.bel {B : Nat} {w w' : World} {b off : Nat} {rs : List Ru} (h : RusAt w b off rs) (hb : Below B w w') (hB : b < B) : RusAt w' b off rs :=
  fun j p hj => ⟨(hb.cell (p := ⟨b, _, none⟩) hB).trans (h j p hj).1, (hb.cell (p := ⟨b, _, none⟩) hB).trans (h j p hj).2.1, (hb.cell (p := ⟨b, _, none⟩) hB).trans (h j p hj).2.2.1, (hb.cell (p := ⟨b, _, none⟩) hB).trans (h j p hj).2.2.2⟩
/-- a rule of a sketch of n points is right -/
def ruOk (n : Int) (r : Ru) : Bool :=
  decide ((1 ≤ r.1 ∧ r.1 ≤ 9) ∧ (0 ≤ r.2.1 ∧ r.2.1 < n) ∧ (if 3 ≤ r.1 then 0 ≤ r.2.2.1 ∧ r.2.2.1 < n else r.2.2.1 = 0) ∧ (if r.1 ≤ 6 then -100000 ≤ r.2.2.2 ∧ r.2.2.2 ≤ 100000 else r.2.2.2 = 0))
/-- a sketch is right -/
def skOk (n : Int) (rs : List Ru) : Bool := decide (1 ≤ n ∧ n ≤ 24) && decide (rs.length ≤ 60) && rs.all (ruOk n)

theorem wants_any (k : Int) (w : World) : Calls Try.prog 41 #[.int .i64 k] w fun e w' => e = .returned (.tuple #[.bool (decide (3 ≤ k)), .bool (decide (k ≤ 6))]) ∧ w' = w := by
  go_enter Try.func41, Try.ntmps41
  go_wp2
  exact bodyPost_ret (v := .tuple #[.bool (decide (3 ≤ k)), .bool (decide (k ≤ 6))]) (by simp [results, Try.results41, go_sem]) rfl ⟨rfl, rfl⟩
theorem btw_any (x l h : Int) (w : World) : Calls Try.prog 42 #[.int .i64 x, .int .i64 l, .int .i64 h] w fun e w' => e = .returned (.bool (decide (l ≤ x) && decide (x ≤ h))) ∧ w' = w := by
  by_cases h1 : l ≤ x
  · have b1 : decide (l ≤ x) = true := decide_eq_true h1
    go_enter Try.func42, Try.ntmps42
    go_wp2
    go_ret
    exact ⟨ret_bool (by simp [h1]), rfl⟩
  · have b1 : decide (l ≤ x) = false := decide_eq_false h1
    go_enter Try.func42, Try.ntmps42
    go_wp2
    go_ret
    exact ⟨ret_bool (by simp [h1]), rfl⟩

theorem ru_12 {n k a b m : Int} (h : k = 1 ∨ k = 2) (ha : 0 ≤ a ∧ a ≤ n - 1) (hm : -100000 ≤ m ∧ m ≤ 100000) : (b != 0) = !ruOk n (k, a, b, m) := by
  by_cases hb0 : b = 0
  · have : ruOk n (k, a, b, m) = true := decide_eq_true ⟨by omega, ⟨ha.1, by have := ha.2; show a < n; omega⟩, by rw [if_neg (by omega)]; exact hb0, by rw [if_pos (by omega)]; exact hm⟩
    rw [this]; simp [hb0]
  · have : ruOk n (k, a, b, m) = false := decide_eq_false fun ⟨_, _, h3, _⟩ => by rw [if_neg (by omega)] at h3; exact hb0 h3
    rw [this]; simp [hb0]
theorem ru_36 {n k a b m : Int} (h : 3 ≤ k ∧ k ≤ 6) (ha : 0 ≤ a ∧ a ≤ n - 1) (hb : 0 ≤ b ∧ b ≤ n - 1) (hm : -100000 ≤ m ∧ m ≤ 100000) : false = !ruOk n (k, a, b, m) := by
  have : ruOk n (k, a, b, m) = true := decide_eq_true ⟨by omega, ⟨ha.1, by have := ha.2; show a < n; omega⟩, by rw [if_pos (by omega)]; exact ⟨hb.1, by have := hb.2; show b < n; omega⟩, by rw [if_pos (by omega)]; exact hm⟩
  rw [this]; rfl
theorem ru_79 {n k a b m : Int} (h : 7 ≤ k ∧ k ≤ 9) (ha : 0 ≤ a ∧ a ≤ n - 1) (hb : 0 ≤ b ∧ b ≤ n - 1) : (m != 0) = !ruOk n (k, a, b, m) := by
  by_cases hm0 : m = 0
  · have : ruOk n (k, a, b, m) = true := decide_eq_true ⟨by omega, ⟨ha.1, by have := ha.2; show a < n; omega⟩, by rw [if_pos (by omega)]; exact ⟨hb.1, by have := hb.2; show b < n; omega⟩, by rw [if_neg (by omega)]; exact hm0⟩
    rw [this]; simp [hm0]
  · have : ruOk n (k, a, b, m) = false := decide_eq_false fun ⟨_, _, _, h4⟩ => by rw [if_neg (by omega)] at h4; exact hm0 h4
    rw [this]; simp [hm0]
theorem ru_no {n k a b m : Int} (h : ¬ (1 ≤ k ∧ k ≤ 9)) : true = !ruOk n (k, a, b, m) := by
  have : ruOk n (k, a, b, m) = false := decide_eq_false fun ⟨h1, _⟩ => h h1
  rw [this]; rfl
theorem ru_a {n k a b m : Int} (h : ¬ (0 ≤ a ∧ a ≤ n - 1)) : true = !ruOk n (k, a, b, m) := by
  have : ruOk n (k, a, b, m) = false := decide_eq_false fun ⟨_, h1, _⟩ => h ⟨h1.1, by have := h1.2; simp only at this; omega⟩
  rw [this]; rfl
theorem ru_b {n k a b m : Int} (hn : 1 ≤ n) (h : ¬ (0 ≤ b ∧ b ≤ n - 1)) : true = !ruOk n (k, a, b, m) := by
  have : ruOk n (k, a, b, m) = false := decide_eq_false fun ⟨_, _, h1, _⟩ => h (by
    simp only at h1
    split at h1 <;> omega)
  rw [this]; rfl
theorem ru_m {n k a b m : Int} (h : ¬ (-100000 ≤ m ∧ m ≤ 100000)) : true = !ruOk n (k, a, b, m) := by
  have : ruOk n (k, a, b, m) = false := decide_eq_false fun ⟨_, _, _, h1⟩ => h (by
    simp only at h1
    split at h1 <;> omega)
  rw [this]; rfl
theorem nb {k c : Int} (h : (k == c) = false) : k ≠ c := by simpa using h

set_option maxHeartbeats 2000000 in
theorem wrong_any (n : Int) (u : Option Addr) (l c : Nat) (k a b m : Int) (w : World) (hn : 1 ≤ n ∧ n ≤ 24) :
    Calls Try.prog 44 #[.agg #[.int .i64 n, .slice u l c], ruv (k, a, b, m)] w fun e w' => e = .returned (.bool (!ruOk n (k, a, b, m))) ∧ Below w.heap.size w w' := by
  obtain ⟨n1, n2⟩ := hn
  have hw : IntKind.i64.wrap (n - 1) = n - 1 := wrap_i (by omega) (by omega)
  have HB1 := fun W => btw_any a 0 (n - 1) W
  have HB2 := fun W => btw_any b 0 (n - 1) W
  have HB3 := fun W => btw_any m (-100000) 100000 W
  have HH1 := hide HB1
  have HH2 := hide HB2
  have HH3 := hide HB3
  clear HB1 HB2 HB3
  by_cases ha : 0 ≤ a ∧ a ≤ n - 1
  · have ea : (decide (0 ≤ a) && decide (a ≤ n - 1)) = true := by simp [ha]
    rw [ea] at HH1
    by_cases hb : 0 ≤ b ∧ b ≤ n - 1
    · have eb : (decide (0 ≤ b) && decide (b ≤ n - 1)) = true := by simp [hb]
      rw [eb] at HH2
      by_cases hm : -100000 ≤ m ∧ m ≤ 100000
      · have em : (decide (-100000 ≤ m) && decide (m ≤ 100000)) = true := by simp [hm]
        rw [em] at HH3
        have HA := hide ha
        have HB := hide hb
        have HM := hide hm
        have HN := hide (And.intro n1 n2)
        clear ha hb hm ea eb em
        go_enter Try.func44, Try.ntmps44
        go_wp2_with fail
        refine (unhide HH1 _).mono ?_
        rintro e W1 ⟨rfl, rfl⟩
        go_wp2_with fail
        refine (unhide HH2 _).mono ?_
        rintro e W1 ⟨rfl, rfl⟩
        go_wp2_with fail
        refine (unhide HH3 _).mono ?_
        rintro e W1 ⟨rfl, rfl⟩
        go_wp2_with fail
        all_goals
          go_ret
          refine ⟨ret_bool ?_, ba (ba (Below.refl _ _) _) _⟩
          first
          | exact ru_12 (.inl (eq_of_beq ‹(k == 1) = true›)) (unhide HA) (unhide HM)
          | exact ru_12 (.inr (eq_of_beq ‹(k == 2) = true›)) (unhide HA) (unhide HM)
          | exact ru_36 (by have := eq_of_beq ‹(k == 3) = true›; omega) (unhide HA) (unhide HB) (unhide HM)
          | exact ru_36 (by have := eq_of_beq ‹(k == 4) = true›; omega) (unhide HA) (unhide HB) (unhide HM)
          | exact ru_36 (by have := eq_of_beq ‹(k == 5) = true›; omega) (unhide HA) (unhide HB) (unhide HM)
          | exact ru_36 (by have := eq_of_beq ‹(k == 6) = true›; omega) (unhide HA) (unhide HB) (unhide HM)
          | exact ru_79 (by have := eq_of_beq ‹(k == 7) = true›; omega) (unhide HA) (unhide HB)
          | exact ru_79 (by have := eq_of_beq ‹(k == 8) = true›; omega) (unhide HA) (unhide HB)
          | exact ru_79 (by have := eq_of_beq ‹(k == 9) = true›; omega) (unhide HA) (unhide HB)
          | exact ru_no (by
              have h1 := nb ‹(k == 1) = false›
              have h2 := nb ‹(k == 2) = false›
              have h3 := nb ‹(k == 3) = false›
              have h4 := nb ‹(k == 4) = false›
              have h5 := nb ‹(k == 5) = false›
              have h6 := nb ‹(k == 6) = false›
              have h7 := nb ‹(k == 7) = false›
              have h8 := nb ‹(k == 8) = false›
              have h9 := nb ‹(k == 9) = false›
              omega)
      · have ez : (decide (-100000 ≤ m) && decide (m ≤ 100000)) = false := by
          rw [← Bool.decide_and]; exact decide_eq_false hm
        rw [ez] at HH3
        have HX := hide hm
        clear hm
        go_enter Try.func44, Try.ntmps44
        go_wp2_with fail
        refine (unhide HH1 _).mono ?_
        rintro e W1 ⟨rfl, rfl⟩
        go_wp2_with fail
        refine (unhide HH2 _).mono ?_
        rintro e W1 ⟨rfl, rfl⟩
        go_wp2_with fail
        refine (unhide HH3 _).mono ?_
        rintro e W1 ⟨rfl, rfl⟩
        go_wp2_with fail
        go_ret
        exact ⟨ret_bool (ru_m (unhide HX)), ba (ba (Below.refl _ _) _) _⟩
    · have ez : (decide (0 ≤ b) && decide (b ≤ n - 1)) = false := by
        rw [← Bool.decide_and]; exact decide_eq_false hb
      rw [ez] at HH2
      have HX := hide hb
      clear hb
      go_enter Try.func44, Try.ntmps44
      go_wp2_with fail
      refine (unhide HH1 _).mono ?_
      rintro e W1 ⟨rfl, rfl⟩
      go_wp2_with fail
      refine (unhide HH2 _).mono ?_
      rintro e W1 ⟨rfl, rfl⟩
      go_wp2_with fail
      go_ret
      exact ⟨ret_bool (ru_b n1 (unhide HX)), ba (ba (Below.refl _ _) _) _⟩
  · have ez : (decide (0 ≤ a) && decide (a ≤ n - 1)) = false := by
      rw [← Bool.decide_and]; exact decide_eq_false ha
    rw [ez] at HH1
    have HX := hide ha
    clear ha
    go_enter Try.func44, Try.ntmps44
    go_wp2_with fail
    refine (unhide HH1 _).mono ?_
    rintro e W1 ⟨rfl, rfl⟩
    go_wp2_with fail
    go_ret
    exact ⟨ret_bool (ru_a (unhide HX)), ba (ba (Below.refl _ _) _) _⟩
end Go.Proofs.Ytchdmigeopmacaa
