/-
  Numbers within bounds: rows of whole numbers whose elements all lie between two bounds, both sides.
-/
import Derived.Test.YtjbbpllmojiaoaaItRows
import Derived.Laws.EntriesVeiled
import Derived.Lib.MinMax
namespace Go.Proofs.Ytjbbpllmojiaoaa
open Go.ChangeShapes Go.WideShapes Go.ChangeAt Go.RowKit
set_option linter.unusedVariables false
set_option linter.unusedSimpArgs false

/-- the number lies between the bounds -/
def inR (a b x : Int) : Bool := decide (a ≤ x) && decide (x ≤ b)
theorem inR_iff {a b x : Int} : inR a b x = true ↔ a ≤ x ∧ x ≤ b := by unfold inR; simp
theorem inR_f1 {a b x : Int} (h : x < a) : inR a b x = false := by unfold inR; rw [decide_eq_false (by omega)]; rfl
theorem inR_f2 {a b x : Int} (h : b < x) : inR a b x = false := by unfold inR; rw [decide_eq_false (p := x ≤ b) (by omega)]; simp
theorem all_take (p : Int → Bool) {L : List Int} {i : Nat} {x : Int} (hx : L[i]? = some x) : (L.take (i + 1)).all p = ((L.take i).all p && p x) := by
  rw [List.take_add_one, hx]
  simp
theorem all_not (p : Int → Bool) {L : List Int} {i : Nat} {x : Int} (hx : L[i]? = some x) (h : p x = false) : L.all p = false := by
  cases hq : L.all p with
  | false => rfl
  | true =>
    have := List.all_eq_true.1 hq x (List.mem_of_getElem? hx)
    rw [h] at this
    cases this
theorem bt_any (x a b : Int) (w : World) : Calls Try.prog 50 #[.int .i64 x, .int .i64 a, .int .i64 b] w fun e w' => e = .returned (.bool (inR a b x)) ∧ w' = w := by
  by_cases h1 : a ≤ x
  · by_cases h2 : x ≤ b
    · have t1 := decide_eq_true h1
      have t2 := decide_eq_true h2
      go_enter Try.func50, Try.ntmps50
      go_wp2_with fail
      go_ret
      exact ⟨by simp [inR, h1, h2], rfl⟩
    · have t1 := decide_eq_true h1
      have t2 := decide_eq_false h2
      go_enter Try.func50, Try.ntmps50
      go_wp2_with fail
      go_ret
      exact ⟨by simp [inR, h1, h2], rfl⟩
  · have t1 := decide_eq_false h1
    go_enter Try.func50, Try.ntmps50
    go_wp2_with fail
    go_ret
    exact ⟨by unfold inR; rw [t1]; rfl, rfl⟩
theorem wr53_any (x : Int) (w : World) : Calls Try.prog 53 #[.int .i64 x] w fun e w' => e = .returned (.bool (!inR (-1000) 1000 x)) ∧ w' = w := by
  go_enter Try.func53, Try.ntmps53
  go_wp2_with fail
  refine (bt_any x (-1000) 1000 _).mono ?_
  rintro e w' ⟨rfl, rfl⟩
  go_wp2_with fail
  go_ret
  exact ⟨rfl, rfl⟩
set_option maxHeartbeats 1000000 in
theorem ixf53_any (u : Option Addr) (p po n c : Nat) (L : List Int) (w : World) (hl : L.length = n) (hn : n ≤ 9223372036854775807) (hu : Its w u p po L) :
    Calls Try.prog 73 #[.slice u n c, .func (.func 53) #[] #[]] w fun e w' => (∃ r : Int, e = .returned (.int .i64 r) ∧ decide (0 ≤ r) = !L.all (inR (-1000) 1000)) ∧ w' = w := by
  have HU := hide hu
  have HL := hide hl
  have n0 : (0 : Int) ≤ (n : Int) := Int.natCast_nonneg _
  clear hu hl
  go_enter Try.func73, Try.ntmps73
  go_wp2_with fail
  go_loopw [8] (fun s W => ∃ i : Nat, s = .int .i64 (i : Int) ∧ i ≤ n ∧ (L.take i).all (inR (-1000) 1000) = true ∧ W = w) (fun s _ => n - (intOf s).toNat)
  case atStart => exact ⟨0, rfl, Nat.zero_le _, by simp, rfl⟩
  case round =>
    obtain ⟨i, rfl, hi, ha, rfl⟩ := hrel
    have HA := hide ha
    clear ha
    by_cases h : i < n
    · have i1 : (i : Int) < (n : Int) := by omega
      have i0 : (0 : Int) ≤ (i : Int) := Int.natCast_nonneg _
      have iz : decide ((i : Int) < (n : Int)) = true := decide_eq_true i1
      obtain ⟨x, hx⟩ := get_some (unhide HL) h
      obtain ⟨rfl, pw, k0⟩ := (unhide HU).at hx
      have HAX := hide (all_take (inR (-1000) 1000) hx)
      have HX := hide hx
      clear pw hx
      go_wp2_with fail
      refine (wr53_any x _).mono ?_
      rintro e w' ⟨rfl, rfl⟩
      cases hto : inR (-1000) 1000 x with
      | true =>
        go_wp2_with fail
        go_roundw
        case rel => exact ⟨i + 1, by simp, h, by rw [unhide HAX, unhide HA, hto]; rfl, by first | rfl | trivial⟩
        case measure => simp only [intOf]; omega
      | false =>
        go_wp2_with fail
        go_ret
        refine ⟨⟨_, rfl, ?_⟩, rfl⟩
        rw [all_not _ (unhide HX) hto]
        simp
    · have iz : decide ((i : Int) < (n : Int)) = false := decide_eq_false (by omega)
      have HE : Hid (L.all (inR (-1000) 1000) = true) := hide (by have := unhide HA; rwa [List.take_of_length_le (by rw [unhide HL]; omega)] at this)
      go_wp2_with fail
      go_ret
      refine ⟨⟨_, rfl, ?_⟩, rfl⟩
      rw [unhide HE]
      rfl
theorem cnf53_any (u : Option Addr) (p po n c : Nat) (L : List Int) (w : World) (hl : L.length = n) (hn : n ≤ 9223372036854775807) (hu : Its w u p po L) :
    Calls Try.prog 42 #[.slice u n c, .func (.func 53) #[] #[]] w fun e w' => e = .returned (.bool (!L.all (inR (-1000) 1000))) ∧ w' = w := by
  have H := hide (ixf53_any u p po n c L w hl hn hu)
  clear hl hu
  go_enter Try.func42, Try.ntmps42
  go_wp2_with fail
  refine (unhide H).mono ?_
  rintro e w' ⟨⟨r, rfl, hr⟩, rfl⟩
  go_wp2_with fail
  go_ret
  exact ⟨by rw [← hr]; rfl, rfl⟩
theorem wr43_any (x : Int) (w : World) : Calls Try.prog 43 #[.int .i64 x] w fun e w' => e = .returned (.bool (!inR 1 1000000 x)) ∧ w' = w := by
  go_enter Try.func43, Try.ntmps43
  go_wp2_with fail
  refine (bt_any x 1 1000000 _).mono ?_
  rintro e w' ⟨rfl, rfl⟩
  go_wp2_with fail
  go_ret
  exact ⟨rfl, rfl⟩
set_option maxHeartbeats 1000000 in
theorem ixf43_any (u : Option Addr) (p po n c : Nat) (L : List Int) (w : World) (hl : L.length = n) (hn : n ≤ 9223372036854775807) (hu : Its w u p po L) :
    Calls Try.prog 73 #[.slice u n c, .func (.func 43) #[] #[]] w fun e w' => (∃ r : Int, e = .returned (.int .i64 r) ∧ decide (0 ≤ r) = !L.all (inR 1 1000000)) ∧ w' = w := by
  have HU := hide hu
  have HL := hide hl
  have n0 : (0 : Int) ≤ (n : Int) := Int.natCast_nonneg _
  clear hu hl
  go_enter Try.func73, Try.ntmps73
  go_wp2_with fail
  go_loopw [8] (fun s W => ∃ i : Nat, s = .int .i64 (i : Int) ∧ i ≤ n ∧ (L.take i).all (inR 1 1000000) = true ∧ W = w) (fun s _ => n - (intOf s).toNat)
  case atStart => exact ⟨0, rfl, Nat.zero_le _, by simp, rfl⟩
  case round =>
    obtain ⟨i, rfl, hi, ha, rfl⟩ := hrel
    have HA := hide ha
    clear ha
    by_cases h : i < n
    · have i1 : (i : Int) < (n : Int) := by omega
      have i0 : (0 : Int) ≤ (i : Int) := Int.natCast_nonneg _
      have iz : decide ((i : Int) < (n : Int)) = true := decide_eq_true i1
      obtain ⟨x, hx⟩ := get_some (unhide HL) h
      obtain ⟨rfl, pw, k0⟩ := (unhide HU).at hx
      have HAX := hide (all_take (inR 1 1000000) hx)
      have HX := hide hx
      clear pw hx
      go_wp2_with fail
      refine (wr43_any x _).mono ?_
      rintro e w' ⟨rfl, rfl⟩
      cases hto : inR 1 1000000 x with
      | true =>
        go_wp2_with fail
        go_roundw
        case rel => exact ⟨i + 1, by simp, h, by rw [unhide HAX, unhide HA, hto]; rfl, by first | rfl | trivial⟩
        case measure => simp only [intOf]; omega
      | false =>
        go_wp2_with fail
        go_ret
        refine ⟨⟨_, rfl, ?_⟩, rfl⟩
        rw [all_not _ (unhide HX) hto]
        simp
    · have iz : decide ((i : Int) < (n : Int)) = false := decide_eq_false (by omega)
      have HE : Hid (L.all (inR 1 1000000) = true) := hide (by have := unhide HA; rwa [List.take_of_length_le (by rw [unhide HL]; omega)] at this)
      go_wp2_with fail
      go_ret
      refine ⟨⟨_, rfl, ?_⟩, rfl⟩
      rw [unhide HE]
      rfl
theorem cnf43_any (u : Option Addr) (p po n c : Nat) (L : List Int) (w : World) (hl : L.length = n) (hn : n ≤ 9223372036854775807) (hu : Its w u p po L) :
    Calls Try.prog 42 #[.slice u n c, .func (.func 43) #[] #[]] w fun e w' => e = .returned (.bool (!L.all (inR 1 1000000))) ∧ w' = w := by
  have H := hide (ixf43_any u p po n c L w hl hn hu)
  clear hl hu
  go_enter Try.func42, Try.ntmps42
  go_wp2_with fail
  refine (unhide H).mono ?_
  rintro e w' ⟨⟨r, rfl, hr⟩, rfl⟩
  go_wp2_with fail
  go_ret
  exact ⟨by rw [← hr]; rfl, rfl⟩
set_option maxHeartbeats 1000000 in
theorem wi_any (u : Option Addr) (p po n c : Nat) (L : List Int) (a b : Int) (w : World) (hl : L.length = n) (hn : n ≤ 9223372036854775807) (hu : Its w u p po L) :
    Calls Try.prog 45 #[.slice u n c, .int .i64 a, .int .i64 b] w fun e w' => e = .returned (.bool (L.all (inR a b))) ∧ w' = w := by
  have HU := hide hu
  have HL := hide hl
  have n0 : (0 : Int) ≤ (n : Int) := Int.natCast_nonneg _
  clear hu hl
  go_enter Try.func45, Try.ntmps45
  go_wp2_with fail
  go_loopw [7] (fun s W => ∃ i : Nat, s = .int .i64 (i : Int) ∧ i ≤ n ∧ (L.take i).all (inR a b) = true ∧ W = w) (fun s _ => n - (intOf s).toNat)
  case atStart => exact ⟨0, rfl, Nat.zero_le _, by simp, rfl⟩
  case round =>
    obtain ⟨i, rfl, hi, ha, rfl⟩ := hrel
    have HA := hide ha
    clear ha
    by_cases h : i < n
    · have i1 : (i : Int) < (n : Int) := by omega
      have i0 : (0 : Int) ≤ (i : Int) := Int.natCast_nonneg _
      have iz : decide ((i : Int) < (n : Int)) = true := decide_eq_true i1
      obtain ⟨x, hx⟩ := get_some (unhide HL) h
      obtain ⟨rfl, pw, k0⟩ := (unhide HU).at hx
      have HAX := hide (all_take (inR a b) hx)
      have HX := hide hx
      clear pw hx
      by_cases h1 : x < a
      · have t1 : decide (x < a) = true := decide_eq_true h1
        go_wp2_with fail
        go_ret
        exact ⟨by rw [all_not _ (unhide HX) (inR_f1 h1)]; rfl, rfl⟩
      have t1 : decide (x < a) = false := decide_eq_false h1
      by_cases h2 : b < x
      · have t2 : decide (b < x) = true := decide_eq_true h2
        go_wp2_with fail
        go_ret
        exact ⟨by rw [all_not _ (unhide HX) (inR_f2 h2)]; rfl, rfl⟩
      have t2 : decide (b < x) = false := decide_eq_false h2
      go_wp2_with fail
      go_roundw
      case rel => exact ⟨i + 1, by simp, h, by rw [unhide HAX, unhide HA, inR_iff.2 ⟨by omega, by omega⟩]; rfl, by first | rfl | trivial⟩
      case measure => simp only [intOf]; omega
    · have iz : decide ((i : Int) < (n : Int)) = false := decide_eq_false (by omega)
      have HE : Hid (L.all (inR a b) = true) := hide (by have := unhide HA; rwa [List.take_of_length_le (by rw [unhide HL]; omega)] at this)
      go_wp2_with fail
      go_ret
      exact ⟨by rw [unhide HE]; rfl, rfl⟩
end Go.Proofs.Ytjbbpllmojiaoaa
