/-
  Whether a field is right: both sides.
-/
import Derived.Test.YtjhldjojkaphkaaVb
import Derived.Test.YtjhldjojkaphkaaMlMath
namespace Go.Proofs.Ytjhldjojkaphkaa
open Go.ChangeShapes Go.WideShapes Go.ChangeAt Go.RowKit
set_option linter.unusedVariables false
set_option linter.unusedSimpArgs false

/-- a field as a value -/
def fldV (W H : Int) (u : Option Addr) (n c : Nat) : Value := .agg #[.int .i64 W, .int .i64 H, .slice u n c]
theorem bt_any (x a b : Int) (w : World) : Calls Try.prog 36 #[.int .i64 x, .int .i64 a, .int .i64 b] w fun e w' => e = .returned (.bool (decide (a ≤ x) && decide (x ≤ b))) ∧ w' = w := by
  by_cases h1 : a ≤ x
  · by_cases h2 : x ≤ b
    · have t1 := decide_eq_true h1
      have t2 := decide_eq_true h2
      go_enter Try.func36, Try.ntmps36
      go_wp2_with fail
      go_ret
      exact ⟨by simp [h1, h2], rfl⟩
    · have t1 := decide_eq_true h1
      have t2 := decide_eq_false h2
      go_enter Try.func36, Try.ntmps36
      go_wp2_with fail
      go_ret
      exact ⟨by simp [h1, h2], rfl⟩
  · have t1 := decide_eq_false h1
    go_enter Try.func36, Try.ntmps36
    go_wp2_with fail
    go_ret
    exact ⟨by simp [h1], rfl⟩
theorem wt_any (x : Int) (w : World) : Calls Try.prog 84 #[.int .i64 x] w fun e w' => e = .returned (.bool (!topOk x)) ∧ w' = w := by
  go_enter Try.func84, Try.ntmps84
  go_wp2_with fail
  refine (bt_any x 0 24 _).mono ?_
  rintro e w' ⟨rfl, rfl⟩
  go_wp2_with fail
  go_ret
  exact ⟨by unfold topOk; simp, rfl⟩
theorem all_take (p : Int → Bool) {L : List Int} {i : Nat} {x : Int} (hx : L[i]? = some x) : (L.take (i + 1)).all p = ((L.take i).all p && p x) := by
  rw [List.take_add_one, hx]
  simp
set_option maxHeartbeats 1000000 in
theorem ixf_any (u : Option Addr) (p po n c : Nat) (L : List Int) (w : World) (hl : L.length = n) (hn : n ≤ 9223372036854775807) (hu : Its w u p po L) :
    Calls Try.prog 97 #[.slice u n c, .func (.func 84) #[] #[]] w fun e w' => (∃ r : Int, e = .returned (.int .i64 r) ∧ decide (0 ≤ r) = !L.all topOk) ∧ w' = w := by
  have HU := hide hu
  have HL := hide hl
  have n0 : (0 : Int) ≤ (n : Int) := Int.natCast_nonneg _
  clear hu hl
  go_enter Try.func97, Try.ntmps97
  go_wp2_with fail
  go_loopw [8] (fun s W => ∃ i : Nat, s = .int .i64 (i : Int) ∧ i ≤ n ∧ (L.take i).all topOk = true ∧ W = w) (fun s _ => n - (intOf s).toNat)
  case atStart => exact ⟨0, rfl, Nat.zero_le _, by simp, rfl⟩
  case round =>
    obtain ⟨i, rfl, hi, ha, rfl⟩ := hrel
    have HA := hide ha
    clear ha
    by_cases h : i < n
    · have i1 : (i : Int) < (n : Int) := by omega
      have i0 : (0 : Int) ≤ (i : Int) := Int.natCast_nonneg _
      have iz : decide ((i : Int) < (n : Int)) = true := decide_eq_true i1
      obtain ⟨x, hx⟩ := get_some (unhide HL) h
      obtain ⟨rfl, pw, k0⟩ := (unhide HU).at hx
      have HAX := hide (all_take topOk hx)
      have HX := hide hx
      clear pw hx
      go_wp2_with fail
      refine (wt_any x _).mono ?_
      rintro e w' ⟨rfl, rfl⟩
      cases hto : topOk x with
      | true =>
        go_wp2_with fail
        go_roundw
        case rel => exact ⟨i + 1, by simp, h, by rw [unhide HAX, unhide HA, hto]; rfl, by first | rfl | trivial⟩
        case measure => simp only [intOf]; omega
      | false =>
        go_wp2_with fail
        go_ret
        refine ⟨⟨_, rfl, ?_⟩, rfl⟩
        have : L.all topOk = false := by
          cases hq : L.all topOk with
          | false => rfl
          | true =>
            have := List.all_eq_true.1 hq x (List.mem_of_getElem? (unhide HX))
            rw [hto] at this
            cases this
        rw [this]
        simp
    · have iz : decide ((i : Int) < (n : Int)) = false := decide_eq_false (by omega)
      have HE : Hid (L.all topOk = true) := hide (by have := unhide HA; rwa [List.take_of_length_le (by rw [unhide HL]; omega)] at this)
      go_wp2_with fail
      go_ret
      refine ⟨⟨_, rfl, ?_⟩, rfl⟩
      rw [unhide HE]
      rfl
theorem cnf_any (u : Option Addr) (p po n c : Nat) (L : List Int) (w : World) (hl : L.length = n) (hn : n ≤ 9223372036854775807) (hu : Its w u p po L) :
    Calls Try.prog 83 #[.slice u n c, .func (.func 84) #[] #[]] w fun e w' => e = .returned (.bool (!L.all topOk)) ∧ w' = w := by
  have H := hide (ixf_any u p po n c L w hl hn hu)
  clear hl hu
  go_enter Try.func83, Try.ntmps83
  go_wp2_with fail
  refine (unhide H).mono ?_
  rintro e w' ⟨⟨r, rfl, hr⟩, rfl⟩
  go_wp2_with fail
  go_ret
  exact ⟨by rw [← hr]; rfl, rfl⟩
theorem fokB_split (W H : Int) (L : List Int) : fokB W H L = (decide (1 ≤ W) && decide (W ≤ 24) && decide (1 ≤ H) && decide (H ≤ 24) && decide ((L.length : Int) = W * H) && L.all topOk) := by
  unfold fokB
  by_cases h : FOk W H L
  · rw [decide_eq_true h]
    simp [h.w1, h.w2, h.h1, h.h2, h.len, h.tops]
  · rw [decide_eq_false h]
    symm
    rw [Bool.eq_false_iff]
    intro hc
    simp only [Bool.and_eq_true, decide_eq_true_eq] at hc
    exact h ⟨hc.1.1.1.1.1, hc.1.1.1.1.2, hc.1.1.1.2, hc.1.1.2, hc.1.2, hc.2⟩
theorem fld_bel (w : World) (v : Value) (o : Obj) : Below w.heap.size w (w.alloc o) := ba (Below.refl _ _) _
theorem wmul {a b : Int} (h1 : 1 ≤ a) (h2 : a ≤ 24) (h3 : 1 ≤ b) (h4 : b ≤ 24) : IntKind.i64.wrap (a * b) = a * b := by
  have l : 0 ≤ a * b := Int.mul_nonneg (by omega) (by omega)
  have u : a * b ≤ 24 * 24 := Int.mul_le_mul h2 h4 (by omega) (by omega)
  exact Go.IntWalk.i64_in _ ⟨by omega, by omega⟩
set_option maxHeartbeats 1000000 in
theorem fokM_any (W H : Int) (u : Option Addr) (p po n c : Nat) (L : List Int) (w : World) (hl : L.length = n) (hn : n ≤ 9223372036854775807) (hu : Its w u p po L) :
    Calls Try.prog 55 #[fldV W H u n c] w fun e w' => e = .returned (.bool (fokB W H L)) ∧ Below w.heap.size w w' := by
  have HU := hide hu
  have HL := hide hl
  have HS := hide (fokB_split W H L)
  have n0 : (0 : Int) ≤ (n : Int) := Int.natCast_nonneg _
  have HB := hide (ba (Below.refl w.heap.size w) (.cells #[.int .i64 W, .int .i64 H, .slice u n c] 25))
  unfold fldV
  clear hu hl
  by_cases a1 : W < 1
  · have t1 := decide_eq_true a1
    go_enter Try.func55, Try.ntmps55
    go_wp2_with fail
    go_ret
    exact ⟨by rw [unhide HS]; simp; omega, unhide HB⟩
  have a1' : 1 ≤ W := by omega
  have t1 := decide_eq_false a1
  by_cases a2 : 24 < W
  · have t2 := decide_eq_true a2
    go_enter Try.func55, Try.ntmps55
    go_wp2_with fail
    go_ret
    exact ⟨by rw [unhide HS]; simp; omega, unhide HB⟩
  have a2' : W ≤ 24 := by omega
  have t2 := decide_eq_false a2
  by_cases a3 : H < 1
  · have t3 := decide_eq_true a3
    go_enter Try.func55, Try.ntmps55
    go_wp2_with fail
    go_ret
    exact ⟨by rw [unhide HS]; simp; omega, unhide HB⟩
  have a3' : 1 ≤ H := by omega
  have t3 := decide_eq_false a3
  by_cases a4 : 24 < H
  · have t4 := decide_eq_true a4
    go_enter Try.func55, Try.ntmps55
    go_wp2_with fail
    go_ret
    exact ⟨by rw [unhide HS]; simp; omega, unhide HB⟩
  have a4' : H ≤ 24 := by omega
  have t4 := decide_eq_false a4
  have wm := wmul a1' a2' a3' a4'
  by_cases a5 : (n : Int) = W * H
  · have t5 : ((n : Int) != W * H) = false := by simp [a5]
    have HS2 : Hid (fokB W H L = L.all topOk) := hide (by
      rw [unhide HS, unhide HL]
      simp [a1', a2', a3', a4', a5])
    have HA5 := hide a5
    clear a5
    go_enter Try.func55, Try.ntmps55
    go_wp2_with fail
    go_loopw [3] (fun s W' => ∃ i : Nat, s = .int .i64 (i : Int) ∧ i ≤ n ∧ (L.take i).all topOk = true ∧ W' = w.alloc (.cells #[.int .i64 W, .int .i64 H, .slice u n c] 25)) (fun s _ => n - (intOf s).toNat)
    case atStart => exact ⟨0, rfl, Nat.zero_le _, by simp, rfl⟩
    case round =>
      obtain ⟨i, rfl, hi, ha, rfl⟩ := hrel
      have HA := hide ha
      clear ha
      by_cases h : i < n
      · have i1 : (i : Int) < (n : Int) := by omega
        have i0 : (0 : Int) ≤ (i : Int) := Int.natCast_nonneg _
        have iz : decide ((i : Int) < (n : Int)) = true := decide_eq_true i1
        obtain ⟨x, hx⟩ := get_some (unhide HL) h
        obtain ⟨rfl, pw, k0⟩ := (unhide HU).at hx
        have HAX := hide (all_take topOk hx)
        have HX := hide hx
        have HF : Hid (topOk x = false → L.all topOk = false) := hide (fun hto => by
          cases hq : L.all topOk with
          | false => rfl
          | true =>
            have := List.all_eq_true.1 hq x (List.mem_of_getElem? (unhide HX))
            rw [hto] at this
            cases this)
        have k1 := ka (o := .cells #[.int .i64 W, .int .i64 H, .slice (some ⟨p, po, none⟩) n c] 25) k0
        have HT : Hid (topOk x = true ↔ 0 ≤ x ∧ x ≤ 24) := hide topOk_iff
        clear pw hx k0
        by_cases b1 : x < 0
        · have s1 := decide_eq_true b1
          go_wp2_with fail
          go_ret
          exact ⟨by rw [unhide HS2, unhide HF (by rw [Bool.eq_false_iff]; intro hc; have := (unhide HT).1 hc; omega)]; first | done | rfl, unhide HB⟩
        have s1 := decide_eq_false b1
        by_cases b2 : 24 < x
        · have s2 := decide_eq_true b2
          go_wp2_with fail
          go_ret
          exact ⟨by rw [unhide HS2, unhide HF (by rw [Bool.eq_false_iff]; intro hc; have := (unhide HT).1 hc; omega)]; first | done | rfl, unhide HB⟩
        have s2 := decide_eq_false b2
        go_wp2_with fail
        go_roundw
        case rel => exact ⟨i + 1, by simp, h, by rw [unhide HAX, unhide HA, (unhide HT).2 ⟨by omega, by omega⟩]; rfl, by first | rfl | trivial⟩
        case measure => simp only [intOf]; omega
      · have iz : decide ((i : Int) < (n : Int)) = false := decide_eq_false (by omega)
        have HE : Hid (L.all topOk = true) := hide (by have := unhide HA; rwa [List.take_of_length_le (by rw [unhide HL]; omega)] at this)
        go_wp2_with fail
        go_ret
        exact ⟨by rw [unhide HS2, unhide HE]; first | done | rfl, unhide HB⟩
  · have t5 : ((n : Int) != W * H) = true := by simp [a5]
    have HS2 : Hid (fokB W H L = false) := hide (by
      rw [unhide HS, unhide HL]
      simp [a5])
    have HA5 := hide a5
    clear a5
    go_enter Try.func55, Try.ntmps55
    go_wp2_with fail
    go_ret
    exact ⟨by rw [unhide HS2]; first | done | rfl, unhide HB⟩
set_option maxHeartbeats 1000000 in
theorem fokP_any (W H : Int) (u : Option Addr) (p po n c : Nat) (L : List Int) (w : World) (hl : L.length = n) (hn : n ≤ 9223372036854775807) (hu : Its w u p po L) :
    Calls Try.prog 48 #[fldV W H u n c] w fun e w' => e = .returned (.bool (fokB W H L)) ∧ Below w.heap.size w w' := by
  have HU := hide hu
  have HL := hide hl
  have HS := hide (fokB_split W H L)
  have n0 : (0 : Int) ≤ (n : Int) := Int.natCast_nonneg _
  have HB := hide (ba (Below.refl w.heap.size w) (.cells #[.int .i64 W, .int .i64 H, .slice u n c] 25))
  have HC := hide (cnf_any u p po n c L (w.alloc (.cells #[.int .i64 W, .int .i64 H, .slice u n c] 25)) hl hn (hu.bel (unhide HB)))
  have H1 := hide (fun W' => bt_any W 1 24 W')
  have H2 := hide (fun W' => bt_any H 1 24 W')
  unfold fldV
  clear hu hl
  by_cases a1 : 1 ≤ W ∧ W ≤ 24
  · have e1 : (decide (1 ≤ W) && decide (W ≤ 24)) = true := by simp [a1]
    rw [e1] at H1 HS
    by_cases a2 : 1 ≤ H ∧ H ≤ 24
    · have e2 : (decide (1 ≤ H) && decide (H ≤ 24)) = true := by simp [a2]
      have HS2 : Hid (fokB W H L = (decide ((n : Int) = W * H) && L.all topOk)) := hide (by rw [unhide HS, unhide HL]; simp [a2])
      rw [e2] at H2
      obtain ⟨b1, b2⟩ := a1
      obtain ⟨b3, b4⟩ := a2
      have wm := wmul b1 b2 b3 b4
      by_cases a5 : (n : Int) = W * H
      · have t5 : ((n : Int) == W * H) = true := by simp [a5]
        have HS3 : Hid (fokB W H L = L.all topOk) := hide (by rw [unhide HS2, decide_eq_true a5, Bool.true_and])
        clear a5
        go_enter Try.func48, Try.ntmps48
        go_wp2_with fail
        refine (unhide H1 _).mono ?_
        rintro e w' ⟨rfl, rfl⟩
        go_wp2_with fail
        refine (unhide H2 _).mono ?_
        rintro e w' ⟨rfl, rfl⟩
        go_wp2_with fail
        refine (unhide HC).mono ?_
        rintro e w' ⟨rfl, rfl⟩
        go_wp2_with fail
        go_ret
        exact ⟨by rw [unhide HS3]; first | done | rfl | simp, unhide HB⟩
      · have t5 : ((n : Int) == W * H) = false := by simp [a5]
        have HS3 : Hid (fokB W H L = false) := hide (by rw [unhide HS2, decide_eq_false a5, Bool.false_and])
        clear a5
        go_enter Try.func48, Try.ntmps48
        go_wp2_with fail
        refine (unhide H1 _).mono ?_
        rintro e w' ⟨rfl, rfl⟩
        go_wp2_with fail
        refine (unhide H2 _).mono ?_
        rintro e w' ⟨rfl, rfl⟩
        go_wp2_with fail
        go_ret
        exact ⟨by rw [unhide HS3]; first | done | rfl | simp, unhide HB⟩
    · have e2 : (decide (1 ≤ H) && decide (H ≤ 24)) = false := by rw [Bool.eq_false_iff]; simp; omega
      have HS3 : Hid (fokB W H L = false) := hide (by rw [unhide HS, Bool.true_and, e2, Bool.false_and, Bool.false_and])
      rw [e2] at H2
      clear a1 a2
      go_enter Try.func48, Try.ntmps48
      go_wp2_with fail
      refine (unhide H1 _).mono ?_
      rintro e w' ⟨rfl, rfl⟩
      go_wp2_with fail
      refine (unhide H2 _).mono ?_
      rintro e w' ⟨rfl, rfl⟩
      go_wp2_with fail
      go_ret
      exact ⟨by rw [unhide HS3]; first | done | rfl | simp, unhide HB⟩
  · have e1 : (decide (1 ≤ W) && decide (W ≤ 24)) = false := by rw [Bool.eq_false_iff]; simp; omega
    have HS3 : Hid (fokB W H L = false) := hide (by rw [unhide HS, e1]; simp)
    rw [e1] at H1
    clear a1
    go_enter Try.func48, Try.ntmps48
    go_wp2_with fail
    refine (unhide H1 _).mono ?_
    rintro e w' ⟨rfl, rfl⟩
    go_wp2_with fail
    go_ret
    exact ⟨by rw [unhide HS3]; first | done | rfl | simp, unhide HB⟩
end Go.Proofs.Ytjhldjojkaphkaa
