/-
  Judge of both sides.
-/
import Derived.Test.YtdneepojgklciaaMakes
namespace Go.Proofs.Ytdneepojgklciaa
open Go.ChangeShapes Go.WideShapes Go.ChangeAt Go.RowKit
set_option linter.unusedVariables false
set_option linter.unusedSimpArgs false

theorem get_some {α : Type} {ls : List α} {i n : Nat} (hl : ls.length = n) (h : i < n) : ∃ l, ls[i]? = some l := ⟨ls[i]'(by omega), List.getElem?_eq_getElem _⟩
theorem take_succ_mem {α : Type} {ls : List α} {i : Nat} {l : α} (h : ls[i]? = some l) (p : α → Prop) : (∀ x ∈ ls.take (i + 1), p x) ↔ (∀ x ∈ ls.take i, p x) ∧ p l := by
  rw [List.take_add_one, h]
  simp only [Option.toList_some, List.mem_append, List.mem_singleton]
  constructor
  · intro hx; exact ⟨fun x h1 => hx x (.inl h1), hx l (.inr rfl)⟩
  · rintro ⟨h1, h2⟩ x (h3 | h3)
    · exact h1 x h3
    · rw [h3]; exact h2
def btw (x a b : Int) : Bool := decide (a ≤ x ∧ x ≤ b)
theorem btw_any (x a b : Int) (w : World) : Calls Try.prog 37 #[.int .i64 x, .int .i64 a, .int .i64 b] w fun e w' => e = .returned (.bool (btw x a b)) ∧ w' = w := by
  by_cases h0 : a ≤ x
  · have t0 : decide (a ≤ x) = true := decide_eq_true h0
    by_cases h1 : x ≤ b
    · have t1 : decide (x ≤ b) = true := decide_eq_true h1
      rw [show btw x a b = true from decide_eq_true ⟨h0, h1⟩]
      go_enter Try.func37, Try.ntmps37
      go_wp2
      go_ret
      exact ⟨rfl, rfl⟩
    · have t1 : decide (x ≤ b) = false := decide_eq_false h1
      rw [show btw x a b = false from decide_eq_false (fun h => h1 h.2)]
      go_enter Try.func37, Try.ntmps37
      go_wp2
      go_ret
      exact ⟨rfl, rfl⟩
  · have t0 : decide (a ≤ x) = false := decide_eq_false h0
    rw [show btw x a b = false from decide_eq_false (fun h => h0 h.1)]
    go_enter Try.func37, Try.ntmps37
    go_wp2
    go_ret
    exact ⟨rfl, rfl⟩

/-- a number that may be handed in -/
def Inb (x : Int) : Prop := -100000 ≤ x ∧ x ≤ 100000
instance (x : Int) : Decidable (Inb x) := by unfold Inb; infer_instance
def JuOk (v l h d : Int) : Prop := (Inb v ∧ Inb l ∧ Inb h ∧ Inb d) ∧ ¬ h < l ∧ ¬ d < 0
instance (v l h d : Int) : Decidable (JuOk v l h d) := by unfold JuOk; infer_instance
def juK (v l h d : Int) : Int := if l ≤ v - d ∧ v + d ≤ h then 1 else if v + d < l ∨ h < v - d then 2 else 3
/-- the answer: the kind, the code -/
def juV (v l h d : Int) : Value := if JuOk v l h d then .tuple #[.int .i64 (juK v l h d), .int .i64 0] else .tuple #[.int .i64 0, .int .i64 1]

set_option maxHeartbeats 1000000 in
/-- the model's -/
theorem juM_any (v l h d : Int) (w : World) : Calls Try.prog 14 #[.int .i64 v, .int .i64 l, .int .i64 h, .int .i64 d] w fun e w' => e = .returned (juV v l h d) ∧ Below w.heap.size w w' := by
  have HN := hide (iblk_new w 3 [v, l, h, d])
  have HBL := hide (ba (Below.refl w.heap.size w) (.cells ([v, l, h, d].map (Value.int .i64)).toArray 3))
  have BAD : Hid (¬ JuOk v l h d → juV v l h d = .tuple #[.int .i64 0, .int .i64 1]) := hide fun hq => if_neg hq
  have GOOD : Hid (JuOk v l h d → juV v l h d = .tuple #[.int .i64 (juK v l h d), .int .i64 0]) := hide fun hq => if_pos hq
  generalize juV v l h d = R at *
  go_enter Try.func14, Try.ntmps14
  go_wp2
  generalize hW0 : w.alloc (.cells #[Value.int .i64 v, Value.int .i64 l, Value.int .i64 h, Value.int .i64 d] 3) = W0 at *
  have HN2 : Hid (iblk W0 w.heap.size 3 [v, l, h, d]) := hide (hW0 ▸ unhide HN)
  have HBL2 : Hid (Below w.heap.size w W0) := hide (hW0 ▸ unhide HBL)
  clear HN HBL hW0
  go_loopw [11] (fun z W => ∃ i : Nat, z = .int .i64 (i : Int) ∧ i ≤ 4 ∧ (∀ x ∈ [v, l, h, d].take i, Inb x) ∧ W = W0) (fun z _ => 4 - (intOf z).toNat)
  case atStart => exact ⟨0, rfl, Nat.zero_le _, by simp, rfl⟩
  case round =>
    obtain ⟨i, rfl, hi, hall, rfl⟩ := hrel
    have HA := hide hall
    clear hall
    by_cases q : i < 4
    · have i1 : (i : Int) < 4 := by omega
      have i0 : (0 : Int) ≤ (i : Int) := Int.natCast_nonneg _
      have iz : decide ((i : Int) < 4) = true := decide_eq_true i1
      obtain ⟨x, hx⟩ := get_some (ls := [v, l, h, d]) (n := 4) rfl q
      have k0 := (unhide HN2).cell hx
      have HX := hide hx
      clear hx
      by_cases q1 : x < -100000
      · have t1 : decide (x < -100000) = true := decide_eq_true q1
        go_wp2_with fail
        exact bodyPost_ret (v := .tuple #[.int .i64 0, .int .i64 1]) (by simp [results, Try.results14, go_sem]) rfl ⟨by rw [unhide BAD (fun hq => absurd (hq.1) (by have hm := List.mem_of_getElem? (unhide HX); simp only [List.mem_cons, List.not_mem_nil, or_false] at hm; rintro ⟨h1, h2, h3, h4⟩; unfold Inb at *; rcases hm with rfl | rfl | rfl | rfl <;> omega))], unhide HBL2⟩
      · have t1 : decide (x < -100000) = false := decide_eq_false q1
        by_cases q2 : 100000 < x
        · have t2 : decide (100000 < x) = true := decide_eq_true q2
          go_wp2_with fail
          exact bodyPost_ret (v := .tuple #[.int .i64 0, .int .i64 1]) (by simp [results, Try.results14, go_sem]) rfl ⟨by rw [unhide BAD (fun hq => absurd (hq.1) (by have hm := List.mem_of_getElem? (unhide HX); simp only [List.mem_cons, List.not_mem_nil, or_false] at hm; rintro ⟨h1, h2, h3, h4⟩; unfold Inb at *; rcases hm with rfl | rfl | rfl | rfl <;> omega))], unhide HBL2⟩
        · have t2 : decide (100000 < x) = false := decide_eq_false q2
          go_wp2_with fail
          go_roundw
          case rel => exact ⟨i + 1, by simp, by omega, (take_succ_mem (unhide HX) Inb).2 ⟨unhide HA, by unfold Inb; omega⟩, by first | rfl | trivial⟩
          case measure => simp only [intOf]; omega
    · have i1 : ¬ (i : Int) < 4 := by omega
      have iz : decide ((i : Int) < 4) = false := decide_eq_false i1
      obtain rfl : i = 4 := by omega
      obtain ⟨⟨a0, a1⟩, ⟨b0, b1⟩, ⟨c0, c1⟩, ⟨d0, d1⟩⟩ : Inb v ∧ Inb l ∧ Inb h ∧ Inb d := by
        have := unhide HA
        simpa using this
      by_cases q1 : h < l
      · have t1 : decide (h < l) = true := decide_eq_true q1
        go_wp2_with fail
        exact bodyPost_ret (v := .tuple #[.int .i64 0, .int .i64 1]) (by simp [results, Try.results14, go_sem]) rfl ⟨by rw [unhide BAD (fun hq => hq.2.1 q1)], unhide HBL2⟩
      have t1 : decide (h < l) = false := decide_eq_false q1
      by_cases q2 : d < 0
      · have t2 : decide (d < 0) = true := decide_eq_true q2
        go_wp2_with fail
        exact bodyPost_ret (v := .tuple #[.int .i64 0, .int .i64 1]) (by simp [results, Try.results14, go_sem]) rfl ⟨by rw [unhide BAD (fun hq => hq.2.2 q2)], unhide HBL2⟩
      have t2 : decide (d < 0) = false := decide_eq_false q2
      have okx : Hid (JuOk v l h d) := hide ⟨⟨⟨a0, a1⟩, ⟨b0, b1⟩, ⟨c0, c1⟩, ⟨d0, d1⟩⟩, q1, q2⟩
      by_cases q3 : l ≤ v - d
      · have t3 : decide (l ≤ v - d) = true := decide_eq_true q3
        by_cases q4 : v + d ≤ h
        · have t4 : decide (v + d ≤ h) = true := decide_eq_true q4
          go_wp2_with fail
          exact bodyPost_ret (v := .tuple #[.int .i64 1, .int .i64 0]) (by simp [results, Try.results14, go_sem]) rfl ⟨by rw [unhide GOOD (unhide okx), show juK v l h d = 1 by unfold juK; split; all_goals (try split); all_goals omega], unhide HBL2⟩
        have t4 : decide (v + d ≤ h) = false := decide_eq_false q4
        by_cases q5 : v + d < l
        · exfalso; omega
        have t5 : decide (v + d < l) = false := decide_eq_false q5
        by_cases q6 : h < v - d
        · have t6 : decide (h < v - d) = true := decide_eq_true q6
          go_wp2_with fail
          exact bodyPost_ret (v := .tuple #[.int .i64 2, .int .i64 0]) (by simp [results, Try.results14, go_sem]) rfl ⟨by rw [unhide GOOD (unhide okx), show juK v l h d = 2 by unfold juK; split; all_goals (try split); all_goals omega], unhide HBL2⟩
        have t6 : decide (h < v - d) = false := decide_eq_false q6
        go_wp2_with fail
        exact bodyPost_ret (v := .tuple #[.int .i64 3, .int .i64 0]) (by simp [results, Try.results14, go_sem]) rfl ⟨by rw [unhide GOOD (unhide okx), show juK v l h d = 3 by unfold juK; split; all_goals (try split); all_goals omega], unhide HBL2⟩
      have t3 : decide (l ≤ v - d) = false := decide_eq_false q3
      by_cases q5 : v + d < l
      · have t5 : decide (v + d < l) = true := decide_eq_true q5
        go_wp2_with fail
        exact bodyPost_ret (v := .tuple #[.int .i64 2, .int .i64 0]) (by simp [results, Try.results14, go_sem]) rfl ⟨by rw [unhide GOOD (unhide okx), show juK v l h d = 2 by unfold juK; split; all_goals (try split); all_goals omega], unhide HBL2⟩
      have t5 : decide (v + d < l) = false := decide_eq_false q5
      by_cases q6 : h < v - d
      · have t6 : decide (h < v - d) = true := decide_eq_true q6
        go_wp2_with fail
        exact bodyPost_ret (v := .tuple #[.int .i64 2, .int .i64 0]) (by simp [results, Try.results14, go_sem]) rfl ⟨by rw [unhide GOOD (unhide okx), show juK v l h d = 2 by unfold juK; split; all_goals (try split); all_goals omega], unhide HBL2⟩
      have t6 : decide (h < v - d) = false := decide_eq_false q6
      go_wp2_with fail
      exact bodyPost_ret (v := .tuple #[.int .i64 3, .int .i64 0]) (by simp [results, Try.results14, go_sem]) rfl ⟨by rw [unhide GOOD (unhide okx), show juK v l h d = 3 by unfold juK; split; all_goals (try split); all_goals omega], unhide HBL2⟩

set_option maxHeartbeats 1000000 in
/-- the program's -/
theorem juP_any (v l h d : Int) (w : World) : Calls Try.prog 13 #[.int .i64 v, .int .i64 l, .int .i64 h, .int .i64 d] w fun e w' => e = .returned (juV v l h d) ∧ Below w.heap.size w w' := by
  have BAD : Hid (¬ JuOk v l h d → juV v l h d = .tuple #[.int .i64 0, .int .i64 1]) := hide fun hq => if_neg hq
  have GOOD : Hid (JuOk v l h d → juV v l h d = .tuple #[.int .i64 (juK v l h d), .int .i64 0]) := hide fun hq => if_pos hq
  have HBL2 := hide (Below.refl w.heap.size w)
  have B1 := hide (fun W => btw_any l (-100000) h W)
  have B2 := hide (fun W => btw_any v (-100000) 100000 W)
  have B3 := hide (fun W => btw_any d 0 100000 W)
  have E1 : Hid (btw l (-100000) h = decide (-100000 ≤ l ∧ l ≤ h)) := hide rfl
  have E2 : Hid (btw v (-100000) 100000 = decide (-100000 ≤ v ∧ v ≤ 100000)) := hide rfl
  have E3 : Hid (btw d 0 100000 = decide (0 ≤ d ∧ d ≤ 100000)) := hide rfl
  generalize juV v l h d = R at *
  generalize btw l (-100000) h = p1 at *
  generalize btw v (-100000) 100000 = p2 at *
  generalize btw d 0 100000 = p3 at *
  cases p1
  · go_enter Try.func13, Try.ntmps13
    go_wp2_with fail
    refine (unhide B1 _).mono ?_
    rintro e W1 ⟨rfl, rfl⟩
    go_wp2_with fail
    exact bodyPost_ret (v := .tuple #[.int .i64 0, .int .i64 1]) (by simp [results, Try.results13, go_sem]) rfl ⟨by rw [unhide BAD (fun hq => by obtain ⟨⟨⟨x1, x2⟩, ⟨x3, x4⟩, ⟨x5, x6⟩, ⟨x7, x8⟩⟩, x9, x10⟩ := hq; exact of_decide_eq_false (unhide E1).symm ⟨by omega, by omega⟩)], unhide HBL2⟩
  by_cases q0 : h ≤ 100000
  case neg =>
    have t0 : decide (h ≤ 100000) = false := decide_eq_false q0
    go_enter Try.func13, Try.ntmps13
    go_wp2_with fail
    refine (unhide B1 _).mono ?_
    rintro e W1 ⟨rfl, rfl⟩
    go_wp2_with fail
    exact bodyPost_ret (v := .tuple #[.int .i64 0, .int .i64 1]) (by simp [results, Try.results13, go_sem]) rfl ⟨by rw [unhide BAD (fun hq => by obtain ⟨⟨⟨x1, x2⟩, ⟨x3, x4⟩, ⟨x5, x6⟩, ⟨x7, x8⟩⟩, x9, x10⟩ := hq; omega)], unhide HBL2⟩
  have t0 : decide (h ≤ 100000) = true := decide_eq_true q0
  cases p2
  · go_enter Try.func13, Try.ntmps13
    go_wp2_with fail
    refine (unhide B1 _).mono ?_
    rintro e W1 ⟨rfl, rfl⟩
    go_wp2_with fail
    refine (unhide B2 _).mono ?_
    rintro e W1 ⟨rfl, rfl⟩
    go_wp2_with fail
    exact bodyPost_ret (v := .tuple #[.int .i64 0, .int .i64 1]) (by simp [results, Try.results13, go_sem]) rfl ⟨by rw [unhide BAD (fun hq => by obtain ⟨⟨⟨x1, x2⟩, ⟨x3, x4⟩, ⟨x5, x6⟩, ⟨x7, x8⟩⟩, x9, x10⟩ := hq; exact of_decide_eq_false (unhide E2).symm ⟨by omega, by omega⟩)], unhide HBL2⟩
  cases p3
  · go_enter Try.func13, Try.ntmps13
    go_wp2_with fail
    refine (unhide B1 _).mono ?_
    rintro e W1 ⟨rfl, rfl⟩
    go_wp2_with fail
    refine (unhide B2 _).mono ?_
    rintro e W1 ⟨rfl, rfl⟩
    go_wp2_with fail
    refine (unhide B3 _).mono ?_
    rintro e W1 ⟨rfl, rfl⟩
    go_wp2_with fail
    exact bodyPost_ret (v := .tuple #[.int .i64 0, .int .i64 1]) (by simp [results, Try.results13, go_sem]) rfl ⟨by rw [unhide BAD (fun hq => by obtain ⟨⟨⟨x1, x2⟩, ⟨x3, x4⟩, ⟨x5, x6⟩, ⟨x7, x8⟩⟩, x9, x10⟩ := hq; exact of_decide_eq_false (unhide E3).symm ⟨by omega, by omega⟩)], unhide HBL2⟩
  obtain ⟨b0, b1⟩ := of_decide_eq_true (unhide E1).symm
  obtain ⟨a0, a1⟩ := of_decide_eq_true (unhide E2).symm
  obtain ⟨d0, d1⟩ := of_decide_eq_true (unhide E3).symm
  have okx : Hid (JuOk v l h d) := hide ⟨⟨⟨a0, a1⟩, ⟨by omega, by omega⟩, ⟨by omega, by omega⟩, ⟨by omega, by omega⟩⟩, by omega, by omega⟩
  by_cases q3 : l ≤ v - d
  · have t3 : decide (l ≤ v - d) = true := decide_eq_true q3
    by_cases q4 : v + d ≤ h
    · have t4 : decide (v + d ≤ h) = true := decide_eq_true q4
      go_enter Try.func13, Try.ntmps13
      go_wp2_with fail
      refine (unhide B1 _).mono ?_
      rintro e W1 ⟨rfl, rfl⟩
      go_wp2_with fail
      refine (unhide B2 _).mono ?_
      rintro e W1 ⟨rfl, rfl⟩
      go_wp2_with fail
      refine (unhide B3 _).mono ?_
      rintro e W1 ⟨rfl, rfl⟩
      go_wp2_with fail
      exact bodyPost_ret (v := .tuple #[.int .i64 1, .int .i64 0]) (by simp [results, Try.results13, go_sem]) rfl ⟨by rw [unhide GOOD (unhide okx), show juK v l h d = 1 by unfold juK; split; all_goals (try split); all_goals omega], unhide HBL2⟩
    have t4 : decide (v + d ≤ h) = false := decide_eq_false q4
    by_cases q5 : v + d < l
    · exfalso; omega
    have t5 : decide (v + d < l) = false := decide_eq_false q5
    by_cases q6 : h < v - d
    · have t6 : decide (h < v - d) = true := decide_eq_true q6
      go_enter Try.func13, Try.ntmps13
      go_wp2_with fail
      refine (unhide B1 _).mono ?_
      rintro e W1 ⟨rfl, rfl⟩
      go_wp2_with fail
      refine (unhide B2 _).mono ?_
      rintro e W1 ⟨rfl, rfl⟩
      go_wp2_with fail
      refine (unhide B3 _).mono ?_
      rintro e W1 ⟨rfl, rfl⟩
      go_wp2_with fail
      exact bodyPost_ret (v := .tuple #[.int .i64 2, .int .i64 0]) (by simp [results, Try.results13, go_sem]) rfl ⟨by rw [unhide GOOD (unhide okx), show juK v l h d = 2 by unfold juK; split; all_goals (try split); all_goals omega], unhide HBL2⟩
    have t6 : decide (h < v - d) = false := decide_eq_false q6
    go_enter Try.func13, Try.ntmps13
    go_wp2_with fail
    refine (unhide B1 _).mono ?_
    rintro e W1 ⟨rfl, rfl⟩
    go_wp2_with fail
    refine (unhide B2 _).mono ?_
    rintro e W1 ⟨rfl, rfl⟩
    go_wp2_with fail
    refine (unhide B3 _).mono ?_
    rintro e W1 ⟨rfl, rfl⟩
    go_wp2_with fail
    exact bodyPost_ret (v := .tuple #[.int .i64 3, .int .i64 0]) (by simp [results, Try.results13, go_sem]) rfl ⟨by rw [unhide GOOD (unhide okx), show juK v l h d = 3 by unfold juK; split; all_goals (try split); all_goals omega], unhide HBL2⟩
  have t3 : decide (l ≤ v - d) = false := decide_eq_false q3
  by_cases q5 : v + d < l
  · have t5 : decide (v + d < l) = true := decide_eq_true q5
    go_enter Try.func13, Try.ntmps13
    go_wp2_with fail
    refine (unhide B1 _).mono ?_
    rintro e W1 ⟨rfl, rfl⟩
    go_wp2_with fail
    refine (unhide B2 _).mono ?_
    rintro e W1 ⟨rfl, rfl⟩
    go_wp2_with fail
    refine (unhide B3 _).mono ?_
    rintro e W1 ⟨rfl, rfl⟩
    go_wp2_with fail
    exact bodyPost_ret (v := .tuple #[.int .i64 2, .int .i64 0]) (by simp [results, Try.results13, go_sem]) rfl ⟨by rw [unhide GOOD (unhide okx), show juK v l h d = 2 by unfold juK; split; all_goals (try split); all_goals omega], unhide HBL2⟩
  have t5 : decide (v + d < l) = false := decide_eq_false q5
  by_cases q6 : h < v - d
  · have t6 : decide (h < v - d) = true := decide_eq_true q6
    go_enter Try.func13, Try.ntmps13
    go_wp2_with fail
    refine (unhide B1 _).mono ?_
    rintro e W1 ⟨rfl, rfl⟩
    go_wp2_with fail
    refine (unhide B2 _).mono ?_
    rintro e W1 ⟨rfl, rfl⟩
    go_wp2_with fail
    refine (unhide B3 _).mono ?_
    rintro e W1 ⟨rfl, rfl⟩
    go_wp2_with fail
    exact bodyPost_ret (v := .tuple #[.int .i64 2, .int .i64 0]) (by simp [results, Try.results13, go_sem]) rfl ⟨by rw [unhide GOOD (unhide okx), show juK v l h d = 2 by unfold juK; split; all_goals (try split); all_goals omega], unhide HBL2⟩
  have t6 : decide (h < v - d) = false := decide_eq_false q6
  go_enter Try.func13, Try.ntmps13
  go_wp2_with fail
  refine (unhide B1 _).mono ?_
  rintro e W1 ⟨rfl, rfl⟩
  go_wp2_with fail
  refine (unhide B2 _).mono ?_
  rintro e W1 ⟨rfl, rfl⟩
  go_wp2_with fail
  refine (unhide B3 _).mono ?_
  rintro e W1 ⟨rfl, rfl⟩
  go_wp2_with fail
  exact bodyPost_ret (v := .tuple #[.int .i64 3, .int .i64 0]) (by simp [results, Try.results13, go_sem]) rfl ⟨by rw [unhide GOOD (unhide okx), show juK v l h d = 3 by unfold juK; split; all_goals (try split); all_goals omega], unhide HBL2⟩
end Go.Proofs.Ytdneepojgklciaa
