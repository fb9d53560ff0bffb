/-
  FracRound of the program answers as the model at every fraction and every mode.
-/
import Derived.Test.YtkngablknapkgaaRound
import Derived.ChangeOld
import Derived.Laws.EntriesVeiled
import Derived.Lib.SmallJoins
namespace Go.Proofs.Ytkngablknapkgaa
open Go.ChangeShapes Go.WideShapes Go.ChangeAt Go.RowKit Go.Joins
set_option linter.unusedVariables false

def rdV (n d m : Int) : Int := if m = 1 then n / d else if m = 2 then -((-n) / d) else if m = 3 then evenV n d else 0
def rdC (m : Int) : Int := if m = 1 then 0 else if m = 2 then 0 else if m = 3 then 0 else 17
def rdAns (n d m : Int) : Value := if frOk n d = true then .tuple #[.int .i64 (rdV n d m), .int .i64 (rdC m)] else .tuple #[.int .i64 0, .int .i64 1]

set_option maxHeartbeats 400000 in
theorem specRound_bad (n d m : Int) (w : World) (H0 : Hid (frOk n d = false)) :
    Calls Try.prog 21 #[.agg #[.int .i64 n, .int .i64 d], .int .i64 m] w fun e w' => e = .returned (.tuple #[.int .i64 0, .int .i64 1]) ∧ Below w.heap.size w w' := by
  go_enter Try.func21, Try.ntmps21
  go_wp2_with fail
  refine (specOK_any _ _ _).mono ?_
  rintro e w1 ⟨rfl, hb⟩
  rw [unhide H0]
  have HB := hide hb
  clear hb
  go_wp2
  go_ret2
  exact ⟨rfl, bel_call (bel_alloc (Below.refl _ _) _) (unhide HB)⟩

set_option maxRecDepth 100000 in
set_option maxHeartbeats 1000000 in
theorem specRound_core (n d m L v c : Int) (w : World) (H0 : Hid (frOk n d = true)) (hq1 : -1000000000 ≤ L) (hq2 : L ≤ 1000000000) (hl1 : L * d ≤ n) (hl2 : n < L * d + d) (h : 1 ≤ d) (hd : d ≤ 1000000000) (h1 : -1000000000 ≤ n) (h2 : n ≤ 1000000000)
    (HF : Hid (∀ W, Calls Try.prog 29 #[.int .i64 n, .int .i64 d] W fun e w' => e = .returned (.int .i64 L) ∧ w' = W))
    (hc : ((m == 1) = true ∧ v = L ∧ c = 0) ∨ ((m == 1) = false ∧ (m == 2) = true ∧ decide (L * d < n) = true ∧ v = L + 1 ∧ c = 0) ∨ ((m == 1) = false ∧ (m == 2) = true ∧ decide (L * d < n) = false ∧ v = L ∧ c = 0) ∨
      ((m == 1) = false ∧ (m == 2) = false ∧ (m == 3) = true ∧ c = 0 ∧ ((decide (d < 2 * (n - L * d)) = true ∧ v = L + 1) ∨ (decide (d < 2 * (n - L * d)) = false ∧ (2 * (n - L * d) == d) = true ∧ (L.tmod 2 != 0) = true ∧ v = L + 1) ∨
        (decide (d < 2 * (n - L * d)) = false ∧ (2 * (n - L * d) == d) = true ∧ (L.tmod 2 != 0) = false ∧ v = L) ∨ (decide (d < 2 * (n - L * d)) = false ∧ (2 * (n - L * d) == d) = false ∧ v = L))) ∨
      ((m == 1) = false ∧ (m == 2) = false ∧ (m == 3) = false ∧ v = 0 ∧ c = 17)) :
    Calls Try.prog 21 #[.agg #[.int .i64 n, .int .i64 d], .int .i64 m] w fun e w' => e = .returned (.tuple #[.int .i64 v, .int .i64 c]) ∧ Below w.heap.size w w' := by
  rcases hc with ⟨m1, rfl, rfl⟩ | ⟨m1, m2, c1, rfl, rfl⟩ | ⟨m1, m2, c1, rfl, rfl⟩ | ⟨m1, m2, m3, rfl, ⟨c1, rfl⟩ | ⟨c1, c2, c3, rfl⟩ | ⟨c1, c2, c3, rfl⟩ | ⟨c1, c2, rfl⟩⟩ | ⟨m1, m2, m3, rfl, rfl⟩
  all_goals
    go_enter Try.func21, Try.ntmps21
    go_wp2_with fail
    refine (specOK_any _ _ _).mono ?_
    rintro e w1 ⟨rfl, hb⟩
    rw [unhide H0]
    have HB := hide hb
    have x0 := keep1 hb (b := w.heap.size) (o := 0) (v := .int .i64 n) (by simp [go_sem])
    have x1 := keep1 hb (b := w.heap.size) (o := 1) (v := .int .i64 d) (by simp [go_sem])
    clear hb
    go_wp2_with fail
    refine (unhide HF _).mono ?_
    rintro e w2 ⟨rfl, rfl⟩
    go_wp2
    go_ret2
    exact ⟨rfl, bel_call (bel_alloc (Below.refl _ _) _) (unhide HB)⟩

theorem specRound_any (n d m : Int) (w : World) :
    Calls Try.prog 21 #[.agg #[.int .i64 n, .int .i64 d], .int .i64 m] w fun e w' => e = .returned (rdAns n d m) ∧ Below w.heap.size w w' := by
  unfold rdAns
  by_cases h0 : frOk n d = true
  · rw [if_pos h0]
    obtain ⟨⟨h1, h2⟩, h, hd⟩ := ok_bd h0
    have hq := quo_bd n d h h1 h2
    have hl := low_bd n d h
    refine specRound_core n d m (n / d) _ _ w (hide h0) hq.1 hq.2 hl.1 hl.2 h hd h1 h2 (hide fun W => floor_any n d W h hd h1 h2) ?_
    unfold rdV rdC
    by_cases m1 : m = 1
    · subst m1; exact .inl ⟨rfl, rfl, rfl⟩
    rw [if_neg m1, if_neg m1]
    have b1 : (m == 1) = false := by simp [m1]
    by_cases m2 : m = 2
    · rw [if_pos m2, if_pos m2, up_eq n d h]
      have b2 : (m == 2) = true := by simp [m2]
      by_cases c : 0 < n - n / d * d
      · exact .inr (.inl ⟨b1, b2, decide_eq_true (by omega), by rw [if_pos c], rfl⟩)
      · exact .inr (.inr (.inl ⟨b1, b2, decide_eq_false (by omega), by rw [if_neg c], rfl⟩))
    rw [if_neg m2, if_neg m2]
    have b2 : (m == 2) = false := by simp [m2]
    by_cases m3 : m = 3
    · rw [if_pos m3, if_pos m3]
      exact .inr (.inr (.inr (.inl ⟨b1, b2, by simp [m3], rfl, even_cases n d⟩)))
    · rw [if_neg m3, if_neg m3]
      exact .inr (.inr (.inr (.inr ⟨b1, b2, by simp [m3], rfl, rfl⟩)))
  · rw [if_neg h0]
    exact specRound_bad n d m w (hide (by simpa using h0))

set_option maxHeartbeats 400000 in
theorem implRound_bad (n d m : Int) (w : World) (H0 : Hid (frOk n d = false)) (hn1 : -9223372036854775808 ≤ n) (hn2 : n ≤ 9223372036854775807) (hd1 : -9223372036854775808 ≤ d) (hd2 : d ≤ 9223372036854775807) :
    Calls Try.prog 22 #[.agg #[.int .i64 n, .int .i64 d], .int .i64 m] w fun e w' => e = .returned (.tuple #[.int .i64 0, .int .i64 1]) ∧ Below w.heap.size w w' := by
  go_enter Try.func22, Try.ntmps22
  go_wp2_with fail
  refine (implOK_any _ _ _ hn1 hn2 hd1 hd2).mono ?_
  rintro e w1 ⟨rfl, hb⟩
  rw [unhide H0]
  have HB := hide hb
  clear hb
  go_wp2
  go_ret2
  exact ⟨rfl, bel_call (bel_alloc (Below.refl _ _) _) (unhide HB)⟩

/-- the table of the roundings, as a value -/
def table : Value := .agg #[.int .i64 1, .func (.func 31) #[] #[], .int .i64 2, .func (.func 32) #[] #[], .int .i64 3, .func (.func 33) #[] #[]]
set_option maxHeartbeats 400000 in
theorem roundings_any (w : World) :
    Calls Try.prog 30 #[] w fun e w' => e = .returned table ∧ Below w.heap.size w w' := by
  go_enter Try.func30, Try.ntmps30
  go_wp2
  exact bodyPost_ret (v := table) (by simp [results, Try.results30, go_sem, table]) rfl ⟨rfl, bel_alloc (Below.refl _ _) _⟩

theorem idx0 (W : World) : Sem.run Try.prog (Instr.index 48 (.agg #[.int .i64 1, .func (.func 31) #[] #[], .int .i64 2, .func (.func 32) #[] #[], .int .i64 3, .func (.func 33) #[] #[]]) (.int .i64 0)) W = .ok (.agg #[.int .i64 1, .func (.func 31) #[] #[]]) W := by
  simp [Instr.index, run_underlying Try.underlying48, asIntOf, go_sem]
theorem idx1 (W : World) : Sem.run Try.prog (Instr.index 48 (.agg #[.int .i64 1, .func (.func 31) #[] #[], .int .i64 2, .func (.func 32) #[] #[], .int .i64 3, .func (.func 33) #[] #[]]) (.int .i64 1)) W = .ok (.agg #[.int .i64 2, .func (.func 32) #[] #[]]) W := by
  simp [Instr.index, run_underlying Try.underlying48, asIntOf, go_sem]
theorem idx2 (W : World) : Sem.run Try.prog (Instr.index 48 (.agg #[.int .i64 1, .func (.func 31) #[] #[], .int .i64 2, .func (.func 32) #[] #[], .int .i64 3, .func (.func 33) #[] #[]]) (.int .i64 2)) W = .ok (.agg #[.int .i64 3, .func (.func 33) #[] #[]]) W := by
  simp [Instr.index, run_underlying Try.underlying48, asIntOf, go_sem]

set_option maxRecDepth 100000 in
set_option maxHeartbeats 1000000 in
theorem implRound_in (n d m : Int) (w : World) (H0 : Hid (frOk n d = true)) :
    Calls Try.prog 22 #[.agg #[.int .i64 n, .int .i64 d], .int .i64 m] w fun e w' => e = .returned (.tuple #[.int .i64 (rdV n d m), .int .i64 (rdC m)]) ∧ Below w.heap.size w w' := by
  obtain ⟨⟨h1, h2⟩, h, hd⟩ := ok_bd (unhide H0)
  have HD := hide (fun W => down_any n d W h hd h1 h2)
  have HU := hide (fun W => up_any n d W h hd h1 h2)
  have HE := hide (fun W => even_any n d W h hd h1 h2)
  have HI := hide (fun W => implOK_any n d W (by omega) (by omega) (by omega) (by omega))
  rw [unhide H0] at HI
  have HV := hide (show rdV n d m = _ from rfl)
  clear h h1 h2 hd
  go_enter Try.func22, Try.ntmps22
  go_wp2_with fail
  refine (unhide HI _).mono ?_
  rintro e w1 ⟨rfl, hb⟩
  have HB := hide hb
  have x0 := keep1 hb (b := w.heap.size) (o := 0) (v := .int .i64 n) (by simp [go_sem])
  have x1 := keep1 hb (b := w.heap.size) (o := 1) (v := .int .i64 d) (by simp [go_sem])
  clear hb
  go_wp2_with fail
  refine (roundings_any _).mono ?_
  rintro e w2 ⟨rfl, hb⟩
  have HB2 := hide (bel_call (bel_call (bel_alloc (Below.refl w.heap.size w) _) (unhide HB)) hb)
  have y0 := keep1 hb x0
  have y1 := keep1 hb x1
  clear hb x0 x1 HB
  unfold table
  go_wp2
  go_loopw [12] (fun i wx => ∃ k : Nat, i = .int .i64 (k : Int) ∧ k ≤ 3 ∧ (1 ≤ k → m ≠ 1) ∧ (2 ≤ k → m ≠ 2) ∧ (3 ≤ k → m ≠ 3) ∧ wx.cell? ⟨w.heap.size, 0, none⟩ = some (.int .i64 n) ∧ wx.cell? ⟨w.heap.size, 1, none⟩ = some (.int .i64 d) ∧ Below w.heap.size w wx) (fun i _ => 3 - (intOf i).toNat)
  case atStart => exact ⟨0, rfl, by omega, by omega, by omega, by omega, y0, y1, unhide HB2⟩
  case round =>
    obtain ⟨k, rfl, hk, m1, m2, m3, z0, z1, hbx⟩ := hrel
    have HBX := hide hbx
    have M1 := hide m1
    have M2 := hide m2
    have M3 := hide m3
    have lz := cell_lt z0
    clear hbx m1 m2 m3 y0 y1 HB2
    rcases (by omega : k = 0 ∨ k = 1 ∨ k = 2 ∨ k = 3) with rfl | rfl | rfl | rfl
    · have ix := idx0
      by_cases hm : m = 1
      · have q1 : ((1 : Int) == m) = true := by simp [hm]
        have HV1 : Hid (rdV n d m = n / d ∧ rdC m = 0) := hide (by simp [rdV, rdC, hm])
        clear hm
        go_wp2_with fail
        refine (unhide HD _).mono ?_
        rintro e w3 ⟨rfl, hb⟩
        have HB3 := hide hb
        clear hb
        go_wp2
        go_ret2
        refine ⟨by rw [(unhide HV1).1, (unhide HV1).2]; rfl, bel_call (bel_alloc (unhide HBX) _) (unhide HB3)⟩
      · have q1 : ((1 : Int) == m) = false := by rw [beq_eq_false_iff_ne]; omega
        have HM := hide hm
        clear hm
        go_wp2
        go_roundw
        case rel => exact ⟨1, by go_num, by omega, by exact fun _ => unhide HM, by omega, by omega, by simp [go_sem, *], by simp [go_sem, *], bel_alloc (unhide HBX) _⟩
        case measure => simp [intOf]
    · have ix := idx1
      by_cases hm : m = 2
      · have q1 : ((2 : Int) == m) = true := by simp [hm]
        have HV1 : Hid (rdV n d m = -((-n) / d) ∧ rdC m = 0) := hide (by simp [rdV, rdC, hm])
        clear hm
        go_wp2_with fail
        refine (unhide HU _).mono ?_
        rintro e w3 ⟨rfl, hb⟩
        have HB3 := hide hb
        clear hb
        go_wp2
        go_ret2
        refine ⟨by rw [(unhide HV1).1, (unhide HV1).2]; rfl, bel_call (bel_alloc (unhide HBX) _) (unhide HB3)⟩
      · have q1 : ((2 : Int) == m) = false := by rw [beq_eq_false_iff_ne]; omega
        have HM := hide hm
        clear hm
        go_wp2
        go_roundw
        case rel => exact ⟨2, by go_num, by omega, by exact fun _ => unhide M1 (by omega), by exact fun _ => unhide HM, by omega, by simp [go_sem, *], by simp [go_sem, *], bel_alloc (unhide HBX) _⟩
        case measure => simp [intOf]
    · have ix := idx2
      by_cases hm : m = 3
      · have q1 : ((3 : Int) == m) = true := by simp [hm]
        have HV1 : Hid (rdV n d m = evenV n d ∧ rdC m = 0) := hide (by simp [rdV, rdC, hm])
        clear hm
        go_wp2_with fail
        refine (unhide HE _).mono ?_
        rintro e w3 ⟨rfl, hb⟩
        have HB3 := hide hb
        clear hb
        go_wp2
        go_ret2
        refine ⟨by rw [(unhide HV1).1, (unhide HV1).2]; rfl, bel_call (bel_alloc (unhide HBX) _) (unhide HB3)⟩
      · have q1 : ((3 : Int) == m) = false := by rw [beq_eq_false_iff_ne]; omega
        have HM := hide hm
        clear hm
        go_wp2
        go_roundw
        case rel => exact ⟨3, by go_num, by omega, by exact fun _ => unhide M1 (by omega), by exact fun _ => unhide M2 (by omega), by exact fun _ => unhide HM, by simp [go_sem, *], by simp [go_sem, *], bel_alloc (unhide HBX) _⟩
        case measure => simp [intOf]
    · have HV1 : Hid (rdV n d m = 0 ∧ rdC m = 17) := hide (by
        have a1 := unhide M1 (by omega)
        have a2 := unhide M2 (by omega)
        have a3 := unhide M3 (by omega)
        simp [rdV, rdC, a1, a2, a3])
      go_wp2
      go_ret2
      exact ⟨by rw [(unhide HV1).1, (unhide HV1).2]; rfl, unhide HBX⟩

theorem implRound_any (n d m : Int) (w : World) (hn1 : -9223372036854775808 ≤ n) (hn2 : n ≤ 9223372036854775807) (hd1 : -9223372036854775808 ≤ d) (hd2 : d ≤ 9223372036854775807) :
    Calls Try.prog 22 #[.agg #[.int .i64 n, .int .i64 d], .int .i64 m] w fun e w' => e = .returned (rdAns n d m) ∧ Below w.heap.size w w' := by
  unfold rdAns
  by_cases h0 : frOk n d = true
  · rw [if_pos h0]
    exact implRound_in n d m w (hide h0)
  · rw [if_neg h0]
    exact implRound_bad n d m w (hide (by simpa using h0)) hn1 hn2 hd1 hd2

theorem rd_form (n d m : Int) : ∃ X C : Int, rdAns n d m = .tuple #[.int .i64 X, .int .i64 C] := by
  unfold rdAns
  split
  · exact ⟨_, _, rfl⟩
  · exact ⟨0, 1, rfl⟩

set_option maxHeartbeats 400000 in
theorem fnExactFracRound_core (n d m X C : Int) (w : World)
    (HS : Hid (∀ W, Calls Try.prog 21 #[.agg #[.int .i64 n, .int .i64 d], .int .i64 m] W fun e w' => e = .returned (.tuple #[.int .i64 X, .int .i64 C]) ∧ Below W.heap.size W w'))
    (HI : Hid (∀ W, Calls Try.prog 22 #[.agg #[.int .i64 n, .int .i64 d], .int .i64 m] W fun e w' => e = .returned (.tuple #[.int .i64 X, .int .i64 C]) ∧ Below W.heap.size W w')) :
    Calls Try.prog 8 #[.agg #[.int .i64 n, .int .i64 d], .int .i64 m] w fun e w' => e = .returned (.bool true) ∧ Below w.heap.size w w' := by
  go_enter Try.func8, Try.ntmps8
  go_wp2_with fail
  refine (toFrac_any _ _ _).mono ?_
  rintro e w1 ⟨rfl, hb⟩
  have B1 := hide hb
  have x0 := keep1 hb (b := w.heap.size) (o := 0) (v := .int .i64 n) (by simp [go_sem])
  have x1 := keep1 hb (b := w.heap.size) (o := 1) (v := .int .i64 d) (by simp [go_sem])
  clear hb
  go_wp2_with fail
  refine (unhide HS _).mono ?_
  rintro e w2 ⟨rfl, hb⟩
  have B2 := hide hb
  have y0 := keep1 hb x0
  have y1 := keep1 hb x1
  clear hb x0 x1
  go_wp2_with fail
  refine (toFrac_any _ _ _).mono ?_
  rintro e w3 ⟨rfl, hb⟩
  have B3 := hide hb
  clear hb
  go_wp2_with fail
  refine (unhide HI _).mono ?_
  rintro e w4 ⟨rfl, hb⟩
  have B4 := hide hb
  clear hb
  go_wp2
  go_ret
  exact ⟨rfl, bel_call (bel_call (bel_call (bel_call (bel_alloc (Below.refl _ _) _) (unhide B1)) (unhide B2)) (unhide B3)) (unhide B4)⟩

theorem fnExactFracRound_walk (n d m : Int) (w : World) (wn : (Lit.int .i64 n).wf = true) (wd : (Lit.int .i64 d).wf = true) (wm : (Lit.int .i64 m).wf = true) :
    Calls Try.prog 8 #[.agg #[.int .i64 n, .int .i64 d], .int .i64 m] w fun e w' => e = .returned (.bool true) ∧ Below w.heap.size w w' := by
  obtain ⟨hn1, hn2⟩ := bounds_i64 wn
  obtain ⟨hd1, hd2⟩ := bounds_i64 wd
  have hs := fun W => specRound_any n d m W
  have hi := fun W => implRound_any n d m W hn1 hn2 hd1 hd2
  obtain ⟨X, C, e⟩ := rd_form n d m
  rw [e] at hs hi
  exact fnExactFracRound_core n d m X C w (hide hs) (hide hi)

theorem fnExactFracRound_own : ownKnob Try.prog.godebug = none := by kernel_rfl
theorem cells23 : Try.prog.cellsOf 23 = 2 := by kernel_rfl

set_option maxRecDepth 100000 in
theorem fnExactFracRound_lifted (os : Os) (started : os.Started) (H : Type) (enc : TypeId × Value → H) :
    ReturnsInHanded {} Try.checked os 8 .any (Rows.fnExactFracRoundSpec.pre6 enc Try.prog Try.f8 Rows.fnExactFracRoundRow.domain false) (Rows.fnExactFracRoundSpec.post enc Try.prog Try.f8 false true false false) := by
  refine returnsInHanded_of_change (C := Try.checked) fnExactFracRound_own started (by kernel_rfl) Try.func8
    (ChangeSpec.witness6 (enc := enc) (C := Try.checked) false ⟨#[], #[.agg #[.int .i64 0, .int .i64 0], .int .i64 0], []⟩ 8 (by kernel_rfl) (by kernel_rfl) (by kernel_rfl) (by kernel_rfl)) ?_
  intro W base args ds gs before hval0 hW hcnd _
  have hval : ∀ (j : Nat) t v, Try.f8.params[j]? = some t → args[j]? = some v → Value.okWide Try.prog W .any base t v := hval0
  have hW' := hW
  obtain ⟨p, q, hA0, hV, rfl, hfz, hnd⟩ := hW
  have hA : DataW.TrodAll enc Try.prog W 0 (fun _ => true) true Try.f8.params.toList args.toList ds p := hA0
  rw [Try.params8] at hA hval
  obtain ⟨v0, vs0, d0, ds0, p0, q0, hargs, rfl, rfl, h0, r0⟩ := trodAll_cons hA
  obtain ⟨v1, vs1, d1, ds1, p1, q1, rfl, rfl, rfl, h1, r1⟩ := trodAll_cons r0
  obtain ⟨rfl, rfl, rfl⟩ := trodAll_nil r1
  obtain rfl : args = #[v0, v1] := by cases args; simp_all
  obtain ⟨rfl, rfl⟩ := trodVars_none hV
  obtain ⟨c0, k0, y0, z0, m0, rfl, rfl, rfl, hy0, hz0⟩ := open_agg2 Try.underlying23 (by kernel_rfl) cells23 (hval 0 23 v0 rfl rfl) h0
  obtain ⟨n0, en0, rfl, wn0⟩ := DataW.trod_int Try.underlying3 hy0
  obtain ⟨d0', ed0, rfl, wd0⟩ := DataW.trod_int Try.underlying3 hz0
  simp at en0 ed0
  subst en0 ed0
  obtain ⟨a1, rfl, rfl, rfl, w1⟩ := open_int Try.underlying3 (hval 1 3 v1 rfl rfl) h1
  clear hA0 hval0
  simp only [List.append_nil] at hW'
  refine (fnExactFracRound_walk n0 d0' a1 W wn0 wd0 w1).mono fun e W' ⟨he, bel⟩ => ?_
  subst he
  exact ⟨_, rfl, _, _, _, [], [], [], hW', trodAll_mk1 (shut_bool Try.underlying4 _), (trodAll_cons_mk (shut_agg2 (y0 := (.lit (.int .i64 n0), [])) (y1 := (.lit (.int .i64 d0'), [])) Try.underlying23 (by kernel_rfl) cells23 ⟨1, by simp [DataW.trod, Try.underlying3, wn0]⟩ ⟨1, by simp [DataW.trod, Try.underlying3, wd0]⟩) (trodAll_cons_mk (shut_int Try.underlying3 w1) trodAll_mk0)), rfl, bel.frame _, fun h => by cases h⟩

theorem fnExactFracRound_over : Rows.fnExactFracRoundRow.holds Try.pinned (OpenSpec.ofChange Rows.fnExactFracRoundSpec) :=
  OpenClaim.holds_of_wide 8 Try.f8 rfl rfl rfl rfl rfl rfl rfl ⟨rfl, rfl, rfl, rfl, rfl⟩ rfl rfl rfl rfl rfl (by kernel_rfl) Try.func8 (by kernel_rfl)
    (of_decide_eq_true (by kernel_rfl)) (by unfold Func.isWrapper; first | (rw [if_pos (by decide +kernel)]; kernel_rfl) | (rw [if_neg (by decide +kernel)]; exact ⟨rfl, rfl⟩))
    (fun os started H enc _ => fnExactFracRound_lifted os started H enc)

/-- The statement, as it was given. -/
theorem fnExactFracRound_holds : Rows.FnExactFracRoundSaid := fnExactFracRound_over
#print axioms fnExactFracRound_holds
end Go.Proofs.Ytkngablknapkgaa
