/-
  What the roundings of a fraction answer, by the program.
-/
import Derived.Test.YtidafleegkofkaaOkay
import Derived.Laws.EntriesVeiled
namespace Go.Proofs.Ytidafleegkofkaa
open Go.ChangeShapes Go.WideShapes Go.ChangeAt Go.RowKit
set_option linter.unusedVariables false


theorem ret_bool {a b : Bool} (h : a = b) : Ending.returned (.bool a) = .returned (.bool b) := by rw [h]

theorem tmod_abs_lt (n d : Int) (h : 1 ≤ d) : -d < n.tmod d ∧ n.tmod d < d := by
  have := tmod_lt n d (by omega)
  omega

theorem floor_lt (n d : Int) (h : 1 ≤ d) (hm : n.tmod d < 0) : n.tdiv d - 1 = n / d := by
  have h1 : d * n.tdiv d + n.tmod d = n := Int.mul_tdiv_add_tmod n d
  have h2 := tmod_abs_lt n d h
  have := ((Int.ediv_emod_unique (a := n) (b := d) (r := n.tmod d + d) (q := n.tdiv d - 1) (by omega)).2 ⟨by rw [Int.mul_sub]; omega, by omega, by omega⟩).1
  exact this.symm

theorem floor_ge (n d : Int) (h : 1 ≤ d) (hm : 0 ≤ n.tmod d) : n.tdiv d = n / d := by
  have h1 : d * n.tdiv d + n.tmod d = n := Int.mul_tdiv_add_tmod n d
  have h2 := tmod_abs_lt n d h
  have := ((Int.ediv_emod_unique (a := n) (b := d) (r := n.tmod d) (q := n.tdiv d) (by omega)).2 ⟨by omega, by omega, by omega⟩).1
  exact this.symm

theorem quo_bd (n d : Int) (h : 1 ≤ d) (h1 : -1000000000 ≤ n) (h2 : n ≤ 1000000000) : -1000000000 ≤ n / d ∧ n / d ≤ 1000000000 := by
  constructor
  · rw [Int.le_ediv_iff_mul_le (by omega)]
    have : (1000000000 : Int) * 1 ≤ 1000000000 * d := Int.mul_le_mul_of_nonneg_left h (by omega)
    omega
  · by_cases h0 : 0 ≤ n
    · exact Int.le_trans (Int.ediv_le_self _ h0) h2
    · have := Int.ediv_neg_of_neg_of_pos (a := n) (b := d) (by omega) (by omega)
      omega

theorem tdiv_bd (n d : Int) (h : 1 ≤ d) (h1 : -1000000000 ≤ n) (h2 : n ≤ 1000000000) : -1000000001 ≤ n.tdiv d ∧ n.tdiv d ≤ 1000000001 := by
  have hq := quo_bd n d h h1 h2
  by_cases hm : n.tmod d < 0
  · have := floor_lt n d h hm; omega
  · have := floor_ge n d h (by omega); omega

theorem low_bd (n d : Int) (h : 1 ≤ d) : n / d * d ≤ n ∧ n < n / d * d + d := by
  have h1 := Int.emod_add_mul_ediv n d
  have h2 := Int.emod_nonneg n (b := d) (by omega)
  have h3 := Int.emod_lt_of_pos n (b := d) (by omega)
  have e : d * (n / d) = n / d * d := Int.mul_comm _ _
  omega

theorem up_eq (n d : Int) (h : 1 ≤ d) : -((-n) / d) = if 0 < n - n / d * d then n / d + 1 else n / d := by
  have hl := low_bd n d h
  split
  · rename_i hr
    have := ((Int.ediv_emod_unique (a := -n) (b := d) (r := n / d * d + d - n) (q := -(n / d) - 1) (by omega)).2 ⟨by rw [Int.mul_sub, Int.mul_neg, Int.mul_comm d]; omega, by omega, by omega⟩).1
    omega
  · rename_i hr
    have := ((Int.ediv_emod_unique (a := -n) (b := d) (r := 0) (q := -(n / d)) (by omega)).2 ⟨by rw [Int.mul_neg, Int.mul_comm d]; omega, by omega, by omega⟩).1
    omega

set_option maxHeartbeats 400000 in
theorem down_any (n d : Int) (w : World) (h : 1 ≤ d) (hd : d ≤ 1000000000) (h1 : -1000000000 ≤ n) (h2 : n ≤ 1000000000) :
    Calls Try.prog 14 #[.agg #[.int .i64 n, .int .i64 d]] w fun e w' => e = .returned (.int .i64 (n / d)) ∧ Below w.heap.size w w' := by
  have hb := tdiv_bd n d h h1 h2
  have hz : (d == 0) = false := by rw [beq_eq_false_iff_ne]; omega
  by_cases hn : 0 ≤ n
  · have hm := Int.emod_nonneg n (b := d) (by omega)
    have HQ := hide (floor_ge n d h (Int.tmod_nonneg d hn))
    have p1 : decide (n % d < 0) = false := decide_eq_false (by omega)
    go_enter Try.func14, Try.ntmps14
    go_wp2
    go_ret
    exact ⟨ret_int (by first | rfl | exact unhide HQ), bel_alloc (Below.refl _ _) _⟩
  · by_cases hm : n.tmod d < 0
    · have HQ := hide (floor_lt n d h hm)
      go_enter Try.func14, Try.ntmps14
      go_wp2
      go_ret
      exact ⟨ret_int (unhide HQ), bel_alloc (Below.refl _ _) _⟩
    · have HQ := hide (floor_ge n d h (by omega))
      go_enter Try.func14, Try.ntmps14
      go_wp2
      go_ret
      exact ⟨ret_int (unhide HQ), bel_alloc (Below.refl _ _) _⟩

set_option maxHeartbeats 400000 in
theorem up_any (n d : Int) (w : World) (h : 1 ≤ d) (hd : d ≤ 1000000000) (h1 : -1000000000 ≤ n) (h2 : n ≤ 1000000000) :
    Calls Try.prog 15 #[.agg #[.int .i64 n, .int .i64 d]] w fun e w' => e = .returned (.int .i64 (-((-n) / d))) ∧ Below w.heap.size w w' := by
  have hq := quo_bd (-n) d h (by omega) (by omega)
  have HD := hide (fun W => down_any (-n) d W h hd (by omega) (by omega))
  generalize (-n) / d = Q at *
  go_enter Try.func15, Try.ntmps15
  go_wp2_with fail
  refine (unhide HD _).mono ?_
  rintro e w1 ⟨rfl, hb⟩
  have HB := hide hb
  clear hb
  go_wp2
  go_ret
  exact ⟨rfl, bel_call (bel_alloc (Below.refl _ _) _) (unhide HB)⟩

/-- the nearest whole number, of two as near the even one -/
def evenB (n d : Int) : Bool := decide (d < 2 * (n - n / d * d) ∨ 2 * (n - n / d * d) = d ∧ (n / d).tmod 2 ≠ 0)

def evenV (n d : Int) : Int := if evenB n d = true then n / d + 1 else n / d

theorem even_cases (n d : Int) : (decide (d < 2 * (n - n / d * d)) = true ∧ evenV n d = n / d + 1) ∨
    (decide (d < 2 * (n - n / d * d)) = false ∧ (2 * (n - n / d * d) == d) = true ∧ ((n / d).tmod 2 != 0) = true ∧ evenV n d = n / d + 1) ∨
    (decide (d < 2 * (n - n / d * d)) = false ∧ (2 * (n - n / d * d) == d) = true ∧ ((n / d).tmod 2 != 0) = false ∧ evenV n d = n / d) ∨
    (decide (d < 2 * (n - n / d * d)) = false ∧ (2 * (n - n / d * d) == d) = false ∧ evenV n d = n / d) := by
  unfold evenV evenB
  generalize n / d = L
  generalize n - L * d = R
  by_cases a : d < 2 * R
  · exact .inl ⟨decide_eq_true a, by simp [a]⟩
  · by_cases b : 2 * R = d
    · by_cases c : L.tmod 2 = 0
      · exact .inr (.inr (.inl ⟨decide_eq_false a, by simp [b], by simp [c], by rw [if_neg (by simp [a, c])]⟩))
      · exact .inr (.inl ⟨decide_eq_false a, by simp [b], by simp [c], by rw [if_pos (by simp [b, c])]⟩)
    · exact .inr (.inr (.inr ⟨decide_eq_false a, by simp [b], by rw [if_neg (by simp [a, b])]⟩))

set_option maxHeartbeats 1000000 in
theorem even_core (n d L : Int) (v : Int) (w : World) (hq1 : -1000000000 ≤ L) (hq2 : L ≤ 1000000000) (hl1 : L * d ≤ n) (hl2 : n < L * d + d) (h : 1 ≤ d) (hd : d ≤ 1000000000) (h1 : -1000000000 ≤ n) (h2 : n ≤ 1000000000)
    (HD : Hid (∀ W, Calls Try.prog 14 #[.agg #[.int .i64 n, .int .i64 d]] W fun e w' => e = .returned (.int .i64 L) ∧ Below W.heap.size W w'))
    (hc : (decide (d < 2 * (n - L * d)) = true ∧ v = L + 1) ∨ (decide (d < 2 * (n - L * d)) = false ∧ (2 * (n - L * d) == d) = true ∧ (L.tmod 2 != 0) = true ∧ v = L + 1) ∨
      (decide (d < 2 * (n - L * d)) = false ∧ (2 * (n - L * d) == d) = true ∧ (L.tmod 2 != 0) = false ∧ v = L) ∨ (decide (d < 2 * (n - L * d)) = false ∧ (2 * (n - L * d) == d) = false ∧ v = L)) :
    Calls Try.prog 16 #[.agg #[.int .i64 n, .int .i64 d]] w fun e w' => e = .returned (.int .i64 v) ∧ Below w.heap.size w w' := by
  rcases hc with ⟨c1, rfl⟩ | ⟨c1, c2, c3, rfl⟩ | ⟨c1, c2, c3, rfl⟩ | ⟨c1, c2, rfl⟩
  all_goals
    go_enter Try.func16, Try.ntmps16
    go_wp2_with fail
    refine (unhide HD _).mono ?_
    rintro e w1 ⟨rfl, hb⟩
    have HB := hide hb
    have x0 := keep1 hb (b := w.heap.size) (o := 0) (v := .int .i64 n) (by simp [go_sem])
    have x1 := keep1 hb (b := w.heap.size) (o := 1) (v := .int .i64 d) (by simp [go_sem])
    clear hb
    go_wp2
    go_ret
    exact ⟨rfl, bel_call (bel_alloc (Below.refl _ _) _) (unhide HB)⟩

theorem even_any (n d : Int) (w : World) (h : 1 ≤ d) (hd : d ≤ 1000000000) (h1 : -1000000000 ≤ n) (h2 : n ≤ 1000000000) :
    Calls Try.prog 16 #[.agg #[.int .i64 n, .int .i64 d]] w fun e w' => e = .returned (.int .i64 (evenV n d)) ∧ Below w.heap.size w w' := by
  have hq := quo_bd n d h h1 h2
  have hl := low_bd n d h
  exact even_core n d (n / d) (evenV n d) w hq.1 hq.2 hl.1 hl.2 h hd h1 h2 (hide fun W => down_any n d W h hd h1 h2) (even_cases n d)


def rdV (n d m : Int) : Int := if m = 1 then n / d else if m = 2 then -((-n) / d) else if m = 3 then evenV n d else 0

def rdC (m : Int) : Int := if m = 1 then 0 else if m = 2 then 0 else if m = 3 then 0 else 17

/-- the table of the roundings, as a value -/
def table : Value := .agg #[.int .i64 1, .func (.func 14) #[] #[], .int .i64 2, .func (.func 15) #[] #[], .int .i64 3, .func (.func 16) #[] #[]]

set_option maxHeartbeats 400000 in
theorem roundings_any (w : World) :
    Calls Try.prog 10 #[] w fun e w' => e = .returned table ∧ Below w.heap.size w w' := by
  go_enter Try.func10, Try.ntmps10
  go_wp2
  exact bodyPost_ret (v := table) (by simp [results, Try.results10, go_sem, table]) rfl ⟨rfl, bel_alloc (Below.refl _ _) _⟩

theorem idx0 (W : World) : Sem.run Try.prog (Instr.index 38 (.agg #[.int .i64 1, .func (.func 14) #[] #[], .int .i64 2, .func (.func 15) #[] #[], .int .i64 3, .func (.func 16) #[] #[]]) (.int .i64 0)) W = .ok (.agg #[.int .i64 1, .func (.func 14) #[] #[]]) W := by
  simp [Instr.index, run_underlying Try.underlying38, asIntOf, go_sem]

theorem idx1 (W : World) : Sem.run Try.prog (Instr.index 38 (.agg #[.int .i64 1, .func (.func 14) #[] #[], .int .i64 2, .func (.func 15) #[] #[], .int .i64 3, .func (.func 16) #[] #[]]) (.int .i64 1)) W = .ok (.agg #[.int .i64 2, .func (.func 15) #[] #[]]) W := by
  simp [Instr.index, run_underlying Try.underlying38, asIntOf, go_sem]

theorem idx2 (W : World) : Sem.run Try.prog (Instr.index 38 (.agg #[.int .i64 1, .func (.func 14) #[] #[], .int .i64 2, .func (.func 15) #[] #[], .int .i64 3, .func (.func 16) #[] #[]]) (.int .i64 2)) W = .ok (.agg #[.int .i64 3, .func (.func 16) #[] #[]]) W := by
  simp [Instr.index, run_underlying Try.underlying38, asIntOf, go_sem]

set_option maxRecDepth 100000 in
set_option maxHeartbeats 1000000 in
theorem implRound_in (n d m : Int) (w : World) (H0 : Hid (frOk n d = true)) :
    Calls Try.prog 5 #[.agg #[.int .i64 n, .int .i64 d], .int .i64 m] w fun e w' => e = .returned (.tuple #[.int .i64 (rdV n d m), .int .i64 (rdC m)]) ∧ Below w.heap.size w w' := by
  obtain ⟨⟨h1, h2⟩, h, hd⟩ := ok_bd (unhide H0)
  have HD := hide (fun W => down_any n d W h hd h1 h2)
  have HU := hide (fun W => up_any n d W h hd h1 h2)
  have HE := hide (fun W => even_any n d W h hd h1 h2)
  have HI := hide (fun W => implOK_any n d W (by omega) (by omega) (by omega) (by omega))
  rw [unhide H0] at HI
  have HV := hide (show rdV n d m = _ from rfl)
  clear h h1 h2 hd
  go_enter Try.func5, Try.ntmps5
  go_wp2_with fail
  refine (unhide HI _).mono ?_
  rintro e w1 ⟨rfl, hb⟩
  have HB := hide hb
  have x0 := keep1 hb (b := w.heap.size) (o := 0) (v := .int .i64 n) (by simp [go_sem])
  have x1 := keep1 hb (b := w.heap.size) (o := 1) (v := .int .i64 d) (by simp [go_sem])
  clear hb
  go_wp2_with fail
  refine (roundings_any _).mono ?_
  rintro e w2 ⟨rfl, hb⟩
  have HB2 := hide (bel_call (bel_call (bel_alloc (Below.refl w.heap.size w) _) (unhide HB)) hb)
  have y0 := keep1 hb x0
  have y1 := keep1 hb x1
  clear hb x0 x1 HB
  unfold table
  go_wp2
  go_loopw [12] (fun i wx => ∃ k : Nat, i = .int .i64 (k : Int) ∧ k ≤ 3 ∧ (1 ≤ k → m ≠ 1) ∧ (2 ≤ k → m ≠ 2) ∧ (3 ≤ k → m ≠ 3) ∧ wx.cell? ⟨w.heap.size, 0, none⟩ = some (.int .i64 n) ∧ wx.cell? ⟨w.heap.size, 1, none⟩ = some (.int .i64 d) ∧ Below w.heap.size w wx) (fun i _ => 3 - (intOf i).toNat)
  case atStart => exact ⟨0, rfl, by omega, by omega, by omega, by omega, y0, y1, unhide HB2⟩
  case round =>
    obtain ⟨k, rfl, hk, m1, m2, m3, z0, z1, hbx⟩ := hrel
    have HBX := hide hbx
    have M1 := hide m1
    have M2 := hide m2
    have M3 := hide m3
    have lz := cell_lt z0
    clear hbx m1 m2 m3 y0 y1 HB2
    rcases (by omega : k = 0 ∨ k = 1 ∨ k = 2 ∨ k = 3) with rfl | rfl | rfl | rfl
    · have ix := idx0
      by_cases hm : m = 1
      · have q1 : ((1 : Int) == m) = true := by simp [hm]
        have HV1 : Hid (rdV n d m = n / d ∧ rdC m = 0) := hide (by simp [rdV, rdC, hm])
        clear hm
        go_wp2_with fail
        refine (unhide HD _).mono ?_
        rintro e w3 ⟨rfl, hb⟩
        have HB3 := hide hb
        clear hb
        go_wp2
        go_ret2
        refine ⟨by rw [(unhide HV1).1, (unhide HV1).2]; rfl, bel_call (bel_alloc (unhide HBX) _) (unhide HB3)⟩
      · have q1 : ((1 : Int) == m) = false := by rw [beq_eq_false_iff_ne]; omega
        have HM := hide hm
        clear hm
        go_wp2
        go_roundw
        case rel => exact ⟨1, by go_num, by omega, by exact fun _ => unhide HM, by omega, by omega, by simp [go_sem, *], by simp [go_sem, *], bel_alloc (unhide HBX) _⟩
        case measure => simp [intOf]
    · have ix := idx1
      by_cases hm : m = 2
      · have q1 : ((2 : Int) == m) = true := by simp [hm]
        have HV1 : Hid (rdV n d m = -((-n) / d) ∧ rdC m = 0) := hide (by simp [rdV, rdC, hm])
        clear hm
        go_wp2_with fail
        refine (unhide HU _).mono ?_
        rintro e w3 ⟨rfl, hb⟩
        have HB3 := hide hb
        clear hb
        go_wp2
        go_ret2
        refine ⟨by rw [(unhide HV1).1, (unhide HV1).2]; rfl, bel_call (bel_alloc (unhide HBX) _) (unhide HB3)⟩
      · have q1 : ((2 : Int) == m) = false := by rw [beq_eq_false_iff_ne]; omega
        have HM := hide hm
        clear hm
        go_wp2
        go_roundw
        case rel => exact ⟨2, by go_num, by omega, by exact fun _ => unhide M1 (by omega), by exact fun _ => unhide HM, by omega, by simp [go_sem, *], by simp [go_sem, *], bel_alloc (unhide HBX) _⟩
        case measure => simp [intOf]
    · have ix := idx2
      by_cases hm : m = 3
      · have q1 : ((3 : Int) == m) = true := by simp [hm]
        have HV1 : Hid (rdV n d m = evenV n d ∧ rdC m = 0) := hide (by simp [rdV, rdC, hm])
        clear hm
        go_wp2_with fail
        refine (unhide HE _).mono ?_
        rintro e w3 ⟨rfl, hb⟩
        have HB3 := hide hb
        clear hb
        go_wp2
        go_ret2
        refine ⟨by rw [(unhide HV1).1, (unhide HV1).2]; rfl, bel_call (bel_alloc (unhide HBX) _) (unhide HB3)⟩
      · have q1 : ((3 : Int) == m) = false := by rw [beq_eq_false_iff_ne]; omega
        have HM := hide hm
        clear hm
        go_wp2
        go_roundw
        case rel => exact ⟨3, by go_num, by omega, by exact fun _ => unhide M1 (by omega), by exact fun _ => unhide M2 (by omega), by exact fun _ => unhide HM, by simp [go_sem, *], by simp [go_sem, *], bel_alloc (unhide HBX) _⟩
        case measure => simp [intOf]
    · have HV1 : Hid (rdV n d m = 0 ∧ rdC m = 17) := hide (by
        have a1 := unhide M1 (by omega)
        have a2 := unhide M2 (by omega)
        have a3 := unhide M3 (by omega)
        simp [rdV, rdC, a1, a2, a3])
      go_wp2
      go_ret2
      exact ⟨by rw [(unhide HV1).1, (unhide HV1).2]; rfl, unhide HBX⟩

theorem fnExactFracRound_own : ownKnob Try.prog.godebug = none := by kernel_rfl

theorem cells23 : Try.prog.cellsOf 23 = 2 := by kernel_rfl

end Go.Proofs.Ytidafleegkofkaa
