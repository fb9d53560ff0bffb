/-
  A drawn fraction is a right one, whatever the code.
-/
import Derived.Test.YtidafleegkofkaaSource
namespace Go.Proofs.Ytidafleegkofkaa
open Go.ChangeShapes Go.WideShapes Go.ChangeAt Go.RowKit
set_option linter.unusedVariables false

theorem right_of (x y : Int) (h : frCode x y = 0) : frOk (frN x y) (frD x y) = true := by
  unfold frCode at h
  by_cases hd : y = 0
  · rw [if_pos hd] at h; omega
  rw [if_neg hd] at h
  by_cases hf : frFits x y = true
  · have hg := gcd_pos x y hd
    have hc : Nat.gcd (frTop x y) (frBot x y) = 1 := Nat.gcd_div_gcd_div_gcd_of_pos_right (by omega)
    have hb : 1 ≤ frBot x y := Nat.div_pos (Nat.le_of_dvd (by omega) (Nat.gcd_dvd_right _ _)) hg
    have hF := hf
    unfold frFits at hF
    rw [decide_eq_true_iff] at hF
    have e2 : (frD x y).natAbs = frBot x y := by unfold frD; rw [if_neg hd, if_pos hf]; simp
    have e1 : (frN x y).natAbs = frTop x y := by unfold frN; rw [if_neg hd, if_pos hf]; split <;> simp
    unfold frOk
    rw [decide_eq_true_iff, e1, e2]
    have d1 : frD x y = (frBot x y : Int) := by unfold frD; rw [if_neg hd, if_pos hf]
    refine ⟨by omega, by omega, by omega, by omega, hc⟩
  · rw [if_neg hf] at h; omega

theorem src_call {B : Nat} {a : Option Addr} {len cap : Nat} {zs : List Int} {g : Nat} {n s : Int} {w w1 : World} (h : Src B a len cap zs g n s w) (hb : Below w.heap.size w w1) : Src B a len cap zs g n s w1 := by
  have hl := cell_lt h.c0
  have hB : B ≤ w.heap.size := Nat.le_of_lt (Nat.lt_of_le_of_lt h.above hl)
  exact ⟨h.above, code_kept (hb.mono hB) h.code, keep1 hb h.c0, keep1 hb h.c1, keep1 hb h.c2, keepz hb hl h.f1, keepz hb hl h.f2, h.n0, h.s0, h.s1⟩
theorem src_alloc {B : Nat} {a : Option Addr} {len cap : Nat} {zs : List Int} {g : Nat} {n s : Int} {w : World} (h : Src B a len cap zs g n s w) (o : Obj) : Src B a len cap zs g n s (w.alloc o) :=
  src_call h (bel_alloc (Below.refl _ _) o)

/-- a block of two numbers that may be written -/
structure Two (T : Nat) (x y : Int) (w : World) : Prop where
  c0 : w.cell? ⟨T, 0, none⟩ = some (.int .i64 x)
  c1 : w.cell? ⟨T, 1, none⟩ = some (.int .i64 y)
  f0 : w.frozen? ⟨T, 0, none⟩ = false
  f1 : w.frozen? ⟨T, 1, none⟩ = false
theorem two_moved {B g T : Nat} {x y : Int} {w w1 : World} (h : Two T x y w) (m : Moved B g w w1) (hne : T ≠ g) : Two T x y w1 := by
  have hl := cell_lt h.c0
  exact ⟨(m.only T 0 hl hne).1.trans h.c0, (m.only T 1 hl hne).1.trans h.c1, (m.only T 0 hl hne).2.trans h.f0, (m.only T 1 hl hne).2.trans h.f1⟩
theorem two_call {T : Nat} {x y : Int} {w w1 : World} (h : Two T x y w) (hb : Below w.heap.size w w1) : Two T x y w1 := by
  have hl := cell_lt h.c0
  exact ⟨keep1 hb h.c0, keep1 hb h.c1, keepz hb hl h.f0, keepz hb hl h.f1⟩

set_option maxHeartbeats 400000 in
theorem source_any (a : Option Addr) (len cap : Nat) (zs : List Int) (w : World) (hc : Code w.heap.size w a len cap zs) (hl : len ≤ 9223372036854775807) :
    Calls Try.prog 7 #[.slice a len cap] w fun e w' => e = .returned (.pointer (some ⟨w.heap.size, 0, none⟩)) ∧ Below w.heap.size w w' ∧ Src w.heap.size a len cap zs w.heap.size 0 ((len : Int) % 1000) w' := by
  have HC := hide hc
  clear hc
  go_enter Try.func7, Try.ntmps7
  go_wp2
  go_ret
  have hb : Below w.heap.size w (w.alloc (.cells #[.slice a len cap, .int .i64 0, .int .i64 ((len : Int) % 1000)] 41)) := bel_alloc (Below.refl _ _) _
  exact ⟨rfl, hb, Nat.le_refl _, code_kept hb (unhide HC), by simp [go_sem], by simp [go_sem], by simp [go_sem], by simp [go_sem], by simp [go_sem], by omega, by omega, by omega⟩
theorem Moved.new {B g T o : Nat} {w W : World} {v : Value} (h : Moved B g w W) (hT : w.heap.size ≤ T) (hB : B ≤ T) : Moved B g w (W.setCell ⟨T, o, none⟩ v) :=
  ⟨bel_set h.below hB, by simpa using h.size, fun b o' hb hne => ⟨(World.cell?_setCell_far W ⟨T, o, none⟩ ⟨b, o', none⟩ v (by simp; omega)).trans (h.only b o' hb hne).1, by
    have := (h.only b o' hb hne).2
    rw [← this]
    simp [go_sem]⟩⟩
theorem Moved.new1 {B g : Nat} {w W : World} {o : Obj} (h : Moved B g w W) (hB : B ≤ W.heap.size) : Moved B g w (W.alloc o) := h.call hB (bel_alloc (Below.refl _ _) o)
theorem src_new {B : Nat} {a : Option Addr} {len cap : Nat} {zs : List Int} {g : Nat} {n s : Int} {T o : Nat} {v : Value} {w : World} (h : Src B a len cap zs g n s w) (hne : T ≠ g) (hB : B ≤ T) : Src B a len cap zs g n s (w.setCell ⟨T, o, none⟩ v) := by
  have hb : Below B w (w.setCell ⟨T, o, none⟩ v) := bel_set (Below.refl _ _) hB
  have far : ∀ i, (w.setCell ⟨T, o, none⟩ v).cell? ⟨g, i, none⟩ = w.cell? ⟨g, i, none⟩ := fun i => World.cell?_setCell_far w ⟨T, o, none⟩ ⟨g, i, none⟩ v hne
  have g1 := h.f1
  have g2 := h.f2
  exact ⟨h.above, code_kept hb h.code, (far 0).trans h.c0, (far 1).trans h.c1, (far 2).trans h.c2, by simp [go_sem, g1], by simp [go_sem, g2], h.n0, h.s0, h.s1⟩

set_option maxRecDepth 100000 in
set_option maxHeartbeats 2000000 in
theorem frac_any {B : Nat} {a : Option Addr} {len cap : Nat} {zs : List Int} {g : Nat} {n s : Int} {w : World} (h : Src B a len cap zs g n s w) (n1 : n ≤ 100000000) :
    Calls Try.prog 8 #[.pointer (some ⟨g, 0, none⟩)] w fun e w' => ∃ X Y n' s' : Int, e = .returned (.agg #[.int .i64 X, .int .i64 Y]) ∧ frOk X Y = true ∧ n' ≤ n + 15 ∧ Src B a len cap zs g n' s' w' ∧ Moved B g w w' := by
  have hgl := cell_lt h.c0
  have hne : w.heap.size ≠ g := by omega
  have hn0 := h.n0
  have S0 := hide (src_alloc h (.cells #[.int .i64 0, .int .i64 0] 24))
  have T0 : Hid (Two w.heap.size 0 0 (w.alloc (.cells #[.int .i64 0, .int .i64 0] 24))) := hide ⟨by simp [go_sem], by simp [go_sem], by simp [go_sem], by simp [go_sem]⟩
  have M0 := hide (Moved.call (Moved.refl B g w) (Nat.le_of_lt (Nat.lt_of_le_of_lt h.above hgl)) (bel_alloc (Below.refl _ _) (.cells #[.int .i64 0, .int .i64 0] 24)))
  have hT : w.heap.size ≤ w.heap.size := Nat.le_refl _
  have hBT : B ≤ w.heap.size := Nat.le_of_lt (Nat.lt_of_le_of_lt h.above hgl)
  clear h
  go_enter Try.func8, Try.ntmps8
  go_wp2_with fail
  refine (next_any 41 (unhide S0) (by omega) (by omega) (by omega)).mono ?_
  rintro e w1 ⟨r1, n1, t1, rfl, p1, q1, hn1, hs, mv⟩
  have T1 := hide (two_moved (unhide T0) mv hne)
  have M1 := hide ((unhide M0).trans mv)
  have S1 := hide hs
  clear hs mv
  go_wp2_with fail
  refine (next_any 12 (unhide S1) (by omega) (by omega) (by omega)).mono ?_
  rintro e w2 ⟨r2, n2, t2, rfl, p2, q2, hn2, hs, mv⟩
  have T2 := hide (two_moved (unhide T1) mv hne)
  have M2 := hide ((unhide M1).trans mv)
  have S2 := hide hs
  clear hs mv
  go_wp2_with fail
  refine (next_any 9 (unhide S2) (by omega) (by omega) (by omega)).mono ?_
  rintro e w3 ⟨r3, n3, t3, rfl, p3, q3, hn3, hs, mv⟩
  have T3 := hide (two_moved (unhide T2) mv hne)
  have M3 := hide ((unhide M2).trans mv)
  have S3 := hide hs
  clear hs mv
  rcases (by omega : r3 = 0 ∨ r3 = 1 ∨ r3 = 2 ∨ r3 = 3 ∨ 4 ≤ r3) with rfl | rfl | rfl | rfl | h4
  · skip
    go_wp2_with fail
    refine (next_any 2000000 (unhide S3) (by omega) (by omega) (by omega)).mono ?_
    rintro e w4 ⟨r4, n4, t4, rfl, p4, q4, hn4, hs, mv⟩
    have T4 := hide (two_moved (unhide T3) mv hne)
    have M4 := hide ((unhide M3).trans mv)
    have S4 := hide hs
    clear hs mv
    go_wp2_with fail
    refine (next_any 1000000 (unhide S4) (by omega) (by omega) (by omega)).mono ?_
    rintro e w5 ⟨r5, n5, t5, rfl, p5, q5, hn5, hs, mv⟩
    have T5 := hide (two_moved (unhide T4) mv hne)
    have M5 := hide ((unhide M4).trans mv)
    have S5 := hide hs
    clear hs mv
    go_wp2_with fail
    refine (specOf_any _ _ _ (by omega) (by omega) (by omega) (by omega)).mono ?_
    rintro e wf ⟨rfl, hb⟩
    have TF := hide (two_call (unhide T5) hb)
    have SF := hide (src_call (unhide S5) hb)
    have MF := hide ((unhide M5).call (Nat.le_of_lt (Nat.lt_of_le_of_lt (unhide S5).above (cell_lt (unhide S5).c0))) hb)
    have hBF : B ≤ wf.heap.size := Nat.le_of_lt (Nat.lt_of_le_of_lt (unhide SF).above (cell_lt (unhide SF).c0))
    have hok := right_of (r4 - 1000000) (1 + r5)
    have HOK := hide hok
    have d0 := (unhide TF).c0
    have d1 := (unhide TF).c1
    have d2 := (unhide TF).f0
    have d3 := (unhide TF).f1
    have l0 := cell_lt d0
    clear hb hok
    unfold frAns
    generalize frN (r4 - 1000000) (1 + r5) = X at *
    generalize frD (r4 - 1000000) (1 + r5) = Y at *
    generalize frCode (r4 - 1000000) (1 + r5) = C at *
    by_cases hC : C = 0
    · subst hC
      go_wp2
      exact bodyPost_ret (v := .agg #[.int .i64 X, .int .i64 Y]) (by simp [results, Try.results8, go_sem, d0, d1, l0]) rfl ⟨X, Y, n5, t5, rfl, unhide HOK (by first | rfl | trivial), by omega, src_alloc (src_new (src_new (unhide SF) hne hBT) hne hBT) _, (((unhide MF).new hT hBT).new hT hBT).new1 (by simpa using hBF)⟩
    · have hC' : (C != 0) = true := by simp [hC]
      have hC2 : (C == 0) = false := by simp [hC]
      clear hC
      go_wp2
      exact bodyPost_ret (v := .agg #[.int .i64 1, .int .i64 2]) (by simp [results, Try.results8, go_sem, d0, d1, l0]) rfl ⟨1, 2, n5, t5, rfl, by decide, by omega, src_alloc (src_new (src_new (unhide SF) hne hBT) hne hBT) _, (((unhide MF).new hT hBT).new hT hBT).new1 (by simpa using hBF)⟩
  · skip
    go_wp2_with fail
    refine (next_any 3 (unhide S3) (by omega) (by omega) (by omega)).mono ?_
    rintro e w4 ⟨r4, n4, t4, rfl, p4, q4, hn4, hs, mv⟩
    have T4 := hide (two_moved (unhide T3) mv hne)
    have M4 := hide ((unhide M3).trans mv)
    have S4 := hide hs
    clear hs mv
    go_wp2_with fail
    refine (next_any 2 (unhide S4) (by omega) (by omega) (by omega)).mono ?_
    rintro e w5 ⟨r5, n5, t5, rfl, p5, q5, hn5, hs, mv⟩
    have T5 := hide (two_moved (unhide T4) mv hne)
    have M5 := hide ((unhide M4).trans mv)
    have S5 := hide hs
    clear hs mv
    go_wp2_with fail
    refine (specOf_any _ _ _ (by omega) (by omega) (by omega) (by omega)).mono ?_
    rintro e wf ⟨rfl, hb⟩
    have TF := hide (two_call (unhide T5) hb)
    have SF := hide (src_call (unhide S5) hb)
    have MF := hide ((unhide M5).call (Nat.le_of_lt (Nat.lt_of_le_of_lt (unhide S5).above (cell_lt (unhide S5).c0))) hb)
    have hBF : B ≤ wf.heap.size := Nat.le_of_lt (Nat.lt_of_le_of_lt (unhide SF).above (cell_lt (unhide SF).c0))
    have hok := right_of (1000000000 - r4) (1 + r5)
    have HOK := hide hok
    have d0 := (unhide TF).c0
    have d1 := (unhide TF).c1
    have d2 := (unhide TF).f0
    have d3 := (unhide TF).f1
    have l0 := cell_lt d0
    clear hb hok
    unfold frAns
    generalize frN (1000000000 - r4) (1 + r5) = X at *
    generalize frD (1000000000 - r4) (1 + r5) = Y at *
    generalize frCode (1000000000 - r4) (1 + r5) = C at *
    by_cases hC : C = 0
    · subst hC
      go_wp2
      exact bodyPost_ret (v := .agg #[.int .i64 X, .int .i64 Y]) (by simp [results, Try.results8, go_sem, d0, d1, l0]) rfl ⟨X, Y, n5, t5, rfl, unhide HOK (by first | rfl | trivial), by omega, src_alloc (src_new (src_new (unhide SF) hne hBT) hne hBT) _, (((unhide MF).new hT hBT).new hT hBT).new1 (by simpa using hBF)⟩
    · have hC' : (C != 0) = true := by simp [hC]
      have hC2 : (C == 0) = false := by simp [hC]
      clear hC
      go_wp2
      exact bodyPost_ret (v := .agg #[.int .i64 1, .int .i64 2]) (by simp [results, Try.results8, go_sem, d0, d1, l0]) rfl ⟨1, 2, n5, t5, rfl, by decide, by omega, src_alloc (src_new (src_new (unhide SF) hne hBT) hne hBT) _, (((unhide MF).new hT hBT).new hT hBT).new1 (by simpa using hBF)⟩
  · skip
    go_wp2_with fail
    refine (next_any 5 (unhide S3) (by omega) (by omega) (by omega)).mono ?_
    rintro e w4 ⟨r4, n4, t4, rfl, p4, q4, hn4, hs, mv⟩
    have T4 := hide (two_moved (unhide T3) mv hne)
    have M4 := hide ((unhide M3).trans mv)
    have S4 := hide hs
    clear hs mv
    go_wp2_with fail
    refine (next_any 3 (unhide S4) (by omega) (by omega) (by omega)).mono ?_
    rintro e w5 ⟨r5, n5, t5, rfl, p5, q5, hn5, hs, mv⟩
    have T5 := hide (two_moved (unhide T4) mv hne)
    have M5 := hide ((unhide M4).trans mv)
    have S5 := hide hs
    clear hs mv
    go_wp2_with fail
    refine (specOf_any _ _ _ (by omega) (by omega) (by omega) (by omega)).mono ?_
    rintro e wf ⟨rfl, hb⟩
    have TF := hide (two_call (unhide T5) hb)
    have SF := hide (src_call (unhide S5) hb)
    have MF := hide ((unhide M5).call (Nat.le_of_lt (Nat.lt_of_le_of_lt (unhide S5).above (cell_lt (unhide S5).c0))) hb)
    have hBF : B ≤ wf.heap.size := Nat.le_of_lt (Nat.lt_of_le_of_lt (unhide SF).above (cell_lt (unhide SF).c0))
    have hok := right_of (1 + r4) (1000000000 - r5)
    have HOK := hide hok
    have d0 := (unhide TF).c0
    have d1 := (unhide TF).c1
    have d2 := (unhide TF).f0
    have d3 := (unhide TF).f1
    have l0 := cell_lt d0
    clear hb hok
    unfold frAns
    generalize frN (1 + r4) (1000000000 - r5) = X at *
    generalize frD (1 + r4) (1000000000 - r5) = Y at *
    generalize frCode (1 + r4) (1000000000 - r5) = C at *
    by_cases hC : C = 0
    · subst hC
      go_wp2
      exact bodyPost_ret (v := .agg #[.int .i64 X, .int .i64 Y]) (by simp [results, Try.results8, go_sem, d0, d1, l0]) rfl ⟨X, Y, n5, t5, rfl, unhide HOK (by first | rfl | trivial), by omega, src_alloc (src_new (src_new (unhide SF) hne hBT) hne hBT) _, (((unhide MF).new hT hBT).new hT hBT).new1 (by simpa using hBF)⟩
    · have hC' : (C != 0) = true := by simp [hC]
      have hC2 : (C == 0) = false := by simp [hC]
      clear hC
      go_wp2
      exact bodyPost_ret (v := .agg #[.int .i64 1, .int .i64 2]) (by simp [results, Try.results8, go_sem, d0, d1, l0]) rfl ⟨1, 2, n5, t5, rfl, by decide, by omega, src_alloc (src_new (src_new (unhide SF) hne hBT) hne hBT) _, (((unhide MF).new hT hBT).new hT hBT).new1 (by simpa using hBF)⟩
  · skip
    go_wp2_with fail
    refine (specOf_any _ _ _ (by omega) (by omega) (by omega) (by omega)).mono ?_
    rintro e wf ⟨rfl, hb⟩
    have TF := hide (two_call (unhide T3) hb)
    have SF := hide (src_call (unhide S3) hb)
    have MF := hide ((unhide M3).call (Nat.le_of_lt (Nat.lt_of_le_of_lt (unhide S3).above (cell_lt (unhide S3).c0))) hb)
    have hBF : B ≤ wf.heap.size := Nat.le_of_lt (Nat.lt_of_le_of_lt (unhide SF).above (cell_lt (unhide SF).c0))
    have hok := right_of (r1 - 20) (1)
    have HOK := hide hok
    have d0 := (unhide TF).c0
    have d1 := (unhide TF).c1
    have d2 := (unhide TF).f0
    have d3 := (unhide TF).f1
    have l0 := cell_lt d0
    clear hb hok
    unfold frAns
    generalize frN (r1 - 20) (1) = X at *
    generalize frD (r1 - 20) (1) = Y at *
    generalize frCode (r1 - 20) (1) = C at *
    by_cases hC : C = 0
    · subst hC
      go_wp2
      exact bodyPost_ret (v := .agg #[.int .i64 X, .int .i64 Y]) (by simp [results, Try.results8, go_sem, d0, d1, l0]) rfl ⟨X, Y, n3, t3, rfl, unhide HOK (by first | rfl | trivial), by omega, src_alloc (src_new (src_new (unhide SF) hne hBT) hne hBT) _, (((unhide MF).new hT hBT).new hT hBT).new1 (by simpa using hBF)⟩
    · have hC' : (C != 0) = true := by simp [hC]
      have hC2 : (C == 0) = false := by simp [hC]
      clear hC
      go_wp2
      exact bodyPost_ret (v := .agg #[.int .i64 1, .int .i64 2]) (by simp [results, Try.results8, go_sem, d0, d1, l0]) rfl ⟨1, 2, n3, t3, rfl, by decide, by omega, src_alloc (src_new (src_new (unhide SF) hne hBT) hne hBT) _, (((unhide MF).new hT hBT).new hT hBT).new1 (by simpa using hBF)⟩
  · skip
    go_wp2_with fail
    refine (specOf_any _ _ _ (by omega) (by omega) (by omega) (by omega)).mono ?_
    rintro e wf ⟨rfl, hb⟩
    have TF := hide (two_call (unhide T3) hb)
    have SF := hide (src_call (unhide S3) hb)
    have MF := hide ((unhide M3).call (Nat.le_of_lt (Nat.lt_of_le_of_lt (unhide S3).above (cell_lt (unhide S3).c0))) hb)
    have hBF : B ≤ wf.heap.size := Nat.le_of_lt (Nat.lt_of_le_of_lt (unhide SF).above (cell_lt (unhide SF).c0))
    have hok := right_of (r1 - 20) (1 + r2)
    have HOK := hide hok
    have d0 := (unhide TF).c0
    have d1 := (unhide TF).c1
    have d2 := (unhide TF).f0
    have d3 := (unhide TF).f1
    have l0 := cell_lt d0
    clear hb hok
    unfold frAns
    generalize frN (r1 - 20) (1 + r2) = X at *
    generalize frD (r1 - 20) (1 + r2) = Y at *
    generalize frCode (r1 - 20) (1 + r2) = C at *
    by_cases hC : C = 0
    · subst hC
      go_wp2
      exact bodyPost_ret (v := .agg #[.int .i64 X, .int .i64 Y]) (by simp [results, Try.results8, go_sem, d0, d1, l0]) rfl ⟨X, Y, n3, t3, rfl, unhide HOK (by first | rfl | trivial), by omega, src_alloc (src_new (src_new (unhide SF) hne hBT) hne hBT) _, (((unhide MF).new hT hBT).new hT hBT).new1 (by simpa using hBF)⟩
    · have hC' : (C != 0) = true := by simp [hC]
      have hC2 : (C == 0) = false := by simp [hC]
      clear hC
      go_wp2
      exact bodyPost_ret (v := .agg #[.int .i64 1, .int .i64 2]) (by simp [results, Try.results8, go_sem, d0, d1, l0]) rfl ⟨1, 2, n3, t3, rfl, by decide, by omega, src_alloc (src_new (src_new (unhide SF) hne hBT) hne hBT) _, (((unhide MF).new hT hBT).new hT hBT).new1 (by simpa using hBF)⟩
end Go.Proofs.Ytidafleegkofkaa
