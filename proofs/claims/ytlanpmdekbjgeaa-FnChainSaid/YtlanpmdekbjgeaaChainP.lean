/-
  The program's ChainOf.
-/
import Derived.Test.YtlanpmdekbjgeaaLinksP
import Derived.Test.YtlanpmdekbjgeaaOfEach
namespace Go.Proofs.Ytlanpmdekbjgeaa
open Go.ChangeShapes Go.WideShapes Go.ChangeAt Go.RowKit
set_option linter.unusedVariables false
set_option linter.unusedSimpArgs false

theorem store_func (W : World) (a : Addr) (f : Nat) (v : Value) (h : W.cell? a = some v) (hf : W.frozen? a = false) : (store a (.func (.func f) #[] #[])).run Try.prog W = .ok () (W.setCell a (.func (.func f) #[] #[])) := by
  rw [run_store Try.prog W a _ _ rfl, h]
  simp [hf]
theorem ends_any (w : World) : Calls Try.prog 32 #[] w fun e w' => e = .returned (.agg #[.func (.func 53) #[] #[], .func (.func 54) #[] #[], .func (.func 55) #[] #[], .func (.func 56) #[] #[]]) ∧ Below w.heap.size w w' := by
  have hst := fun (W : World) (o : Nat) (f : Nat) (h : W.cell? ⟨w.heap.size, o, none⟩ = some .nilFunc) (hf : W.frozen? ⟨w.heap.size, o, none⟩ = false) => store_func W ⟨w.heap.size, o, none⟩ f _ h hf
  go_enter Try.func32, Try.ntmps32
  go_wp2
  exact bodyPost_ret (v := .agg #[.func (.func 53) #[] #[], .func (.func 54) #[] #[], .func (.func 55) #[] #[], .func (.func 56) #[] #[]]) (by simp [results, Try.results32, go_sem]) rfl ⟨rfl, by repeat (first | exact Below.refl _ _ | refine ba ?_ _)⟩
theorem sumBy_take {f : Lk → Int} {ls : List Lk} (i : Nat) : sumL ((ls.map f).take i) = sumBy f (ls.take i) := by
  unfold sumBy
  rw [List.map_take]

/-- the sum of one number of each link -/
theorem sumEach_any (f : Lk → Int) (u : Option Addr) (p n : Nat) (ls : List Lk) (w : World) (hl : ls.length = n) (hn : n ≤ 40) (hb : ∀ i, i ≤ n → -9223372036854775808 ≤ sumBy f (ls.take i) ∧ sumBy f (ls.take i) ≤ 9223372036854775807) (hi : iblk w p 3 (ls.map f)) :
    Calls Try.prog 33 #[.slice (some ⟨p, 0, none⟩) n n] w fun e w' => e = .returned (.int .i64 (sumBy f ls)) ∧ w' = w :=
  sum_any (some ⟨p, 0, none⟩) p 0 n n (ls.map f) w (by simp [hl]) (by omega) (fun i hi => by rw [sumBy_take]; exact hb i hi) (fun _ => ⟨rfl, hi.ints⟩)
theorem pair_any (p : Nat) (a b : Int) (w : World) (ha : -8000000 ≤ a) (ha' : a ≤ 8000000) (hb : -8000000 ≤ b) (hb' : b ≤ 8000000) (c0 : w.cell? ⟨p, 0, none⟩ = some (.int .i64 a)) (c1 : w.cell? ⟨p, 1, none⟩ = some (.int .i64 b)) :
    Calls Try.prog 33 #[.slice (some ⟨p, 0, none⟩) 2 2] w fun e w' => e = .returned (.int .i64 (a + b)) ∧ w' = w := by
  have := sum_any (some ⟨p, 0, none⟩) p 0 2 2 [a, b] w rfl (by omega) (fun i hi => by
    rcases (by omega : i = 0 ∨ i = 1 ∨ i = 2) with e | e | e <;> subst e <;> simp [sumL] <;> omega) (fun _ => ⟨rfl, fun j x hj => by
    rcases (by have := (List.getElem?_eq_some_iff.1 hj).1; simp at this; omega : j = 0 ∨ j = 1) with e | e <;> subst e <;> simp at hj <;> subst hj
    · exact c0
    · exact c1⟩)
  rw [show sumL [a, b] = a + b by simp [sumL]] at this
  exact this

set_option maxHeartbeats 4000000 in
set_option maxRecDepth 100000 in
theorem chOfP_any (u : Option Addr) (p po n cu : Nat) (ls : List Lk) (w : World) (hl : ls.length = n) (hn : n ≤ 1048576) (hsz : ∀ l ∈ ls, l.nm.size ≤ 1048576) (hu : Lks w u p po ls) :
    Calls Try.prog 10 #[.slice u n cu] w fun e w' => e = .returned (.tuple #[.agg #[.int .i64 (chL ls), .int .i64 (chM ls), .int .i64 (chL ls + chM ls), .int .i64 (chQ ls)], .int .i64 (lkCode ls)]) ∧ Below w.heap.size w w' := by
  have HP := hide (fun (W : World) (hW : Below w.heap.size w W) => linksP_any u p po n cu ls W hl hn hsz (hu.bel hW))
  by_cases hr : rightB ls = true
  rotate_left
  · have hf : rightB ls = false := by simpa using hr
    rw [show chL ls = 0 by simp [chL, hf], show chM ls = 0 by simp [chM, hf], show chQ ls = 0 by simp [chQ, hf]]
    have hc : lkCode ls = 1 ∨ lkCode ls = 2 := by unfold lkCode; rw [hf]; split <;> simp
    have hc0 : (lkCode ls != 0) = true := by rcases hc with e | e <;> rw [e] <;> rfl
    generalize lkCode ls = C at *
    clear hu hsz hl hr hf hc
    go_enter Try.func10, Try.ntmps10
    go_wp2_with fail
    refine (unhide HP _ (ba (Below.refl _ _) _)).mono ?_
    rintro e W1 ⟨rfl, hb⟩
    have fz := fun o => keepz hb (b := w.heap.size) (o := o) (by simp) (by simp [go_sem])
    have r0 := keep1 hb (b := w.heap.size) (o := 0) (v := .int .i64 0) (by simp [go_sem])
    have r1 := keep1 hb (b := w.heap.size) (o := 1) (v := .int .i64 0) (by simp [go_sem])
    have r2 := keep1 hb (b := w.heap.size) (o := 2) (v := .int .i64 0) (by simp [go_sem])
    have r3 := keep1 hb (b := w.heap.size) (o := 3) (v := .int .i64 0) (by simp [go_sem])
    have HB := hide (bc (ba (Below.refl _ _) _) hb)
    clear hb
    go_wp2_with fail
    refine bodyPost_ret (v := .tuple #[.agg #[.int .i64 0, .int .i64 0, .int .i64 (0 + 0), .int .i64 0], .int .i64 C]) (by simp [results, Try.results10, go_sem, *]) rfl ⟨rfl, ?_⟩
    repeat (first | exact unhide HB | refine Below.setCell ?_ (by simp) _)
  · have hR := of_rightB hr
    have n40 : n ≤ 40 := by have := hR.2.1; omega
    rw [show chL ls = sumBy lo ls by simp [chL, hr], show chM ls = sumBy hi ls by simp [chM, hr], show chQ ls = sumBy sq ls by simp [chQ, hr], show lkCode ls = 0 by simp [lkCode, hr]; omega]
    rw [show lkCode ls = 0 by simp [lkCode, hr]; omega] at HP
    have hsm := fun i (h : i ≤ n) => sum_small hR i (by omega)
    have E53 := hide (fun (W : World) (hW : Below w.heap.size w W) => ofEach_any 53 lo enters53 (hide fun s a b c d W h => least_any s a b c d W h) u p po n cu ls W hl n40 hR.2.2.1 (hu.bel hW))
    have E55 := hide (fun (W : World) (hW : Below w.heap.size w W) => ofEach_any 55 hi enters55 (hide fun s a b c d W h => most_any s a b c d W h) u p po n cu ls W hl n40 hR.2.2.1 (hu.bel hW))
    have E35 := hide (fun (W : World) (hW : Below w.heap.size w W) => ofEach_any 35 sq enters35 (hide fun s a b c d W h => tolSq_any s a b c d W h) u p po n cu ls W hl n40 hR.2.2.1 (hu.bel hW))
    have SL := hide (fun (q : Nat) (W : World) (h : iblk W q 3 (ls.map lo)) => sumEach_any lo none q n ls W hl n40 (fun i hi => by have := hsm i hi; omega) h)
    have SM := hide (fun (q : Nat) (W : World) (h : iblk W q 3 (ls.map hi)) => sumEach_any hi none q n ls W hl n40 (fun i hi => by have := hsm i hi; omega) h)
    have SQ := hide (fun (q : Nat) (W : World) (h : iblk W q 3 (ls.map sq)) => sumEach_any sq none q n ls W hl n40 (fun i hi => by have := hsm i hi; omega) h)
    obtain ⟨s0, s1, s2, s3, s4, s5⟩ := hsm n (Nat.le_refl _)
    rw [List.take_of_length_le (by omega)] at s0 s1 s2 s3 s4 s5
    generalize sumBy lo ls = vL at *
    generalize sumBy hi ls = vM at *
    generalize sumBy sq ls = vQ at *
    have hst := fun (W : World) (a : Addr) (f : Nat) (h : W.cell? a = some .nilFunc) (hf : W.frozen? a = false) => store_func W a f _ h hf
    clear hu hsz hl hr hR hsm
    go_enter Try.func10, Try.ntmps10
    go_wp2_with fail
    refine (unhide HP _ (ba (Below.refl _ _) _)).mono ?_
    rintro e W1 ⟨rfl, hb⟩
    have fz := fun o => keepz hb (b := w.heap.size) (o := o) (by simp) (by simp [go_sem])
    have r0 := keep1 hb (b := w.heap.size) (o := 0) (v := .int .i64 0) (by simp [go_sem])
    have r1 := keep1 hb (b := w.heap.size) (o := 1) (v := .int .i64 0) (by simp [go_sem])
    have r2 := keep1 hb (b := w.heap.size) (o := 2) (v := .int .i64 0) (by simp [go_sem])
    have r3 := keep1 hb (b := w.heap.size) (o := 3) (v := .int .i64 0) (by simp [go_sem])
    have HB := hide (bc (ba (Below.refl _ _) _) hb)
    clear hb HP
    go_wp2_with fail
    refine (ends_any _).mono ?_
    rintro e W2 ⟨rfl, hb⟩
    have fz := fun o => keepz hb (b := w.heap.size) (o := o) (by first | exact cell_lt r0 | exact cell_lt (ka r0)) (by first | exact fz o | exact keepz (ba (Below.refl _ _) _) (cell_lt r0) (fz o))
    have r0 := keep1 hb (b := w.heap.size) (o := 0) (v := .int .i64 0) (by first | exact r0 | exact ka r0)
    have r1 := keep1 hb (b := w.heap.size) (o := 1) (v := .int .i64 0) (by first | exact r1 | exact ka r1)
    have r2 := keep1 hb (b := w.heap.size) (o := 2) (v := .int .i64 0) (by first | exact r2 | exact ka r2)
    have r3 := keep1 hb (b := w.heap.size) (o := 3) (v := .int .i64 0) (by first | exact r3 | exact ka r3)
    have HB2 := hide (bc (unhide HB) hb)
    have hlt : w.heap.size < W2.heap.size := cell_lt r0
    clear hb
    go_wp2_with fail
    refine (unhide E53 _ (ba (unhide HB2) _)).mono ?_
    rintro e W3 ⟨⟨q1, rfl, hq1, hi1⟩, hb⟩
    have HI1 := hide hi1
    have g2 := keep1 hb (b := W2.heap.size) (o := 2) (v := .func (.func 55) #[] #[]) (by simp [go_sem])
    have fz := fun o => keepz hb (b := w.heap.size) (o := o) (by first | exact cell_lt r0 | exact cell_lt (ka r0)) (by first | exact fz o | exact keepz (ba (Below.refl _ _) _) (cell_lt r0) (fz o))
    have r0 := keep1 hb (b := w.heap.size) (o := 0) (v := .int .i64 0) (by first | exact r0 | exact ka r0)
    have r1 := keep1 hb (b := w.heap.size) (o := 1) (v := .int .i64 0) (by first | exact r1 | exact ka r1)
    have r2 := keep1 hb (b := w.heap.size) (o := 2) (v := .int .i64 0) (by first | exact r2 | exact ka r2)
    have r3 := keep1 hb (b := w.heap.size) (o := 3) (v := .int .i64 0) (by first | exact r3 | exact ka r3)
    have HB3 := hide (bc (ba (unhide HB2) _) hb)
    clear hb hi1 hq1
    go_wp2_with fail
    refine (unhide SL _ _ (unhide HI1)).mono ?_
    rintro e W4 ⟨rfl, rfl⟩
    go_wp2_with fail
    refine (unhide E55 _ (unhide HB3)).mono ?_
    rintro e W4 ⟨⟨q2, rfl, hq2, hi2⟩, hb⟩
    have HI2 := hide hi2
    have fz := fun o => keepz hb (b := w.heap.size) (o := o) (by first | exact cell_lt r0 | exact cell_lt (ka r0)) (by first | exact fz o | exact keepz (ba (Below.refl _ _) _) (cell_lt r0) (fz o))
    have r0 := keep1 hb (b := w.heap.size) (o := 0) (v := .int .i64 0) (by first | exact r0 | exact ka r0)
    have r1 := keep1 hb (b := w.heap.size) (o := 1) (v := .int .i64 0) (by first | exact r1 | exact ka r1)
    have r2 := keep1 hb (b := w.heap.size) (o := 2) (v := .int .i64 0) (by first | exact r2 | exact ka r2)
    have r3 := keep1 hb (b := w.heap.size) (o := 3) (v := .int .i64 0) (by first | exact r3 | exact ka r3)
    have HB4 := hide (bc (unhide HB3) hb)
    clear hb hi2 hq2 g2
    go_wp2_with fail
    refine (unhide SM _ _ (unhide HI2)).mono ?_
    rintro e W5 ⟨rfl, rfl⟩
    go_wp2_with fail
    refine (pair_any _ vL vM _ (by omega) (by omega) (by omega) (by omega) (by simp [go_sem]) (by simp [go_sem])).mono ?_
    rintro e W5 ⟨rfl, rfl⟩
    go_wp2_with fail
    refine (unhide E35 _ (ba (unhide HB4) _)).mono ?_
    rintro e W6 ⟨⟨q3, rfl, hq3, hi3⟩, hb⟩
    have HI3 := hide hi3
    have fz := fun o => keepz hb (b := w.heap.size) (o := o) (by first | exact cell_lt r0 | exact cell_lt (ka r0)) (by first | exact fz o | exact keepz (ba (Below.refl _ _) _) (cell_lt r0) (fz o))
    have r0 := keep1 hb (b := w.heap.size) (o := 0) (v := .int .i64 0) (by first | exact r0 | exact ka r0)
    have r1 := keep1 hb (b := w.heap.size) (o := 1) (v := .int .i64 0) (by first | exact r1 | exact ka r1)
    have r2 := keep1 hb (b := w.heap.size) (o := 2) (v := .int .i64 0) (by first | exact r2 | exact ka r2)
    have r3 := keep1 hb (b := w.heap.size) (o := 3) (v := .int .i64 0) (by first | exact r3 | exact ka r3)
    have HB5 := hide (bc (ba (unhide HB4) _) hb)
    clear hb hi3 hq3
    go_wp2_with fail
    refine (unhide SQ _ _ (unhide HI3)).mono ?_
    rintro e W7 ⟨rfl, rfl⟩
    go_wp2_with fail
    refine bodyPost_ret (v := .tuple #[.agg #[.int .i64 vL, .int .i64 vM, .int .i64 (vL + vM), .int .i64 vQ], .int .i64 0]) (by simp [results, Try.results10, go_sem, *]) rfl ⟨rfl, ?_⟩
    repeat (first | exact unhide HB5 | refine Below.setCell ?_ (by simp) _)
end Go.Proofs.Ytlanpmdekbjgeaa
