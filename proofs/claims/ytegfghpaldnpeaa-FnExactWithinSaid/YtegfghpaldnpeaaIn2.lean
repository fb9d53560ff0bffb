/-
  Within of the model and of the program.
-/
import Derived.Test.YtegfghpaldnpeaaInM
import Derived.Test.YtegfghpaldnpeaaInP
namespace Go.Proofs.Ytegfghpaldnpeaa
open Go.ChangeShapes Go.WideShapes Go.ChangeAt Go.RowKit Go.Shelf
set_option linter.unusedVariables false
set_option linter.unusedSimpArgs false

def inV (L : List Pt) (n : Nat) (x : Pt) : Int := if (pcode L).1 = 0 ∧ ptOk x = true then within L n x else 0
def inC (L : List Pt) (n : Nat) (x : Pt) : Int := if 4096 < n then 2 else if (pcode L).1 = 0 ∧ ptOk x = true then 0 else 1
set_option maxRecDepth 100000 in
theorem withinM_any (b off cap n : Nat) (L : List Pt) (x1 x2 : Int) (w : World) (HN : Hid (L.length = n)) (hn : n ≤ 4611686018427387904) (HBB : Hid (b < w.heap.size)) (HX : Hid (PtsAt w b off L)) :
    Calls Try.prog 18 #[.slice (some ⟨b, off, none⟩) n cap, .agg #[.int .i64 x1, .int .i64 x2]] w fun e w' => e = .returned (.tuple #[.int .i64 (inV L n (x1, x2)), .int .i64 (inC L n (x1, x2))]) ∧ Below w.heap.size w w' := by
  by_cases h1 : 4096 < n
  · have t1 : decide ((4096 : Int) < (n : Int)) = true := decide_eq_true (by omega)
    have HV : Hid (inV L n (x1, x2) = 0) := hide (by unfold inV; rw [if_neg (fun h => pc_zero_long (unhide HN) h1 h.1)])
    have HC : Hid (inC L n (x1, x2) = 2) := hide (by unfold inC; rw [if_pos h1])
    go_enter Try.func18, Try.ntmps18
    go_wp2_with fail
    exact bodyPost_ret (v := .tuple #[.int .i64 0, .int .i64 2]) (by simp [results, Try.results18, go_sem]) rfl ⟨tup2' (unhide HV) (unhide HC), ba (Below.refl _ _) _⟩
  have t1 : decide ((4096 : Int) < (n : Int)) = false := decide_eq_false (by omega)
  have B0 := ba (Below.refl w.heap.size w) (.cells #[.int .i64 x1, .int .i64 x2] 26)
  have H38 := hide (polygonM_any b off cap n L (w.alloc (.cells #[.int .i64 x1, .int .i64 x2] 26)) HN hn (hide (Nat.lt_of_lt_of_le (unhide HBB) B0.size)) (hide ((unhide HX).bel B0 (unhide HBB))))
  have HB0 := hide B0
  clear B0
  by_cases h2 : (pcode L).1 = 0
  · rw [decide_eq_true h2] at H38
    have H39 := hide (fun W => okM_ints x1 x2 W)
    cases h3 : ptOk (x1, x2)
    · rw [h3] at H39
      have HV : Hid (inV L n (x1, x2) = 0) := hide (by unfold inV; rw [if_neg (by rw [h3]; simp)])
      have HC : Hid (inC L n (x1, x2) = 1) := hide (by unfold inC; rw [if_neg h1, if_neg (by rw [h3]; simp)])
      clear h2 h3
      go_enter Try.func18, Try.ntmps18
      go_wp2_with fail
      refine (unhide H38).mono ?_
      rintro e W1 ⟨rfl, hb⟩
      have k0 := keep1 hb (b := w.heap.size) (o := 0) (v := .int .i64 x1) (by simp (maxDischargeDepth := 12) [go_sem, le1, lt1, *])
      have k1 := keep1 hb (b := w.heap.size) (o := 1) (v := .int .i64 x2) (by simp (maxDischargeDepth := 12) [go_sem, le1, lt1, *])
      have HB := hide (bc (unhide HB0) hb)
      clear hb
      go_wp2_with fail
      refine (unhide H39 _).mono ?_
      rintro e W2 ⟨rfl, hb⟩
      have HB2 := hide (bc (unhide HB) hb)
      clear hb
      go_wp2_with fail
      exact bodyPost_ret (v := .tuple #[.int .i64 0, .int .i64 1]) (by simp [results, Try.results18, go_sem]) rfl ⟨tup2' (unhide HV) (unhide HC), unhide HB2⟩
    · rw [h3] at H39
      obtain ⟨z1, z2, z3⟩ := pc_zero h2
      have H40 := hide (fun W (hW : Below w.heap.size w W) => withinM_loop b off cap n L x1 x2 W HN (by have := unhide HN; omega) (hide h3) (hide z2) (hide (Nat.lt_of_lt_of_le (unhide HBB) hW.size)) (hide ((unhide HX).bel hW (unhide HBB))))
      have HV : Hid (inV L n (x1, x2) = within L n (x1, x2)) := hide (by unfold inV; rw [if_pos ⟨h2, h3⟩])
      have HC : Hid (inC L n (x1, x2) = 0) := hide (by unfold inC; rw [if_neg h1, if_pos ⟨h2, h3⟩])
      generalize within L n (x1, x2) = A at *
      clear h2 h3 z1 z2 z3
      go_enter Try.func18, Try.ntmps18
      go_wp2_with fail
      refine (unhide H38).mono ?_
      rintro e W1 ⟨rfl, hb⟩
      have k0 := keep1 hb (b := w.heap.size) (o := 0) (v := .int .i64 x1) (by simp (maxDischargeDepth := 12) [go_sem, le1, lt1, *])
      have k1 := keep1 hb (b := w.heap.size) (o := 1) (v := .int .i64 x2) (by simp (maxDischargeDepth := 12) [go_sem, le1, lt1, *])
      have HB := hide (bc (unhide HB0) hb)
      clear hb
      go_wp2_with fail
      refine (unhide H39 _).mono ?_
      rintro e W2 ⟨rfl, hb⟩
      have j0 := keep1 hb k0
      have j1 := keep1 hb k1
      have HB2 := hide (bc (unhide HB) hb)
      clear hb k0 k1
      go_wp2_with fail
      refine (unhide H40 _ (unhide HB2)).mono ?_
      rintro e W3 ⟨rfl, hb⟩
      have HB3 := hide (bc (unhide HB2) hb)
      clear hb
      go_wp2_with fail
      exact bodyPost_ret (v := .tuple #[.int .i64 A, .int .i64 0]) (by simp [results, Try.results18, go_sem]) rfl ⟨tup2' (unhide HV) (unhide HC), unhide HB3⟩
  · rw [decide_eq_false h2] at H38
    have HV : Hid (inV L n (x1, x2) = 0) := hide (by unfold inV; rw [if_neg (fun h => h2 h.1)])
    have HC : Hid (inC L n (x1, x2) = 1) := hide (by unfold inC; rw [if_neg h1, if_neg (fun h => h2 h.1)])
    clear h2
    go_enter Try.func18, Try.ntmps18
    go_wp2_with fail
    refine (unhide H38).mono ?_
    rintro e W1 ⟨rfl, hb⟩
    have HB := hide (bc (unhide HB0) hb)
    clear hb
    go_wp2_with fail
    exact bodyPost_ret (v := .tuple #[.int .i64 0, .int .i64 1]) (by simp [results, Try.results18, go_sem]) rfl ⟨tup2' (unhide HV) (unhide HC), unhide HB⟩
set_option maxRecDepth 100000 in
theorem withinP_any (b off cap n : Nat) (L : List Pt) (x1 x2 : Int) (w : World) (HN : Hid (L.length = n)) (hn : n ≤ 4611686018427387904) (hcap : Hid (n ≤ cap)) (HBB : Hid (b < w.heap.size)) (HX : Hid (PtsAt w b off L)) :
    Calls Try.prog 20 #[.slice (some ⟨b, off, none⟩) n cap, .agg #[.int .i64 x1, .int .i64 x2]] w fun e w' => e = .returned (.tuple #[.int .i64 (inV L n (x1, x2)), .int .i64 (inC L n (x1, x2))]) ∧ Below w.heap.size w w' := by
  have B0 := ba (Below.refl w.heap.size w) (.cells #[.int .i64 x1, .int .i64 x2] 26)
  have H41 := hide (wholeP_any b off cap n L (w.alloc (.cells #[.int .i64 x1, .int .i64 x2] 26)) HN hn hcap (hide (Nat.lt_of_lt_of_le (unhide HBB) B0.size)) (hide ((unhide HX).bel B0 (unhide HBB))))
  have HB0 := hide B0
  clear B0
  obtain ⟨hw1, hw2⟩ := whole1_cases L n (unhide HN)
  rw [hw1] at H41
  clear hw1
  rcases hw2 with ⟨h1, h2⟩ | ⟨h1, h2, h3⟩
  · have h4 : ¬ (pcode L).1 = 0 := by
      intro h
      unfold areaC at h1
      by_cases h5 : 4096 < n
      · exact pc_zero_long (unhide HN) h5 h
      · rw [if_neg h5, if_pos h] at h1
        simp at h1
    have HV : Hid (inV L n (x1, x2) = 0) := hide (by unfold inV; rw [if_neg (fun h => h4 h.1)])
    have HC : Hid (inC L n (x1, x2) = areaC L n) := hide (by unfold inC areaC; simp [h4])
    generalize areaC L n = C at *
    clear h2 h4
    go_enter Try.func20, Try.ntmps20
    go_wp2_with fail
    refine (unhide H41).mono ?_
    rintro e W1 ⟨rfl, hb⟩
    have HB := hide (bc (unhide HB0) hb)
    clear hb
    go_wp2_with fail
    exact bodyPost_ret (v := .tuple #[.int .i64 0, .int .i64 C]) (by simp [results, Try.results20, go_sem]) rfl ⟨tup2' (unhide HV) (unhide HC), unhide HB⟩
  · have h5 : ¬ 4096 < n := fun h => pc_zero_long (unhide HN) h h2
    rw [h1] at H41
    have H42 := hide (fun W => wrong_ints x1 x2 W)
    cases h4 : ptOk (x1, x2)
    · rw [h4] at H42
      have HV : Hid (inV L n (x1, x2) = 0) := hide (by unfold inV; rw [if_neg (by rw [h4]; simp)])
      have HC : Hid (inC L n (x1, x2) = 1) := hide (by unfold inC; rw [if_neg h5, if_neg (by rw [h4]; simp)])
      clear h1 h2 h3 h4 h5
      go_enter Try.func20, Try.ntmps20
      go_wp2_with fail
      refine (unhide H41).mono ?_
      rintro e W1 ⟨rfl, hb⟩
      have k0 := keep1 hb (b := w.heap.size) (o := 0) (v := .int .i64 x1) (by simp (maxDischargeDepth := 12) [go_sem, le1, lt1, *])
      have k1 := keep1 hb (b := w.heap.size) (o := 1) (v := .int .i64 x2) (by simp (maxDischargeDepth := 12) [go_sem, le1, lt1, *])
      have HB := hide (bc (unhide HB0) hb)
      clear hb
      go_wp2_with fail
      refine (unhide H42 _).mono ?_
      rintro e W2 ⟨rfl, hb⟩
      have HB2 := hide (bc (unhide HB) hb)
      clear hb
      go_wp2_with fail
      exact bodyPost_ret (v := .tuple #[.int .i64 0, .int .i64 1]) (by simp [results, Try.results20, go_sem]) rfl ⟨tup2' (unhide HV) (unhide HC), unhide HB2⟩
    · rw [h4] at H42
      obtain ⟨z1, z2, z3⟩ := pc_zero h2
      have H43 := hide (fun W (hW : Below w.heap.size w W) => placeIn_any b off cap n L x1 x2 W HN (by have := unhide HN; omega) (hide h4) (hide z2) (hide (Nat.lt_of_lt_of_le (unhide HBB) hW.size)) (hide ((unhide HX).bel hW (unhide HBB))))
      have HV : Hid (inV L n (x1, x2) = within L n (x1, x2)) := hide (by unfold inV; rw [if_pos ⟨h2, h4⟩])
      have HC : Hid (inC L n (x1, x2) = 0) := hide (by unfold inC; rw [if_neg h5, if_pos ⟨h2, h4⟩])
      generalize within L n (x1, x2) = A at *
      clear h1 h2 h3 h4 h5 z1 z2 z3
      go_enter Try.func20, Try.ntmps20
      go_wp2_with fail
      refine (unhide H41).mono ?_
      rintro e W1 ⟨rfl, hb⟩
      have k0 := keep1 hb (b := w.heap.size) (o := 0) (v := .int .i64 x1) (by simp (maxDischargeDepth := 12) [go_sem, le1, lt1, *])
      have k1 := keep1 hb (b := w.heap.size) (o := 1) (v := .int .i64 x2) (by simp (maxDischargeDepth := 12) [go_sem, le1, lt1, *])
      have HB := hide (bc (unhide HB0) hb)
      clear hb
      go_wp2_with fail
      refine (unhide H42 _).mono ?_
      rintro e W2 ⟨rfl, hb⟩
      have j0 := keep1 hb k0
      have j1 := keep1 hb k1
      have HB2 := hide (bc (unhide HB) hb)
      clear hb k0 k1
      go_wp2_with fail
      refine (unhide H43 _ (unhide HB2)).mono ?_
      rintro e W3 ⟨rfl, hb⟩
      have HB3 := hide (bc (unhide HB2) hb)
      clear hb
      go_wp2_with fail
      exact bodyPost_ret (v := .tuple #[.int .i64 A, .int .i64 0]) (by simp [results, Try.results20, go_sem]) rfl ⟨tup2' (unhide HV) (unhide HC), unhide HB3⟩
end Go.Proofs.Ytegfghpaldnpeaa
