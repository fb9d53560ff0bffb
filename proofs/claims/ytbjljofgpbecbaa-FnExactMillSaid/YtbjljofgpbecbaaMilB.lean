/-
  Milling of what is none: too many moves, fields or tools that are not right.
-/
import Derived.Test.YtbjljofgpbecbaaMilM
import Derived.Test.YtbjljofgpbecbaaMilP
namespace Go.Proofs.Ytbjljofgpbecbaa
open Go.ChangeShapes Go.WideShapes Go.ChangeAt Go.RowKit
set_option linter.unusedVariables false
set_option linter.unusedSimpArgs false

set_option maxHeartbeats 2000000 in
set_option maxRecDepth 100000 in
theorem mlM_long (Ws Hs Wp Hp R : Int) (us up : Option Addr) (ps pos ns cs pp pop np cp : Nat) (S P : List Int) (um : Option Addr) (m cm : Nat) (w : World)
    (hm : 4096 < m) :
    Calls Try.prog 12 #[fldV Ws Hs us ns cs, fldV Wp Hp up np cp, .int .i64 R, .slice um m cm] w fun e w' => e = .returned (.agg #[.int .i64 2, .int .i64 0, .int .i64 0, .int .i64 0, .slice none 0 0, .int .i64 0, .int .i64 0, .int .i64 0]) ∧ Below w.heap.size w w' := by
  have t1 : decide ((4096 : Int) < (m : Int)) = true := decide_eq_true (by omega)
  have HB := hide (ba (ba (ba (Below.refl w.heap.size w) (.cells #[.int .i64 Ws, .int .i64 Hs, .slice us ns cs] 25)) (.cells #[.int .i64 Wp, .int .i64 Hp, .slice up np cp] 25)) (.cells #[.int .i64 0, .int .i64 0, .int .i64 0, .int .i64 0, .slice none 0 0, .int .i64 0, .int .i64 0, .int .i64 0] 31))
  have HV2 := hide (vb_new ((w.alloc (.cells #[.int .i64 Ws, .int .i64 Hs, .slice us ns cs] 25)).alloc (.cells #[.int .i64 Wp, .int .i64 Hp, .slice up np cp] 25)) 31 [.int .i64 0, .int .i64 0, .int .i64 0, .int .i64 0, .slice none 0 0, .int .i64 0, .int .i64 0, .int .i64 0] (w.heap.size + 2) (by simp))
  have hle : w.heap.size ≤ w.heap.size + 2 := by omega
  unfold fldV
  go_enter Try.func12, Try.ntmps12
  go_upto_region 1 with fail
  generalize ((w.alloc (.cells #[.int .i64 Ws, .int .i64 Hs, .slice us ns cs] 25)).alloc (.cells #[.int .i64 Wp, .int .i64 Hp, .slice up np cp] 25)).alloc (.cells #[.int .i64 0, .int .i64 0, .int .i64 0, .int .i64 0, .slice none 0 0, .int .i64 0, .int .i64 0, .int .i64 0] 31) = Wa at *
  have z0 := (unhide HV2).cell (m := 0) rfl
  have z1 := (unhide HV2).cell (m := 1) rfl
  have z2 := (unhide HV2).cell (m := 2) rfl
  have z3 := (unhide HV2).cell (m := 3) rfl
  have z4 := (unhide HV2).cell (m := 4) rfl
  have z5 := (unhide HV2).cell (m := 5) rfl
  have z6 := (unhide HV2).cell (m := 6) rfl
  have z7 := (unhide HV2).cell (m := 7) rfl
  have zf := (unhide HV2).frozen
  have vlt := (unhide HV2).lt
  go_wp2_with fail
  (try rw [Exit.noGoto_ret])
  refine bodyPost_ret (v := .agg #[.int .i64 2, .int .i64 0, .int .i64 0, .int .i64 0, .slice none 0 0, .int .i64 0, .int .i64 0, .int .i64 0]) (by simp [results, Try.results12, go_sem, z0, z1, z2, z3, z4, z5, z6, z7, vlt]) rfl ?_
  exact ⟨rfl, Below.setCell (Below.setCell (Below.setCell (Below.setCell (Below.setCell (Below.setCell (Below.setCell (Below.setCell (unhide HB) hle _) hle _) hle _) hle _) hle _) hle _) hle _) hle _⟩
set_option maxHeartbeats 2000000 in
set_option maxRecDepth 100000 in
theorem mlM_bad (Ws Hs Wp Hp R : Int) (us up : Option Addr) (ps pos ns cs pp pop np cp : Nat) (S P : List Int) (um : Option Addr) (m cm : Nat) (w : World)
    (hm : m ≤ 4096) (hl : S.length = ns) (hn : ns ≤ 9223372036854775807) (hu : Its w us ps pos S) (hl2 : P.length = np) (hn2 : np ≤ 9223372036854775807) (hu2 : Its w up pp pop P) (hb : (stB Ws Hs S Wp Hp P && (decide (0 ≤ R) && decide (R ≤ 3))) = false) :
    Calls Try.prog 12 #[fldV Ws Hs us ns cs, fldV Wp Hp up np cp, .int .i64 R, .slice um m cm] w fun e w' => e = .returned (.agg #[.int .i64 1, .int .i64 0, .int .i64 0, .int .i64 0, .slice none 0 0, .int .i64 0, .int .i64 0, .int .i64 0]) ∧ Below w.heap.size w w' := by
  have t1 : decide ((4096 : Int) < (m : Int)) = false := decide_eq_false (by omega)
  have HB := hide (ba (ba (ba (Below.refl w.heap.size w) (.cells #[.int .i64 Ws, .int .i64 Hs, .slice us ns cs] 25)) (.cells #[.int .i64 Wp, .int .i64 Hp, .slice up np cp] 25)) (.cells #[.int .i64 0, .int .i64 0, .int .i64 0, .int .i64 0, .slice none 0 0, .int .i64 0, .int .i64 0, .int .i64 0] 31))
  have HV2 := hide (vb_new ((w.alloc (.cells #[.int .i64 Ws, .int .i64 Hs, .slice us ns cs] 25)).alloc (.cells #[.int .i64 Wp, .int .i64 Hp, .slice up np cp] 25)) 31 [.int .i64 0, .int .i64 0, .int .i64 0, .int .i64 0, .slice none 0 0, .int .i64 0, .int .i64 0, .int .i64 0] (w.heap.size + 2) (by simp))
  have hle : w.heap.size ≤ w.heap.size + 2 := by omega
  have HPR := hide (fun X (hX : Below w.heap.size w X) => (prM_any R Ws Hs us ps pos ns cs S Wp Hp up pp pop np cp P X hl hn (hu.bel hX) hl2 hn2 (hu2.bel hX)))
  rw [hb] at HPR
  unfold fldV at *
  clear hu hu2 hl hl2 hb
  go_enter Try.func12, Try.ntmps12
  go_wp2_with fail
  generalize ((w.alloc (.cells #[.int .i64 Ws, .int .i64 Hs, .slice us ns cs] 25)).alloc (.cells #[.int .i64 Wp, .int .i64 Hp, .slice up np cp] 25)).alloc (.cells #[.int .i64 0, .int .i64 0, .int .i64 0, .int .i64 0, .slice none 0 0, .int .i64 0, .int .i64 0, .int .i64 0] 31) = Wa at *
  refine (unhide HPR _ (unhide HB)).mono ?_
  rintro x W1 ⟨rfl, hb1⟩
  have HV3 := hide ((unhide HV2).bel hb1)
  have HB1 := hide (bc (unhide HB) hb1)
  clear hb1 HV2 HB
  have z0 := (unhide HV3).cell (m := 0) rfl
  have z1 := (unhide HV3).cell (m := 1) rfl
  have z2 := (unhide HV3).cell (m := 2) rfl
  have z3 := (unhide HV3).cell (m := 3) rfl
  have z4 := (unhide HV3).cell (m := 4) rfl
  have z5 := (unhide HV3).cell (m := 5) rfl
  have z6 := (unhide HV3).cell (m := 6) rfl
  have z7 := (unhide HV3).cell (m := 7) rfl
  have zf := (unhide HV3).frozen
  have vlt := (unhide HV3).lt
  go_wp2_with fail
  (try rw [Exit.noGoto_ret])
  refine bodyPost_ret (v := .agg #[.int .i64 1, .int .i64 0, .int .i64 0, .int .i64 0, .slice none 0 0, .int .i64 0, .int .i64 0, .int .i64 0]) (by simp [results, Try.results12, go_sem, z0, z1, z2, z3, z4, z5, z6, z7, vlt]) rfl ?_
  exact ⟨rfl, Below.setCell (Below.setCell (Below.setCell (Below.setCell (Below.setCell (Below.setCell (Below.setCell (Below.setCell (unhide HB1) hle _) hle _) hle _) hle _) hle _) hle _) hle _) hle _⟩
set_option maxHeartbeats 2000000 in
set_option maxRecDepth 100000 in
theorem mlM_many (Ws Hs Wp Hp R : Int) (us up : Option Addr) (ps pos ns cs pp pop np cp : Nat) (S P : List Int) (um : Option Addr) (m cm : Nat) (w : World)
    (hm : m ≤ 4096) (hm2 : 2000 < m) (hl : S.length = ns) (hn : ns ≤ 9223372036854775807) (hu : Its w us ps pos S) (hl2 : P.length = np) (hn2 : np ≤ 9223372036854775807) (hu2 : Its w up pp pop P) (hb : (stB Ws Hs S Wp Hp P && (decide (0 ≤ R) && decide (R ≤ 3))) = true) :
    Calls Try.prog 12 #[fldV Ws Hs us ns cs, fldV Wp Hp up np cp, .int .i64 R, .slice um m cm] w fun e w' => e = .returned (.agg #[.int .i64 10, .int .i64 0, .int .i64 0, .int .i64 0, .slice none 0 0, .int .i64 0, .int .i64 0, .int .i64 0]) ∧ Below w.heap.size w w' := by
  have t1 : decide ((4096 : Int) < (m : Int)) = false := decide_eq_false (by omega)
  have t2 : decide ((2000 : Int) < (m : Int)) = true := decide_eq_true (by omega)
  have HB := hide (ba (ba (ba (Below.refl w.heap.size w) (.cells #[.int .i64 Ws, .int .i64 Hs, .slice us ns cs] 25)) (.cells #[.int .i64 Wp, .int .i64 Hp, .slice up np cp] 25)) (.cells #[.int .i64 0, .int .i64 0, .int .i64 0, .int .i64 0, .slice none 0 0, .int .i64 0, .int .i64 0, .int .i64 0] 31))
  have HV2 := hide (vb_new ((w.alloc (.cells #[.int .i64 Ws, .int .i64 Hs, .slice us ns cs] 25)).alloc (.cells #[.int .i64 Wp, .int .i64 Hp, .slice up np cp] 25)) 31 [.int .i64 0, .int .i64 0, .int .i64 0, .int .i64 0, .slice none 0 0, .int .i64 0, .int .i64 0, .int .i64 0] (w.heap.size + 2) (by simp))
  have hle : w.heap.size ≤ w.heap.size + 2 := by omega
  have HPR := hide (fun X (hX : Below w.heap.size w X) => (prM_any R Ws Hs us ps pos ns cs S Wp Hp up pp pop np cp P X hl hn (hu.bel hX) hl2 hn2 (hu2.bel hX)))
  rw [hb] at HPR
  unfold fldV at *
  clear hu hu2 hl hl2 hb
  go_enter Try.func12, Try.ntmps12
  go_wp2_with fail
  generalize ((w.alloc (.cells #[.int .i64 Ws, .int .i64 Hs, .slice us ns cs] 25)).alloc (.cells #[.int .i64 Wp, .int .i64 Hp, .slice up np cp] 25)).alloc (.cells #[.int .i64 0, .int .i64 0, .int .i64 0, .int .i64 0, .slice none 0 0, .int .i64 0, .int .i64 0, .int .i64 0] 31) = Wa at *
  refine (unhide HPR _ (unhide HB)).mono ?_
  rintro x W1 ⟨rfl, hb1⟩
  have HV3 := hide ((unhide HV2).bel hb1)
  have HB1 := hide (bc (unhide HB) hb1)
  clear hb1 HV2 HB
  have z0 := (unhide HV3).cell (m := 0) rfl
  have z1 := (unhide HV3).cell (m := 1) rfl
  have z2 := (unhide HV3).cell (m := 2) rfl
  have z3 := (unhide HV3).cell (m := 3) rfl
  have z4 := (unhide HV3).cell (m := 4) rfl
  have z5 := (unhide HV3).cell (m := 5) rfl
  have z6 := (unhide HV3).cell (m := 6) rfl
  have z7 := (unhide HV3).cell (m := 7) rfl
  have zf := (unhide HV3).frozen
  have vlt := (unhide HV3).lt
  go_wp2_with fail
  (try rw [Exit.noGoto_ret])
  refine bodyPost_ret (v := .agg #[.int .i64 10, .int .i64 0, .int .i64 0, .int .i64 0, .slice none 0 0, .int .i64 0, .int .i64 0, .int .i64 0]) (by simp [results, Try.results12, go_sem, z0, z1, z2, z3, z4, z5, z6, z7, vlt]) rfl ?_
  exact ⟨rfl, Below.setCell (Below.setCell (Below.setCell (Below.setCell (Below.setCell (Below.setCell (Below.setCell (Below.setCell (unhide HB1) hle _) hle _) hle _) hle _) hle _) hle _) hle _) hle _⟩

set_option maxHeartbeats 2000000 in
set_option maxRecDepth 100000 in
theorem mlP_long (Ws Hs Wp Hp R : Int) (us up : Option Addr) (ps pos ns cs pp pop np cp : Nat) (S P : List Int) (um : Option Addr) (m cm : Nat) (w : World)
    (hm : 4096 < m) :
    Calls Try.prog 11 #[fldV Ws Hs us ns cs, fldV Wp Hp up np cp, .int .i64 R, .slice um m cm] w fun e w' => e = .returned (.agg #[.int .i64 2, .int .i64 0, .int .i64 0, .int .i64 0, .slice none 0 0, .int .i64 0, .int .i64 0, .int .i64 0]) ∧ Below w.heap.size w w' := by
  have t1 : decide ((4096 : Int) < (m : Int)) = true := decide_eq_true (by omega)
  have HB := hide (ba (ba (ba (Below.refl w.heap.size w) (.cells #[.int .i64 Ws, .int .i64 Hs, .slice us ns cs] 25)) (.cells #[.int .i64 Wp, .int .i64 Hp, .slice up np cp] 25)) (.cells #[.int .i64 0, .int .i64 0, .int .i64 0, .int .i64 0, .slice none 0 0, .int .i64 0, .int .i64 0, .int .i64 0] 31))
  have HV2 := hide (vb_new ((w.alloc (.cells #[.int .i64 Ws, .int .i64 Hs, .slice us ns cs] 25)).alloc (.cells #[.int .i64 Wp, .int .i64 Hp, .slice up np cp] 25)) 31 [.int .i64 0, .int .i64 0, .int .i64 0, .int .i64 0, .slice none 0 0, .int .i64 0, .int .i64 0, .int .i64 0] (w.heap.size + 2) (by simp))
  have hle : w.heap.size ≤ w.heap.size + 2 := by omega
  unfold fldV
  go_enter Try.func11, Try.ntmps11
  go_upto_region 1 with fail
  generalize ((w.alloc (.cells #[.int .i64 Ws, .int .i64 Hs, .slice us ns cs] 25)).alloc (.cells #[.int .i64 Wp, .int .i64 Hp, .slice up np cp] 25)).alloc (.cells #[.int .i64 0, .int .i64 0, .int .i64 0, .int .i64 0, .slice none 0 0, .int .i64 0, .int .i64 0, .int .i64 0] 31) = Wa at *
  have z0 := (unhide HV2).cell (m := 0) rfl
  have z1 := (unhide HV2).cell (m := 1) rfl
  have z2 := (unhide HV2).cell (m := 2) rfl
  have z3 := (unhide HV2).cell (m := 3) rfl
  have z4 := (unhide HV2).cell (m := 4) rfl
  have z5 := (unhide HV2).cell (m := 5) rfl
  have z6 := (unhide HV2).cell (m := 6) rfl
  have z7 := (unhide HV2).cell (m := 7) rfl
  have zf := (unhide HV2).frozen
  have vlt := (unhide HV2).lt
  go_wp2_with fail
  (try rw [Exit.noGoto_ret])
  refine bodyPost_ret (v := .agg #[.int .i64 2, .int .i64 0, .int .i64 0, .int .i64 0, .slice none 0 0, .int .i64 0, .int .i64 0, .int .i64 0]) (by simp [results, Try.results11, go_sem, z0, z1, z2, z3, z4, z5, z6, z7, vlt]) rfl ?_
  exact ⟨rfl, Below.setCell (Below.setCell (Below.setCell (Below.setCell (Below.setCell (Below.setCell (Below.setCell (Below.setCell (unhide HB) hle _) hle _) hle _) hle _) hle _) hle _) hle _) hle _⟩
set_option maxHeartbeats 2000000 in
set_option maxRecDepth 100000 in
theorem mlP_bad (Ws Hs Wp Hp R : Int) (us up : Option Addr) (ps pos ns cs pp pop np cp : Nat) (S P : List Int) (um : Option Addr) (m cm : Nat) (w : World)
    (hm : m ≤ 4096) (hl : S.length = ns) (hn : ns ≤ 9223372036854775807) (hu : Its w us ps pos S) (hl2 : P.length = np) (hn2 : np ≤ 9223372036854775807) (hu2 : Its w up pp pop P) (hb : (stB Ws Hs S Wp Hp P && (decide (0 ≤ R) && decide (R ≤ 3))) = false) :
    Calls Try.prog 11 #[fldV Ws Hs us ns cs, fldV Wp Hp up np cp, .int .i64 R, .slice um m cm] w fun e w' => e = .returned (.agg #[.int .i64 1, .int .i64 0, .int .i64 0, .int .i64 0, .slice none 0 0, .int .i64 0, .int .i64 0, .int .i64 0]) ∧ Below w.heap.size w w' := by
  have t1 : decide ((4096 : Int) < (m : Int)) = false := decide_eq_false (by omega)
  have HB := hide (ba (ba (ba (Below.refl w.heap.size w) (.cells #[.int .i64 Ws, .int .i64 Hs, .slice us ns cs] 25)) (.cells #[.int .i64 Wp, .int .i64 Hp, .slice up np cp] 25)) (.cells #[.int .i64 0, .int .i64 0, .int .i64 0, .int .i64 0, .slice none 0 0, .int .i64 0, .int .i64 0, .int .i64 0] 31))
  have HV2 := hide (vb_new ((w.alloc (.cells #[.int .i64 Ws, .int .i64 Hs, .slice us ns cs] 25)).alloc (.cells #[.int .i64 Wp, .int .i64 Hp, .slice up np cp] 25)) 31 [.int .i64 0, .int .i64 0, .int .i64 0, .int .i64 0, .slice none 0 0, .int .i64 0, .int .i64 0, .int .i64 0] (w.heap.size + 2) (by simp))
  have hle : w.heap.size ≤ w.heap.size + 2 := by omega
  have HPR := hide (fun X (hX : Below w.heap.size w X) => (stP_any Ws Hs us ps pos ns cs S Wp Hp up pp pop np cp P X hl hn (hu.bel hX) hl2 hn2 (hu2.bel hX)))
  have HTL := hide (fun X => rtP_any R X)
  unfold fldV at *
  clear hu hu2 hl hl2
  generalize stB Ws Hs S Wp Hp P = s1 at *
  generalize (decide (0 ≤ R) && decide (R ≤ 3)) = s2 at *
  cases s1 with
  | false =>
    clear hb
    go_enter Try.func11, Try.ntmps11
    go_wp2_with fail
    generalize ((w.alloc (.cells #[.int .i64 Ws, .int .i64 Hs, .slice us ns cs] 25)).alloc (.cells #[.int .i64 Wp, .int .i64 Hp, .slice up np cp] 25)).alloc (.cells #[.int .i64 0, .int .i64 0, .int .i64 0, .int .i64 0, .slice none 0 0, .int .i64 0, .int .i64 0, .int .i64 0] 31) = Wa at *
    refine (unhide HPR _ (unhide HB)).mono ?_
    rintro x W1 ⟨rfl, hb1⟩
    have HV3 := hide ((unhide HV2).bel hb1)
    have HB1 := hide (bc (unhide HB) hb1)
    clear hb1 HV2 HB
    have z0 := (unhide HV3).cell (m := 0) rfl
    have z1 := (unhide HV3).cell (m := 1) rfl
    have z2 := (unhide HV3).cell (m := 2) rfl
    have z3 := (unhide HV3).cell (m := 3) rfl
    have z4 := (unhide HV3).cell (m := 4) rfl
    have z5 := (unhide HV3).cell (m := 5) rfl
    have z6 := (unhide HV3).cell (m := 6) rfl
    have z7 := (unhide HV3).cell (m := 7) rfl
    have zf := (unhide HV3).frozen
    have vlt := (unhide HV3).lt
    go_wp2_with fail
    (try rw [Exit.noGoto_ret])
    refine bodyPost_ret (v := .agg #[.int .i64 1, .int .i64 0, .int .i64 0, .int .i64 0, .slice none 0 0, .int .i64 0, .int .i64 0, .int .i64 0]) (by simp [results, Try.results11, go_sem, z0, z1, z2, z3, z4, z5, z6, z7, vlt]) rfl ?_
    exact ⟨rfl, Below.setCell (Below.setCell (Below.setCell (Below.setCell (Below.setCell (Below.setCell (Below.setCell (Below.setCell (unhide HB1) hle _) hle _) hle _) hle _) hle _) hle _) hle _) hle _⟩
  | true =>
    obtain rfl : s2 = false := by simpa using hb
    clear hb
    go_enter Try.func11, Try.ntmps11
    go_wp2_with fail
    generalize ((w.alloc (.cells #[.int .i64 Ws, .int .i64 Hs, .slice us ns cs] 25)).alloc (.cells #[.int .i64 Wp, .int .i64 Hp, .slice up np cp] 25)).alloc (.cells #[.int .i64 0, .int .i64 0, .int .i64 0, .int .i64 0, .slice none 0 0, .int .i64 0, .int .i64 0, .int .i64 0] 31) = Wa at *
    refine (unhide HPR _ (unhide HB)).mono ?_
    rintro x W1 ⟨rfl, hb1⟩
    have HV3 := hide ((unhide HV2).bel hb1)
    have HB1 := hide (bc (unhide HB) hb1)
    clear hb1 HV2 HB
    go_wp2_with fail
    refine (unhide HTL _).mono ?_
    rintro x W2 ⟨rfl, rfl⟩
    have z0 := (unhide HV3).cell (m := 0) rfl
    have z1 := (unhide HV3).cell (m := 1) rfl
    have z2 := (unhide HV3).cell (m := 2) rfl
    have z3 := (unhide HV3).cell (m := 3) rfl
    have z4 := (unhide HV3).cell (m := 4) rfl
    have z5 := (unhide HV3).cell (m := 5) rfl
    have z6 := (unhide HV3).cell (m := 6) rfl
    have z7 := (unhide HV3).cell (m := 7) rfl
    have zf := (unhide HV3).frozen
    have vlt := (unhide HV3).lt
    go_wp2_with fail
    (try rw [Exit.noGoto_ret])
    refine bodyPost_ret (v := .agg #[.int .i64 1, .int .i64 0, .int .i64 0, .int .i64 0, .slice none 0 0, .int .i64 0, .int .i64 0, .int .i64 0]) (by simp [results, Try.results11, go_sem, z0, z1, z2, z3, z4, z5, z6, z7, vlt]) rfl ?_
    exact ⟨rfl, Below.setCell (Below.setCell (Below.setCell (Below.setCell (Below.setCell (Below.setCell (Below.setCell (Below.setCell (unhide HB1) hle _) hle _) hle _) hle _) hle _) hle _) hle _) hle _⟩
set_option maxHeartbeats 2000000 in
set_option maxRecDepth 100000 in
theorem mlP_many (Ws Hs Wp Hp R : Int) (us up : Option Addr) (ps pos ns cs pp pop np cp : Nat) (S P : List Int) (um : Option Addr) (m cm : Nat) (w : World)
    (hm : m ≤ 4096) (hm2 : 2000 < m) (hl : S.length = ns) (hn : ns ≤ 9223372036854775807) (hu : Its w us ps pos S) (hl2 : P.length = np) (hn2 : np ≤ 9223372036854775807) (hu2 : Its w up pp pop P) (hb : (stB Ws Hs S Wp Hp P && (decide (0 ≤ R) && decide (R ≤ 3))) = true) :
    Calls Try.prog 11 #[fldV Ws Hs us ns cs, fldV Wp Hp up np cp, .int .i64 R, .slice um m cm] w fun e w' => e = .returned (.agg #[.int .i64 10, .int .i64 0, .int .i64 0, .int .i64 0, .slice none 0 0, .int .i64 0, .int .i64 0, .int .i64 0]) ∧ Below w.heap.size w w' := by
  have t1 : decide ((4096 : Int) < (m : Int)) = false := decide_eq_false (by omega)
  have t2 : decide ((2000 : Int) < (m : Int)) = true := decide_eq_true (by omega)
  have HB := hide (ba (ba (ba (Below.refl w.heap.size w) (.cells #[.int .i64 Ws, .int .i64 Hs, .slice us ns cs] 25)) (.cells #[.int .i64 Wp, .int .i64 Hp, .slice up np cp] 25)) (.cells #[.int .i64 0, .int .i64 0, .int .i64 0, .int .i64 0, .slice none 0 0, .int .i64 0, .int .i64 0, .int .i64 0] 31))
  have HV2 := hide (vb_new ((w.alloc (.cells #[.int .i64 Ws, .int .i64 Hs, .slice us ns cs] 25)).alloc (.cells #[.int .i64 Wp, .int .i64 Hp, .slice up np cp] 25)) 31 [.int .i64 0, .int .i64 0, .int .i64 0, .int .i64 0, .slice none 0 0, .int .i64 0, .int .i64 0, .int .i64 0] (w.heap.size + 2) (by simp))
  have hle : w.heap.size ≤ w.heap.size + 2 := by omega
  have HPR := hide (fun X (hX : Below w.heap.size w X) => (stP_any Ws Hs us ps pos ns cs S Wp Hp up pp pop np cp P X hl hn (hu.bel hX) hl2 hn2 (hu2.bel hX)))
  have HTL := hide (fun X => rtP_any R X)
  unfold fldV at *
  clear hu hu2 hl hl2
  generalize stB Ws Hs S Wp Hp P = s1 at *
  generalize (decide (0 ≤ R) && decide (R ≤ 3)) = s2 at *
  obtain ⟨rfl, rfl⟩ : s1 = true ∧ s2 = true := by cases s1 <;> cases s2 <;> simp_all
  clear hb
  go_enter Try.func11, Try.ntmps11
  go_wp2_with fail
  generalize ((w.alloc (.cells #[.int .i64 Ws, .int .i64 Hs, .slice us ns cs] 25)).alloc (.cells #[.int .i64 Wp, .int .i64 Hp, .slice up np cp] 25)).alloc (.cells #[.int .i64 0, .int .i64 0, .int .i64 0, .int .i64 0, .slice none 0 0, .int .i64 0, .int .i64 0, .int .i64 0] 31) = Wa at *
  refine (unhide HPR _ (unhide HB)).mono ?_
  rintro x W1 ⟨rfl, hb1⟩
  have HV3 := hide ((unhide HV2).bel hb1)
  have HB1 := hide (bc (unhide HB) hb1)
  clear hb1 HV2 HB
  go_wp2_with fail
  refine (unhide HTL _).mono ?_
  rintro x W2 ⟨rfl, rfl⟩
  have z0 := (unhide HV3).cell (m := 0) rfl
  have z1 := (unhide HV3).cell (m := 1) rfl
  have z2 := (unhide HV3).cell (m := 2) rfl
  have z3 := (unhide HV3).cell (m := 3) rfl
  have z4 := (unhide HV3).cell (m := 4) rfl
  have z5 := (unhide HV3).cell (m := 5) rfl
  have z6 := (unhide HV3).cell (m := 6) rfl
  have z7 := (unhide HV3).cell (m := 7) rfl
  have zf := (unhide HV3).frozen
  have vlt := (unhide HV3).lt
  go_wp2_with fail
  (try rw [Exit.noGoto_ret])
  refine bodyPost_ret (v := .agg #[.int .i64 10, .int .i64 0, .int .i64 0, .int .i64 0, .slice none 0 0, .int .i64 0, .int .i64 0, .int .i64 0]) (by simp [results, Try.results11, go_sem, z0, z1, z2, z3, z4, z5, z6, z7, vlt]) rfl ?_
  exact ⟨rfl, Below.setCell (Below.setCell (Below.setCell (Below.setCell (Below.setCell (Below.setCell (Below.setCell (Below.setCell (unhide HB1) hle _) hle _) hle _) hle _) hle _) hle _) hle _) hle _⟩
end Go.Proofs.Ytbjljofgpbecbaa
