/-
  The program's ReadFrac at every text of at most 65536 bytes.
-/
import Derived.Test.YtidafleegkofkaiDoorReads
import Derived.Lib.SlicesS
namespace Go.Proofs.YtidafleegkofkaiDoor
open Go.ChangeShapes Go.WideShapes Go.ChangeAt Go.RowKit
set_option linter.unusedVariables false
set_option linter.unusedSimpArgs false

set_option maxRecDepth 100000 in
set_option maxHeartbeats 1000000 in
theorem read_core (T A C : ByteArray) (b : Bool) (n d : Int) (w : World) (hT : T.size ≤ 65536)
    (HC : Hid (∀ W, Calls Tryd.prog 17 #[.string T, .string ⟨#[47]⟩] W fun e w' => e = .returned (.tuple #[.string A, .string C, .bool b]) ∧ Below W.heap.size W w'))
    (HA : Hid (∀ W, Below w.heap.size w W → Calls Tryd.prog 18 #[.string A] W fun e w' => e = .returned (.tuple #[.int .i64 n, .nilIface]) ∧ Below W.heap.size W w'))
    (HD : Hid (∀ W, Below w.heap.size w W → Calls Tryd.prog 18 #[.string (if b = true then C else ⟨#[49]⟩)] W fun e w' => e = .returned (.tuple #[.int .i64 d, .nilIface]) ∧ Below W.heap.size W w'))
    (HX : Hid (∀ W, Below w.heap.size w W → Calls Tryd.prog 7 #[.agg #[.int .i64 n, .int .i64 d]] W fun e w' => e = .returned (.tuple #[.string T, .int .i64 0]) ∧ Below W.heap.size W w')) :
    Calls Tryd.prog 9 #[.string T] w fun e w' => e = .returned (.tuple #[.agg #[.int .i64 n, .int .i64 d], .int .i64 0]) ∧ Below w.heap.size w w' := by
  cases b
  all_goals
    simp only [if_true, Bool.false_eq_true, if_false] at HD
    go_enter Tryd.func9, Tryd.ntmps9
    go_wp2_with fail
    refine (unhide HC _).mono ?_
    rintro e w1 ⟨rfl, hb⟩
    have x0 := keep1 hb (b := w.heap.size) (o := 0) (v := .int .i64 0) (by simp [go_sem])
    have x1 := keep1 hb (b := w.heap.size) (o := 1) (v := .int .i64 0) (by simp [go_sem])
    have f0 := keepz hb (b := w.heap.size) (o := 0) (by simp) (by simp [go_sem])
    have f1 := keepz hb (b := w.heap.size) (o := 1) (by simp) (by simp [go_sem])
    have B1 := hide (bel_call (bel_alloc (Below.refl w.heap.size w) _) hb)
    clear hb
    go_wp2_with fail
    refine (unhide HA _ (unhide B1)).mono ?_
    rintro e w2 ⟨rfl, hb⟩
    have y0 := keep1 hb x0
    have y1 := keep1 hb x1
    have g0 := keepz hb (cell_lt x0) f0
    have g1 := keepz hb (cell_lt x1) f1
    have B2 := hide (bel_call (unhide B1) hb)
    clear hb x0 x1 f0 f1 B1
    go_wp2_with fail
    refine (unhide HD _ (unhide B2)).mono ?_
    rintro e w3 ⟨rfl, hb⟩
    have z0 := keep1 hb y0
    have z1 := keep1 hb y1
    have h0 := keepz hb (cell_lt y0) g0
    have h1 := keepz hb (cell_lt y1) g1
    have B3 := hide (bel_call (unhide B2) hb)
    have l3 := cell_lt z0
    clear hb y0 y1 g0 g1 B2
    go_wp2_with fail
    refine (unhide HX _ (by exact bel_alloc (unhide B3) _)).mono ?_
    rintro e w4 ⟨rfl, hb⟩
    have u0 := keep1 hb (b := w.heap.size) (o := 0) (v := .int .i64 0) (by simp [go_sem, *])
    have u1 := keep1 hb (b := w.heap.size) (o := 1) (v := .int .i64 0) (by simp [go_sem, *])
    have v0 := keep1 hb (b := w3.heap.size) (o := 0) (v := .int .i64 n) (by simp [go_sem])
    have v1 := keep1 hb (b := w3.heap.size) (o := 1) (v := .int .i64 d) (by simp [go_sem])
    have k0 := keepz hb (b := w.heap.size) (o := 0) (by simp; omega) (by simp [go_sem, *])
    have k1 := keepz hb (b := w.heap.size) (o := 1) (by simp; omega) (by simp [go_sem, *])
    have B4 := hide (bel_call (bel_alloc (unhide B3) _) hb)
    have l4 := cell_lt u0
    have l5 := cell_lt v0
    clear hb z0 z1 h0 h1 B3
    go_wp2
    refine bodyPost_ret (v := .tuple #[.agg #[.int .i64 n, .int .i64 d], .int .i64 0]) (by simp [results, Tryd.results9, go_sem, u0, u1]) rfl ⟨rfl, ?_⟩
    iterate 2 refine Below.setCell ?_ (by simp <;> omega) _
    exact unhide B4

set_option maxRecDepth 100000 in
set_option maxHeartbeats 1000000 in
theorem read_other (T A C U : ByteArray) (b : Bool) (n d c : Int) (w : World) (hT : T.size ≤ 65536) (HU : Hid (c = 0 → (U.toList == T.toList) = false))
    (HC : Hid (∀ W, Calls Tryd.prog 17 #[.string T, .string ⟨#[47]⟩] W fun e w' => e = .returned (.tuple #[.string A, .string C, .bool b]) ∧ Below W.heap.size W w'))
    (HA : Hid (∀ W, Below w.heap.size w W → Calls Tryd.prog 18 #[.string A] W fun e w' => e = .returned (.tuple #[.int .i64 n, .nilIface]) ∧ Below W.heap.size W w'))
    (HD : Hid (∀ W, Below w.heap.size w W → Calls Tryd.prog 18 #[.string (if b = true then C else ⟨#[49]⟩)] W fun e w' => e = .returned (.tuple #[.int .i64 d, .nilIface]) ∧ Below W.heap.size W w'))
    (HX : Hid (∀ W, Below w.heap.size w W → Calls Tryd.prog 7 #[.agg #[.int .i64 n, .int .i64 d]] W fun e w' => e = .returned (.tuple #[.string U, .int .i64 c]) ∧ Below W.heap.size W w')) :
    Calls Tryd.prog 9 #[.string T] w fun e w' => e = .returned (.tuple #[.agg #[.int .i64 0, .int .i64 0], .int .i64 4]) ∧ Below w.heap.size w w' := by
  cases b
  all_goals
    simp only [if_true, Bool.false_eq_true, if_false] at HD
    go_enter Tryd.func9, Tryd.ntmps9
    go_wp2_with fail
    refine (unhide HC _).mono ?_
    rintro e w1 ⟨rfl, hb⟩
    have x0 := keep1 hb (b := w.heap.size) (o := 0) (v := .int .i64 0) (by simp [go_sem])
    have x1 := keep1 hb (b := w.heap.size) (o := 1) (v := .int .i64 0) (by simp [go_sem])
    have f0 := keepz hb (b := w.heap.size) (o := 0) (by simp) (by simp [go_sem])
    have f1 := keepz hb (b := w.heap.size) (o := 1) (by simp) (by simp [go_sem])
    have B1 := hide (bel_call (bel_alloc (Below.refl w.heap.size w) _) hb)
    clear hb
    go_wp2_with fail
    refine (unhide HA _ (unhide B1)).mono ?_
    rintro e w2 ⟨rfl, hb⟩
    have y0 := keep1 hb x0
    have y1 := keep1 hb x1
    have g0 := keepz hb (cell_lt x0) f0
    have g1 := keepz hb (cell_lt x1) f1
    have B2 := hide (bel_call (unhide B1) hb)
    clear hb x0 x1 f0 f1 B1
    go_wp2_with fail
    refine (unhide HD _ (unhide B2)).mono ?_
    rintro e w3 ⟨rfl, hb⟩
    have z0 := keep1 hb y0
    have z1 := keep1 hb y1
    have h0 := keepz hb (cell_lt y0) g0
    have h1 := keepz hb (cell_lt y1) g1
    have B3 := hide (bel_call (unhide B2) hb)
    have l3 := cell_lt z0
    clear hb y0 y1 g0 g1 B2
    go_wp2_with fail
    refine (unhide HX _ (by exact bel_alloc (unhide B3) _)).mono ?_
    rintro e w4 ⟨rfl, hb⟩
    have u0 := keep1 hb (b := w.heap.size) (o := 0) (v := .int .i64 0) (by simp [go_sem, *])
    have u1 := keep1 hb (b := w.heap.size) (o := 1) (v := .int .i64 0) (by simp [go_sem, *])
    have v0 := keep1 hb (b := w3.heap.size) (o := 0) (v := .int .i64 n) (by simp [go_sem])
    have v1 := keep1 hb (b := w3.heap.size) (o := 1) (v := .int .i64 d) (by simp [go_sem])
    have k0 := keepz hb (b := w.heap.size) (o := 0) (by simp; omega) (by simp [go_sem, *])
    have k1 := keepz hb (b := w.heap.size) (o := 1) (by simp; omega) (by simp [go_sem, *])
    have B4 := hide (bel_call (bel_alloc (unhide B3) _) hb)
    have l4 := cell_lt u0
    have l5 := cell_lt v0
    clear hb z0 z1 h0 h1 B3
    go_wp2
    all_goals first
      | (exfalso
         have h1 : c = 0 := by assumption
         have h2 : (!U.toList == T.toList) = false := by assumption
         rw [unhide HU h1] at h2
         cases h2)
      | (refine bodyPost_ret (v := .tuple #[.agg #[.int .i64 0, .int .i64 0], .int .i64 4]) (by simp [results, Tryd.results9, go_sem, u0, u1]) rfl ⟨rfl, ?_⟩
         iterate 2 refine Below.setCell ?_ (by simp <;> omega) _
         exact unhide B4)

set_option maxRecDepth 100000 in
set_option maxHeartbeats 1000000 in
theorem read_err_top (T A C : ByteArray) (b : Bool) (n d : Int) (w : World) (hT : T.size ≤ 65536)
    (HC : Hid (∀ W, Calls Tryd.prog 17 #[.string T, .string ⟨#[47]⟩] W fun e w' => e = .returned (.tuple #[.string A, .string C, .bool b]) ∧ Below W.heap.size W w'))
    (HA : Hid (∀ W, Below w.heap.size w W → Calls Tryd.prog 18 #[.string A] W fun e w' => (∃ p, e = .returned (.tuple #[.int .i64 n, .iface 59 p])) ∧ Below W.heap.size W w'))
    (HD : Hid (∀ W, Below w.heap.size w W → Calls Tryd.prog 18 #[.string (if b = true then C else ⟨#[49]⟩)] W fun e w' => e = .returned (.tuple #[.int .i64 d, .nilIface]) ∧ Below W.heap.size W w')) :
    Calls Tryd.prog 9 #[.string T] w fun e w' => e = .returned (.tuple #[.agg #[.int .i64 0, .int .i64 0], .int .i64 4]) ∧ Below w.heap.size w w' := by
  cases b
  all_goals
    simp only [if_true, Bool.false_eq_true, if_false] at HD
    go_enter Tryd.func9, Tryd.ntmps9
    go_wp2_with fail
    refine (unhide HC _).mono ?_
    rintro e w1 ⟨rfl, hb⟩
    have x0 := keep1 hb (b := w.heap.size) (o := 0) (v := .int .i64 0) (by simp [go_sem])
    have x1 := keep1 hb (b := w.heap.size) (o := 1) (v := .int .i64 0) (by simp [go_sem])
    have f0 := keepz hb (b := w.heap.size) (o := 0) (by simp) (by simp [go_sem])
    have f1 := keepz hb (b := w.heap.size) (o := 1) (by simp) (by simp [go_sem])
    have B1 := hide (bel_call (bel_alloc (Below.refl w.heap.size w) _) hb)
    clear hb
    go_wp2_with fail
    refine (unhide HA _ (unhide B1)).mono ?_
    rintro e w2 ⟨⟨p, rfl⟩, hb⟩
    have y0 := keep1 hb x0
    have y1 := keep1 hb x1
    have g0 := keepz hb (cell_lt x0) f0
    have g1 := keepz hb (cell_lt x1) f1
    have B2 := hide (bel_call (unhide B1) hb)
    clear hb x0 x1 f0 f1 B1
    go_wp2_with fail
    refine (unhide HD _ (unhide B2)).mono ?_
    rintro e w3 ⟨rfl, hb⟩
    have z0 := keep1 hb y0
    have z1 := keep1 hb y1
    have h0 := keepz hb (cell_lt y0) g0
    have h1 := keepz hb (cell_lt y1) g1
    have B3 := hide (bel_call (unhide B2) hb)
    have l3 := cell_lt z0
    clear hb y0 y1 g0 g1 B2
    go_wp2
    refine bodyPost_ret (v := .tuple #[.agg #[.int .i64 0, .int .i64 0], .int .i64 4]) (by simp [results, Tryd.results9, go_sem, z0, z1]) rfl ⟨rfl, ?_⟩
    iterate 2 refine Below.setCell ?_ (by simp <;> omega) _
    exact unhide B3

set_option maxRecDepth 100000 in
set_option maxHeartbeats 1000000 in
theorem read_err_both (T A C : ByteArray) (b : Bool) (n d : Int) (w : World) (hT : T.size ≤ 65536)
    (HC : Hid (∀ W, Calls Tryd.prog 17 #[.string T, .string ⟨#[47]⟩] W fun e w' => e = .returned (.tuple #[.string A, .string C, .bool b]) ∧ Below W.heap.size W w'))
    (HA : Hid (∀ W, Below w.heap.size w W → Calls Tryd.prog 18 #[.string A] W fun e w' => (∃ p, e = .returned (.tuple #[.int .i64 n, .iface 59 p])) ∧ Below W.heap.size W w'))
    (HD : Hid (∀ W, Below w.heap.size w W → Calls Tryd.prog 18 #[.string (if b = true then C else ⟨#[49]⟩)] W fun e w' => (∃ p, e = .returned (.tuple #[.int .i64 d, .iface 59 p])) ∧ Below W.heap.size W w')) :
    Calls Tryd.prog 9 #[.string T] w fun e w' => e = .returned (.tuple #[.agg #[.int .i64 0, .int .i64 0], .int .i64 4]) ∧ Below w.heap.size w w' := by
  cases b
  all_goals
    simp only [if_true, Bool.false_eq_true, if_false] at HD
    go_enter Tryd.func9, Tryd.ntmps9
    go_wp2_with fail
    refine (unhide HC _).mono ?_
    rintro e w1 ⟨rfl, hb⟩
    have x0 := keep1 hb (b := w.heap.size) (o := 0) (v := .int .i64 0) (by simp [go_sem])
    have x1 := keep1 hb (b := w.heap.size) (o := 1) (v := .int .i64 0) (by simp [go_sem])
    have f0 := keepz hb (b := w.heap.size) (o := 0) (by simp) (by simp [go_sem])
    have f1 := keepz hb (b := w.heap.size) (o := 1) (by simp) (by simp [go_sem])
    have B1 := hide (bel_call (bel_alloc (Below.refl w.heap.size w) _) hb)
    clear hb
    go_wp2_with fail
    refine (unhide HA _ (unhide B1)).mono ?_
    rintro e w2 ⟨⟨p, rfl⟩, hb⟩
    have y0 := keep1 hb x0
    have y1 := keep1 hb x1
    have g0 := keepz hb (cell_lt x0) f0
    have g1 := keepz hb (cell_lt x1) f1
    have B2 := hide (bel_call (unhide B1) hb)
    clear hb x0 x1 f0 f1 B1
    go_wp2_with fail
    refine (unhide HD _ (unhide B2)).mono ?_
    rintro e w3 ⟨⟨q, rfl⟩, hb⟩
    have z0 := keep1 hb y0
    have z1 := keep1 hb y1
    have h0 := keepz hb (cell_lt y0) g0
    have h1 := keepz hb (cell_lt y1) g1
    have B3 := hide (bel_call (unhide B2) hb)
    have l3 := cell_lt z0
    clear hb y0 y1 g0 g1 B2
    go_wp2
    refine bodyPost_ret (v := .tuple #[.agg #[.int .i64 0, .int .i64 0], .int .i64 4]) (by simp [results, Tryd.results9, go_sem, z0, z1]) rfl ⟨rfl, ?_⟩
    iterate 2 refine Below.setCell ?_ (by simp <;> omega) _
    exact unhide B3

set_option maxRecDepth 100000 in
set_option maxHeartbeats 1000000 in
theorem read_err_low (T A C : ByteArray) (b : Bool) (n d : Int) (w : World) (hT : T.size ≤ 65536)
    (HC : Hid (∀ W, Calls Tryd.prog 17 #[.string T, .string ⟨#[47]⟩] W fun e w' => e = .returned (.tuple #[.string A, .string C, .bool b]) ∧ Below W.heap.size W w'))
    (HA : Hid (∀ W, Below w.heap.size w W → Calls Tryd.prog 18 #[.string A] W fun e w' => e = .returned (.tuple #[.int .i64 n, .nilIface]) ∧ Below W.heap.size W w'))
    (HD : Hid (∀ W, Below w.heap.size w W → Calls Tryd.prog 18 #[.string (if b = true then C else ⟨#[49]⟩)] W fun e w' => (∃ p, e = .returned (.tuple #[.int .i64 d, .iface 59 p])) ∧ Below W.heap.size W w')) :
    Calls Tryd.prog 9 #[.string T] w fun e w' => e = .returned (.tuple #[.agg #[.int .i64 0, .int .i64 0], .int .i64 4]) ∧ Below w.heap.size w w' := by
  cases b
  all_goals
    simp only [if_true, Bool.false_eq_true, if_false] at HD
    go_enter Tryd.func9, Tryd.ntmps9
    go_wp2_with fail
    refine (unhide HC _).mono ?_
    rintro e w1 ⟨rfl, hb⟩
    have x0 := keep1 hb (b := w.heap.size) (o := 0) (v := .int .i64 0) (by simp [go_sem])
    have x1 := keep1 hb (b := w.heap.size) (o := 1) (v := .int .i64 0) (by simp [go_sem])
    have f0 := keepz hb (b := w.heap.size) (o := 0) (by simp) (by simp [go_sem])
    have f1 := keepz hb (b := w.heap.size) (o := 1) (by simp) (by simp [go_sem])
    have B1 := hide (bel_call (bel_alloc (Below.refl w.heap.size w) _) hb)
    clear hb
    go_wp2_with fail
    refine (unhide HA _ (unhide B1)).mono ?_
    rintro e w2 ⟨rfl, hb⟩
    have y0 := keep1 hb x0
    have y1 := keep1 hb x1
    have g0 := keepz hb (cell_lt x0) f0
    have g1 := keepz hb (cell_lt x1) f1
    have B2 := hide (bel_call (unhide B1) hb)
    clear hb x0 x1 f0 f1 B1
    go_wp2_with fail
    refine (unhide HD _ (unhide B2)).mono ?_
    rintro e w3 ⟨⟨q, rfl⟩, hb⟩
    have z0 := keep1 hb y0
    have z1 := keep1 hb y1
    have h0 := keepz hb (cell_lt y0) g0
    have h1 := keepz hb (cell_lt y1) g1
    have B3 := hide (bel_call (unhide B2) hb)
    have l3 := cell_lt z0
    clear hb y0 y1 g0 g1 B2
    go_wp2
    refine bodyPost_ret (v := .tuple #[.agg #[.int .i64 0, .int .i64 0], .int .i64 4]) (by simp [results, Tryd.results9, go_sem, z0, z1]) rfl ⟨rfl, ?_⟩
    iterate 2 refine Below.setCell ?_ (by simp <;> omega) _
    exact unhide B3
end Go.Proofs.YtidafleegkofkaiDoor
