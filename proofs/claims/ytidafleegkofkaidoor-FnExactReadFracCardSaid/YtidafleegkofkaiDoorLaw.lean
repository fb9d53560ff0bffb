/-
  The law FnExactReadFrac at every text.
-/
import Derived.Test.YtidafleegkofkaiDoorModelB
namespace Go.Proofs.YtidafleegkofkaiDoor
open Go.ChangeShapes Go.WideShapes Go.ChangeAt Go.RowKit
set_option linter.unusedVariables false
set_option linter.unusedSimpArgs false

set_option maxHeartbeats 400000 in
theorem model_long (T : ByteArray) (w : World) (hT : 65536 < T.size) (hT2 : T.size ≤ 1048576) :
    Calls Tryd.prog 8 #[.string T] w fun e w' => e = .returned (.tuple #[.agg #[.int .i64 0, .int .i64 0], .int .i64 2]) ∧ Below w.heap.size w w' := by
  go_enter Tryd.func8, Tryd.ntmps8
  go_wp2
  refine bodyPost_ret (v := .tuple #[.agg #[.int .i64 0, .int .i64 0], .int .i64 2]) (by simp [results, Tryd.results8, go_sem]) rfl ⟨rfl, ?_⟩
  exact bel_alloc (Below.refl _ _) _

set_option maxHeartbeats 400000 in
theorem law_huge (T : ByteArray) (w : World) (hT : 1048576 < T.size) (hT2 : T.size ≤ 9223372036854775807) :
    Calls Tryd.prog 4 #[.string T] w fun e w' => e = .returned (.bool true) ∧ Below w.heap.size w w' := by
  go_enter Tryd.func4, Tryd.ntmps4
  go_wp2
  go_ret
  exact ⟨rfl, Below.refl _ _⟩

set_option maxRecDepth 100000 in
set_option maxHeartbeats 1000000 in
theorem law_core (T : ByteArray) (w : World) (hT : T.size ≤ 1048576)
    (HS : Hid (∀ W, Calls Tryd.prog 8 #[.string T] W fun e w' => (∃ a b c : Int, e = .returned (.tuple #[.agg #[.int .i64 a, .int .i64 b], .int .i64 c]) ∧
      ∀ V, Below w.heap.size w V → Calls Tryd.prog 9 #[.string T] V fun e2 v' => e2 = .returned (.tuple #[.agg #[.int .i64 a, .int .i64 b], .int .i64 c]) ∧ Below V.heap.size V v') ∧ Below W.heap.size W w')) :
    Calls Tryd.prog 4 #[.string T] w fun e w' => e = .returned (.bool true) ∧ Below w.heap.size w w' := by
  go_enter Tryd.func4, Tryd.ntmps4
  go_wp2_with fail
  refine (unhide HS _).mono ?_
  rintro e w1 ⟨⟨a, b, c, rfl, hI⟩, hb⟩
  have HI := hide hI
  have B1 := hide (bel_call (Below.refl w.heap.size w) hb)
  clear hb hI
  go_wp2_with fail
  refine (unhide HI _ (by exact bel_alloc (unhide B1) _)).mono ?_
  rintro e w2 ⟨rfl, hb⟩
  have c0 := keep1 hb (b := w1.heap.size) (o := 0) (v := .int .i64 a) (by simp [go_sem])
  have c1 := keep1 hb (b := w1.heap.size) (o := 1) (v := .int .i64 b) (by simp [go_sem])
  have B2 := hide (bel_call (bel_alloc (unhide B1) _) hb)
  have l2 := cell_lt c0
  clear hb B1
  go_wp2_with fail
  refine (eqFrac_any _ _ _).mono ?_
  rintro e w3 ⟨rfl, hb⟩
  have B3 := hide (bel_call (bel_alloc (unhide B2) _) hb)
  clear hb B2
  go_wp2
  go_ret
  exact ⟨rfl, unhide B3⟩

theorem sent_on {w W : World} (h : Sent w.heap.size w) (hb : Below w.heap.size w W) : Sent W.heap.size W := by
  obtain ⟨⟨g1, ev1, c1, k1⟩, ⟨g2, ev2, c2, k2⟩⟩ := h
  have hs := hb.size
  exact ⟨⟨by omega, ev1, (hb.cell (by exact g1)).trans c1, k1⟩, ⟨by omega, ev2, (hb.cell (by exact g2)).trans c2, k2⟩⟩
theorem tab_on {w W : World} (h : Tab w.heap.size w) (hb : Below w.heap.size w W) : Tab W.heap.size W := Lib.tabBelow_of_tabIs (h W hb)

theorem fnExactReadFrac_walk (T : ByteArray) (w : World) (hT : T.size ≤ 9223372036854775807) (ht : Tab w.heap.size w) (hS : Sent w.heap.size w) :
    Calls Tryd.prog 4 #[.string T] w fun e w' => e = .returned (.bool true) ∧ Below w.heap.size w w' := by
  by_cases h1 : 1048576 < T.size
  · exact law_huge T w h1 hT
  · by_cases h2 : 65536 < T.size
    · refine law_core T w (by omega) (hide fun W => (model_long T W h2 (by omega)).mono ?_)
      rintro e w' ⟨rfl, hb⟩
      exact ⟨⟨0, 0, 2, rfl, fun V _ => impRead_long T V h2 (by omega)⟩, hb⟩
    · refine law_core T w (by omega) (hide fun W => (model_any T W (by omega)).mono ?_)
      rintro e w' ⟨⟨n, d, h3, rfl, rfl⟩ | ⟨h3, rfl⟩, hb⟩
      · exact ⟨⟨n, d, 0, rfl, fun V hV => impRead_right n d V h3 (tab_on ht hV)⟩, hb⟩
      · exact ⟨⟨0, 0, 4, rfl, fun V hV => impRead_none T V (by omega) h3 (tab_on ht hV) (sent_on hS hV)⟩, hb⟩
end Go.Proofs.YtidafleegkofkaiDoor
