/-
  What the laws ask of books: that two are the same, that the busy times are written over, that they are held.
-/
import Derived.Test.YtbgekppggakdoaaItL
import Derived.Test.YtbgekppggakdoaaHlE
namespace Go.Proofs.Ytbgekppggakdoaa
open Go.ChangeShapes Go.WideShapes Go.ChangeAt Go.RowKit
set_option linter.unusedVariables false
set_option linter.unusedSimpArgs false

set_option maxHeartbeats 1000000 in
theorem lgE_same (a b c d : Int) (u v : Option Addr) (p po q qo n cu cv : Nat) (L : List Int) (w : World) (hl : L.length = n) (hn : n ≤ 1048576) (hu : Its w u p po L) (hv : Its w v q qo L) :
    Calls Try.prog 20 #[.agg #[.int .i64 a, .int .i64 b, .int .i64 c, .int .i64 d, .slice u n cu], .agg #[.int .i64 a, .int .i64 b, .int .i64 c, .int .i64 d, .slice v n cv]] w fun e w' => e = .returned (.bool true) ∧ Below w.heap.size w w' := by
  have HC := hide (fun X (hX : Below w.heap.size w X) => it_same u v p po q qo n cu cv L X hl hn (hu.bel hX) (hv.bel hX))
  have HB0 := hide (ba (ba (Below.refl w.heap.size w) (.cells #[.int .i64 a, .int .i64 b, .int .i64 c, .int .i64 d, .slice u n cu] 43)) (.cells #[.int .i64 a, .int .i64 b, .int .i64 c, .int .i64 d, .slice v n cv] 43))
  clear hu hv hl
  go_enter Try.func20, Try.ntmps20
  go_wp2_with fail
  refine (unhide HC _ (unhide HB0)).mono ?_
  rintro e W1 ⟨rfl, hb⟩
  have HB1 := hide (bc (unhide HB0) hb)
  clear hb
  go_wp2_with fail
  go_ret
  exact ⟨rfl, unhide HB1⟩
set_option maxHeartbeats 1000000 in
theorem lg_mark (a b c d : Int) (g n cu : Nat) (L : List Int) (k : Int) (w : World) (hl : L.length = n) (hn : n ≤ 1048576) (c0 : 0 ≤ k) (c1 : k ≤ 100000000) (hu : iblk w g 3 L) :
    Calls Try.prog 23 #[.agg #[.int .i64 a, .int .i64 b, .int .i64 c, .int .i64 d, .slice (some ⟨g, 0, none⟩) n cu], .int .i64 k] w fun e w' => e = .returned (.int .i64 (k + (n : Int))) ∧ iblk w' g 3 (marks k n) ∧ Mw (fun x => x = g) w w' := by
  have HC := hide (fun X (hX : Below w.heap.size w X) => it_mark (some ⟨g, 0, none⟩) g n cu L k X hl hn c0 c1 (fun _ => ⟨rfl, hu.bel hX⟩))
  have HB0 := hide (ba (Below.refl w.heap.size w) (.cells #[.int .i64 a, .int .i64 b, .int .i64 c, .int .i64 d, .slice (some ⟨g, 0, none⟩) n cu] 43))
  have HU := hide hu
  have HL := hide hl
  clear hu hl
  go_enter Try.func23, Try.ntmps23
  go_wp2_with fail
  refine (unhide HC _ (unhide HB0)).mono ?_
  rintro e W1 ⟨rfl, h1, h2, h3⟩
  have R1 : Hid (iblk W1 g 3 (marks k n)) := hide (by
    by_cases h : n = 0
    · rw [h2 h]
      have e0 : L = marks k n := by rw [h]; exact List.eq_nil_of_length_eq_zero (by rw [unhide HL, h])
      rw [← e0]
      exact (unhide HU).bel (unhide HB0)
    · exact h1 h)
  have R2 : Hid (Mw (fun x => x = g) w W1) := hide (((Mw.refl (fun x => x = g) w).alloc _).trans ⟨h3.os, h3.tape, h3.output, Nat.le_of_eq h3.size, fun q _ hq => h3.block q hq⟩)
  clear h1 h2 h3
  go_wp2_with fail
  go_ret
  exact ⟨rfl, unhide R1, unhide R2⟩
set_option maxHeartbeats 1000000 in
theorem lg_held (a b c d : Int) (g n cu : Nat) (k : Int) (w : World) (hn : n ≤ 1048576) (c0 : 0 ≤ k) (c1 : k ≤ 1000000) (hu : iblk w g 3 (marks k n)) :
    Calls Try.prog 24 #[.agg #[.int .i64 a, .int .i64 b, .int .i64 c, .int .i64 d, .slice (some ⟨g, 0, none⟩) n cu], .int .i64 k] w fun e w' => e = .returned (.int .i64 (k + (n : Int))) ∧ Below w.heap.size w w' := by
  have HC := hide (fun X (hX : Below w.heap.size w X) => it_held (some ⟨g, 0, none⟩) g 0 n cu k X hn c0 c1 (hu.bel hX).its)
  have HB0 := hide (ba (Below.refl w.heap.size w) (.cells #[.int .i64 a, .int .i64 b, .int .i64 c, .int .i64 d, .slice (some ⟨g, 0, none⟩) n cu] 43))
  have n0 : (0 : Int) ≤ (n : Int) := Int.natCast_nonneg _
  have t0 : decide (k + (n : Int) < 0) = false := decide_eq_false (by omega)
  clear hu
  go_enter Try.func24, Try.ntmps24
  go_wp2_with fail
  refine (unhide HC _ (unhide HB0)).mono ?_
  rintro e W1 ⟨rfl, hs⟩
  have HB1 := hide (bc (unhide HB0) hs.bel)
  clear hs
  go_wp2_with fail
  go_ret
  exact ⟨rfl, unhide HB1⟩
/-- books without busy times -/
theorem lg_mark0 (a b c d : Int) (k : Int) (w : World) (c0 : 0 ≤ k) (c1 : k ≤ 100000000) :
    Calls Try.prog 23 #[.agg #[.int .i64 a, .int .i64 b, .int .i64 c, .int .i64 d, .slice none 0 0], .int .i64 k] w fun e w' => e = .returned (.int .i64 k) ∧ Below w.heap.size w w' := by
  have HC := hide (fun X => it_mark none 0 0 0 [] k X rfl (by omega) c0 c1 (fun h => absurd rfl h))
  have HB0 := hide (ba (Below.refl w.heap.size w) (.cells #[.int .i64 a, .int .i64 b, .int .i64 c, .int .i64 d, .slice none 0 0] 43))
  go_enter Try.func23, Try.ntmps23
  go_wp2_with fail
  refine (unhide HC _).mono ?_
  rintro e W1 ⟨rfl, h1, h2, h3⟩
  have e9 := h2 (by first | rfl | trivial)
  subst e9
  clear h1 h2 h3
  go_wp2_with fail
  go_ret
  exact ⟨by simp, unhide HB0⟩
theorem lg_held0 (a b c d : Int) (k : Int) (w : World) (c0 : 0 ≤ k) (c1 : k ≤ 1000000) :
    Calls Try.prog 24 #[.agg #[.int .i64 a, .int .i64 b, .int .i64 c, .int .i64 d, .slice none 0 0], .int .i64 k] w fun e w' => e = .returned (.int .i64 k) ∧ Below w.heap.size w w' := by
  have HC := hide (fun X => it_held none 0 0 0 0 k X (by omega) c0 c1 (fun h => absurd rfl h))
  have HB0 := hide (ba (Below.refl w.heap.size w) (.cells #[.int .i64 a, .int .i64 b, .int .i64 c, .int .i64 d, .slice none 0 0] 43))
  have t0 : decide (k < 0) = false := decide_eq_false (by omega)
  go_enter Try.func24, Try.ntmps24
  go_wp2_with fail
  refine (unhide HC _).mono ?_
  rintro e W1 ⟨rfl, hs⟩
  have HB1 := hide (bc (unhide HB0) hs.bel)
  clear hs
  go_wp2_with fail
  go_ret
  exact ⟨by simp, unhide HB1⟩
end Go.Proofs.Ytbgekppggakdoaa
