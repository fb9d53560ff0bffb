/-
  Three drawn fractions are right ones, whatever the code.
-/
import Derived.Test.YtidafleegkofkaaDrawn
import Derived.Deep.DeepCutAuto
namespace Go.Proofs.Ytidafleegkofkaa
open Go.ChangeShapes Go.WideShapes Go.ChangeAt Go.RowKit
set_option linter.unusedVariables false
set_option linter.unusedSimpArgs false

theorem code_up {B B1 : Nat} {w w1 : World} {a : Option Addr} {len cap : Nat} {zs : List Int} (hB : B ≤ B1) (hb : Below B w w1) (h : Code B w a len cap zs) : Code B1 w1 a len cap zs := by
  rcases code_kept hb h with h | ⟨b, off, rfl, h1, h2⟩
  · exact .inl h
  · exact .inr ⟨b, off, rfl, by omega, h2⟩
theorem src_dn {B : Nat} {a : Option Addr} {len cap : Nat} {zs : List Int} {g : Nat} {n s : Int} {w : World} (h : Src B a len cap zs g n s w) : Src B a len cap zs g n s w.drew :=
  ⟨h.above, code_kept (Below.drew (Below.refl _ _)) h.code, h.c0, h.c1, h.c2, h.f1, h.f2, h.n0, h.s0, h.s1⟩
theorem two_dn {T : Nat} {x y : Int} {w : World} (h : Two T x y w) : Two T x y w.drew := ⟨h.c0, h.c1, h.f0, h.f1⟩
theorem two_alloc {T : Nat} {x y : Int} {w : World} (h : Two T x y w) (o : Obj) : Two T x y (w.alloc o) := two_call h (bel_alloc (Below.refl _ _) o)
theorem two_at (w : World) (x y : Int) (t : TypeId) : Two w.heap.size x y (w.alloc (.cells #[.int .i64 x, .int .i64 y] t)) := ⟨by simp [go_sem], by simp [go_sem], by simp [go_sem], by simp [go_sem]⟩
theorem moved_dn {B g : Nat} {w w1 : World} (h : Moved B g w.drew w1) : Moved B g w w1 := ⟨(Below.drew (Below.refl _ _)).trans h.below, h.size, h.only⟩

set_option maxRecDepth 100000 in
set_option maxHeartbeats 1000000 in
theorem fracs_any (a : Option Addr) (len cap : Nat) (zs : List Int) (w : World) (hc : Code w.heap.size w a len cap zs) (hl : len ≤ 9223372036854775807) :
    Calls Try.prog 4 #[.slice a len cap] w fun e w' => ∃ X0 Y0 X1 Y1 X2 Y2 : Int, e = .returned (.tuple #[.agg #[.int .i64 X0, .int .i64 Y0], .agg #[.int .i64 X1, .int .i64 Y1], .agg #[.int .i64 X2, .int .i64 Y2]]) ∧ frOk X0 Y0 = true ∧ frOk X1 Y1 = true ∧ frOk X2 Y2 = true ∧ Below w.heap.size w w' := by
  have B0 : Below w.heap.size w (((w.alloc (.cells #[.int .i64 0, .int .i64 0] 24)).alloc (.cells #[.int .i64 0, .int .i64 0] 24)).alloc (.cells #[.int .i64 0, .int .i64 0] 24)) := bel_alloc (bel_alloc (bel_alloc (Below.refl _ _) _) _) _
  have HCO : Hid (Code (((w.alloc (.cells #[.int .i64 0, .int .i64 0] 24)).alloc (.cells #[.int .i64 0, .int .i64 0] 24)).alloc (.cells #[.int .i64 0, .int .i64 0] 24)).heap.size (((w.alloc (.cells #[.int .i64 0, .int .i64 0] 24)).alloc (.cells #[.int .i64 0, .int .i64 0] 24)).alloc (.cells #[.int .i64 0, .int .i64 0] 24)) a len cap zs) := hide (code_up B0.size B0 hc)
  have HB0 := hide B0
  have D0 : Hid (Two w.heap.size 0 0 (((w.alloc (.cells #[.int .i64 0, .int .i64 0] 24)).alloc (.cells #[.int .i64 0, .int .i64 0] 24)).alloc (.cells #[.int .i64 0, .int .i64 0] 24))) := hide ⟨by simp [go_sem], by simp [go_sem], by simp [go_sem], by simp [go_sem]⟩
  have D1 : Hid (Two (w.heap.size + 1) 0 0 (((w.alloc (.cells #[.int .i64 0, .int .i64 0] 24)).alloc (.cells #[.int .i64 0, .int .i64 0] 24)).alloc (.cells #[.int .i64 0, .int .i64 0] 24))) := hide ⟨by simp [go_sem], by simp [go_sem], by simp [go_sem], by simp [go_sem]⟩
  have D2 : Hid (Two (w.heap.size + 1 + 1) 0 0 (((w.alloc (.cells #[.int .i64 0, .int .i64 0] 24)).alloc (.cells #[.int .i64 0, .int .i64 0] 24)).alloc (.cells #[.int .i64 0, .int .i64 0] 24))) := hide ⟨by simp [go_sem], by simp [go_sem], by simp [go_sem], by simp [go_sem]⟩
  clear hc B0
  go_enter Try.func4, Try.ntmps4
  go_wp2_with fail
  refine (source_any a len cap zs _ (unhide HCO) hl).mono ?_
  rintro e w1 ⟨rfl, hb, hs⟩
  have A0 : Hid (Two w.heap.size 0 0 w1) := hide (two_call (unhide D0) hb)
  have A1 : Hid (Two (w.heap.size + 1) 0 0 w1) := hide (two_call (unhide D1) hb)
  have A2 : Hid (Two (w.heap.size + 1 + 1) 0 0 w1) := hide (two_call (unhide D2) hb)
  have W1 : Hid (Below w.heap.size w w1) := hide (bel_call (unhide HB0) hb)
  have S1 : Hid (Src (w.heap.size + 1 + 1 + 1) a len cap zs (w.heap.size + 1 + 1 + 1) 0 ((len : Int) % 1000) w1) := hide (by simpa using hs)
  clear hb hs D0 D1 D2 HB0 HCO
  go_wp2_with fail
  refine (frac_any (unhide S1) (by omega)).mono ?_
  rintro e w2 ⟨X0, Y0, n2, s2, rfl, ok0, hn2, hs, mv⟩
  have OK0 := hide ok0
  have S2 : Hid (Src (w.heap.size + 1 + 1 + 1) a len cap zs (w.heap.size + 1 + 1 + 1) n2 s2 (w2.alloc (.cells #[.int .i64 X0, .int .i64 Y0] 24))) := hide (src_alloc hs _)
  have E0 : Hid (Two w.heap.size 0 0 (w2.alloc (.cells #[.int .i64 X0, .int .i64 Y0] 24))) := hide (two_alloc (two_moved (unhide A0) mv (by omega)) _)
  have E1 : Hid (Two (w.heap.size + 1) 0 0 (w2.alloc (.cells #[.int .i64 X0, .int .i64 Y0] 24))) := hide (two_alloc (two_moved (unhide A1) mv (by omega)) _)
  have E2 : Hid (Two (w.heap.size + 1 + 1) 0 0 (w2.alloc (.cells #[.int .i64 X0, .int .i64 Y0] 24))) := hide (two_alloc (two_moved (unhide A2) mv (by omega)) _)
  have E6 : Hid (Two w2.heap.size X0 Y0 (w2.alloc (.cells #[.int .i64 X0, .int .i64 Y0] 24))) := hide (two_at w2 X0 Y0 24)
  have W2 : Hid (Below w.heap.size w (w2.alloc (.cells #[.int .i64 X0, .int .i64 Y0] 24))) := hide (bel_alloc ((unhide W1).trans (mv.below.mono (by omega))) _)
  have g2 : w.heap.size + 1 + 1 + 1 < w2.heap.size := cell_lt hs.c0
  clear hs mv ok0 A0 A1 A2 W1 S1
  go_wp2_with fail
  refine (frac_any (unhide S2) (by omega)).mono ?_
  rintro e w3 ⟨X1, Y1, n3, s3, rfl, ok1, hn3, hs, mv⟩
  have OK1 := hide ok1
  have S3 : Hid (Src (w.heap.size + 1 + 1 + 1) a len cap zs (w.heap.size + 1 + 1 + 1) n3 s3 (w3.alloc (.cells #[.int .i64 X1, .int .i64 Y1] 24))) := hide (src_alloc hs _)
  have F0 := two_alloc (two_moved (unhide E0) mv (by omega)) (.cells #[.int .i64 X1, .int .i64 Y1] 24)
  have F1 := two_alloc (two_moved (unhide E1) mv (by omega)) (.cells #[.int .i64 X1, .int .i64 Y1] 24)
  have F2 := two_alloc (two_moved (unhide E2) mv (by omega)) (.cells #[.int .i64 X1, .int .i64 Y1] 24)
  have F6 := two_alloc (two_moved (unhide E6) mv (by omega)) (.cells #[.int .i64 X1, .int .i64 Y1] 24)
  have F7 := two_at w3 X1 Y1 24
  have W3 : Hid (Below w.heap.size w (w3.alloc (.cells #[.int .i64 X1, .int .i64 Y1] 24))) := hide (bel_alloc ((unhide W2).trans (mv.below.mono (by omega))) _)
  have g3 : w.heap.size + 1 + 1 + 1 < w3.heap.size := cell_lt hs.c0
  have HF0 := hide F0
  have HF1 := hide F1
  have HF2 := hide F2
  have HF6 := hide F6
  have HF7 := hide F7
  have x60 := F6.c0
  have x61 := F6.c1
  have x70 := F7.c0
  have x71 := F7.c1
  clear hs mv ok1 E0 E1 E2 E6 W2 S2 F0 F1 F2 F6 F7
  go_wp2_with fail
  go_region_held3 (fun wx => wx.cell? ⟨w2.heap.size, 0, none⟩ = some (.int .i64 X0) ∧ wx.cell? ⟨w2.heap.size, 1, none⟩ = some (.int .i64 Y0) ∧ wx.cell? ⟨w3.heap.size, 0, none⟩ = some (.int .i64 X1) ∧ wx.cell? ⟨w3.heap.size, 1, none⟩ = some (.int .i64 Y1))
    (simp [go_sem, *])
    (first
    | (go_at_call 8; refine (frac_any (src_dn (unhide S3)) (by omega)).mono ?_
       rintro e w4 ⟨X2, Y2, n4, s4, rfl, ok2, hn4, hs, mv0⟩
       have mv := moved_dn mv0
       have OK2 := hide ok2
       have G0 := two_moved (unhide HF0) mv (by omega)
       have G1 := two_moved (unhide HF1) mv (by omega)
       have G2 := two_moved (unhide HF2) mv (by omega)
       have G6 := two_moved (unhide HF6) mv (by omega)
       have G7 := two_moved (unhide HF7) mv (by omega)
       have W4 : Hid (Below w.heap.size w w4) := hide ((unhide W3).trans (mv.below.mono (by omega)))
       have y00 := G0.c0; have y01 := G0.c1; have y02 := G0.f0; have y03 := G0.f1
       have y10 := G1.c0; have y11 := G1.c1; have y12 := G1.f0; have y13 := G1.f1
       have y20 := G2.c0; have y21 := G2.c1; have y22 := G2.f0; have y23 := G2.f1
       have y60 := G6.c0; have y61 := G6.c1; have y70 := G7.c0; have y71 := G7.c1
       clear hs mv mv0 ok2 G0 G1 G2 G6 G7))
  go_wp2_with fail
  refine bodyPost_ret (v := .tuple #[.agg #[.int .i64 X0, .int .i64 Y0], .agg #[.int .i64 X1, .int .i64 Y1], .agg #[.int .i64 X2, .int .i64 Y2]]) (by simp [results, Try.results4, go_sem, y00, y01, y10, y11, y20, y21]) rfl ⟨X0, Y0, X1, Y1, X2, Y2, rfl, unhide OK0, unhide OK1, unhide OK2, ?_⟩
  iterate 6 refine Below.setCell ?_ (by simp <;> omega) _
  exact unhide W4
end Go.Proofs.Ytidafleegkofkaa
