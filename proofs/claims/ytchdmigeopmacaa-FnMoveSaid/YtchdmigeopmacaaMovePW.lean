/-
  The program's SketchMove, of rules that are nil or have room behind them too.
-/
import Derived.Test.YtchdmigeopmacaaMoveP
import Derived.Test.YtchdmigeopmacaaConcatW
namespace Go.Proofs.Ytchdmigeopmacaa
open Go.ChangeShapes Go.WideShapes Go.ChangeAt Go.RowKit
set_option linter.unusedVariables false
set_option linter.unusedSimpArgs false

set_option maxHeartbeats 4000000 in
set_option maxRecDepth 100000 in
theorem moveP_wide (n pt x y : Int) (u_ : Option Addr) (g l c_ np : Nat) (L P : List Int) (C : List Nat) (cc : Int) (w : World) (hn : l ≤ 60) (HU : Hid (u_ = none ∧ l = 0 ∧ c_ = 0 ∨ u_ = some ⟨g, 0, none⟩)) (HL : Hid (L.length = l * 4)) (HI : Hid (IntsAt w g 0 L)) (hg : g < w.heap.size)
    (HOKP : Hid (∀ W, Below w.heap.size w W → Calls Try.prog 21 #[skv n u_ l c_] W fun e w' => e = .returned (.bool true) ∧ Below W.heap.size W w'))
    (HS : Hid (∀ W (q cap : Nat), q < W.heap.size → IntsAt W q 0 (L ++ ext pt x y) → Calls Try.prog 7 #[skv n (some ⟨q, 0, none⟩) (l + 2) cap] W fun e w' => (∃ a b, e = .returned (.tuple #[a, .int .i64 cc, b]) ∧ Row w' W.heap.size 42 2 a np P ∧ Row w' W.heap.size 3 1 b C.length (nats C) ∧ (a = .slice none 0 0 ∨ b = .slice none 0 0)) ∧ Below W.heap.size W w')) :
    Calls Try.prog 16 #[skv n u_ l c_, .int .i64 pt, .agg #[.int .i64 x, .int .i64 y]] w fun e w' => (∃ a b, e = .returned (.tuple #[a, .int .i64 cc, b]) ∧ Row w' w.heap.size 42 2 a np P ∧ Row w' w.heap.size 3 1 b C.length (nats C) ∧ (a = .slice none 0 0 ∨ b = .slice none 0 0)) ∧ Below w.heap.size w w' := by
  go_enter Try.func16, Try.ntmps16
  go_wp2_with fail
  refine (unhide HOKP _ (ba (ba (Below.refl _ _) _) _)).mono ?_
  rintro e W1 ⟨rfl, hb1⟩
  have a0 : W1.cell? ⟨w.heap.size, 0, none⟩ = some (.int .i64 n) := keep1 hb1 (by simp [go_sem])
  have a1 : W1.cell? ⟨w.heap.size, 1, none⟩ = some (.slice u_ l c_) := keep1 hb1 (by simp [go_sem])
  have b0 : W1.cell? ⟨w.heap.size + 1, 0, none⟩ = some (.int .i64 x) := keep1 hb1 (by simp [go_sem])
  have b1 : W1.cell? ⟨w.heap.size + 1, 1, none⟩ = some (.int .i64 y) := keep1 hb1 (by simp [go_sem])
  have HB1 : Hid (Below w.heap.size w W1) := hide (bc (ba (ba (Below.refl _ _) _) _) hb1)
  have lt1' := cell_lt a0
  have lt2' := cell_lt b0
  clear hb1
  go_wp2_with fail
  have hbv := ba (Below.refl W1.heap.size W1) (.cells #[.int .i64 1, .int .i64 pt, .int .i64 0, .int .i64 x, .int .i64 2, .int .i64 pt, .int .i64 0, .int .i64 y] 35)
  have HBV := hide (bc (unhide HB1) hbv)
  have HTX : Hid (IntsAt (W1.alloc (.cells #[.int .i64 1, .int .i64 pt, .int .i64 0, .int .i64 x, .int .i64 2, .int .i64 pt, .int .i64 0, .int .i64 y] 35)) W1.heap.size 0 (ext pt x y)) := hide (fun j u hj => by
    have := blk_cells (news := (ext pt x y).map (Value.int .i64)) (heap_alloc_new W1 (.cells #[.int .i64 1, .int .i64 pt, .int .i64 0, .int .i64 x, .int .i64 2, .int .i64 pt, .int .i64 0, .int .i64 y] 35)) j (.int .i64 u) (by rw [List.getElem?_map, hj]; rfl)
    rw [add_none] at this
    exact this)
  have HIV := hide ((unhide HI).below (unhide HBV) hg)
  have d0 := keep1 hbv a0
  have d1 := keep1 hbv a1
  have hsv : W1.heap.size < (W1.alloc (.cells #[.int .i64 1, .int .i64 pt, .int .i64 0, .int .i64 x, .int .i64 2, .int .i64 pt, .int .i64 0, .int .i64 y] 35)).heap.size := by simp
  have hgv : g < (W1.alloc (.cells #[.int .i64 1, .int .i64 pt, .int .i64 0, .int .i64 x, .int .i64 2, .int .i64 pt, .int .i64 0, .int .i64 y] 35)).heap.size := by have := (unhide HBV).size; omega
  clear hbv a0 a1 b0 b1
  generalize W1.alloc (.cells #[.int .i64 1, .int .i64 pt, .int .i64 0, .int .i64 x, .int .i64 2, .int .i64 pt, .int .i64 0, .int .i64 y] 35) = V at *
  have ltv := cell_lt d0
  go_region_held3 (fun wx => wx.cell? ⟨w.heap.size, 0, none⟩ = some (.int .i64 n) ∧ wx.cell? ⟨w.heap.size, 1, none⟩ = some (.slice u_ l c_))
    (simp (maxDischargeDepth := 12) [go_sem, le1, lt1, *])
    (first
    | (go_at_call 37; refine (concat_wide u_ V.heap.size g W1.heap.size l c_ L (ext pt x y) _ hn HU HL (hide rfl) (by simp [World.drew]; omega) (by simp [World.drew]; omega) (hide (by exact IntsAt.alloc (unhide HIV) hgv _)) (hide (by exact IntsAt.alloc (unhide HTX) hsv _)) (by simp [go_sem]) (by simp [go_sem])).mono ?_; rintro e W4 ⟨v4, rfl, hr4, hb4⟩; obtain ⟨q, cap, rfl, hq1, hq2, hq3, _, _⟩ := hr4.full (by omega); have HQ := hide hq3; have HB4 : Hid (Below V.heap.size V W4) := hide (bc (by repeat (first | exact Below.refl _ _ | refine ba ?_ _ | refine Below.drew ?_)) hb4); have x0 := keep1 (unhide HB4) d0; have x1 := keep1 (unhide HB4) d1; have hq2' := hide hq2; clear hr4 hb4 hq1 hq2 hq3)
    | (go_at_call 7; refine (unhide HS _ q cap (by exact unhide hq2') (by exact unhide HQ)).mono ?_; rintro e W5 ⟨⟨a, b, rfl, hs1, hs2, hs3⟩, hb5⟩; have HS1 := hide hs1; have HS2 := hide hs2; have HS3 := hide hs3; have HB5 := hide hb5; have y0 := keep1 hb5 (b := w.heap.size) (o := 0) (v := .int .i64 n) x0; have y1 := keep1 hb5 (b := w.heap.size) (o := 1) (v := .slice u_ l c_) x1; clear hs1 hs2 hs3 hb5))
  all_goals
    go_wp2_with fail
    have hsz := (unhide HBV).size
    have hsz4 := (unhide HB4).size
    exact bodyPost_ret (v := .tuple #[a, .int .i64 cc, b]) (by simp [results, Try.results16, go_sem]) rfl ⟨⟨_, _, rfl, (unhide HS1).mono (by first | omega | (simp [World.drew]; omega)), (unhide HS2).mono (by first | omega | (simp [World.drew]; omega)), unhide HS3⟩, by repeat (first | exact unhide HBV | refine bc ?_ (unhide HB5) | refine bc ?_ (unhide HB4) | refine Below.drew ?_)⟩
end Go.Proofs.Ytchdmigeopmacaa
