/-
  The program's SketchMove.
-/
import Derived.Test.YtchdmigeopmacaaMoveM
import Derived.Test.YtchdmigeopmacaaConcat
namespace Go.Proofs.Ytchdmigeopmacaa
open Go.ChangeShapes Go.WideShapes Go.ChangeAt Go.RowKit
set_option linter.unusedVariables false
set_option linter.unusedSimpArgs false

theorem toRus_app (L M : List Int) (l m : Nat) (hl : L.length = l * 4) : toRus (L ++ M) (l + m) = toRus L l ++ toRus M m := by
  unfold toRus
  rw [List.range_add, List.map_append, List.map_map]
  congr 1
  · apply List.map_congr_left
    intro i hi
    have hi' : i < l := by simpa using hi
    have e : ∀ f, f < 4 → (L ++ M).getD (i * 4 + f) 0 = L.getD (i * 4 + f) 0 := fun f hf => by rw [List.getD_eq_getElem?_getD, List.getD_eq_getElem?_getD, List.getElem?_append_left (by omega)]
    exact Prod.ext (e 0 (by omega)) (Prod.ext (e 1 (by omega)) (Prod.ext (e 2 (by omega)) (e 3 (by omega))))
  · apply List.map_congr_left
    intro i hi
    have e : ∀ f, (L ++ M).getD ((l + i) * 4 + f) 0 = M.getD (i * 4 + f) 0 := fun f => by rw [List.getD_eq_getElem?_getD, List.getD_eq_getElem?_getD, List.getElem?_append_right (by omega), show (l + i) * 4 + f - L.length = i * 4 + f by omega]
    exact Prod.ext (e 0) (Prod.ext (e 1) (Prod.ext (e 2) (e 3)))
theorem skOk_pre {n : Int} {a b : List Ru} (h : skOk n (a ++ b) = true) : skOk n a = true := by
  obtain ⟨h1, h2, h3, h4⟩ := ok_parts h
  rw [List.length_append] at h3
  unfold skOk
  rw [decide_eq_true (p := 1 ≤ n ∧ n ≤ 24) ⟨h1, h2⟩, decide_eq_true (p := a.length ≤ 60) (by omega), Bool.true_and, Bool.true_and, List.all_eq_true]
  exact fun r hr => h4 r (List.mem_append_left _ hr)
theorem moveP_bad (n pt x y : Int) (u : Option Addr) (l c : Nat) (w : World)
    (HOKP : Hid (∀ W, Below w.heap.size w W → Calls Try.prog 21 #[skv n u l c] W fun e w' => e = .returned (.bool false) ∧ Below W.heap.size W w')) :
    Calls Try.prog 16 #[skv n u l c, .int .i64 pt, .agg #[.int .i64 x, .int .i64 y]] w fun e w' => e = .returned (.tuple #[.slice none 0 0, .int .i64 1, .slice none 0 0]) ∧ Below w.heap.size w w' := by
  go_enter Try.func16, Try.ntmps16
  go_wp2_with fail
  refine (unhide HOKP _ (ba (ba (Below.refl _ _) _) _)).mono ?_
  rintro e W1 ⟨rfl, hb1⟩
  have HB1 := hide (bc (ba (ba (Below.refl _ _) _) _) hb1)
  clear hb1
  go_wp2_with fail
  exact bodyPost_ret (v := .tuple #[.slice none 0 0, .int .i64 1, .slice none 0 0]) (by simp [results, Try.results16, go_sem]) rfl ⟨rfl, unhide HB1⟩

set_option maxHeartbeats 4000000 in
set_option maxRecDepth 100000 in
theorem moveP_good (n pt x y : Int) (g l np : Nat) (L P : List Int) (C : List Nat) (cc : Int) (w : World) (hn : l ≤ 60) (HL : Hid (L.length = l * 4)) (HI : Hid (IntsAt w g 0 L)) (hg : g < w.heap.size)
    (HOKP : Hid (∀ W, Below w.heap.size w W → Calls Try.prog 21 #[skv n (some ⟨g, 0, none⟩) l l] W fun e w' => e = .returned (.bool true) ∧ Below W.heap.size W w'))
    (HS : Hid (∀ W (q cap : Nat), q < W.heap.size → IntsAt W q 0 (L ++ ext pt x y) → Calls Try.prog 7 #[skv n (some ⟨q, 0, none⟩) (l + 2) cap] W fun e w' => (∃ a b, e = .returned (.tuple #[a, .int .i64 cc, b]) ∧ Row w' W.heap.size 42 2 a np P ∧ Row w' W.heap.size 3 1 b C.length (nats C) ∧ (a = .slice none 0 0 ∨ b = .slice none 0 0)) ∧ Below W.heap.size W w')) :
    Calls Try.prog 16 #[skv n (some ⟨g, 0, none⟩) l l, .int .i64 pt, .agg #[.int .i64 x, .int .i64 y]] w fun e w' => (∃ a b, e = .returned (.tuple #[a, .int .i64 cc, b]) ∧ Row w' w.heap.size 42 2 a np P ∧ Row w' w.heap.size 3 1 b C.length (nats C) ∧ (a = .slice none 0 0 ∨ b = .slice none 0 0)) ∧ Below w.heap.size w w' := by
  go_enter Try.func16, Try.ntmps16
  go_wp2_with fail
  refine (unhide HOKP _ (ba (ba (Below.refl _ _) _) _)).mono ?_
  rintro e W1 ⟨rfl, hb1⟩
  have a0 : W1.cell? ⟨w.heap.size, 0, none⟩ = some (.int .i64 n) := keep1 hb1 (by simp [go_sem])
  have a1 : W1.cell? ⟨w.heap.size, 1, none⟩ = some (.slice (some ⟨g, 0, none⟩) l l) := keep1 hb1 (by simp [go_sem])
  have b0 : W1.cell? ⟨w.heap.size + 1, 0, none⟩ = some (.int .i64 x) := keep1 hb1 (by simp [go_sem])
  have b1 : W1.cell? ⟨w.heap.size + 1, 1, none⟩ = some (.int .i64 y) := keep1 hb1 (by simp [go_sem])
  have HB1 : Hid (Below w.heap.size w W1) := hide (bc (ba (ba (Below.refl _ _) _) _) hb1)
  have lt1' := cell_lt a0
  have lt2' := cell_lt b0
  clear hb1
  go_wp2_with fail
  have hbv := ba (Below.refl W1.heap.size W1) (.cells #[.int .i64 1, .int .i64 pt, .int .i64 0, .int .i64 x, .int .i64 2, .int .i64 pt, .int .i64 0, .int .i64 y] 35)
  have HBV := hide (bc (unhide HB1) hbv)
  have HTX : Hid (IntsAt (W1.alloc (.cells #[.int .i64 1, .int .i64 pt, .int .i64 0, .int .i64 x, .int .i64 2, .int .i64 pt, .int .i64 0, .int .i64 y] 35)) W1.heap.size 0 (ext pt x y)) := hide (fun j u hj => by
    have := blk_cells (news := (ext pt x y).map (Value.int .i64)) (heap_alloc_new W1 (.cells #[.int .i64 1, .int .i64 pt, .int .i64 0, .int .i64 x, .int .i64 2, .int .i64 pt, .int .i64 0, .int .i64 y] 35)) j (.int .i64 u) (by rw [List.getElem?_map, hj]; rfl)
    rw [add_none] at this
    exact this)
  have HIV := hide ((unhide HI).below (unhide HBV) hg)
  have d0 := keep1 hbv a0
  have d1 := keep1 hbv a1
  have hsv : W1.heap.size < (W1.alloc (.cells #[.int .i64 1, .int .i64 pt, .int .i64 0, .int .i64 x, .int .i64 2, .int .i64 pt, .int .i64 0, .int .i64 y] 35)).heap.size := by simp
  have hgv : g < (W1.alloc (.cells #[.int .i64 1, .int .i64 pt, .int .i64 0, .int .i64 x, .int .i64 2, .int .i64 pt, .int .i64 0, .int .i64 y] 35)).heap.size := by have := (unhide HBV).size; omega
  clear hbv a0 a1 b0 b1
  generalize W1.alloc (.cells #[.int .i64 1, .int .i64 pt, .int .i64 0, .int .i64 x, .int .i64 2, .int .i64 pt, .int .i64 0, .int .i64 y] 35) = V at *
  have ltv := cell_lt d0
  go_region_held3 (fun wx => wx.cell? ⟨w.heap.size, 0, none⟩ = some (.int .i64 n) ∧ wx.cell? ⟨w.heap.size, 1, none⟩ = some (.slice (some ⟨g, 0, none⟩) l l))
    (simp (maxDischargeDepth := 12) [go_sem, le1, lt1, *])
    (first
    | (go_at_call 37; refine (concat_any V.heap.size g W1.heap.size l L (ext pt x y) _ hn HL (hide rfl) (by simp [World.drew]; omega) (by simp [World.drew]; omega) (hide (by exact IntsAt.alloc (unhide HIV) hgv _)) (hide (by exact IntsAt.alloc (unhide HTX) hsv _)) (by simp [go_sem]) (by simp [go_sem])).mono ?_; rintro e W4 ⟨v4, rfl, hr4, hb4⟩; obtain ⟨q, cap, rfl, hq1, hq2, hq3, _, _⟩ := hr4.full (by omega); have HQ := hide hq3; have HB4 : Hid (Below V.heap.size V W4) := hide (bc (by repeat (first | exact Below.refl _ _ | refine ba ?_ _ | refine Below.drew ?_)) hb4); have x0 := keep1 (unhide HB4) d0; have x1 := keep1 (unhide HB4) d1; have hq2' := hide hq2; clear hr4 hb4 hq1 hq2 hq3)
    | (go_at_call 7; refine (unhide HS _ q cap (by exact unhide hq2') (by exact unhide HQ)).mono ?_; rintro e W5 ⟨⟨a, b, rfl, hs1, hs2, hs3⟩, hb5⟩; have HS1 := hide hs1; have HS2 := hide hs2; have HS3 := hide hs3; have HB5 := hide hb5; have y0 := keep1 hb5 (b := w.heap.size) (o := 0) (v := .int .i64 n) x0; have y1 := keep1 hb5 (b := w.heap.size) (o := 1) (v := .slice (some ⟨g, 0, none⟩) l l) x1; clear hs1 hs2 hs3 hb5))
  all_goals
    go_wp2_with fail
    have hsz := (unhide HBV).size
    have hsz4 := (unhide HB4).size
    exact bodyPost_ret (v := .tuple #[a, .int .i64 cc, b]) (by simp [results, Try.results16, go_sem]) rfl ⟨⟨_, _, rfl, (unhide HS1).mono (by first | omega | (simp [World.drew]; omega)), (unhide HS2).mono (by first | omega | (simp [World.drew]; omega)), unhide HS3⟩, by repeat (first | exact unhide HBV | refine bc ?_ (unhide HB5) | refine bc ?_ (unhide HB4) | refine Below.drew ?_)⟩
end Go.Proofs.Ytchdmigeopmacaa
