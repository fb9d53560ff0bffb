/-
  Cross of the model and of the program: the same number, spots and code at all points, right or not.
-/
import Derived.Test.YtmfgpipmkbkggaaCommonP
import Derived.Test.YtmfgpipmkbkggaaIRows
namespace Go.Proofs.Ytmfgpipmkbkggaa
open Go.ChangeShapes Go.WideShapes Go.ChangeAt Go.RowKit
set_option linter.unusedVariables false
set_option linter.unusedSimpArgs false

def flatS (L : List Sp) : List Int := L.flatMap fun s => [s.1, s.2.1, s.2.2]
theorem flatS_len (L : List Sp) : (flatS L).length = L.length * 3 := by
  induction L with
  | nil => rfl
  | cons x L ih => simp only [flatS, List.flatMap_cons, List.length_append, List.length_cons, List.length_nil] at ih ⊢; omega
theorem sCells_flat (L : List Sp) : sCells L = (flatS L).map (Value.int .i64) := by
  induction L with
  | nil => rfl
  | cons x L ih => simp only [flatS, sCells, List.flatMap_cons, List.map_append, List.map_cons, List.map_nil] at ih ⊢; rw [ih]
/-- an answer's spots: a row of its own from block B on -/
theorem IsSpots.out {B : Nat} {w : World} {v : Value} {L : List Sp} (h : IsSpots B w v L) : ∃ (u : Option Addr) (k cap : Nat), v = .slice u L.length cap ∧ B ≤ k ∧ (L.length ≠ 0 → u = some ⟨k, 0, none⟩ ∧ iblk w k 33 (flatS L)) := by
  rcases h with ⟨rfl, rfl⟩ | ⟨k, cap, h1, h2, h3⟩
  · exact ⟨none, B, 0, rfl, Nat.le_refl _, fun h => absurd rfl h⟩
  · refine ⟨_, k, cap, h1, h2, fun _ => ⟨rfl, ?_⟩⟩
    unfold iblk
    rw [h3, sCells_flat]
def crossC (a b c d : Pt) : Int := if ([a, b, c, d].all ptOk) = true then 0 else 1
def crossL (a b c d : Pt) : List Sp := if ([a, b, c, d].all ptOk) = true then cross a b c d else []

set_option maxRecDepth 100000 in
set_option maxHeartbeats 1000000 in
theorem implCross_bad (a1 a2 b1 b2 c1 c2 d1 d2 : Int) (w : World)
    (HP : Hid (∀ (b' cap : Nat) (W : World), b' < W.heap.size → PtsAt W b' 0 [(a1, a2), (b1, b2), (c1, c2), (d1, d2)] → Calls Try.prog 31 #[.slice (some ⟨b', 0, none⟩) 4 cap] W fun e w' => e = .returned (.bool false) ∧ Below W.heap.size W w')) :
    Calls Try.prog 9 #[.agg #[.int .i64 a1, .int .i64 a2], .agg #[.int .i64 b1, .int .i64 b2], .agg #[.int .i64 c1, .int .i64 c2], .agg #[.int .i64 d1, .int .i64 d2]] w fun e w' => (∃ v, e = .returned (.tuple #[.int .i64 0, v, .int .i64 1]) ∧ IsSpots w.heap.size w' v []) ∧ Below w.heap.size w w' := by
  have p4 := fun (W : World) (b' : Nat) => @pts4 W b' (a1, a2) (b1, b2) (c1, c2) (d1, d2)
  dsimp only at p4
  have G3 := hide p4
  clear p4
  go_enter Try.func9, Try.ntmps9
  go_wp2_with fail
  refine (unhide HP _ _ _ ?_ ?_).mono ?_
  · simp
  · refine unhide G3 _ _ ?_ ?_ ?_ ?_ ?_ ?_ ?_ ?_ <;> simp [go_sem]
  rintro e W1 ⟨rfl, hb⟩
  have HB := hide (bc (ba (ba (ba (ba (ba (Below.refl w.heap.size w) _) _) _) _) _) hb)
  clear hb
  go_wp2_with fail
  refine bodyPost_ret (v := .tuple #[.int .i64 0, .slice none 0 0, .int .i64 1]) (by simp [results, Try.results9, go_sem]) rfl ⟨⟨_, rfl, .inl ⟨rfl, rfl⟩⟩, ?_⟩
  exact unhide HB

set_option maxRecDepth 100000 in
set_option maxHeartbeats 1000000 in
theorem implCross_good (a1 a2 b1 b2 c1 c2 d1 d2 : Int) (L : List Sp) (w : World)
    (HP : Hid (∀ (b' cap : Nat) (W : World), b' < W.heap.size → PtsAt W b' 0 [(a1, a2), (b1, b2), (c1, c2), (d1, d2)] → Calls Try.prog 31 #[.slice (some ⟨b', 0, none⟩) 4 cap] W fun e w' => e = .returned (.bool true) ∧ Below W.heap.size W w'))
    (HC : Hid (∀ W, Calls Try.prog 36 #[.agg #[.int .i64 a1, .int .i64 a2, .int .i64 b1, .int .i64 b2], .agg #[.int .i64 c1, .int .i64 c2, .int .i64 d1, .int .i64 d2]] W fun e w' => (∃ v, e = .returned v ∧ IsSpots W.heap.size w' v L) ∧ Below W.heap.size W w')) :
    Calls Try.prog 9 #[.agg #[.int .i64 a1, .int .i64 a2], .agg #[.int .i64 b1, .int .i64 b2], .agg #[.int .i64 c1, .int .i64 c2], .agg #[.int .i64 d1, .int .i64 d2]] w fun e w' => (∃ v, e = .returned (.tuple #[.int .i64 (L.length : Int), v, .int .i64 0]) ∧ IsSpots w.heap.size w' v L) ∧ Below w.heap.size w w' := by
  have p4 := fun (W : World) (b' : Nat) => @pts4 W b' (a1, a2) (b1, b2) (c1, c2) (d1, d2)
  dsimp only at p4
  have G3 := hide p4
  clear p4
  go_enter Try.func9, Try.ntmps9
  go_wp2_with fail
  refine (unhide HP _ _ _ ?_ ?_).mono ?_
  · simp
  · refine unhide G3 _ _ ?_ ?_ ?_ ?_ ?_ ?_ ?_ ?_ <;> simp [go_sem]
  rintro e W1 ⟨rfl, hb⟩
  have k0 := keep1 hb (b := w.heap.size) (o := 0) (v := .int .i64 a1) (by simp (maxDischargeDepth := 12) [go_sem, le1, lt1, *])
  have k1 := keep1 hb (b := w.heap.size) (o := 1) (v := .int .i64 a2) (by simp (maxDischargeDepth := 12) [go_sem, le1, lt1, *])
  have k2 := keep1 hb (b := w.heap.size + 1) (o := 0) (v := .int .i64 b1) (by simp (maxDischargeDepth := 12) [go_sem, le1, lt1, *])
  have k3 := keep1 hb (b := w.heap.size + 1) (o := 1) (v := .int .i64 b2) (by simp (maxDischargeDepth := 12) [go_sem, le1, lt1, *])
  have k4 := keep1 hb (b := w.heap.size + 1 + 1) (o := 0) (v := .int .i64 c1) (by simp (maxDischargeDepth := 12) [go_sem, le1, lt1, *])
  have k5 := keep1 hb (b := w.heap.size + 1 + 1) (o := 1) (v := .int .i64 c2) (by simp (maxDischargeDepth := 12) [go_sem, le1, lt1, *])
  have k6 := keep1 hb (b := w.heap.size + 1 + 1 + 1) (o := 0) (v := .int .i64 d1) (by simp (maxDischargeDepth := 12) [go_sem, le1, lt1, *])
  have k7 := keep1 hb (b := w.heap.size + 1 + 1 + 1) (o := 1) (v := .int .i64 d2) (by simp (maxDischargeDepth := 12) [go_sem, le1, lt1, *])
  have HB := hide (bc (ba (ba (ba (ba (ba (Below.refl w.heap.size w) _) _) _) _) _) hb)
  clear hb
  go_wp2_with fail
  refine (unhide HC _).mono ?_
  rintro e W2 ⟨⟨v, rfl, hv⟩, hq⟩
  have HQ := hide (bc (unhide HB) hq)
  obtain ⟨u, k, cap, rfl, h1, h2⟩ := hv.out
  have HV := hide (hv.mono (unhide HB).size)
  clear hq hv h1 h2
  go_wp2_with fail
  refine bodyPost_ret (v := .tuple #[.int .i64 (L.length : Int), .slice u L.length cap, .int .i64 0]) (by simp [results, Try.results9, go_sem]) rfl ⟨⟨_, rfl, unhide HV⟩, unhide HQ⟩

theorem implCross_any (a b c d : Pt) (w : World) : Calls Try.prog 9 #[ptv a, ptv b, ptv c, ptv d] w fun e w' => (∃ v, e = .returned (.tuple #[.int .i64 ((crossL a b c d).length : Int), v, .int .i64 (crossC a b c d)]) ∧ IsSpots w.heap.size w' v (crossL a b c d)) ∧ Below w.heap.size w w' := by
  have HP := fun (b' cap : Nat) (W : World) => ptsP_any b' 0 cap [a, b, c, d] W (by simp)
  unfold crossL crossC
  cases hq : [a, b, c, d].all ptOk
  · rw [hq] at HP
    exact implCross_bad a.1 a.2 b.1 b.2 c.1 c.2 d.1 d.2 w (hide HP)
  · rw [hq] at HP
    simp only [List.all_cons, List.all_nil, Bool.and_true, Bool.and_eq_true] at hq
    exact implCross_good a.1 a.2 b.1 b.2 c.1 c.2 d.1 d.2 (cross a b c d) w (hide HP) (hide fun W => commonP_any a b c d W hq.1 hq.2.1 hq.2.2.1 hq.2.2.2)
end Go.Proofs.Ytmfgpipmkbkggaa
