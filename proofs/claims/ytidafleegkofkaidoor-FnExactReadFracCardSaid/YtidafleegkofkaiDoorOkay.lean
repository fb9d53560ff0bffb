/-
  When a fraction is right; what stays of memory.
-/
import Derived.Test.YtidafleegkofkaiDoorImplOf
import Derived.Deep.RegionHeld3
namespace Go.Proofs.YtidafleegkofkaiDoor
open Go.ChangeShapes Go.WideShapes Go.ChangeAt Go.RowKit
set_option linter.unusedVariables false

theorem bcell {W w1 : World} (hb : Below W.heap.size W w1) : (∀ b o, b < W.heap.size → w1.cell? ⟨b, o, none⟩ = W.cell? ⟨b, o, none⟩) ∧ (∀ b o, b < W.heap.size → w1.frozen? ⟨b, o, none⟩ = W.frozen? ⟨b, o, none⟩) :=
  ⟨fun b o h => hb.cell (p := ⟨b, o, none⟩) h, fun b o h => hb.frozen (p := ⟨b, o, none⟩) h⟩

set_option maxHeartbeats 400000 in
theorem toFrac_any (n d : Int) (w : World) :
    Calls Tryd.prog 6 #[.agg #[.int .i64 n, .int .i64 d]] w fun e w' => e = .returned (.agg #[.int .i64 n, .int .i64 d]) ∧ Below w.heap.size w w' := by
  go_enter Tryd.func6, Tryd.ntmps6
  go_wp2
  refine bodyPost_ret (v := .agg #[.int .i64 n, .int .i64 d]) (by simp [results, Tryd.results6, go_sem]) rfl ⟨rfl, ?_⟩
  repeat (first | exact Below.refl _ _ | refine Below.setCell ?_ (by simp <;> omega) _ | refine Below.alloc ?_ (by simp <;> omega) _)

set_option maxHeartbeats 400000 in
theorem eqFrac_any (n d : Int) (w : World) :
    Calls Tryd.prog 10 #[.agg #[.int .i64 n, .int .i64 d], .agg #[.int .i64 n, .int .i64 d]] w fun e w' => e = .returned (.bool true) ∧ Below w.heap.size w w' := by
  go_enter Tryd.func10, Tryd.ntmps10
  go_wp2
  go_ret
  exact ⟨rfl, by repeat (first | exact Below.refl _ _ | refine Below.alloc ?_ (by simp) _)⟩

theorem ok_false (n d : Int) (h : d < 1 ∨ 1000000000 < d ∨ n < -1000000000 ∨ 1000000000 < n) : frOk n d = false := decide_eq_false (by omega)

set_option maxHeartbeats 400000 in
theorem specOK_out (n d : Int) (w : World) (h : d < 1 ∨ (1 ≤ d ∧ 1000000000 < d) ∨ (1 ≤ d ∧ d ≤ 1000000000 ∧ n < -1000000000) ∨ (1 ≤ d ∧ d ≤ 1000000000 ∧ -1000000000 ≤ n ∧ 1000000000 < n)) :
    Calls Tryd.prog 11 #[.agg #[.int .i64 n, .int .i64 d]] w fun e w' => e = .returned (.bool false) ∧ Below w.heap.size w w' := by
  rcases h with h1 | ⟨h1, h2⟩ | ⟨h1, h2, h3⟩ | ⟨h1, h2, h3, h4⟩
  all_goals
    go_enter Tryd.func11, Tryd.ntmps11
    go_wp2
    go_ret
    exact ⟨rfl, by repeat (first | exact Below.refl _ _ | refine Below.alloc ?_ (by simp) _)⟩

set_option maxHeartbeats 400000 in
theorem specOK_in (n d : Int) (w : World) (h1 : 1 ≤ d) (h2 : d ≤ 1000000000) (h3 : -1000000000 ≤ n) (h4 : n ≤ 1000000000) :
    Calls Tryd.prog 11 #[.agg #[.int .i64 n, .int .i64 d]] w fun e w' => e = .returned (.bool (frOk n d)) ∧ Below w.heap.size w w' := by
  go_enter Tryd.func11, Tryd.ntmps11
  go_wp2_with fail
  refine (gcd_any _ _ _ (by omega) (by omega) (by omega) (by omega)).mono ?_
  rintro e w1 ⟨⟨r, rfl, hr, hs, hr1, hr2⟩, rfl⟩
  have hle : Nat.gcd n.natAbs d.natAbs ≤ 1000000000 := Nat.le_trans (Nat.gcd_le_right _ (by omega)) (by omega)
  rw [← hr] at hle
  have hok : frOk n d = ((r.natAbs : Int) == 1) := by
    unfold frOk
    rw [Bool.eq_iff_iff]
    simp
    rw [← hr]
    omega
  have HOK := hide hok
  clear hok hr hs
  go_wp2_with fail
  refine (abs_any _ _ (by omega) (by omega)).mono ?_
  rintro e w1 ⟨rfl, rfl⟩
  go_wp2
  go_ret
  exact ⟨by rw [unhide HOK]; rfl, by repeat (first | exact Below.refl _ _ | refine Below.alloc ?_ (by simp) _)⟩

theorem specOK_any (n d : Int) (w : World) :
    Calls Tryd.prog 11 #[.agg #[.int .i64 n, .int .i64 d]] w fun e w' => e = .returned (.bool (frOk n d)) ∧ Below w.heap.size w w' := by
  by_cases h : 1 ≤ d ∧ d ≤ 1000000000 ∧ -1000000000 ≤ n ∧ n ≤ 1000000000
  · exact specOK_in n d w h.1 h.2.1 h.2.2.1 h.2.2.2
  · rw [ok_false n d (by omega)]
    exact specOK_out n d w (by omega)

theorem below1 {w w1 : World} {o : Obj} (hb : Below (w.alloc o).heap.size (w.alloc o) w1) : Below w.heap.size w w1 :=
  ((Below.refl _ _).alloc (Nat.le_refl _) _).trans (hb.mono (by simp))

set_option maxHeartbeats 400000 in
theorem implOK_core (n d N D c : Int) (b : Bool) (w : World)
    (HC : Hid (∀ W, Calls Tryd.prog 21 #[.int .i64 n, .int .i64 d] W fun e w' => e = .returned (.tuple #[.agg #[.int .i64 N, .int .i64 D], .int .i64 c]) ∧ Below W.heap.size W w'))
    (h : (c == 0) = false ∧ b = false ∨ c = 0 ∧ (N == n) = false ∧ b = false ∨ c = 0 ∧ N = n ∧ (D == d) = false ∧ b = false ∨ c = 0 ∧ N = n ∧ D = d ∧ b = true) :
    Calls Tryd.prog 13 #[.agg #[.int .i64 n, .int .i64 d]] w fun e w' => e = .returned (.bool b) ∧ Below w.heap.size w w' := by
  rcases h with ⟨h0, rfl⟩ | ⟨rfl, h1, rfl⟩ | ⟨rfl, rfl, h2, rfl⟩ | ⟨rfl, rfl, rfl, rfl⟩
  all_goals
    go_enter Tryd.func13, Tryd.ntmps13
    go_wp2_with fail
    refine (unhide HC _).mono ?_
    rintro e w1 ⟨rfl, hb⟩
    have hb0 := hide (below1 hb)
    obtain ⟨hc, hf⟩ := bcell hb
    have hz : w.heap.size < w1.heap.size := by have := hb.size; simp at this; omega
    have c0 := hc w.heap.size 0 (by simp)
    have c1 := hc w.heap.size 1 (by simp)
    simp [go_sem] at c0 c1
    clear hb hc hf
    go_wp2
    go_ret
    exact ⟨rfl, (unhide hb0).alloc (by omega) _⟩

theorem implOK_any (n d : Int) (w : World) (hn1 : -9223372036854775808 ≤ n) (hn2 : n ≤ 9223372036854775807) (hd1 : -9223372036854775808 ≤ d) (hd2 : d ≤ 9223372036854775807) :
    Calls Tryd.prog 13 #[.agg #[.int .i64 n, .int .i64 d]] w fun e w' => e = .returned (.bool (frOk n d)) ∧ Below w.heap.size w w' := by
  refine implOK_core n d (frN n d) (frD n d) (frCode n d) _ w (hide fun W => implOf_any n d W hn1 hn2 hd1 hd2) ?_
  have hok := ok_iff n d
  by_cases h0 : frCode n d = 0
  · by_cases h1 : frN n d = n
    · by_cases h2 : frD n d = d
      · exact .inr (.inr (.inr ⟨h0, h1, h2, hok.2 ⟨h0, h1, h2⟩⟩))
      · exact .inr (.inr (.inl ⟨h0, h1, by simp [h2], by rw [Bool.eq_false_iff]; intro h; exact h2 (hok.1 h).2.2⟩))
    · exact .inr (.inl ⟨h0, by simp [h1], by rw [Bool.eq_false_iff]; intro h; exact h1 (hok.1 h).2.1⟩)
  · exact .inl ⟨by simp [h0], by rw [Bool.eq_false_iff]; intro h; exact h0 (hok.1 h).1⟩


/-- what a call that makes memory alone leaves of the blocks that were there -/
theorem kept {W w1 : World} (hb : Below W.heap.size W w1) : (∀ b o, b < W.heap.size → w1.cell? ⟨b, o, none⟩ = W.cell? ⟨b, o, none⟩) ∧ (∀ b o, b < W.heap.size → w1.frozen? ⟨b, o, none⟩ = W.frozen? ⟨b, o, none⟩) ∧ (∀ b, b < W.heap.size → b < w1.heap.size) ∧ W.heap.size ≤ w1.heap.size :=
  ⟨fun b o h => hb.cell (p := ⟨b, o, none⟩) h, fun b o h => hb.frozen (p := ⟨b, o, none⟩) h, fun b h => Nat.lt_of_lt_of_le h hb.size, hb.size⟩

theorem bel_call {w W w1 : World} (h : Below w.heap.size w W) (hb : Below W.heap.size W w1) : Below w.heap.size w w1 := h.trans (hb.mono h.size)

theorem bel_alloc {w W : World} (h : Below w.heap.size w W) (o : Obj) : Below w.heap.size w (W.alloc o) := h.alloc h.size o

theorem cell_lt {W : World} {b o : Nat} {v : Value} (h : W.cell? ⟨b, o, none⟩ = some v) : b < W.heap.size := by
  by_cases hb : b < W.heap.size
  · exact hb
  · have : W.heap[b]? = none := by simp; omega
    simp [World.cell?, this] at h

theorem keep1 {W w1 : World} (hb : Below W.heap.size W w1) {b o : Nat} {v : Value} (h : W.cell? ⟨b, o, none⟩ = some v) : w1.cell? ⟨b, o, none⟩ = some v :=
  (hb.cell (p := ⟨b, o, none⟩) (cell_lt h)).trans h

theorem keepz {W w1 : World} (hb : Below W.heap.size W w1) {b o : Nat} (h : b < W.heap.size) (hf : W.frozen? ⟨b, o, none⟩ = false) : w1.frozen? ⟨b, o, none⟩ = false :=
  (hb.frozen (p := ⟨b, o, none⟩) h).trans hf

theorem prod_bd (a b : Int) (ha : -1000000000 ≤ a ∧ a ≤ 1000000000) (hb : -1000000000 ≤ b ∧ b ≤ 1000000000) : -1000000000000000000 ≤ a * b ∧ a * b ≤ 1000000000000000000 := by
  have h1 : (a * b).natAbs = a.natAbs * b.natAbs := Int.natAbs_mul a b
  have h2 : a.natAbs * b.natAbs ≤ 1000000000 * 1000000000 := Nat.mul_le_mul (by omega) (by omega)
  generalize a.natAbs * b.natAbs = k at *
  omega

theorem ok_bd {n d : Int} (h : frOk n d = true) : (-1000000000 ≤ n ∧ n ≤ 1000000000) ∧ 1 ≤ d ∧ d ≤ 1000000000 := by
  unfold frOk at h
  rw [decide_eq_true_iff] at h
  exact ⟨⟨h.2.2.1, h.2.2.2.1⟩, h.1, h.2.1⟩


set_option maxHeartbeats 400000 in
theorem toFrac_exact (n d : Int) (w : World) :
    Calls Tryd.prog 6 #[.agg #[.int .i64 n, .int .i64 d]] w fun e w' => e = .returned (.agg #[.int .i64 n, .int .i64 d]) ∧ w' = ((w.alloc (.cells #[.int .i64 n, .int .i64 d] 23)).alloc (.cells #[.int .i64 n, .int .i64 d] 26)).alloc (.cells #[.int .i64 n, .int .i64 d] 26) := by
  go_enter Tryd.func6, Tryd.ntmps6
  go_wp2
  exact bodyPost_ret (v := .agg #[.int .i64 n, .int .i64 d]) (by simp [results, Tryd.results6, go_sem]) rfl ⟨rfl, by simp [go_sem]⟩

theorem ka {W : World} {o : Obj} {b f : Nat} {v : Value} (h : W.cell? ⟨b, f, none⟩ = some v) : (W.alloc o).cell? ⟨b, f, none⟩ = some v := by
  have hl := cell_lt h
  rw [← h]
  exact World.cell?_alloc_past (w := W) o b f hl

theorem kd {W : World} {b f : Nat} {v : Value} (h : W.cell? ⟨b, f, none⟩ = some v) : W.drew.cell? ⟨b, f, none⟩ = some v := h

theorem ks {W : World} {b f c g : Nat} {v x : Value} (hne : b ≠ c) (h : W.cell? ⟨b, f, none⟩ = some v) : (W.setCell ⟨c, g, none⟩ x).cell? ⟨b, f, none⟩ = some v := by
  exact (World.cell?_setCell_far W ⟨c, g, none⟩ ⟨b, f, none⟩ x (fun e => hne e.symm)).trans h

theorem le1 {b n k : Nat} (h : b ≤ n) : b ≤ n + k := Nat.le_trans h (Nat.le_add_right n k)

theorem lt1 {b n k : Nat} (h : b < n) : b < n + k := Nat.lt_of_lt_of_le h (Nat.le_add_right n k)

end Go.Proofs.YtidafleegkofkaiDoor
