/-
  The model's small functions of outlines: whether a column is above, which column lies ahead.
-/
import Derived.Test.YtjhldjojkaphkaaFdOk
import Derived.Test.YtjhldjojkaphkaaCtLine
import Derived.Test.YtjhldjojkaphkaaRowX
namespace Go.Proofs.Ytjhldjojkaphkaa
open Go.ChangeShapes Go.WideShapes Go.ChangeAt Go.RowKit
set_option linter.unusedVariables false
set_option linter.unusedSimpArgs false

/-- a field's slice, as it lies in memory -/
structure Fd (w : World) (g po n c : Nat) (T : List Int) : Prop where
  lt : g < w.heap.size
  ints : IntsAt w g po T
  len : T.length = n
  cap : n ≤ c
  top : c ≤ 9223372036854775807
theorem Fd.bel {w w' : World} {g po n c : Nat} {T : List Int} (h : Fd w g po n c T) (hb : Below w.heap.size w w') : Fd w' g po n c T :=
  ⟨Nat.lt_of_lt_of_le h.lt hb.size, h.ints.below hb h.lt, h.len, h.cap, h.top⟩
theorem Fd.its {w : World} {g po n c : Nat} {T : List Int} (h : Fd w g po n c T) : Its w (some ⟨g, po, none⟩) g po T := fun _ => ⟨rfl, h.lt, h.ints⟩
theorem ix_lt {u v W H : Nat} (hu : u < W) (hv : v < H) : v * W + u < W * H := by
  have h1 : (v + 1) * W ≤ H * W := Nat.mul_le_mul_right W hv
  rw [Nat.add_mul, Nat.one_mul, Nat.mul_comm H W] at h1
  omega
set_option maxHeartbeats 2000000 in
theorem abM_in (W H n c g po : Nat) (T : List Int) (x y : Nat) (z : Int) (w : World) (hW : W ≤ 24) (hH : H ≤ 24) (hn : n = W * H) (hF : Fd w g po n c T) (hx : x < W) (hy : y < H) :
    Calls Try.prog 56 #[fldV (W : Int) (H : Int) (some ⟨g, po, none⟩) n c, .int .i64 (x : Int), .int .i64 (y : Int), .int .i64 z] w fun e w' => e = .returned (.bool (decide (z < tp T (y * W + x)))) ∧ Below w.heap.size w w' := by
  have hi := ix_lt hx hy
  rw [← hn] at hi
  have hb : Below w.heap.size w (w.alloc (.cells #[.int .i64 (W : Int), .int .i64 (H : Int), .slice (some ⟨g, po, none⟩) n c] 25)) := ba (Below.refl _ _) _
  have HB := hide hb
  have hnb : n ≤ 576 := by rw [hn]; exact Nat.mul_le_mul hW hH
  obtain ⟨q, hq⟩ : ∃ q, y * W + x = q := ⟨_, rfl⟩
  obtain ⟨yw, hyw⟩ : ∃ yw : Nat, y * W = yw := ⟨_, rfl⟩
  have w1 : IntKind.i64.wrap ((y : Int) * (W : Int)) = (yw : Int) := by
    rw [← Int.natCast_mul, hyw]
    exact Go.IntWalk.i64_in _ ⟨by omega, by omega⟩
  have w2 : IntKind.i64.wrap ((yw : Int) + (x : Int)) = (q : Int) := (Go.IntWalk.i64_in _ ⟨by omega, by omega⟩).trans (by omega)
  rw [hq] at hi ⊢
  have cf := (hF.bel hb).ints _ _ (tp_at (T := T) (i := q) (by rw [hF.len]; exact hi))
  have v1 := vb_new w 25 [.int .i64 (W : Int), .int .i64 (H : Int), .slice (some ⟨g, po, none⟩) n c] w.heap.size rfl
  have k0 := v1.cell (m := 0) rfl
  have k1 := v1.cell (m := 1) rfl
  have k2 := v1.cell (m := 2) rfl
  have q0 : (0 : Int) ≤ (q : Int) := Int.natCast_nonneg _
  have q1 : (q : Int) < (n : Int) := by omega
  have x0 : (0 : Int) ≤ (x : Int) := Int.natCast_nonneg _
  have y0 : (0 : Int) ≤ (y : Int) := Int.natCast_nonneg _
  have d1 := decide_eq_true x0
  have d2 := decide_eq_true y0
  have d3 := decide_eq_true (show (x : Int) < (W : Int) by omega)
  have d4 := decide_eq_true (show (y : Int) < (H : Int) by omega)
  obtain ⟨t, ht⟩ : ∃ t, tp T q = t := ⟨_, rfl⟩
  rw [ht] at cf ⊢
  unfold fldV
  clear hq hyw hn hF v1 ht hb
  go_enter Try.func56, Try.ntmps56
  go_upto_region 1 with fail
  generalize w.alloc (.cells #[.int .i64 (W : Int), .int .i64 (H : Int), .slice (some ⟨g, po, none⟩) n c] 25) = Wa at *
  go_wp2_with fail
  go_ret
  exact ⟨rfl, unhide HB⟩
set_option maxHeartbeats 2000000 in
theorem abM_out (W H n c : Nat) (u : Option Addr) (x y z : Int) (w : World) (h : ¬ (0 ≤ x ∧ x < (W : Int) ∧ 0 ≤ y ∧ y < (H : Int))) :
    Calls Try.prog 56 #[fldV (W : Int) (H : Int) u n c, .int .i64 x, .int .i64 y, .int .i64 z] w fun e w' => e = .returned (.bool false) ∧ Below w.heap.size w w' := by
  have HB := hide (ba (Below.refl w.heap.size w) (.cells #[.int .i64 (W : Int), .int .i64 (H : Int), .slice u n c] 25))
  have v1 := vb_new w 25 [.int .i64 (W : Int), .int .i64 (H : Int), .slice u n c] w.heap.size rfl
  have k0 := v1.cell (m := 0) rfl
  have k1 := v1.cell (m := 1) rfl
  unfold fldV
  clear v1
  have hcs : (¬ 0 ≤ x) ∨ (0 ≤ x ∧ ¬ 0 ≤ y) ∨ (0 ≤ x ∧ 0 ≤ y ∧ ¬ x < (W : Int)) ∨ (0 ≤ x ∧ 0 ≤ y ∧ x < (W : Int) ∧ ¬ y < (H : Int)) := by omega
  rcases hcs with h1 | ⟨h1, h2⟩ | ⟨h1, h2, h3⟩ | ⟨h1, h2, h3, h4⟩
  · have d1 := decide_eq_false h1
    go_enter Try.func56, Try.ntmps56
    go_wp2_with fail
    go_ret
    exact ⟨rfl, unhide HB⟩
  · have d1 := decide_eq_true h1
    have d2 := decide_eq_false h2
    go_enter Try.func56, Try.ntmps56
    go_wp2_with fail
    go_ret
    exact ⟨rfl, unhide HB⟩
  · have d1 := decide_eq_true h1
    have d2 := decide_eq_true h2
    have d3 := decide_eq_false h3
    go_enter Try.func56, Try.ntmps56
    go_wp2_with fail
    go_ret
    exact ⟨rfl, unhide HB⟩
  · have d1 := decide_eq_true h1
    have d2 := decide_eq_true h2
    have d3 := decide_eq_true h3
    have d4 := decide_eq_false h4
    go_enter Try.func56, Try.ntmps56
    go_wp2_with fail
    go_ret
    exact ⟨rfl, unhide HB⟩
theorem abM_any (W H n c g po : Nat) (T : List Int) (x y z : Int) (w : World) (hW : W ≤ 24) (hH : H ≤ 24) (hn : n = W * H) (hF : Fd w g po n c T) :
    Calls Try.prog 56 #[fldV (W : Int) (H : Int) (some ⟨g, po, none⟩) n c, .int .i64 x, .int .i64 y, .int .i64 z] w fun e w' => e = .returned (.bool (Ab W H T z x y)) ∧ Below w.heap.size w w' := by
  by_cases h : 0 ≤ x ∧ x < (W : Int) ∧ 0 ≤ y ∧ y < (H : Int)
  · obtain ⟨a, rfl⟩ := Int.eq_ofNat_of_zero_le h.1
    obtain ⟨b, rfl⟩ := Int.eq_ofNat_of_zero_le h.2.2.1
    rw [Ab_at (by omega) (by omega)]
    exact abM_in W H n c g po T a b z w hW hH hn hF (by omega) (by omega)
  · rw [Ab_out h]
    exact abM_out W H n c (some ⟨g, po, none⟩) x y z w h
theorem ahM_0t (x y : Int) (w : World) (hx : -1000 ≤ x ∧ x ≤ 1000) (hy : -1000 ≤ y ∧ y ≤ 1000) : Calls Try.prog 57 #[.agg #[.int .i64 x, .int .i64 y], .int .i64 (1), .int .i64 (0), .bool true] w fun e w' => e = .returned (.tuple #[.int .i64 (x), .int .i64 (y)]) ∧ Below w.heap.size w w' := by
  have HB := hide (ba (Below.refl w.heap.size w) (.cells #[.int .i64 x, .int .i64 y] 46))
  have v1 := vb_new w 46 [.int .i64 x, .int .i64 y] w.heap.size rfl
  have k0 := v1.cell (m := 0) rfl
  have k1 := v1.cell (m := 1) rfl
  have w1 : IntKind.i64.wrap (x - 1) = x - 1 := wrap_i (by omega) (by omega)
  have w2 : IntKind.i64.wrap (y - 1) = y - 1 := wrap_i (by omega) (by omega)
  clear v1 hx hy
  go_enter Try.func57, Try.ntmps57
  go_upto_region 1 with fail
  generalize w.alloc (.cells #[.int .i64 x, .int .i64 y] 46) = Wa at *
  go_wp2_with fail
  (try go_quiet (fail))
  (try go_wp2_with fail)
  (try rw [Exit.noGoto_ret])
  exact bodyPost_ret (v := .tuple #[.int .i64 (x), .int .i64 (y)]) (by simp [results, Try.results57, go_sem]) rfl ⟨rfl, by repeat (first | exact unhide HB | refine bel_dn' ?_ _ | refine Below.drew ?_)⟩
theorem ahM_0f (x y : Int) (w : World) (hx : -1000 ≤ x ∧ x ≤ 1000) (hy : -1000 ≤ y ∧ y ≤ 1000) : Calls Try.prog 57 #[.agg #[.int .i64 x, .int .i64 y], .int .i64 (1), .int .i64 (0), .bool false] w fun e w' => e = .returned (.tuple #[.int .i64 (x), .int .i64 (y - 1)]) ∧ Below w.heap.size w w' := by
  have HB := hide (ba (Below.refl w.heap.size w) (.cells #[.int .i64 x, .int .i64 y] 46))
  have v1 := vb_new w 46 [.int .i64 x, .int .i64 y] w.heap.size rfl
  have k0 := v1.cell (m := 0) rfl
  have k1 := v1.cell (m := 1) rfl
  have w1 : IntKind.i64.wrap (x - 1) = x - 1 := wrap_i (by omega) (by omega)
  have w2 : IntKind.i64.wrap (y - 1) = y - 1 := wrap_i (by omega) (by omega)
  clear v1 hx hy
  go_enter Try.func57, Try.ntmps57
  go_upto_region 1 with fail
  generalize w.alloc (.cells #[.int .i64 x, .int .i64 y] 46) = Wa at *
  go_wp2_with fail
  (try go_quiet (fail))
  (try go_wp2_with fail)
  (try rw [Exit.noGoto_ret])
  exact bodyPost_ret (v := .tuple #[.int .i64 (x), .int .i64 (y - 1)]) (by simp [results, Try.results57, go_sem]) rfl ⟨rfl, by repeat (first | exact unhide HB | refine bel_dn' ?_ _ | refine Below.drew ?_)⟩
theorem ahM_1t (x y : Int) (w : World) (hx : -1000 ≤ x ∧ x ≤ 1000) (hy : -1000 ≤ y ∧ y ≤ 1000) : Calls Try.prog 57 #[.agg #[.int .i64 x, .int .i64 y], .int .i64 (0), .int .i64 (1), .bool true] w fun e w' => e = .returned (.tuple #[.int .i64 (x - 1), .int .i64 (y)]) ∧ Below w.heap.size w w' := by
  have HB := hide (ba (Below.refl w.heap.size w) (.cells #[.int .i64 x, .int .i64 y] 46))
  have v1 := vb_new w 46 [.int .i64 x, .int .i64 y] w.heap.size rfl
  have k0 := v1.cell (m := 0) rfl
  have k1 := v1.cell (m := 1) rfl
  have w1 : IntKind.i64.wrap (x - 1) = x - 1 := wrap_i (by omega) (by omega)
  have w2 : IntKind.i64.wrap (y - 1) = y - 1 := wrap_i (by omega) (by omega)
  clear v1 hx hy
  go_enter Try.func57, Try.ntmps57
  go_upto_region 1 with fail
  generalize w.alloc (.cells #[.int .i64 x, .int .i64 y] 46) = Wa at *
  go_wp2_with fail
  (try go_quiet (fail))
  (try go_wp2_with fail)
  (try rw [Exit.noGoto_ret])
  exact bodyPost_ret (v := .tuple #[.int .i64 (x - 1), .int .i64 (y)]) (by simp [results, Try.results57, go_sem]) rfl ⟨rfl, by repeat (first | exact unhide HB | refine bel_dn' ?_ _ | refine Below.drew ?_)⟩
theorem ahM_1f (x y : Int) (w : World) (hx : -1000 ≤ x ∧ x ≤ 1000) (hy : -1000 ≤ y ∧ y ≤ 1000) : Calls Try.prog 57 #[.agg #[.int .i64 x, .int .i64 y], .int .i64 (0), .int .i64 (1), .bool false] w fun e w' => e = .returned (.tuple #[.int .i64 (x), .int .i64 (y)]) ∧ Below w.heap.size w w' := by
  have HB := hide (ba (Below.refl w.heap.size w) (.cells #[.int .i64 x, .int .i64 y] 46))
  have v1 := vb_new w 46 [.int .i64 x, .int .i64 y] w.heap.size rfl
  have k0 := v1.cell (m := 0) rfl
  have k1 := v1.cell (m := 1) rfl
  have w1 : IntKind.i64.wrap (x - 1) = x - 1 := wrap_i (by omega) (by omega)
  have w2 : IntKind.i64.wrap (y - 1) = y - 1 := wrap_i (by omega) (by omega)
  clear v1 hx hy
  go_enter Try.func57, Try.ntmps57
  go_upto_region 1 with fail
  generalize w.alloc (.cells #[.int .i64 x, .int .i64 y] 46) = Wa at *
  go_wp2_with fail
  (try go_quiet (fail))
  (try go_wp2_with fail)
  (try rw [Exit.noGoto_ret])
  exact bodyPost_ret (v := .tuple #[.int .i64 (x), .int .i64 (y)]) (by simp [results, Try.results57, go_sem]) rfl ⟨rfl, by repeat (first | exact unhide HB | refine bel_dn' ?_ _ | refine Below.drew ?_)⟩
theorem ahM_2t (x y : Int) (w : World) (hx : -1000 ≤ x ∧ x ≤ 1000) (hy : -1000 ≤ y ∧ y ≤ 1000) : Calls Try.prog 57 #[.agg #[.int .i64 x, .int .i64 y], .int .i64 (-1), .int .i64 (0), .bool true] w fun e w' => e = .returned (.tuple #[.int .i64 (x - 1), .int .i64 (y - 1)]) ∧ Below w.heap.size w w' := by
  have HB := hide (ba (Below.refl w.heap.size w) (.cells #[.int .i64 x, .int .i64 y] 46))
  have v1 := vb_new w 46 [.int .i64 x, .int .i64 y] w.heap.size rfl
  have k0 := v1.cell (m := 0) rfl
  have k1 := v1.cell (m := 1) rfl
  have w1 : IntKind.i64.wrap (x - 1) = x - 1 := wrap_i (by omega) (by omega)
  have w2 : IntKind.i64.wrap (y - 1) = y - 1 := wrap_i (by omega) (by omega)
  clear v1 hx hy
  go_enter Try.func57, Try.ntmps57
  go_upto_region 1 with fail
  generalize w.alloc (.cells #[.int .i64 x, .int .i64 y] 46) = Wa at *
  go_wp2_with fail
  (try go_quiet (fail))
  (try go_wp2_with fail)
  (try rw [Exit.noGoto_ret])
  exact bodyPost_ret (v := .tuple #[.int .i64 (x - 1), .int .i64 (y - 1)]) (by simp [results, Try.results57, go_sem]) rfl ⟨rfl, by repeat (first | exact unhide HB | refine bel_dn' ?_ _ | refine Below.drew ?_)⟩
theorem ahM_2f (x y : Int) (w : World) (hx : -1000 ≤ x ∧ x ≤ 1000) (hy : -1000 ≤ y ∧ y ≤ 1000) : Calls Try.prog 57 #[.agg #[.int .i64 x, .int .i64 y], .int .i64 (-1), .int .i64 (0), .bool false] w fun e w' => e = .returned (.tuple #[.int .i64 (x - 1), .int .i64 (y)]) ∧ Below w.heap.size w w' := by
  have HB := hide (ba (Below.refl w.heap.size w) (.cells #[.int .i64 x, .int .i64 y] 46))
  have v1 := vb_new w 46 [.int .i64 x, .int .i64 y] w.heap.size rfl
  have k0 := v1.cell (m := 0) rfl
  have k1 := v1.cell (m := 1) rfl
  have w1 : IntKind.i64.wrap (x - 1) = x - 1 := wrap_i (by omega) (by omega)
  have w2 : IntKind.i64.wrap (y - 1) = y - 1 := wrap_i (by omega) (by omega)
  clear v1 hx hy
  go_enter Try.func57, Try.ntmps57
  go_upto_region 1 with fail
  generalize w.alloc (.cells #[.int .i64 x, .int .i64 y] 46) = Wa at *
  go_wp2_with fail
  (try go_quiet (fail))
  (try go_wp2_with fail)
  (try rw [Exit.noGoto_ret])
  exact bodyPost_ret (v := .tuple #[.int .i64 (x - 1), .int .i64 (y)]) (by simp [results, Try.results57, go_sem]) rfl ⟨rfl, by repeat (first | exact unhide HB | refine bel_dn' ?_ _ | refine Below.drew ?_)⟩
theorem ahM_3t (x y : Int) (w : World) (hx : -1000 ≤ x ∧ x ≤ 1000) (hy : -1000 ≤ y ∧ y ≤ 1000) : Calls Try.prog 57 #[.agg #[.int .i64 x, .int .i64 y], .int .i64 (0), .int .i64 (-1), .bool true] w fun e w' => e = .returned (.tuple #[.int .i64 (x), .int .i64 (y - 1)]) ∧ Below w.heap.size w w' := by
  have HB := hide (ba (Below.refl w.heap.size w) (.cells #[.int .i64 x, .int .i64 y] 46))
  have v1 := vb_new w 46 [.int .i64 x, .int .i64 y] w.heap.size rfl
  have k0 := v1.cell (m := 0) rfl
  have k1 := v1.cell (m := 1) rfl
  have w1 : IntKind.i64.wrap (x - 1) = x - 1 := wrap_i (by omega) (by omega)
  have w2 : IntKind.i64.wrap (y - 1) = y - 1 := wrap_i (by omega) (by omega)
  clear v1 hx hy
  go_enter Try.func57, Try.ntmps57
  go_upto_region 1 with fail
  generalize w.alloc (.cells #[.int .i64 x, .int .i64 y] 46) = Wa at *
  go_wp2_with fail
  (try go_quiet (fail))
  (try go_wp2_with fail)
  (try rw [Exit.noGoto_ret])
  exact bodyPost_ret (v := .tuple #[.int .i64 (x), .int .i64 (y - 1)]) (by simp [results, Try.results57, go_sem]) rfl ⟨rfl, by repeat (first | exact unhide HB | refine bel_dn' ?_ _ | refine Below.drew ?_)⟩
theorem ahM_3f (x y : Int) (w : World) (hx : -1000 ≤ x ∧ x ≤ 1000) (hy : -1000 ≤ y ∧ y ≤ 1000) : Calls Try.prog 57 #[.agg #[.int .i64 x, .int .i64 y], .int .i64 (0), .int .i64 (-1), .bool false] w fun e w' => e = .returned (.tuple #[.int .i64 (x - 1), .int .i64 (y - 1)]) ∧ Below w.heap.size w w' := by
  have HB := hide (ba (Below.refl w.heap.size w) (.cells #[.int .i64 x, .int .i64 y] 46))
  have v1 := vb_new w 46 [.int .i64 x, .int .i64 y] w.heap.size rfl
  have k0 := v1.cell (m := 0) rfl
  have k1 := v1.cell (m := 1) rfl
  have w1 : IntKind.i64.wrap (x - 1) = x - 1 := wrap_i (by omega) (by omega)
  have w2 : IntKind.i64.wrap (y - 1) = y - 1 := wrap_i (by omega) (by omega)
  clear v1 hx hy
  go_enter Try.func57, Try.ntmps57
  go_upto_region 1 with fail
  generalize w.alloc (.cells #[.int .i64 x, .int .i64 y] 46) = Wa at *
  go_wp2_with fail
  (try go_quiet (fail))
  (try go_wp2_with fail)
  (try rw [Exit.noGoto_ret])
  exact bodyPost_ret (v := .tuple #[.int .i64 (x - 1), .int .i64 (y - 1)]) (by simp [results, Try.results57, go_sem]) rfl ⟨rfl, by repeat (first | exact unhide HB | refine bel_dn' ?_ _ | refine Below.drew ?_)⟩
/-- the column ahead of a corner -/
theorem ahM_any (d : Nat) (hd : d < 4) (left : Bool) (x y : Int) (w : World) (hx : -1000 ≤ x ∧ x ≤ 1000) (hy : -1000 ≤ y ∧ y ≤ 1000) : Calls Try.prog 57 #[.agg #[.int .i64 x, .int .i64 y], .int .i64 (wx d), .int .i64 (wy d), .bool left] w fun e w' => e = .returned (.tuple #[.int .i64 (x + qx (if left then d else rt d)), .int .i64 (y + qy (if left then d else rt d))]) ∧ Below w.heap.size w w' := by
  rcases d_cases hd with rfl | rfl | rfl | rfl <;> cases left
  · simpa [wx, wy, qx, qy, rt, Int.sub_eq_add_neg] using ahM_0f x y w hx hy
  · simpa [wx, wy, qx, qy, rt, Int.sub_eq_add_neg] using ahM_0t x y w hx hy
  · simpa [wx, wy, qx, qy, rt, Int.sub_eq_add_neg] using ahM_1f x y w hx hy
  · simpa [wx, wy, qx, qy, rt, Int.sub_eq_add_neg] using ahM_1t x y w hx hy
  · simpa [wx, wy, qx, qy, rt, Int.sub_eq_add_neg] using ahM_2f x y w hx hy
  · simpa [wx, wy, qx, qy, rt, Int.sub_eq_add_neg] using ahM_2t x y w hx hy
  · simpa [wx, wy, qx, qy, rt, Int.sub_eq_add_neg] using ahM_3f x y w hx hy
  · simpa [wx, wy, qx, qy, rt, Int.sub_eq_add_neg] using ahM_3t x y w hx hy
end Go.Proofs.Ytjhldjojkaphkaa
