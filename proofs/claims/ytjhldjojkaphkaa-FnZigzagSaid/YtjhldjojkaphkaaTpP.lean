/-
  The program's small functions of outlines: a row, a column's top, points added, the column at a corner, whether one is above.
-/
import Derived.Test.YtjhldjojkaphkaaAbM
import Derived.Test.YtjhldjojkaphkaaCtM0
import Derived.Lib.MinMax
import Derived.Lib.SmallJoins
namespace Go.Proofs.Ytjhldjojkaphkaa
open Go.ChangeShapes Go.WideShapes Go.ChangeAt Go.RowKit
set_option linter.unusedVariables false
set_option linter.unusedSimpArgs false

theorem rwP_any (W H y : Nat) (g po n c : Nat) (w : World) (hW1 : 1 ≤ W) (hW : W ≤ 24) (hH : H ≤ 24) (hy : y < H) (hn : n = W * H) (hc : n ≤ c) (hm : c ≤ 9223372036854775807) :
    Calls Try.prog 69 #[fldV (W : Int) (H : Int) (some ⟨g, po, none⟩) n c, .int .i64 (y : Int)] w fun e w' => e = .returned (.slice (some ⟨g, po + y * W, none⟩) W W) ∧ Below w.heap.size w w' := by
  have hyW : y * W ≤ 24 * 24 := Nat.mul_le_mul (by omega) (by omega)
  have e0 : (y : Int) * (W : Int) = ((y * W : Nat) : Int) := by simp
  have e1 : ((y : Int) + 1) * (W : Int) = ((y * W + W : Nat) : Int) := by
    have : (y + 1) * W = y * W + W := by rw [Nat.add_mul, Nat.one_mul]
    rw [← this]; simp
  have hle : y * W + W ≤ n := by
    have : (y + 1) * W ≤ H * W := Nat.mul_le_mul_right W hy
    rw [hn, Nat.mul_comm W H]
    rw [Nat.add_mul, Nat.one_mul] at this
    exact this
  have w0 : IntKind.i64.wrap ((y : Int) * (W : Int)) = ((y * W : Nat) : Int) := by rw [e0]; exact Go.IntWalk.i64_in _ ⟨by omega, by omega⟩
  have w1 : IntKind.i64.wrap ((y : Int) + 1) = (y : Int) + 1 := Go.IntWalk.i64_in _ ⟨by omega, by omega⟩
  have w2 : IntKind.i64.wrap (((y : Int) + 1) * (W : Int)) = ((y * W + W : Nat) : Int) := by rw [e1]; exact Go.IntWalk.i64_in _ ⟨by omega, by omega⟩
  have HB := hide (ba (Below.refl w.heap.size w) (.cells #[.int .i64 (W : Int), .int .i64 (H : Int), .slice (some ⟨g, po, none⟩) n c] 25))
  unfold fldV
  generalize y * W = q at *
  clear e0 e1 hn
  have b0 : (0 : Int) ≤ (q : Int) := Int.natCast_nonneg _
  have b1 : (q : Int) ≤ ((q + W : Nat) : Int) := by omega
  have b2 : ((q + W : Nat) : Int) ≤ (c : Int) := by omega
  have z1 : ¬ q + W = q := by omega
  have z2 : ¬ W = 0 := by omega
  go_enter Try.func69, Try.ntmps69
  go_wp2_with fail
  go_region
  all_goals
    go_wp2_with fail
    go_ret
    exact ⟨by first | rfl | (show Ending.returned (.slice _ (q + W - q) (q + W - q)) = _; rw [Nat.add_sub_cancel_left]), by repeat (first | exact unhide HB | refine Below.drew ?_)⟩
set_option maxHeartbeats 2000000 in
theorem tpP_any (W H n c g po : Nat) (T : List Int) (x y : Nat) (w : World) (hW : W ≤ 24) (hH : H ≤ 24) (hn : n = W * H) (hF : Fd w g po n c T) (hx : x < W) (hy : y < H) :
    Calls Try.prog 52 #[fldV (W : Int) (H : Int) (some ⟨g, po, none⟩) n c, .agg #[.int .i64 (x : Int), .int .i64 (y : Int)]] w fun e w' => e = .returned (.int .i64 (tp T (y * W + x))) ∧ Below w.heap.size w w' := by
  have hi := ix_lt hx hy
  rw [← hn] at hi
  have HR := hide (fun X => rwP_any W H y g po n c X (by omega) hW hH hy hn hF.cap hF.top)
  have hb : Below w.heap.size w ((w.alloc (.cells #[.int .i64 (W : Int), .int .i64 (H : Int), .slice (some ⟨g, po, none⟩) n c] 25)).alloc (.cells #[.int .i64 (x : Int), .int .i64 (y : Int)] 46)) := ba (ba (Below.refl _ _) _) _
  have HB := hide hb
  have cf := (hF.bel hb).ints _ _ (tp_at (T := T) (i := y * W + x) (by rw [hF.len]; exact hi))
  have v1 := vb_new1 w 25 [.int .i64 (W : Int), .int .i64 (H : Int), .slice (some ⟨g, po, none⟩) n c] (.cells #[.int .i64 (x : Int), .int .i64 (y : Int)] 46)
  have v2 := vb_new2 w 46 [.int .i64 (x : Int), .int .i64 (y : Int)] (.cells #[.int .i64 (W : Int), .int .i64 (H : Int), .slice (some ⟨g, po, none⟩) n c] 25)
  have HV1 := hide v1
  have HV2 := hide v2
  have x0 : (0 : Int) ≤ (x : Int) := Int.natCast_nonneg _
  have x1 : (x : Int) < (W : Int) := by omega
  obtain ⟨t, ht⟩ : ∃ t, tp T (y * W + x) = t := ⟨_, rfl⟩
  rw [ht] at cf ⊢
  generalize y * W = q at *
  rw [← Nat.add_assoc] at cf
  have hg : g < w.heap.size := hF.lt
  unfold fldV at *
  clear hn hF ht hb v1 v2 hi
  go_enter Try.func52, Try.ntmps52
  go_upto_region 1 with fail
  generalize (w.alloc (.cells #[.int .i64 (W : Int), .int .i64 (H : Int), .slice (some ⟨g, po, none⟩) n c] 25)).alloc (.cells #[.int .i64 (x : Int), .int .i64 (y : Int)] 46) = Wa at *
  have k0 := (unhide HV1).cell (m := 0) rfl
  have k1 := (unhide HV1).cell (m := 1) rfl
  have k2 := (unhide HV1).cell (m := 2) rfl
  have p0 := (unhide HV2).cell (m := 0) rfl
  have p1 := (unhide HV2).cell (m := 1) rfl
  go_region_held3 (fun wx => wx.cell? ⟨w.heap.size, 0, none⟩ = some (.int .i64 (W : Int)) ∧ wx.cell? ⟨w.heap.size, 1, none⟩ = some (.int .i64 (H : Int)) ∧ wx.cell? ⟨w.heap.size, 2, none⟩ = some (.slice (some ⟨g, po, none⟩) n c) ∧ wx.cell? ⟨w.heap.size + 1, 0, none⟩ = some (.int .i64 (x : Int)) ∧ wx.cell? ⟨w.heap.size + 1, 1, none⟩ = some (.int .i64 (y : Int)) ∧ wx.cell? ⟨g, po + q + x, none⟩ = some (.int .i64 t))
    (simp (maxDischargeDepth := 12) [go_sem, le1, lt1, *])
    (first
    | (go_at_call 69; refine (unhide HR _).mono ?_; rintro e w' ⟨rfl, hb⟩; have HB2 := hide (show Below w.heap.size w w' from bc (by repeat (first | exact unhide HB | refine Below.drew ?_)) hb); have y0 := keep1 hb (b := w.heap.size) (o := 0) (v := .int .i64 (W : Int)) (by simp (maxDischargeDepth := 12) [go_sem, le1, lt1, *]); have y1 := keep1 hb (b := w.heap.size) (o := 1) (v := .int .i64 (H : Int)) (by simp (maxDischargeDepth := 12) [go_sem, le1, lt1, *]); have y2 := keep1 hb (b := w.heap.size) (o := 2) (v := .slice (some ⟨g, po, none⟩) n c) (by simp (maxDischargeDepth := 12) [go_sem, le1, lt1, *]); have z0 := keep1 hb (b := w.heap.size + 1) (o := 0) (v := .int .i64 (x : Int)) (by simp (maxDischargeDepth := 12) [go_sem, le1, lt1, *]); have z1 := keep1 hb (b := w.heap.size + 1) (o := 1) (v := .int .i64 (y : Int)) (by simp (maxDischargeDepth := 12) [go_sem, le1, lt1, *]); have t0 := keep1 hb (b := g) (o := po + q + x) (v := .int .i64 t) (by simp (maxDischargeDepth := 12) [go_sem, le1, lt1, *])))
  all_goals
    go_wp2_with fail
    go_ret
    exact ⟨rfl, by repeat (first | exact unhide HB2 | refine Below.drew ?_)⟩
theorem plP_any (a b c d : Int) (w : World) (h1 : -1000 ≤ a ∧ a ≤ 1000) (h2 : -1000 ≤ b ∧ b ≤ 1000) (h3 : -1000 ≤ c ∧ c ≤ 1000) (h4 : -1000 ≤ d ∧ d ≤ 1000) :
    Calls Try.prog 90 #[.agg #[.int .i64 a, .int .i64 b], .agg #[.int .i64 c, .int .i64 d]] w fun e w' => e = .returned (.agg #[.int .i64 (a + c), .int .i64 (b + d)]) ∧ Below w.heap.size w w' := by
  have w1 : IntKind.i64.wrap (a + c) = a + c := wrap_i (by omega) (by omega)
  have w2 : IntKind.i64.wrap (b + d) = b + d := wrap_i (by omega) (by omega)
  clear h1 h2 h3 h4
  go_enter Try.func90, Try.ntmps90
  go_wp2_with fail
  exact bodyPost_ret (v := .agg #[.int .i64 (a + c), .int .i64 (b + d)]) (by simp [results, Try.results90, go_sem]) rfl ⟨rfl, ba (ba (ba (Below.refl _ _) _) _) _⟩
/-- the column at a corner, toward a way aslant -/
theorem cwP_any (a b c d : Int) (w : World) (h1 : -500 ≤ a ∧ a ≤ 500) (h2 : -500 ≤ b ∧ b ≤ 500) (h3 : -500 ≤ c ∧ c ≤ 500) (h4 : -500 ≤ d ∧ d ≤ 500) :
    Calls Try.prog 99 #[.agg #[.int .i64 a, .int .i64 b], .agg #[.int .i64 c, .int .i64 d]] w fun e w' => e = .returned (.agg #[.int .i64 (a + min 0 c), .int .i64 (b + min 0 d)]) ∧ Below w.heap.size w w' := by
  have HP := hide (fun X => plP_any a b (min 0 c) (min 0 d) X (by omega) (by omega) (by omega) (by omega))
  clear h1 h2 h3 h4
  have HB := hide (ba (ba (ba (Below.refl w.heap.size w) (.cells #[.int .i64 a, .int .i64 b] 46)) (.cells #[.int .i64 c, .int .i64 d] 46)) (.cells #[.int .i64 0, .int .i64 0] 46))
  have HV4 := hide (vb_new ((w.alloc (.cells #[.int .i64 a, .int .i64 b] 46)).alloc (.cells #[.int .i64 c, .int .i64 d] 46)) 46 [.int .i64 0, .int .i64 0] (w.heap.size + 1 + 1) (by simp))
  have HV3 := hide ((vb_new2 w 46 [.int .i64 c, .int .i64 d] (.cells #[.int .i64 a, .int .i64 b] 46)).bel (ba (Below.refl _ _) (.cells #[.int .i64 0, .int .i64 0] 46)))
  have HV2 := hide ((vb_new1 w 46 [.int .i64 a, .int .i64 b] (.cells #[.int .i64 c, .int .i64 d] 46)).bel (ba (Below.refl _ _) (.cells #[.int .i64 0, .int .i64 0] 46)))
  go_enter Try.func99, Try.ntmps99
  go_upto_region 1 with fail
  generalize ((w.alloc (.cells #[.int .i64 a, .int .i64 b] 46)).alloc (.cells #[.int .i64 c, .int .i64 d] 46)).alloc (.cells #[.int .i64 0, .int .i64 0] 46) = Wa at *
  have k0 := (unhide HV2).cell (m := 0) rfl
  have k1 := (unhide HV2).cell (m := 1) rfl
  have p0 := (unhide HV3).cell (m := 0) rfl
  have p1 := (unhide HV3).cell (m := 1) rfl
  go_wp2_with fail
  refine (unhide HP _).mono ?_
  rintro e W2 ⟨rfl, hb2⟩
  have hv := (unhide HV4).bel hb2
  have q0 := hv.cell (m := 0) rfl
  have q1 := hv.cell (m := 1) rfl
  have qf := hv.frozen
  have HV := hide ((hv.set 0 (.int .i64 (a + min 0 c))).set 1 (.int .i64 (b + min 0 d)))
  have HB2 := hide (bc (unhide HB) hb2)
  clear hb2 hv k0 k1 p0 p1
  go_wp2_with fail
  have r0 := (unhide HV).cell (m := 0) rfl
  have r1 := (unhide HV).cell (m := 1) rfl
  exact bodyPost_ret (v := .agg #[.int .i64 (a + min 0 c), .int .i64 (b + min 0 d)]) (by simp [results, Try.results99, go_sem, r0, r1]) rfl ⟨rfl, ((unhide HB2).setCell (p := ⟨w.heap.size + 1 + 1, 0, none⟩) (by simp; omega) _).setCell (p := ⟨w.heap.size + 1 + 1, 1, none⟩) (by simp; omega) _⟩
set_option maxHeartbeats 2000000 in
/-- whether a column is above -/
theorem abP_any (W H n c g po : Nat) (T : List Int) (x y z : Int) (w : World) (hW1 : 1 ≤ W) (hW : W ≤ 24) (hH1 : 1 ≤ H) (hH : H ≤ 24) (hn : n = W * H) (hF : Fd w g po n c T) :
    Calls Try.prog 98 #[fldV (W : Int) (H : Int) (some ⟨g, po, none⟩) n c, .agg #[.int .i64 x, .int .i64 y], .int .i64 z] w fun e w' => e = .returned (.bool (Ab W H T z x y)) ∧ Below w.heap.size w w' := by
  have wW : IntKind.i64.wrap ((W : Int) - 1) = (W : Int) - 1 := wrap_i (by omega) (by omega)
  have wH : IntKind.i64.wrap ((H : Int) - 1) = (H : Int) - 1 := wrap_i (by omega) (by omega)
  have hb : Below w.heap.size w ((w.alloc (.cells #[.int .i64 (W : Int), .int .i64 (H : Int), .slice (some ⟨g, po, none⟩) n c] 25)).alloc (.cells #[.int .i64 x, .int .i64 y] 46)) := ba (ba (Below.refl _ _) _) _
  have HB := hide hb
  have HFa := hide (hF.bel hb)
  have HV1 := hide (vb_new1 w 25 [.int .i64 (W : Int), .int .i64 (H : Int), .slice (some ⟨g, po, none⟩) n c] (.cells #[.int .i64 x, .int .i64 y] 46))
  have HV2 := hide (vb_new2 w 46 [.int .i64 x, .int .i64 y] (.cells #[.int .i64 (W : Int), .int .i64 (H : Int), .slice (some ⟨g, po, none⟩) n c] 25))
  have H1 := hide (fun X => bt_any x 0 ((W : Int) - 1) X)
  have H2 := hide (fun X => bt_any y 0 ((H : Int) - 1) X)
  have HT := hide (fun (a b : Nat) X (hX : Fd X g po n c T) ha hb => tpP_any W H n c g po T a b X hW hH hn hX ha hb)
  unfold fldV at *
  clear hb hn hF
  by_cases h1 : 0 ≤ x ∧ x ≤ (W : Int) - 1
  · have e1 : (decide (0 ≤ x) && decide (x ≤ (W : Int) - 1)) = true := by simp [h1]
    rw [e1] at H1
    by_cases h2 : 0 ≤ y ∧ y ≤ (H : Int) - 1
    · have e2 : (decide (0 ≤ y) && decide (y ≤ (H : Int) - 1)) = true := by simp [h2]
      rw [e2] at H2
      obtain ⟨a, rfl⟩ := Int.eq_ofNat_of_zero_le h1.1
      obtain ⟨b, rfl⟩ := Int.eq_ofNat_of_zero_le h2.1
      have ha : a < W := by omega
      have hb : b < H := by omega
      rw [Ab_at ha hb]
      have HT2 := hide (fun X hX => unhide HT a b X hX ha hb)
      generalize tp T (b * W + a) = t at *
      clear HT h1 h2
      go_enter Try.func98, Try.ntmps98
      go_upto_region 1 with fail
      generalize (w.alloc (.cells #[.int .i64 (W : Int), .int .i64 (H : Int), .slice (some ⟨g, po, none⟩) n c] 25)).alloc (.cells #[.int .i64 (a : Int), .int .i64 (b : Int)] 46) = Wa at *
      have k0 := (unhide HV1).cell (m := 0) rfl
      have k1 := (unhide HV1).cell (m := 1) rfl
      have k2 := (unhide HV1).cell (m := 2) rfl
      have p0 := (unhide HV2).cell (m := 0) rfl
      have p1 := (unhide HV2).cell (m := 1) rfl
      go_wp2_with fail
      refine (unhide H1 _).mono ?_
      rintro e w' ⟨rfl, rfl⟩
      go_wp2_with fail
      refine (unhide H2 _).mono ?_
      rintro e w' ⟨rfl, rfl⟩
      go_wp2_with fail
      refine (unhide HT2 _ (unhide HFa)).mono ?_
      rintro e W2 ⟨rfl, hb2⟩
      have HB2 := hide (bc (unhide HB) hb2)
      clear hb2 k0 k1 k2 p0 p1
      go_wp2_with fail
      go_ret
      exact ⟨rfl, unhide HB2⟩
    · have e2 : (decide (0 ≤ y) && decide (y ≤ (H : Int) - 1)) = false := by rw [Bool.eq_false_iff]; simp; omega
      rw [e2] at H2
      rw [Ab_out (by omega)]
      clear HT h1 h2
      go_enter Try.func98, Try.ntmps98
      go_upto_region 1 with fail
      generalize (w.alloc (.cells #[.int .i64 (W : Int), .int .i64 (H : Int), .slice (some ⟨g, po, none⟩) n c] 25)).alloc (.cells #[.int .i64 x, .int .i64 y] 46) = Wa at *
      have k0 := (unhide HV1).cell (m := 0) rfl
      have k1 := (unhide HV1).cell (m := 1) rfl
      have p0 := (unhide HV2).cell (m := 0) rfl
      have p1 := (unhide HV2).cell (m := 1) rfl
      go_wp2_with fail
      refine (unhide H1 _).mono ?_
      rintro e w' ⟨rfl, rfl⟩
      go_wp2_with fail
      refine (unhide H2 _).mono ?_
      rintro e w' ⟨rfl, rfl⟩
      go_wp2_with fail
      go_ret
      exact ⟨rfl, unhide HB⟩
  · have e1 : (decide (0 ≤ x) && decide (x ≤ (W : Int) - 1)) = false := by rw [Bool.eq_false_iff]; simp; omega
    rw [e1] at H1
    rw [Ab_out (by omega)]
    clear HT h1
    go_enter Try.func98, Try.ntmps98
    go_upto_region 1 with fail
    generalize (w.alloc (.cells #[.int .i64 (W : Int), .int .i64 (H : Int), .slice (some ⟨g, po, none⟩) n c] 25)).alloc (.cells #[.int .i64 x, .int .i64 y] 46) = Wa at *
    have k0 := (unhide HV1).cell (m := 0) rfl
    have p0 := (unhide HV2).cell (m := 0) rfl
    go_wp2_with fail
    refine (unhide H1 _).mono ?_
    rintro e w' ⟨rfl, rfl⟩
    go_wp2_with fail
    go_ret
    exact ⟨rfl, unhide HB⟩
end Go.Proofs.Ytjhldjojkaphkaa
