/-
  Outlines of what is no field, or at what is no height; both sides' outlines as one.
-/
import Derived.Test.YtjhldjojkaphkaaCtP
namespace Go.Proofs.Ytjhldjojkaphkaa
open Go.ChangeShapes Go.WideShapes Go.ChangeAt Go.RowKit
set_option linter.unusedVariables false
set_option linter.unusedSimpArgs false

set_option maxHeartbeats 2000000 in
theorem ctM_bad (W H : Int) (u : Option Addr) (p po n c : Nat) (T : List Int) (z : Int) (w : World) (hO : ¬ FOk W H T) (hl : T.length = n) (hn : n ≤ 9223372036854775807) (hu : Its w u p po T) :
    Calls Try.prog 16 #[fldV W H u n c, .int .i64 z] w fun e w' => (∃ v, e = .returned (.tuple #[v, .int .i64 1]) ∧ Row w' w.heap.size 46 2 v 0 []) ∧ Below w.heap.size w w' := by
  have HFO := hide (fun X (hX : Below w.heap.size w X) => fokM_any W H u p po n c T X hl hn (hu.bel hX))
  have hfo : fokB W H T = false := decide_eq_false hO
  rw [hfo] at HFO
  have HB0 := hide (ba (Below.refl w.heap.size w) (.cells #[.int .i64 W, .int .i64 H, .slice u n c] 25))
  unfold fldV at *
  clear hu hl hO hfo
  go_enter Try.func16, Try.ntmps16
  go_wp2_with fail
  refine (unhide HFO _ (unhide HB0)).mono ?_
  rintro e W1 ⟨rfl, hb1⟩
  have HB1 := hide (bc (unhide HB0) hb1)
  clear hb1
  go_wp2_with fail
  (try rw [Exit.noGoto_ret])
  refine bodyPost_ret (v := .tuple #[.slice (some ⟨W1.heap.size, 0, none⟩) 0 0, .int .i64 1]) (by simp [results, Try.results16, go_sem]) rfl ?_
  exact ⟨⟨_, rfl, row_made W1 46 w.heap.size 2 (unhide HB1).size _ rfl⟩, ba (unhide HB1) _⟩
set_option maxHeartbeats 2000000 in
theorem ctM_rng (W H : Int) (u : Option Addr) (p po n c : Nat) (T : List Int) (z : Int) (w : World) (hO : FOk W H T) (hz : ¬ (0 ≤ z ∧ z ≤ 23)) (hl : T.length = n) (hn : n ≤ 9223372036854775807) (hu : Its w u p po T) :
    Calls Try.prog 16 #[fldV W H u n c, .int .i64 z] w fun e w' => (∃ v, e = .returned (.tuple #[v, .int .i64 5]) ∧ Row w' w.heap.size 46 2 v 0 []) ∧ Below w.heap.size w w' := by
  have HFO := hide (fun X (hX : Below w.heap.size w X) => fokM_any W H u p po n c T X hl hn (hu.bel hX))
  have hfo : fokB W H T = true := decide_eq_true hO
  rw [hfo] at HFO
  have HB0 := hide (ba (Below.refl w.heap.size w) (.cells #[.int .i64 W, .int .i64 H, .slice u n c] 25))
  unfold fldV at *
  clear hu hl hO hfo
  by_cases h0 : z < 0
  · have t1 := decide_eq_true h0
    clear hz
    go_enter Try.func16, Try.ntmps16
    go_wp2_with fail
    refine (unhide HFO _ (unhide HB0)).mono ?_
    rintro e W1 ⟨rfl, hb1⟩
    have HB1 := hide (bc (unhide HB0) hb1)
    clear hb1
    go_wp2_with fail
    (try rw [Exit.noGoto_ret])
    refine bodyPost_ret (v := .tuple #[.slice (some ⟨W1.heap.size, 0, none⟩) 0 0, .int .i64 5]) (by simp [results, Try.results16, go_sem]) rfl ?_
    exact ⟨⟨_, rfl, row_made W1 46 w.heap.size 2 (unhide HB1).size _ rfl⟩, ba (unhide HB1) _⟩
  · have t1 := decide_eq_false h0
    have h1 : 24 ≤ z := by omega
    have t2 := decide_eq_true h1
    clear hz
    go_enter Try.func16, Try.ntmps16
    go_wp2_with fail
    refine (unhide HFO _ (unhide HB0)).mono ?_
    rintro e W1 ⟨rfl, hb1⟩
    have HB1 := hide (bc (unhide HB0) hb1)
    clear hb1
    go_wp2_with fail
    (try rw [Exit.noGoto_ret])
    refine bodyPost_ret (v := .tuple #[.slice (some ⟨W1.heap.size, 0, none⟩) 0 0, .int .i64 5]) (by simp [results, Try.results16, go_sem]) rfl ?_
    exact ⟨⟨_, rfl, row_made W1 46 w.heap.size 2 (unhide HB1).size _ rfl⟩, ba (unhide HB1) _⟩
theorem nil46 (w : World) (B : Nat) : Row w B 46 2 (.slice none 0 0) 0 [] := ⟨rfl, .inl ⟨rfl, rfl⟩⟩
set_option maxHeartbeats 2000000 in
theorem ctP_bad (W H : Int) (u : Option Addr) (p po n c : Nat) (T : List Int) (z : Int) (w : World) (hO : ¬ FOk W H T) (hl : T.length = n) (hn : n ≤ 9223372036854775807) (hu : Its w u p po T) :
    Calls Try.prog 15 #[fldV W H u n c, .int .i64 z] w fun e w' => (∃ v, e = .returned (.tuple #[v, .int .i64 1]) ∧ Row w' w.heap.size 46 2 v 0 []) ∧ Below w.heap.size w w' := by
  have HFO := hide (fun X (hX : Below w.heap.size w X) => fokP_any W H u p po n c T X hl hn (hu.bel hX))
  have hfo : fokB W H T = false := decide_eq_false hO
  rw [hfo] at HFO
  have HB0 := hide (ba (ba (ba (ba (Below.refl w.heap.size w) (.cells #[.int .i64 W, .int .i64 H, .slice u n c] 25)) (.cells #[.int .i64 z] 3)) (.cells #[.slice none 0 0] 41)) (.cells #[.int .i64 0] 3))
  have V4 := hide ((vb_new ((w.alloc (.cells #[.int .i64 W, .int .i64 H, .slice u n c] 25)).alloc (.cells #[.int .i64 z] 3)) 41 [.slice none 0 0] (w.heap.size + 1 + 1) (by simp)).bel (ba (Below.refl _ _) (.cells #[.int .i64 0] 3)))
  have V5 := hide (vb_new (((w.alloc (.cells #[.int .i64 W, .int .i64 H, .slice u n c] 25)).alloc (.cells #[.int .i64 z] 3)).alloc (.cells #[.slice none 0 0] 41)) 3 [.int .i64 0] (w.heap.size + 1 + 1 + 1) (by simp))
  unfold fldV at *
  clear hu hl hO hfo
  go_enter Try.func15, Try.ntmps15
  go_wp2_with fail
  refine (unhide HFO _ (unhide HB0)).mono ?_
  rintro e W1 ⟨rfl, hb1⟩
  have v4 := (unhide V4).bel hb1
  have v5 := (unhide V5).bel hb1
  have e45 : w.heap.size + 1 + 1 ≠ w.heap.size + 1 + 1 + 1 := by omega
  have U4 := hide ((v4.set 0 (.slice none 0 0)).ne (o := 0) (x := .int .i64 1) e45)
  have U5 := hide ((v5.ne (o := 0) (x := .slice none 0 0) e45.symm).set 0 (.int .i64 1))
  have c4 := v4.cell (m := 0) rfl
  have f4 := v4.frozen
  have c5 := v5.cell (m := 0) rfl
  have f5 := v5.frozen
  have HB1 := hide (bc (unhide HB0) hb1)
  clear hb1 v4 v5
  go_wp2_with fail
  have s4 := (unhide U4).cell (m := 0) rfl
  have s5 := (unhide U5).cell (m := 0) rfl
  (try rw [Exit.noGoto_ret])
  refine bodyPost_ret (v := .tuple #[.slice none 0 0, .int .i64 1]) (by simp [results, Try.results15, go_sem, s4, s5]) rfl ?_
  exact ⟨⟨_, rfl, nil46 _ _⟩, ((unhide HB1).setCell (p := ⟨w.heap.size + 1 + 1, 0, none⟩) (by simp; omega) _).setCell (p := ⟨w.heap.size + 1 + 1 + 1, 0, none⟩) (by simp; omega) _⟩
set_option maxHeartbeats 2000000 in
theorem ctP_rng (W H : Int) (u : Option Addr) (p po n c : Nat) (T : List Int) (z : Int) (w : World) (hO : FOk W H T) (hz : ¬ (0 ≤ z ∧ z ≤ 23)) (hl : T.length = n) (hn : n ≤ 9223372036854775807) (hu : Its w u p po T) :
    Calls Try.prog 15 #[fldV W H u n c, .int .i64 z] w fun e w' => (∃ v, e = .returned (.tuple #[v, .int .i64 5]) ∧ Row w' w.heap.size 46 2 v 0 []) ∧ Below w.heap.size w w' := by
  have HFO := hide (fun X (hX : Below w.heap.size w X) => fokP_any W H u p po n c T X hl hn (hu.bel hX))
  have hfo : fokB W H T = true := decide_eq_true hO
  rw [hfo] at HFO
  have HBT := hide (fun X => bt_any z 0 23 X)
  have ez : (decide (0 ≤ z) && decide (z ≤ 23)) = false := by rw [Bool.eq_false_iff]; simp; omega
  rw [ez] at HBT
  have HB0 := hide (ba (ba (ba (ba (Below.refl w.heap.size w) (.cells #[.int .i64 W, .int .i64 H, .slice u n c] 25)) (.cells #[.int .i64 z] 3)) (.cells #[.slice none 0 0] 41)) (.cells #[.int .i64 0] 3))
  have V3 := hide ((vb_new2 w 3 [.int .i64 z] (.cells #[.int .i64 W, .int .i64 H, .slice u n c] 25)).bel (ba (ba (Below.refl _ _) (.cells #[.slice none 0 0] 41)) (.cells #[.int .i64 0] 3)))
  have V4 := hide ((vb_new ((w.alloc (.cells #[.int .i64 W, .int .i64 H, .slice u n c] 25)).alloc (.cells #[.int .i64 z] 3)) 41 [.slice none 0 0] (w.heap.size + 1 + 1) (by simp)).bel (ba (Below.refl _ _) (.cells #[.int .i64 0] 3)))
  have V5 := hide (vb_new (((w.alloc (.cells #[.int .i64 W, .int .i64 H, .slice u n c] 25)).alloc (.cells #[.int .i64 z] 3)).alloc (.cells #[.slice none 0 0] 41)) 3 [.int .i64 0] (w.heap.size + 1 + 1 + 1) (by simp))
  unfold fldV at *
  clear hu hl hO hfo hz ez
  go_enter Try.func15, Try.ntmps15
  go_wp2_with fail
  refine (unhide HFO _ (unhide HB0)).mono ?_
  rintro e W1 ⟨rfl, hb1⟩
  have v3 := (unhide V3).bel hb1
  have v4 := (unhide V4).bel hb1
  have v5 := (unhide V5).bel hb1
  have e45 : w.heap.size + 1 + 1 ≠ w.heap.size + 1 + 1 + 1 := by omega
  have U4 := hide ((v4.set 0 (.slice none 0 0)).ne (o := 0) (x := .int .i64 5) e45)
  have U5 := hide ((v5.ne (o := 0) (x := .slice none 0 0) e45.symm).set 0 (.int .i64 5))
  have c3 := v3.cell (m := 0) rfl
  have c4 := v4.cell (m := 0) rfl
  have f4 := v4.frozen
  have c5 := v5.cell (m := 0) rfl
  have f5 := v5.frozen
  have HB1 := hide (bc (unhide HB0) hb1)
  clear hb1 v3 v4 v5
  go_wp2_with fail
  refine (unhide HBT _).mono ?_
  rintro e w' ⟨rfl, hq⟩
  rw [hq]
  clear hq
  go_wp2_with fail
  have s4 := (unhide U4).cell (m := 0) rfl
  have s5 := (unhide U5).cell (m := 0) rfl
  (try rw [Exit.noGoto_ret])
  refine bodyPost_ret (v := .tuple #[.slice none 0 0, .int .i64 5]) (by simp [results, Try.results15, go_sem, s4, s5]) rfl ?_
  exact ⟨⟨_, rfl, nil46 _ _⟩, ((unhide HB1).setCell (p := ⟨w.heap.size + 1 + 1, 0, none⟩) (by simp; omega) _).setCell (p := ⟨w.heap.size + 1 + 1 + 1, 0, none⟩) (by simp; omega) _⟩
/-- there is a first column above, or none -/
theorem Fst.or (W H : Nat) (T : List Int) (z : Int) : (∀ i, i < W * H → ¬ z < tp T i) ∨ ∃ x y, Fst W H T z x y := by
  by_cases h : ∃ i, i < W * H ∧ z < tp T i
  · obtain ⟨n, hn⟩ := h
    obtain ⟨k, hk, ⟨k1, k2⟩, k3⟩ := least_of (p := fun i => i < W * H ∧ z < tp T i) n hn
    have hW : 0 < W := Nat.pos_of_ne_zero (fun e => by rw [e, Nat.zero_mul] at k1; omega)
    have e : k / W * W + k % W = k := by rw [Nat.mul_comm]; exact Nat.div_add_mod k W
    refine .inr ⟨k % W, k / W, Nat.mod_lt _ hW, Nat.div_lt_of_lt_mul k1, by rw [e]; exact k2, fun u v hu hv hlt hz => ?_⟩
    rw [e] at hlt
    exact k3 _ hlt ⟨ix_lt hu hv, hz⟩
  · exact .inl (fun i hi hz => h ⟨i, hi, hz⟩)
/-- an outline's answer is one -/
theorem Otl.ex {W H : Nat} (hW : W ≤ 24) (hH : H ≤ 24) (T : List Int) (z : Int) : ∃ E L, ∃ l, l ≤ 2500 ∧ L.length = l * 2 ∧ ∀ E' L', Otl W H T z E' L' → E' = E ∧ L' = L := by
  rcases Fst.or W H T z with h | ⟨x, y, h⟩
  · exact ⟨8, [], 0, by omega, rfl, fun E' L' ho => ho.none h⟩
  · obtain ⟨K, hK⟩ := Bck.ex hW hH (Ab_in (W := W) (H := H) (T := T) (z := z)) h.ok.1
    exact ⟨0, _, ctn (Ab W H T z) ⟨(x : Int), (y : Int), 3⟩ K, Nat.le_trans (ctn_le _ _ K) hK.le, crn_len _ _ K, fun E' L' ho => ho.some x y K h hK⟩
end Go.Proofs.Ytjhldjojkaphkaa
