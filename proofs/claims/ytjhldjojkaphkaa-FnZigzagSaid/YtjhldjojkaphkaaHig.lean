/-
  The program's highest and least columns under a tool, copies of fields, fields by a tool.
-/
import Derived.Test.YtjhldjojkaphkaaUnd
import Derived.WalkSpells
namespace Go.Proofs.Ytjhldjojkaphkaa
open Go.ChangeShapes Go.WideShapes Go.ChangeAt Go.RowKit
set_option linter.unusedVariables false
set_option linter.unusedSimpArgs false

theorem Pcs.form {w : World} {B : Nat} {v : Value} {g po : Nat} {ps : List (Nat × Nat)} (h : Pcs w B v g po ps) (hv : v ≠ .slice none 0 0) :
    ∃ q cap, v = .slice (some ⟨q, 0, none⟩) ps.length cap ∧ B ≤ q ∧ q < w.heap.size ∧ ∀ j p, ps[j]? = some p → w.cell? ⟨q, j, none⟩ = some (.slice (some ⟨g, po + p.1, none⟩) p.2 p.2) := by
  have h0 := h
  rcases h.2 with ⟨h1, _⟩ | ⟨q, cap, cur, h1, h2, h3, _⟩
  · exact absurd h1 hv
  · refine ⟨q, cap, h1, h2, (Array.getElem?_eq_some_iff.1 h3).1, fun j p hj => ?_⟩
    have hc := World.ownsRow.cells h0 (g := q) (by rw [h1]; rfl) j (pcV g po p) (by rw [List.getElem?_map, hj]; rfl)
    rw [add_none, Nat.zero_add] at hc
    exact hc
theorem Same.ints {w w' : World} {g po : Nat} {T : List Int} (h : Same w w') (k : IntsAt w g po T) : IntsAt w' g po T := fun j x hj => (h.cell _).trans (k j x hj)
theorem hi_snoc (T : List Int) (cs : List Nat) (o l : Nat) (hl : 0 < l) : hi T (cs ++ List.range' o l) = max (hi T cs) ((List.range' (o + 1) (l - 1)).foldl (fun m i => max m (tp T i)) (tp T o)) := by
  unfold hi
  rw [List.foldl_append, show l = (l - 1) + 1 by omega, List.range'_succ, List.foldl_cons, foldmax_from]
  rfl
theorem lo_snoc (T : List Int) (cs : List Nat) (o l : Nat) (hl : 0 < l) : lo T (cs ++ List.range' o l) = min (lo T cs) ((List.range' (o + 1) (l - 1)).foldl (fun m i => min m (tp T i)) (tp T o)) := by
  unfold lo
  rw [List.foldl_append, show l = (l - 1) + 1 by omega, List.range'_succ, List.foldl_cons, foldmin_from]
  rfl
theorem flat_take {ps : List (Nat × Nat)} {i : Nat} {p : Nat × Nat} (h : ps[i]? = some p) : flatP (ps.take (i + 1)) = flatP (ps.take i) ++ List.range' p.1 p.2 := by
  rw [List.take_add_one, h]
  exact flatP_snoc _ _
theorem pieces_ok {W H r x y : Nat} (hr : r ≤ 3) (hx : x < W) (hy : y < H) : ∀ p ∈ pieces W H r x y, 0 < p.2 ∧ p.1 + p.2 ≤ W * H := by
  intro p hp
  unfold pieces at hp
  obtain ⟨v, hv, rfl⟩ := List.mem_map.1 hp
  rw [List.mem_range'_1] at hv
  have hvH : v < H := by unfold vf vn at hv; omega
  obtain ⟨h1, h2⟩ := piece_ok (r := r) (y := y) (v := v) hx
  have : (v + 1) * W ≤ H * W := Nat.mul_le_mul_right W hvH
  rw [Nat.add_mul] at this
  rw [Nat.mul_comm W H]
  simp only [piece]
  omega
set_option maxHeartbeats 1000000 in
theorem hgP_any (v : Value) (B g po : Nat) (ps : List (Nat × Nat)) (T : List Int) (w : World) (hp : Pcs w B v g po ps) (hv : v ≠ .slice none 0 0) (hT : IntsAt w g po T) (hr : ∀ p ∈ ps, 0 < p.2 ∧ p.1 + p.2 ≤ T.length) (hb : T.length ≤ 576) (hl : ps.length ≤ 24) :
    Calls Try.prog 38 #[v] w fun e w' => e = .returned (.int .i64 (hi T (flatP ps))) ∧ Same w w' := by
  obtain ⟨q, cap, rfl, _, hq, hc⟩ := hp.form hv
  have HC := hide hc
  have HT := hide hT
  have HR := hide hr
  obtain ⟨m, em⟩ : ∃ m, ps.length = m := ⟨_, rfl⟩
  have HM := hide em
  have HBT := hide hb
  rw [em] at hl ⊢
  clear hp hv hT hr hc em
  have m0 : (0 : Int) ≤ (m : Int) := Int.natCast_nonneg _
  go_enter Try.func38, Try.ntmps38
  go_wp2_with fail
  go_loopw [3, 8] (fun zm z X => ∃ i : Nat, z = .int .i64 (i : Int) ∧ i ≤ m ∧ zm = .int .i64 (hi T (flatP (ps.take i))) ∧ Same w X) (fun _ z _ => m - (intOf z).toNat)
  case atStart => exact ⟨0, rfl, Nat.zero_le _, rfl, Same.refl _⟩
  case round =>
    obtain ⟨i, rfl, hii, rfl, hw⟩ := hrel
    have HW := hide hw
    by_cases h : i < m
    · have i1 : (i : Int) < (m : Int) := by omega
      have i0 : (0 : Int) ≤ (i : Int) := Int.natCast_nonneg _
      have iz : decide ((i : Int) < (m : Int)) = true := decide_eq_true i1
      obtain ⟨⟨o, l⟩, hx⟩ := get_some (unhide HM) h
      have ck := (unhide HC) i (o, l) hx
      rw [← hw.cell] at ck
      simp only at ck
      have HP := hide ((unhide HR) _ (List.mem_of_getElem? hx))
      have HN : Hid (hi T (flatP (ps.take (i + 1))) = max (hi T (flatP (ps.take i))) ((List.range' (o + 1) (l - 1)).foldl (fun m i => max m (tp T i)) (tp T o))) := hide (by rw [flat_take hx]; exact hi_snoc T _ o l (unhide HP).1)
      have HX := hide (fun (X : World) (hX : Same w X) => mxP_any g po o l l T X (hX.ints (unhide HT)) (unhide HP).1 (unhide HP).2 (unhide HBT))
      generalize hi T (flatP (ps.take i)) = mm at *
      generalize (List.range' (o + 1) (l - 1)).foldl (fun m i => max m (tp T i)) (tp T o) = xx at *
      clear hw hx
      go_wp2_with fail
      refine (unhide HX _ (unhide HW)).mono ?_
      rintro e W2 ⟨rfl, hs⟩
      have HW2 := hide ((unhide HW).trans hs)
      clear hs ck
      go_wp2_with fail
      go_roundw
      case rel => exact ⟨i + 1, by simp, h, by rw [unhide HN]; first | done | rfl, unhide HW2⟩
      case measure => simp only [intOf]; omega
    · have iz : decide ((i : Int) < (m : Int)) = false := decide_eq_false (by omega)
      obtain rfl : i = m := by omega
      have HE : Hid (ps.take i = ps) := hide (List.take_of_length_le (by rw [unhide HM]; omega))
      clear hw
      go_wp2_with fail
      go_ret
      exact ⟨by rw [unhide HE]; first | done | rfl, unhide HW⟩
set_option maxHeartbeats 1000000 in
theorem lgP_any (v : Value) (B g po : Nat) (ps : List (Nat × Nat)) (T : List Int) (w : World) (hp : Pcs w B v g po ps) (hv : v ≠ .slice none 0 0) (hT : IntsAt w g po T) (hr : ∀ p ∈ ps, 0 < p.2 ∧ p.1 + p.2 ≤ T.length) (hb : T.length ≤ 576) (hl : ps.length ≤ 24) :
    Calls Try.prog 49 #[v] w fun e w' => e = .returned (.int .i64 (lo T (flatP ps))) ∧ Same w w' := by
  obtain ⟨q, cap, rfl, _, hq, hc⟩ := hp.form hv
  have HC := hide hc
  have HT := hide hT
  have HR := hide hr
  obtain ⟨m, em⟩ : ∃ m, ps.length = m := ⟨_, rfl⟩
  have HM := hide em
  have HBT := hide hb
  rw [em] at hl ⊢
  clear hp hv hT hr hc em
  have m0 : (0 : Int) ≤ (m : Int) := Int.natCast_nonneg _
  go_enter Try.func49, Try.ntmps49
  go_wp2_with fail
  go_loopw [3, 8] (fun zm z X => ∃ i : Nat, z = .int .i64 (i : Int) ∧ i ≤ m ∧ zm = .int .i64 (lo T (flatP (ps.take i))) ∧ Same w X) (fun _ z _ => m - (intOf z).toNat)
  case atStart => exact ⟨0, rfl, Nat.zero_le _, rfl, Same.refl _⟩
  case round =>
    obtain ⟨i, rfl, hii, rfl, hw⟩ := hrel
    have HW := hide hw
    by_cases h : i < m
    · have i1 : (i : Int) < (m : Int) := by omega
      have i0 : (0 : Int) ≤ (i : Int) := Int.natCast_nonneg _
      have iz : decide ((i : Int) < (m : Int)) = true := decide_eq_true i1
      obtain ⟨⟨o, l⟩, hx⟩ := get_some (unhide HM) h
      have ck := (unhide HC) i (o, l) hx
      rw [← hw.cell] at ck
      simp only at ck
      have HP := hide ((unhide HR) _ (List.mem_of_getElem? hx))
      have HN : Hid (lo T (flatP (ps.take (i + 1))) = min (lo T (flatP (ps.take i))) ((List.range' (o + 1) (l - 1)).foldl (fun m i => min m (tp T i)) (tp T o))) := hide (by rw [flat_take hx]; exact lo_snoc T _ o l (unhide HP).1)
      have HX := hide (fun (X : World) (hX : Same w X) => mnP_any g po o l l T X (hX.ints (unhide HT)) (unhide HP).1 (unhide HP).2 (unhide HBT))
      generalize lo T (flatP (ps.take i)) = mm at *
      generalize (List.range' (o + 1) (l - 1)).foldl (fun m i => min m (tp T i)) (tp T o) = xx at *
      clear hw hx
      go_wp2_with fail
      refine (unhide HX _ (unhide HW)).mono ?_
      rintro e W2 ⟨rfl, hs⟩
      have HW2 := hide ((unhide HW).trans hs)
      clear hs ck
      go_wp2_with fail
      go_roundw
      case rel => exact ⟨i + 1, by simp, h, by rw [unhide HN]; first | done | rfl, unhide HW2⟩
      case measure => simp only [intOf]; omega
    · have iz : decide ((i : Int) < (m : Int)) = false := decide_eq_false (by omega)
      obtain rfl : i = m := by omega
      have HE : Hid (ps.take i = ps) := hide (List.take_of_length_le (by rw [unhide HM]; omega))
      clear hw
      go_wp2_with fail
      go_ret
      exact ⟨by rw [unhide HE]; first | done | rfl, unhide HW⟩
theorem row_cells {w : World} {g po : Nat} {T : List Int} (h : IntsAt w g po T) : ∀ (j : Nat) (x : Value), (T.map (Value.int .i64))[j]? = some x → w.cell? ((⟨g, po, none⟩ : Addr).add j) = some x := by
  intro j x hj
  rw [List.getElem?_map] at hj
  obtain ⟨y, hy, rfl⟩ := Option.map_eq_some_iff.1 hj
  rw [add_none]
  exact h j y hy
set_option maxHeartbeats 1000000 in
set_option maxRecDepth 100000 in
theorem clP_any (g po n c : Nat) (T : List Int) (w : World) (hF : Fd w g po n c T) (hn : n ≤ 576) :
    Calls Try.prog 80 #[.slice (some ⟨g, po, none⟩) n c] w fun e w' => (∃ q cap, e = .returned (.slice (some ⟨q, 0, none⟩) n cap) ∧ Row w' w.heap.size 3 1 (.slice (some ⟨q, 0, none⟩) n cap) n T) ∧ Below w.heap.size w w' := by
  obtain ⟨iP, hi1, hy0, hy1, hy2⟩ := info_parts int_info3
  have HF := hide hF
  have H0 : Hid ((w.alloc (.cells #[] 3)).ownsRow w.heap.size 3 1 (.slice (some ⟨w.heap.size, 0, none⟩) 0 0) 0 []) := hide (World.ownsRow_made w #[] 0 (Nat.le_refl _) (by decide) (by simp))
  have hnil : ∀ W : World, (binOp .eql 23 (.slice (some ⟨g, po, none⟩) n c) (.slice none 0 0)).run Try.prog W = .ok (.bool false) W := fun W => Lib.run_eql_slice_nil W _ _ _ _ _ _ _ Try.underlying23
  clear hF
  go_enter Try.func80, Try.ntmps80
  go_wp2_with (at_builtin; refine unhide ?_)
  refine hide ?_
  refine wpList_append_own _ rfl _ _ 23 rfl w.heap.size 3 iP _ 1 8 Try.underlying23 hi1 hy0 hy1 hy2 rfl (by decide) (.slice (some ⟨w.heap.size, 0, none⟩) 0 0) 0 [] rfl (unhide H0) ⟨g, po, none⟩ n c (T.map (Value.int .i64)) rfl (by rw [List.length_map, (unhide HF).len, Nat.mul_one]) (row_cells ((unhide HF).ints.below (ba (Below.refl _ _) _) (unhide HF).lt)) ints_one (by unfold maxLen; omega) (by omega) (by simp) ?_
  intro v' wz hown' hgrow hvn
  rw [Nat.zero_add, List.nil_append] at hown'
  have hb : Below w.heap.size w wz := (ba (Below.refl _ _) _).grown hgrow (by simp) (fun j hj => by simp only [Value.ownBlock, Option.some.injEq] at hj; omega)
  have hne : v' ≠ .slice none 0 0 := fun e => by have := (hvn.1 e).1; cases this
  obtain ⟨q, cap, rfl⟩ : ∃ q cap, v' = .slice (some ⟨q, 0, none⟩) n cap := by
    rcases hown'.2 with ⟨h1, _⟩ | ⟨q, cap, cur, h1, _⟩
    · exact absurd h1 hne
    · exact ⟨q, cap, h1⟩
  have HO := hide hown'
  have HB := hide hb
  clear hown' hgrow hvn hb hne
  go_wp2_with fail
  go_ret
  exact ⟨⟨q, cap, rfl, unhide HO⟩, unhide HB⟩
set_option maxHeartbeats 2000000 in
set_option maxRecDepth 100000 in
theorem cpP_any (W H : Int) (g po n c : Nat) (T : List Int) (w : World) (hF : Fd w g po n c T) (hn : n ≤ 576) :
    Calls Try.prog 44 #[fldV W H (some ⟨g, po, none⟩) n c] w fun e w' => (∃ q cap, e = .returned (fldV W H (some ⟨q, 0, none⟩) n cap) ∧ Row w' w.heap.size 3 1 (.slice (some ⟨q, 0, none⟩) n cap) n T) ∧ Below w.heap.size w w' := by
  have HC := hide (fun X (hX : Below w.heap.size w X) => clP_any g po n c T X (hF.bel hX) hn)
  have HB := hide (ba (ba (Below.refl w.heap.size w) (.cells #[.int .i64 W, .int .i64 H, .slice (some ⟨g, po, none⟩) n c] 25)) (.cells #[.int .i64 0, .int .i64 0, .slice none 0 0] 25))
  have v1 := vb_new1 w 25 [.int .i64 W, .int .i64 H, .slice (some ⟨g, po, none⟩) n c] (.cells #[.int .i64 0, .int .i64 0, .slice none 0 0] 25)
  have v2 := vb_new2 w 25 [.int .i64 0, .int .i64 0, .slice none 0 0] (.cells #[.int .i64 W, .int .i64 H, .slice (some ⟨g, po, none⟩) n c] 25)
  have HV1 := hide v1
  have HV2 := hide v2
  unfold fldV
  clear hF v1 v2
  go_enter Try.func44, Try.ntmps44
  go_wp2_with fail
  generalize hWa : (w.alloc (.cells #[.int .i64 W, .int .i64 H, .slice (some ⟨g, po, none⟩) n c] 25)).alloc (.cells #[.int .i64 0, .int .i64 0, .slice none 0 0] 25) = Wa at *
  have k0 := (unhide HV1).cell (m := 0) rfl
  have k1 := (unhide HV1).cell (m := 1) rfl
  have k2 := (unhide HV1).cell (m := 2) rfl
  have j0 := (unhide HV2).cell (m := 0) rfl
  have j1 := (unhide HV2).cell (m := 1) rfl
  have j2 := (unhide HV2).cell (m := 2) rfl
  have f2 := (unhide HV2).frozen
  clear hWa
  go_region_with (go_at_call 80; refine (unhide HC _ (by repeat (first | exact unhide HB | refine Below.drew ?_))).mono ?_; rintro e w' ⟨⟨q, cap, rfl, hro⟩, hb⟩; have HRO := hide (hro.mono (show w.heap.size + 2 ≤ _ by first | exact (unhide HV2).lt | (simp; exact (unhide HV2).lt))); have hbx := (show Below Wa.heap.size Wa w' from bc (by repeat (first | exact Below.refl _ _ | refine Below.drew ?_)) hb); have HB2 := hide (bc (unhide HB) hbx); have HW1 := hide ((unhide HV1).bel hbx); have HW2 := hide ((unhide HV2).bel hbx); have k0' := (unhide HW1).cell (m := 0) rfl; have k1' := (unhide HW1).cell (m := 1) rfl; have k2' := (unhide HW1).cell (m := 2) rfl; have j0' := (unhide HW2).cell (m := 0) rfl; have j1' := (unhide HW2).cell (m := 1) rfl; have j2' := (unhide HW2).cell (m := 2) rfl; have f2' := (unhide HW2).frozen; clear hb hbx hro)
  all_goals
    go_wp2_with fail
    refine bodyPost_ret (v := .agg #[.int .i64 W, .int .i64 H, .slice (some ⟨q, 0, none⟩) n cap]) (by simp [results, Try.results44, go_sem, k0', k1', k2', j0', j1', j2']) rfl ?_
    refine ⟨⟨q, cap, rfl, ?_⟩, ?_⟩
    · have hge := (unhide HRO).ge
      exact ((unhide HRO).kept' (fun y hy => by
        simp only [Value.ownBlock, Option.some.injEq] at hy
        subst hy
        have hne : q ≠ w.heap.size + 1 := by omega
        exact (Below.heap_setCell _ _ _ _ hne).trans ((Below.heap_setCell _ _ _ _ hne).trans (Below.heap_setCell _ _ _ _ hne)))).mono (by omega)
    · exact Below.setCell (Below.setCell (Below.setCell (unhide HB2) (Nat.le_add_right _ _) _) (Nat.le_add_right _ _) _) (Nat.le_add_right _ _) _
end Go.Proofs.Ytjhldjojkaphkaa
