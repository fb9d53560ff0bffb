/-
  The model's steps of an axis: what is told of each point, then what the rules say.
-/
import Derived.Test.YtchdmigeopmacaaOwn
namespace Go.Proofs.Ytchdmigeopmacaa
open Go.ChangeShapes Go.WideShapes Go.ChangeAt Go.RowKit
set_option linter.unusedVariables false
set_option linter.unusedSimpArgs false

theorem info95 : (Try.prog.info? 91).map (fun i => (i.zero, i.size, i.bytes)) = some (some (.agg #[.int .i64 0, .int .i64 0, .int .i64 0]), 3, 24) := by kernel_rfl

theorem okr_bd {n k a b m : Int} (h : ruOk n (k, a, b, m) = true) : 0 ≤ a ∧ 0 ≤ b ∧ -100000 ≤ m ∧ m ≤ 100000 := by
  obtain ⟨_, h2, h3, h4⟩ := of_decide_eq_true h
  simp only at h2 h3 h4
  refine ⟨h2.1, ?_, ?_⟩
  · split at h3 <;> omega
  · split at h4 <;> omega

theorem ruS_1 {N : Nat} {axis k a b m : Int} (h : k = 1 + axis) (ha : 0 ≤ a) (hb : 0 ≤ b) : flat (ruS N axis (k, a, b, m)) = [(N : Int), a, m, a, (N : Int), -m] ∧ (ruS N axis (k, a, b, m)).length = 2 := by
  unfold ruS
  rw [if_pos h]
  simp [flat, Int.toNat_of_nonneg ha]
theorem ruS_3 {N : Nat} {axis k a b m : Int} (h : k = 3 + axis) (ha : 0 ≤ a) (hb : 0 ≤ b) : flat (ruS N axis (k, a, b, m)) = [a, b, m, b, a, -m] ∧ (ruS N axis (k, a, b, m)).length = 2 := by
  unfold ruS
  rw [if_neg (by simp only; omega), if_pos h]
  simp [flat, Int.toNat_of_nonneg ha, Int.toNat_of_nonneg hb]
theorem ruS_5 {N : Nat} {axis k a b m : Int} (h : k = 5 + axis) (ha : 0 ≤ a) (hb : 0 ≤ b) : flat (ruS N axis (k, a, b, m)) = [a, b, m] ∧ (ruS N axis (k, a, b, m)).length = 1 := by
  unfold ruS
  rw [if_neg (by simp only; omega), if_neg (by simp only; omega), if_pos h]
  simp [flat, Int.toNat_of_nonneg ha, Int.toNat_of_nonneg hb]
theorem ruS_7 {N : Nat} {axis k a b m : Int} (hx : axis ≤ 1) (h : k = 7 + axis ∨ k = 9) (ha : 0 ≤ a) (hb : 0 ≤ b) : flat (ruS N axis (k, a, b, m)) = [a, b, 0, b, a, 0] ∧ (ruS N axis (k, a, b, m)).length = 2 := by
  unfold ruS
  rw [if_neg (by simp only; omega), if_neg (by simp only; omega), if_neg (by simp only; omega), if_pos h]
  simp [flat, Int.toNat_of_nonneg ha, Int.toNat_of_nonneg hb]
theorem ruS_0 {N : Nat} {axis k a b m : Int} (h1 : ¬ k = 1 + axis) (h3 : ¬ k = 3 + axis) (h5 : ¬ k = 5 + axis) (h7 : ¬ k = 7 + axis) (h9 : ¬ k = 9) : ruS N axis (k, a, b, m) = [] := by
  unfold ruS
  rw [if_neg h1, if_neg h3, if_neg h5, if_neg (by simp only; omega)]

set_option maxHeartbeats 4000000 in
set_option maxRecDepth 100000 in
theorem steps_any (N : Nat) (axis : Int) (u uk : Option Addr) (p po l c q qo K ck : Nat) (rs : List Ru) (ks : List Nat) (w : World) (h1 : 1 ≤ N) (h2 : N ≤ 24) (hax : 0 ≤ axis) (hax1 : axis ≤ 1)
    (HL : Hid (rs.length = l)) (hl : l ≤ 60) (HKL : Hid (ks.length = K)) (hK : K ≤ 60)
    (HX : Hid (l ≠ 0 → u = some ⟨p, po, none⟩ ∧ p < w.heap.size ∧ RusAt w p po rs))
    (HY : Hid (K ≠ 0 → uk = some ⟨q, qo, none⟩ ∧ q < w.heap.size ∧ IntsAt w q qo (nats ks)))
    (HKS : Hid (∀ j ∈ ks, j < rs.length)) (HOK : Hid (∀ r ∈ rs, ruOk (N : Int) r = true)) :
    Calls Try.prog 59 #[skv (N : Int) u l c, .slice uk K ck, .int .i64 axis] w fun e w' => ∃ v, e = .returned v ∧ Row w' (w.heap.size + 1) 91 3 v (stepsM N axis (pick rs ks)).length (flat (stepsM N axis (pick rs ks))) ∧ Below w.heap.size w w' := by
  obtain ⟨i0, hi, hz0, hz1, hz2⟩ := info_parts info95
  go_enter Try.func59, Try.ntmps59
  go_wp2_with fail
  go_loopw [8, 9] (fun v s W => ∃ i : Nat, s = .int .i64 (i : Int) ∧ i ≤ N ∧ Row W (w.heap.size + 1) 91 3 v (2 * i) (flat (preS N i)) ∧ W.cell? ⟨w.heap.size, 0, none⟩ = some (.int .i64 (N : Int)) ∧ W.cell? ⟨w.heap.size, 1, none⟩ = some (.slice u l c) ∧ Below w.heap.size w W) (fun _ s _ => N - (intOf s).toNat)
  case atStart => exact ⟨0, rfl, Nat.zero_le _, row_made _ 91 _ 3 (by simp) _ (by simp), by simp [go_sem], by simp [go_sem], ba (ba (Below.refl _ _) _) _⟩
  case round =>
    obtain ⟨i, rfl, hiN, hrow, z0, z1, hw⟩ := hrel
    have HW := hide hw
    have HR := hide hrow
    have lt0 := cell_lt z0
    clear hw hrow
    by_cases h : i < N
    · have i1 : (i : Int) < (N : Int) := by omega
      have iz : decide ((i : Int) < (N : Int)) = true := decide_eq_true i1
      go_wp2_with (at_builtin; refine wpList_append_own _ rfl _ _ 88 rfl (w.heap.size + 1) 91 i0 _ 3 24 Try.underlying88 hi hz0 hz1 hz2 rfl (by decide) _ _ _ rfl ((unhide HR).alloc _) ⟨wr.heap.size, 0, none⟩ 2 2 ([(N : Int), (i : Int), 0, (i : Int), (N : Int), -100000].map (Value.int .i64)) rfl rfl (news_cells _ _ rfl) ints_one ?c3 ?c4 ?c5 ?_)
      case c3 => unfold maxLen; omega
      case c4 => omega
      case c5 => simp; omega
      intro v' w1 hown' hgrow _
      have R := hide (own_more (wr := wr) (news := [(N : Int), (i : Int), 0, (i : Int), (N : Int), -100000]) (by repeat (first | exact Below.refl _ _ | refine Below.alloc ?_ (by first | omega | (simp; omega)) _ | refine Below.drew ?_)) (by simp; omega) (unhide HR) hown' hgrow)
      have y0 := (unhide R).2.cell (p := ⟨w.heap.size, 0, none⟩) (by simp)
      have y1 := (unhide R).2.cell (p := ⟨w.heap.size, 1, none⟩) (by simp)
      rw [z0] at y0
      rw [z1] at y1
      clear hown' hgrow
      go_wp2_with fail
      go_roundw
      case rel =>
        refine ⟨i + 1, by simp, h, ?_, y0, y1, (unhide HW).trans ((unhide R).2.mono (by omega))⟩
        have := (unhide R).1
        rw [preS_succ, flat_append]
        exact this
      case measure => simp only [intOf]; omega
    · have i1 : ¬ (i : Int) < (N : Int) := by omega
      have iz : decide ((i : Int) < (N : Int)) = false := decide_eq_false i1
      have en : i = N := by omega
      subst en
      go_wp2_with fail
      go_loopw [8, 10] (fun v s W => ∃ j : Nat, s = .int .i64 (j : Int) ∧ j ≤ K ∧ Row W (w.heap.size + 1) 91 3 v (preS i i ++ ((pick rs ks).take j).flatMap (ruS i axis)).length (flat (preS i i ++ ((pick rs ks).take j).flatMap (ruS i axis))) ∧ (preS i i ++ ((pick rs ks).take j).flatMap (ruS i axis)).length ≤ 2 * i + 2 * j ∧ W.cell? ⟨w.heap.size, 0, none⟩ = some (.int .i64 (i : Int)) ∧ W.cell? ⟨w.heap.size, 1, none⟩ = some (.slice u l c) ∧ Below w.heap.size w W) (fun _ s _ => K - (intOf s).toNat)
      case atStart =>
        refine ⟨0, rfl, Nat.zero_le _, ?_, ?_, z0, z1, unhide HW⟩
        · have := unhide HR
          simpa [preS_len] using this
        · simp [preS_len]
      case round =>
        obtain ⟨j, rfl, hjK, hrow, hle, z0, z1, hw⟩ := hrel
        have HW := hide hw
        have HR := hide hrow
        have HLE := hide hle
        have lt0 := cell_lt z0
        clear hw hrow hle
        by_cases hj : j < K
        · have j1 : (j : Int) < (K : Int) := by omega
          have j0 : (0 : Int) ≤ (j : Int) := Int.natCast_nonneg _
          have jz : decide ((j : Int) < (K : Int)) = true := decide_eq_true j1
          obtain ⟨rfl, qw, qa⟩ := unhide HY (by omega)
          obtain ⟨κ, hκ⟩ : ∃ κ, ks[j]? = some κ := ⟨ks[j]'(by rw [unhide HKL]; exact hj), List.getElem?_eq_getElem _⟩
          have κl : κ < l := by rw [← unhide HL]; exact unhide HKS κ (List.mem_of_getElem? hκ)
          have κ1 : (κ : Int) < (l : Int) := by omega
          have κ0 : (0 : Int) ≤ (κ : Int) := Int.natCast_nonneg _
          obtain ⟨rfl, pw, pa⟩ := unhide HX (by omega)
          have kc := (qa.below (unhide HW) qw) j _ (nats_at hκ)
          obtain ⟨⟨k, a, b, m⟩, hr⟩ : ∃ r, rs[κ]? = some r := ⟨rs[κ]'(by rw [unhide HL]; exact κl), List.getElem?_eq_getElem _⟩
          obtain ⟨k0, k1, k2, k3⟩ := (pa.bel (unhide HW) pw) κ _ hr
          have HOKR := hide (okr_bd (unhide HOK _ (List.mem_of_getElem? hr)))
          have HTK := hide (pick_take rs ks j κ (k, a, b, m) i axis hκ hr)
          simp only at k0 k1 k2 k3
          clear pa hr pw qa qw hκ
          have ltq := cell_lt kc
          have ltp := cell_lt k0
          obtain ⟨ok1, ok2, ok3⟩ := unhide HOKR
          have wax1 : IntKind.i64.wrap (1 + axis) = 1 + axis := wrap_i (by omega) (by omega)
          have wax3 : IntKind.i64.wrap (3 + axis) = 3 + axis := wrap_i (by omega) (by omega)
          have wax5 : IntKind.i64.wrap (5 + axis) = 5 + axis := wrap_i (by omega) (by omega)
          have wax7 : IntKind.i64.wrap (7 + axis) = 7 + axis := wrap_i (by omega) (by omega)
          have wm : IntKind.i64.wrap (-m) = -m := wrap_i (by omega) (by omega)
          by_cases c1 : k = 1 + axis
          · have f1 : (k == 1 + axis) = true := by simp [c1]
            have HN := hide (ruS_1 (N := i) (m := m) c1 ok1 ok2)
            clear c1
            go_wp2_with fail
            go_region
            all_goals
              go_wp2_with (at_builtin; refine unhide ?_)
              refine hide ?_
              refine wpList_append_own _ rfl _ _ 88 rfl (w.heap.size + 1) 91 i0 _ 3 24 Try.underlying88 hi hz0 hz1 hz2 rfl (by decide) _ _ _ rfl (((unhide HR).alloc _).alloc _).drew _ 2 2 ([(i : Int), a, m, a, (i : Int), -m].map (Value.int .i64)) rfl rfl (by first | exact news_drew _ _ (by simp) | exact news_cells _ _ (by simp)) ints_one (by unfold maxLen; have := unhide HLE; omega) (by have := unhide HLE; omega) (by simp; omega) ?_
              intro v' w1 hown' hgrow _
              have R := hide (own_more (wr := wr) (news := [(i : Int), a, m, a, (i : Int), -m]) (by repeat (first | exact Below.refl _ _ | refine Below.alloc ?_ (by first | omega | (simp; omega)) _ | refine Below.drew ?_)) (by simp; omega) (unhide HR) hown' hgrow)
              have R2 := hide (unhide R).2
              have y0 := (unhide R2).cell (p := ⟨w.heap.size, 0, none⟩) (by simp)
              have y1 := (unhide R2).cell (p := ⟨w.heap.size, 1, none⟩) (by simp)
              rw [z0] at y0
              rw [z1] at y1
              clear hown' hgrow
              go_wp2_with fail
              go_roundw
              case rel =>
                refine ⟨j + 1, by simp, hj, ?_, ?_, y0, y1, (unhide HW).trans ((unhide R2).mono (by omega))⟩
                · have h1 := (unhide R).1
                  rw [unhide HTK, ← List.append_assoc, flat_append, (unhide HN).1, List.length_append, (unhide HN).2]
                  exact h1
                · have := unhide HLE
                  rw [unhide HTK, ← List.append_assoc, List.length_append, (unhide HN).2]
                  omega
              case measure => simp only [intOf]; omega
          · have f1 : (k == 1 + axis) = false := by simp [c1]
            by_cases c3 : k = 3 + axis
            · have f3 : (k == 3 + axis) = true := by simp [c3]
              have HN := hide (ruS_3 (N := i) (m := m) c3 ok1 ok2)
              clear c1 c3
              go_wp2_with fail
              go_region
              all_goals
                go_wp2_with (at_builtin; refine unhide ?_)
                refine hide ?_
                refine wpList_append_own _ rfl _ _ 88 rfl (w.heap.size + 1) 91 i0 _ 3 24 Try.underlying88 hi hz0 hz1 hz2 rfl (by decide) _ _ _ rfl (((unhide HR).alloc _).alloc _).drew _ 2 2 ([a, b, m, b, a, -m].map (Value.int .i64)) rfl rfl (by first | exact news_drew _ _ (by simp) | exact news_cells _ _ (by simp)) ints_one (by unfold maxLen; have := unhide HLE; omega) (by have := unhide HLE; omega) (by simp; omega) ?_
                intro v' w1 hown' hgrow _
                have R := hide (own_more (wr := wr) (news := [a, b, m, b, a, -m]) (by repeat (first | exact Below.refl _ _ | refine Below.alloc ?_ (by first | omega | (simp; omega)) _ | refine Below.drew ?_)) (by simp; omega) (unhide HR) hown' hgrow)
                have R2 := hide (unhide R).2
                have y0 := (unhide R2).cell (p := ⟨w.heap.size, 0, none⟩) (by simp)
                have y1 := (unhide R2).cell (p := ⟨w.heap.size, 1, none⟩) (by simp)
                rw [z0] at y0
                rw [z1] at y1
                clear hown' hgrow
                go_wp2_with fail
                go_roundw
                case rel =>
                  refine ⟨j + 1, by simp, hj, ?_, ?_, y0, y1, (unhide HW).trans ((unhide R2).mono (by omega))⟩
                  · have h1 := (unhide R).1
                    rw [unhide HTK, ← List.append_assoc, flat_append, (unhide HN).1, List.length_append, (unhide HN).2]
                    exact h1
                  · have := unhide HLE
                    rw [unhide HTK, ← List.append_assoc, List.length_append, (unhide HN).2]
                    omega
                case measure => simp only [intOf]; omega
            · have f3 : (k == 3 + axis) = false := by simp [c3]
              by_cases c5 : k = 5 + axis
              · have f5 : (k == 5 + axis) = true := by simp [c5]
                have HN := hide (ruS_5 (N := i) (m := m) c5 ok1 ok2)
                clear c1 c3 c5
                go_wp2_with fail
                go_region
                all_goals
                  go_wp2_with (at_builtin; refine unhide ?_)
                  refine hide ?_
                  refine wpList_append_own _ rfl _ _ 88 rfl (w.heap.size + 1) 91 i0 _ 3 24 Try.underlying88 hi hz0 hz1 hz2 rfl (by decide) _ _ _ rfl (((unhide HR).alloc _).alloc _).drew _ 1 1 ([a, b, m].map (Value.int .i64)) rfl rfl (by first | exact news_drew _ _ (by simp) | exact news_cells _ _ (by simp)) ints_one (by unfold maxLen; have := unhide HLE; omega) (by have := unhide HLE; omega) (by simp; omega) ?_
                  intro v' w1 hown' hgrow _
                  have R := hide (own_more (wr := wr) (news := [a, b, m]) (by repeat (first | exact Below.refl _ _ | refine Below.alloc ?_ (by first | omega | (simp; omega)) _ | refine Below.drew ?_)) (by simp; omega) (unhide HR) hown' hgrow)
                  have R2 := hide (unhide R).2
                  have y0 := (unhide R2).cell (p := ⟨w.heap.size, 0, none⟩) (by simp)
                  have y1 := (unhide R2).cell (p := ⟨w.heap.size, 1, none⟩) (by simp)
                  rw [z0] at y0
                  rw [z1] at y1
                  clear hown' hgrow
                  go_wp2_with fail
                  go_roundw
                  case rel =>
                    refine ⟨j + 1, by simp, hj, ?_, ?_, y0, y1, (unhide HW).trans ((unhide R2).mono (by omega))⟩
                    · have h1 := (unhide R).1
                      rw [unhide HTK, ← List.append_assoc, flat_append, (unhide HN).1, List.length_append, (unhide HN).2]
                      exact h1
                    · have := unhide HLE
                      rw [unhide HTK, ← List.append_assoc, List.length_append, (unhide HN).2]
                      omega
                  case measure => simp only [intOf]; omega
              · have f5 : (k == 5 + axis) = false := by simp [c5]
                by_cases c7 : k = 7 + axis
                · have f7 : (k == 7 + axis) = true := by simp [c7]
                  have HN := hide (ruS_7 (N := i) (m := m) hax1 (.inl c7) ok1 ok2)
                  clear c1 c3 c5 c7
                  go_wp2_with fail
                  go_region
                  all_goals
                    go_wp2_with (at_builtin; refine unhide ?_)
                    refine hide ?_
                    refine wpList_append_own _ rfl _ _ 88 rfl (w.heap.size + 1) 91 i0 _ 3 24 Try.underlying88 hi hz0 hz1 hz2 rfl (by decide) _ _ _ rfl (((unhide HR).alloc _).alloc _).drew _ 2 2 ([a, b, 0, b, a, 0].map (Value.int .i64)) rfl rfl (by first | exact news_drew _ _ (by simp) | exact news_cells _ _ (by simp)) ints_one (by unfold maxLen; have := unhide HLE; omega) (by have := unhide HLE; omega) (by simp; omega) ?_
                    intro v' w1 hown' hgrow _
                    have R := hide (own_more (wr := wr) (news := [a, b, 0, b, a, 0]) (by repeat (first | exact Below.refl _ _ | refine Below.alloc ?_ (by first | omega | (simp; omega)) _ | refine Below.drew ?_)) (by simp; omega) (unhide HR) hown' hgrow)
                    have R2 := hide (unhide R).2
                    have y0 := (unhide R2).cell (p := ⟨w.heap.size, 0, none⟩) (by simp)
                    have y1 := (unhide R2).cell (p := ⟨w.heap.size, 1, none⟩) (by simp)
                    rw [z0] at y0
                    rw [z1] at y1
                    clear hown' hgrow
                    go_wp2_with fail
                    go_roundw
                    case rel =>
                      refine ⟨j + 1, by simp, hj, ?_, ?_, y0, y1, (unhide HW).trans ((unhide R2).mono (by omega))⟩
                      · have h1 := (unhide R).1
                        rw [unhide HTK, ← List.append_assoc, flat_append, (unhide HN).1, List.length_append, (unhide HN).2]
                        exact h1
                      · have := unhide HLE
                        rw [unhide HTK, ← List.append_assoc, List.length_append, (unhide HN).2]
                        omega
                    case measure => simp only [intOf]; omega
                · have f7 : (k == 7 + axis) = false := by simp [c7]
                  by_cases c9 : k = 9
                  · have f9 : (k == 9) = true := by simp [c9]
                    have HN := hide (ruS_7 (N := i) (m := m) hax1 (.inr c9) ok1 ok2)
                    clear c1 c3 c5 c7 c9
                    go_wp2_with fail
                    go_region
                    all_goals
                      go_wp2_with (at_builtin; refine unhide ?_)
                      refine hide ?_
                      refine wpList_append_own _ rfl _ _ 88 rfl (w.heap.size + 1) 91 i0 _ 3 24 Try.underlying88 hi hz0 hz1 hz2 rfl (by decide) _ _ _ rfl (((unhide HR).alloc _).alloc _).drew _ 2 2 ([a, b, 0, b, a, 0].map (Value.int .i64)) rfl rfl (by first | exact news_drew _ _ (by simp) | exact news_cells _ _ (by simp)) ints_one (by unfold maxLen; have := unhide HLE; omega) (by have := unhide HLE; omega) (by simp; omega) ?_
                      intro v' w1 hown' hgrow _
                      have R := hide (own_more (wr := wr) (news := [a, b, 0, b, a, 0]) (by repeat (first | exact Below.refl _ _ | refine Below.alloc ?_ (by first | omega | (simp; omega)) _ | refine Below.drew ?_)) (by simp; omega) (unhide HR) hown' hgrow)
                      have R2 := hide (unhide R).2
                      have y0 := (unhide R2).cell (p := ⟨w.heap.size, 0, none⟩) (by simp)
                      have y1 := (unhide R2).cell (p := ⟨w.heap.size, 1, none⟩) (by simp)
                      rw [z0] at y0
                      rw [z1] at y1
                      clear hown' hgrow
                      go_wp2_with fail
                      go_roundw
                      case rel =>
                        refine ⟨j + 1, by simp, hj, ?_, ?_, y0, y1, (unhide HW).trans ((unhide R2).mono (by omega))⟩
                        · have h1 := (unhide R).1
                          rw [unhide HTK, ← List.append_assoc, flat_append, (unhide HN).1, List.length_append, (unhide HN).2]
                          exact h1
                        · have := unhide HLE
                          rw [unhide HTK, ← List.append_assoc, List.length_append, (unhide HN).2]
                          omega
                      case measure => simp only [intOf]; omega
                  · have f9 : (k == 9) = false := by simp [c9]
                    have HN := hide (ruS_0 (N := i) (a := a) (b := b) (m := m) c1 c3 c5 c7 c9)
                    clear c1 c3 c5 c7 c9
                    go_wp2_with fail
                    go_region
                    all_goals
                      have R2 : Hid (Below (w.heap.size + 1) wr _) := hide (show Below (w.heap.size + 1) wr (wr.alloc (.cells #[.int .i64 k, .int .i64 a, .int .i64 b, .int .i64 m] 35)) from (Below.refl _ _).alloc (by omega) _)
                      go_wp2_with fail
                      go_roundw
                      case rel =>
                        refine ⟨j + 1, by simp, hj, ?_, ?_, by first | exact z0 | exact ka z0, by first | exact z1 | exact ka z1, by repeat (first | exact unhide HW | refine Below.drew ?_ | refine ba ?_ _)⟩
                        · rw [unhide HTK, unhide HN, List.append_nil]
                          repeat (first | exact unhide HR | refine World.ownsRow.alloc ?_ _ | refine World.ownsRow.drew ?_)
                        · have := unhide HLE
                          rw [unhide HTK, unhide HN, List.append_nil]
                          omega
                      case measure => simp only [intOf]; omega
        · have j1 : ¬ (j : Int) < (K : Int) := by omega
          have jz : decide ((j : Int) < (K : Int)) = false := decide_eq_false j1
          have en : j = K := by omega
          subst en
          go_wp2_with fail
          go_ret
          refine ⟨_, rfl, ?_, unhide HW⟩
          have := unhide HR
          rw [List.take_of_length_le (by rw [pick_len, unhide HKL]; omega)] at this
          exact this
end Go.Proofs.Ytchdmigeopmacaa
