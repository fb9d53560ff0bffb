/-
  The model's FlatLength at every argument.
-/
import Derived.Test.YtimkinpbimangaaFlR
namespace Go.Proofs.Ytimkinpbimangaa
open Go.ChangeShapes Go.WideShapes Go.ChangeAt Go.RowKit
set_option linter.unusedVariables false
set_option linter.unusedSimpArgs false

theorem whM_any (p : Int) (w : World) : Calls Try.prog 45 #[.int .i64 p] w fun e w' => e = .returned (.agg #[.int .i64 p, .int .i64 1]) ∧ Below w.heap.size w w' := by
  go_enter Try.func45, Try.ntmps45
  go_wp2_with fail
  exact bodyPost_ret (v := .agg #[.int .i64 p, .int .i64 1]) (by simp [results, Try.results45, go_sem]) rfl ⟨rfl, ba (Below.refl _ _) _⟩
theorem two_its (W : World) (a b : Int) (g : Nat) (hg : g = W.heap.size) : Its (W.alloc (.cells #[.int .i64 a, .int .i64 b] 3)) (some ⟨g, 0, none⟩) g 0 [a, b] := fun _ => ⟨rfl, by simp [hg], fun j x hj => by
  subst hg
  match j, hj with
  | 0, hj => simp at hj; subst hj; simp [go_sem]
  | 1, hj => simp at hj; subst hj; simp [go_sem]
  | j + 2, hj => simp at hj⟩
set_option maxHeartbeats 4000000 in
set_option maxRecDepth 100000 in
theorem flM_any (u v : Option Addr) (p po q qo n m cu cv : Nat) (ps al : List Int) (r t : Int) (w : World) (hl : ps.length = n) (hm : al.length = m) (hn : n ≤ 1048576) (hm1 : m ≤ 1048576) (hu : Its w u p po ps) (hv : Its w v q qo al) :
    Calls Try.prog 16 #[.slice u n cu, .slice v m cv, .int .i64 r, .int .i64 t] w fun e w' => e = .returned (tp3 (flA ps al r t)) ∧ Below w.heap.size w w' := by
  have n0 : (0 : Int) ≤ (n : Int) := Int.natCast_nonneg _
  have m0 : (0 : Int) ≤ (m : Int) := Int.natCast_nonneg _
  by_cases hL1 : 4096 < n
  · have HANS : Hid (flA ps al r t = (0, 0, 2)) := hide (by unfold flA; rw [hl, hm, if_pos (Or.inl hL1)])
    have tL : decide ((4096 : Int) < (n : Int)) = true := decide_eq_true (by omega)
    clear hl hm hu hv
    go_enter Try.func16, Try.ntmps16
    go_wp2_with fail
    exact bodyPost_ret (v := .tuple #[.agg #[.int .i64 0, .int .i64 0], .int .i64 2]) (by simp [results, Try.results16, go_sem]) rfl ⟨by rw [unhide HANS]; rfl, ba (Below.refl _ _) _⟩
  have tL1 : decide ((4096 : Int) < (n : Int)) = false := decide_eq_false (by omega)
  by_cases hL2 : 4096 < m
  · have HANS : Hid (flA ps al r t = (0, 0, 2)) := hide (by unfold flA; rw [hl, hm, if_pos (Or.inr hL2)])
    have tL : decide ((4096 : Int) < (m : Int)) = true := decide_eq_true (by omega)
    clear hl hm hu hv
    go_enter Try.func16, Try.ntmps16
    go_wp2_with fail
    exact bodyPost_ret (v := .tuple #[.agg #[.int .i64 0, .int .i64 0], .int .i64 2]) (by simp [results, Try.results16, go_sem]) rfl ⟨by rw [unhide HANS]; rfl, ba (Below.refl _ _) _⟩
  have tL2 : decide ((4096 : Int) < (m : Int)) = false := decide_eq_false (by omega)
  have HP := hide (fun W (hW : Below w.heap.size w W) => pnM_any u p po n cu ps W hl (by omega) (hu.bel hW))
  have HC := hide (fun W (hW : Below w.heap.size w W) => wi_any v q qo m cv al 0 180 W hm (by omega) (hv.bel hW))
  have HANS : Hid (flA ps al r t = if (pnl ps && decide ((m : Int) = (n : Int) - 1) && al.all (inR 0 180) && (inR 0 1000 r && inR 0 1000 t)) = true then lenA (lenP ps) r t al else (0, 0, 1)) := hide (by unfold flA flOk; rw [hl, hm, if_neg (by omega)]; simp only [Bool.and_assoc])
  have HU := hide hu
  have HV := hide hv
  have HL := hide hl
  have HM := hide hm
  clear hu hv hl hm
  have HW0 := hide (ba (Below.refl w.heap.size w) (.cells #[.int .i64 0, .int .i64 0] 38))
  go_enter Try.func16, Try.ntmps16
  go_wp2_with fail
  refine (unhide HP _ (unhide HW0)).mono ?_
  rintro e w' ⟨rfl, rfl⟩
  cases hq1 : pnl ps with
  | false =>
    go_wp2_with fail
    exact bodyPost_ret (v := .tuple #[.agg #[.int .i64 0, .int .i64 0], .int .i64 1]) (by simp [results, Try.results16, go_sem, *]) rfl ⟨by rw [unhide HANS, if_neg (by simp [*])]; rfl, ba (Below.refl _ _) _⟩
  | true =>
    by_cases hq2 : (m : Int) = (n : Int) - 1
    rotate_left
    · have e2 : ((m : Int) != (n : Int) - 1) = true := by simp [hq2]
      go_wp2_with fail
      exact bodyPost_ret (v := .tuple #[.agg #[.int .i64 0, .int .i64 0], .int .i64 1]) (by simp [results, Try.results16, go_sem, *]) rfl ⟨by rw [unhide HANS, if_neg (by simp [*])]; rfl, ba (Below.refl _ _) _⟩
    have e2 : ((m : Int) != (n : Int) - 1) = false := by simp [hq2]
    have HQ2 := hide hq2
    have nm : (m : Int) ≤ (n : Int) := by omega
    have d2 : decide ((m : Int) = (n : Int) - 1) = true := decide_eq_true hq2
    clear hq2
    go_wp2_with fail
    refine (unhide HC _ (unhide HW0)).mono ?_
    rintro e w' ⟨rfl, rfl⟩
    cases hq3 : al.all (inR 0 180) with
    | false =>
      go_wp2_with fail
      exact bodyPost_ret (v := .tuple #[.agg #[.int .i64 0, .int .i64 0], .int .i64 1]) (by simp [results, Try.results16, go_sem, *]) rfl ⟨by rw [unhide HANS, if_neg (by simp [*])]; rfl, ba (Below.refl _ _) _⟩
    | true =>
      go_wp2_with fail
      refine (wi_any (some ⟨w.heap.size + 1, 0, none⟩) (w.heap.size + 1) 0 2 2 [r, t] 0 1000 ((w.alloc (.cells #[.int .i64 0, .int .i64 0] 38)).alloc (.cells #[.int .i64 r, .int .i64 t] 3)) rfl (by omega) (two_its _ r t _ (by simp))).mono ?_
      rintro e w' ⟨rfl, rfl⟩
      have ert : [r, t].all (inR 0 1000) = (inR 0 1000 r && inR 0 1000 t) := by simp
      rw [ert]
      clear ert
      cases hq4 : (inR 0 1000 r && inR 0 1000 t) with
      | false =>
        go_wp2_with fail
        exact bodyPost_ret (v := .tuple #[.agg #[.int .i64 0, .int .i64 0], .int .i64 1]) (by simp [results, Try.results16, go_sem, *]) rfl ⟨by rw [unhide HANS, if_neg (by simp [*])]; rfl, ba (ba (Below.refl _ _) _) _⟩
      | true =>
        have HA2 : Hid (flA ps al r t = lenA (lenP ps) r t al) := hide (by rw [unhide HANS, hq1, hq3, hq4, d2]; rfl)
        have HPS : Hid (∀ x ∈ ps, 1 ≤ x ∧ x ≤ 1000) := hide (fun x hx => by
          unfold pnl at hq1
          simp only [Bool.and_eq_true] at hq1
          exact inR_iff.1 (List.all_eq_true.1 hq1.2 x hx))
        have HAL : Hid (∀ x ∈ al, 0 ≤ x ∧ x ≤ 180) := hide (fun x hx => inR_iff.1 (List.all_eq_true.1 hq3 x hx))
        simp only [Bool.and_eq_true] at hq4
        obtain ⟨r0, r1⟩ := inR_iff.1 hq4.1
        obtain ⟨t0, t1⟩ := inR_iff.1 hq4.2
        have HW1 := hide (ba (unhide HW0) (.cells #[.int .i64 r, .int .i64 t] 3))
        clear HANS hq1 hq3 hq4 d2 e2 HP HC
        go_wp2_with fail
        refine (whM_any 0 _).mono ?_
        rintro e W2 ⟨rfl, hW2⟩
        have z0 := keep1 hW2 (b := w.heap.size) (o := 0) (v := .int .i64 0) (by simp [go_sem])
        have z1 := keep1 hW2 (b := w.heap.size) (o := 1) (v := .int .i64 0) (by simp [go_sem])
        have zf : ∀ o, W2.frozen? ⟨w.heap.size, o, none⟩ = false := fun o => keepz hW2 (by simp; omega) (by simp [go_sem])
        have zl := cell_lt z0
        have HW2 := hide (bc (unhide HW1) hW2)
        clear hW2 HW1
        generalize hG : W2.heap.size = G
        have HG := hide hG
        have G1 : w.heap.size < G := by omega
        rw [hG] at zl
        clear hG
        go_wp2_with fail
        try rw [unhide HG]
        go_loopw [12, 11] (fun s c W => ∃ (i : Nat) (f : Fc), s = .int .i64 (i : Int) ∧ i ≤ n ∧ f = lenP (ps.take i) ∧ c = .int .i64 f.2.2 ∧ Below w.heap.size w W ∧ G + 1 ≤ W.heap.size ∧ W.cell? ⟨G, 0, none⟩ = some (.int .i64 f.1) ∧ W.cell? ⟨G, 1, none⟩ = some (.int .i64 f.2.1) ∧ (∀ o, W.frozen? ⟨G, o, none⟩ = false) ∧ W.cell? ⟨w.heap.size, 0, none⟩ = some (.int .i64 0) ∧ W.cell? ⟨w.heap.size, 1, none⟩ = some (.int .i64 0) ∧ ∀ o, W.frozen? ⟨w.heap.size, o, none⟩ = false) (fun s _ _ => n - (intOf s).toNat)
        case atStart => exact ⟨0, (0, 1, 0), rfl, Nat.zero_le _, rfl, rfl, ba (unhide HW2) _, by have := unhide HG; simp; omega, by have := unhide HG; subst this; simp [go_sem], by have := unhide HG; subst this; simp [go_sem], by have := unhide HG; subst this; simp [go_sem], ka z0, ka z1, by have := unhide HG; subst this; simp [go_sem, *]⟩
        case round =>
          clear z0 z1 zf HW2
          obtain ⟨i, f, rfl, hi, hf, rfl, hW, hg, c0, c1, fz, z0, z1, zf⟩ := hrel
          have HBD : Hid (Bd3 f) := hide (by rw [hf]; exact lenP_bd _)
          have HF := hide hf
          have HW := hide hW
          clear hf hW
          by_cases h : i < n ∧ f.2.2 = 0
          · obtain ⟨h, hcz⟩ := h
            have i1 : (i : Int) < (n : Int) := by omega
            have i0 : (0 : Int) ≤ (i : Int) := Int.natCast_nonneg _
            have iz : decide ((i : Int) < (n : Int)) = true := decide_eq_true i1
            obtain ⟨x, hx⟩ := get_some (unhide HL) h
            obtain ⟨rfl, pw, k0⟩ := ((unhide HU).bel (unhide HW)).at hx
            have xb := unhide HPS x (List.mem_of_getElem? hx)
            have HST : Hid (add3 f.1 f.2.1 x 1 = lenP (ps.take (i + 1))) := hide (by
              have e := (fr_whole x (by omega) (by omega))
              rw [show lenP (ps.take (i + 1)) = lng f x 1 from by rw [unhide HF]; unfold lenP; rw [fold_take _ _ hx], lng_go hcz, e.1, e.2.1])
            have HAD := hide (fun W => specAdd_any f.1 f.2.1 x 1 W (by have := (unhide HBD).1; omega) (by have := (unhide HBD).1; omega) (by have := (unhide HBD).2.1; omega) (by have := (unhide HBD).2.1; omega) (by omega) (by omega) (by omega) (by omega))
            simp only [pair_tp3] at HAD
            generalize hf2 : add3 f.1 f.2.1 x 1 = f2 at HAD HST
            have HB2 : Hid (Bd3 f2) := hide (by rw [← hf2]; exact add3_bd _ _ _ _)
            obtain ⟨f0, f1, f3⟩ := f
            obtain ⟨g0, g1, g3⟩ := f2
            unfold tp3 at HAD
            simp only at HAD c0 c1 hcz
            subst hcz
            clear hf2 hx xb HBD
            go_wp2_with fail
            refine Go.Code.wp_mono (Only.to (fun _ _ h => h)) (fl10 (x := x) (a0 := g0) (a1 := g1) (a3 := g3) (hide c0) (hide c1) (hide k0) (by omega) (hide c0) (hide c1) (hide fz) (hide h) (hide fun X _ => whM_any x X) (hide fun X _ => unhide HAD X) ?_)
            intro W1 W9 h9 hW1
            have c0 := keep1 hW1 c0
            have c1 := keep1 hW1 c1
            have z0 := keep1 hW1 z0
            have z1 := keep1 hW1 z1
            have fz : ∀ o, W1.frozen? ⟨G, o, none⟩ = false := fun o => keepz hW1 (by omega) (fz o)
            have zf : ∀ o, W1.frozen? ⟨w.heap.size, o, none⟩ = false := fun o => keepz hW1 (by omega) (zf o)
            have hg := Nat.le_trans hg hW1.size
            have HW1 := hide ((unhide HW).trans (hW1.mono (unhide HW).size))
            clear hW1
            subst h9
            have ngw : G ≠ w.heap.size := by omega
            have ngw2 : w.heap.size ≠ G := by omega
            go_wp2_with fail
            go_roundw
            case rel => exact ⟨i + 1, (g0, g1, g3), by simp, h, unhide HST, rfl, ((unhide HW1).setCell (by simp; omega) _).setCell (by simp; omega) _, by simpa using hg, by simp [go_sem, *], by simp [go_sem, *], by simp [go_sem, *], by simp [go_sem, *], by simp [go_sem, *], by simp [go_sem, *]⟩
            case measure => simp only [intOf]; omega
          · have HF : Hid (f = lenP ps) := hide (by
              by_cases hc : f.2.2 = 0
              · rw [unhide HF, List.take_of_length_le (by rw [unhide HL]; omega)]
              · have e := unhide HF
                have hb := unhide HBD
                rw [e] at hc hb ⊢
                unfold lenP at hc hb ⊢
                exact (fold_rest (fun p => p) 1 ps i _ hb hc).symm)
            have key : (¬ i < n ∧ decide ((i : Int) < (n : Int)) = false) ∨ (i < n ∧ ((i : Int) < (n : Int)) ∧ decide ((i : Int) < (n : Int)) = true ∧ (f.2.2 == 0) = false ∧ ¬ f.2.2 = 0) := by
              by_cases h1 : i < n
              · exact Or.inr ⟨by omega, by omega, decide_eq_true (by omega), by simp; omega, by omega⟩
              · exact Or.inl ⟨by omega, decide_eq_false (by omega)⟩
            clear h
            obtain ⟨y0, y1, y3⟩ := f
            simp only at c0 c1 key
            have HBF : Hid (Bd3 (y0, y1, y3)) := HBD
            rcases key with ⟨k0, k1⟩ | ⟨k00, k0, k1, k2, k3⟩
            all_goals
              clear HBD hi
              go_wp2_with fail
              go_loopw [13, 11] (fun s c W => ∃ (i : Nat) (f : Fc), s = .int .i64 (i : Int) ∧ i ≤ m ∧ f = lenA (lenP ps) r t (al.take i) ∧ c = .int .i64 f.2.2 ∧ Below w.heap.size w W ∧ G + 1 ≤ W.heap.size ∧ W.cell? ⟨G, 0, none⟩ = some (.int .i64 f.1) ∧ W.cell? ⟨G, 1, none⟩ = some (.int .i64 f.2.1) ∧ (∀ o, W.frozen? ⟨G, o, none⟩ = false) ∧ W.cell? ⟨w.heap.size, 0, none⟩ = some (.int .i64 0) ∧ W.cell? ⟨w.heap.size, 1, none⟩ = some (.int .i64 0) ∧ ∀ o, W.frozen? ⟨w.heap.size, o, none⟩ = false) (fun s _ _ => m - (intOf s).toNat)
              case atStart => exact ⟨0, (y0, y1, y3), rfl, Nat.zero_le _, unhide HF, rfl, unhide HW, hg, c0, c1, fz, z0, z1, zf⟩
              case round =>
                clear HF HW hg c0 c1 fz z0 z1 zf HBF k1
                obtain ⟨j, f, rfl, hi, hf, rfl, hW, hg, c0, c1, fz, z0, z1, zf⟩ := hrel
                have HBD : Hid (Bd3 f) := hide (by rw [hf]; exact lenA_bd (lenP_bd _) _ _ _)
                have HF := hide hf
                have HW := hide hW
                clear hf hW
                by_cases h : j < m ∧ f.2.2 = 0
                · obtain ⟨h, hcz⟩ := h
                  have i1 : (j : Int) < (m : Int) := by omega
                  have i0 : (0 : Int) ≤ (j : Int) := Int.natCast_nonneg _
                  have iz : decide ((j : Int) < (m : Int)) = true := decide_eq_true i1
                  obtain ⟨x, hx⟩ := get_some (unhide HM) h
                  obtain ⟨rfl, pw, k0⟩ := ((unhide HV).bel (unhide HW)).at hx
                  have xb := unhide HAL x (List.mem_of_getElem? hx)
                  obtain ⟨⟨b1, b2⟩, ⟨b3, b4⟩, b5, b6⟩ := itm_bd xb ⟨r0, r1⟩ ⟨t0, t1⟩
                  have w1 : IntKind.i64.wrap (2 * r) = 2 * r := wrap_i (by omega) (by omega)
                  have w2 : IntKind.i64.wrap (2 * r + t) = 2 * r + t := wrap_i (by omega) (by omega)
                  have w3 : IntKind.i64.wrap (x * (2 * r + t)) = x * (2 * r + t) := wrap_i (by omega) (by omega)
                  have w4 : IntKind.i64.wrap (x * (2 * r + t) * 11) = itm r t x := wrap_i (by omega) (by unfold itm at b6; omega)
                  have HOF := hide (fun W => specOf_any (itm r t x) 1260 W (by omega) (by omega) (by omega) (by omega))
                  unfold frAns at HOF
                  rw [itm_code ⟨b5, b6⟩] at HOF
                  have HST : Hid (add3 f.1 f.2.1 (frN (itm r t x) 1260) (frD (itm r t x) 1260) = lenA (lenP ps) r t (al.take (j + 1))) := hide (by
                    rw [show lenA (lenP ps) r t (al.take (j + 1)) = lng f (itm r t x) 1260 from by rw [unhide HF]; unfold lenA; rw [fold_take _ _ hx], lng_go hcz])
                  have HAD := hide (fun W => specAdd_any f.1 f.2.1 (frN (itm r t x) 1260) (frD (itm r t x) 1260) W (by have := (unhide HBD).1; omega) (by have := (unhide HBD).1; omega) (by have := (unhide HBD).2.1; omega) (by have := (unhide HBD).2.1; omega) (by have := wf_N (itm r t x) 1260; omega) (by have := wf_N (itm r t x) 1260; omega) (by have := wf_D (itm r t x) 1260; omega) (by have := wf_D (itm r t x) 1260; omega))
                  simp only [pair_tp3] at HAD
                  generalize hf2 : add3 f.1 f.2.1 (frN (itm r t x) 1260) (frD (itm r t x) 1260) = f2 at HAD HST
                  have HB2 : Hid (Bd3 f2) := hide (by rw [← hf2]; exact add3_bd _ _ _ _)
                  clear hf2
                  generalize frN (itm r t x) 1260 = X at *
                  generalize frD (itm r t x) 1260 = Y at *
                  obtain ⟨f0, f1, f3⟩ := f
                  obtain ⟨g0, g1, g3⟩ := f2
                  unfold tp3 at HAD
                  simp only at HAD c0 c1 hcz
                  subst hcz
                  clear hx xb HBD
                  go_wp2_with fail
                  refine (unhide HOF _).mono ?_
                  rintro e W1 ⟨rfl, hW1⟩
                  have c0 := keep1 hW1 c0
                  have c1 := keep1 hW1 c1
                  have z0 := keep1 hW1 z0
                  have z1 := keep1 hW1 z1
                  have fz : ∀ o, W1.frozen? ⟨G, o, none⟩ = false := fun o => keepz hW1 (by omega) (fz o)
                  have zf : ∀ o, W1.frozen? ⟨w.heap.size, o, none⟩ = false := fun o => keepz hW1 (by omega) (zf o)
                  have hg := Nat.le_trans hg hW1.size
                  have HW1 := hide ((unhide HW).trans (hW1.mono (unhide HW).size))
                  clear hW1
                  have gl : G < W1.heap.size := by omega
                  have gl2 : w.heap.size < W1.heap.size := by omega
                  go_wp2_with fail
                  refine (unhide HAD _).mono ?_
                  rintro e W2 ⟨rfl, hW2⟩
                  have c0 := keep1 hW2 (ka c0)
                  have c1 := keep1 hW2 (ka c1)
                  have z0 := keep1 hW2 (ka z0)
                  have z1 := keep1 hW2 (ka z1)
                  have fz : ∀ o, W2.frozen? ⟨G, o, none⟩ = false := fun o => keepz hW2 (by simp; omega) (by simp [go_sem, fz o, gl])
                  have zf : ∀ o, W2.frozen? ⟨w.heap.size, o, none⟩ = false := fun o => keepz hW2 (by simp; omega) (by simp [go_sem, zf o, gl2])
                  have hg : G + 1 ≤ W2.heap.size := Nat.le_trans (by simp; omega) hW2.size
                  have HW2 := hide ((ba (unhide HW1) _).trans (hW2.mono (ba (unhide HW1) _).size))
                  clear hW2
                  have ngw : G ≠ w.heap.size := by omega
                  have ngw2 : w.heap.size ≠ G := by omega
                  go_wp2_with fail
                  go_roundw
                  case rel => exact ⟨j + 1, (g0, g1, g3), by simp, h, unhide HST, rfl, ((unhide HW2).setCell (by simp; omega) _).setCell (by simp; omega) _, by simpa using hg, by simp [go_sem, *], by simp [go_sem, *], by simp [go_sem, *], by simp [go_sem, *], by simp [go_sem, *], by simp [go_sem, *]⟩
                  case measure => simp only [intOf]; omega
                · have HF : Hid (f = lenA (lenP ps) r t al) := hide (by
                    by_cases hc : f.2.2 = 0
                    · rw [unhide HF, List.take_of_length_le (by rw [unhide HM]; omega)]
                    · have e := unhide HF
                      have hb := unhide HBD
                      rw [e] at hc hb ⊢
                      unfold lenA at hc hb ⊢
                      exact (fold_rest (itm r t) 1260 al j _ hb hc).symm)
                  have key : (¬ j < m ∧ decide ((j : Int) < (m : Int)) = false) ∨ (j < m ∧ ((j : Int) < (m : Int)) ∧ decide ((j : Int) < (m : Int)) = true ∧ (f.2.2 == 0) = false ∧ ¬ f.2.2 = 0) := by
                    by_cases h1 : j < m
                    · exact Or.inr ⟨by omega, by omega, decide_eq_true (by omega), by simp; omega, by omega⟩
                    · exact Or.inl ⟨by omega, decide_eq_false (by omega)⟩
                  clear h
                  obtain ⟨y0, y1, y3⟩ := f
                  simp only at c0 c1 key
                  by_cases hy : y3 = 0
                  · subst hy
                    rcases key with ⟨k0, k1⟩ | ⟨k00, k0, k1, k2, k3⟩
                    all_goals
                      first
                      | (exact absurd rfl k3)
                      | (go_wp2_with fail
                         exact bodyPost_ret (v := .tuple #[.agg #[.int .i64 y0, .int .i64 y1], .int .i64 0]) (by simp [results, Try.results16, go_sem, *]) rfl ⟨by rw [unhide HA2, ← unhide HF]; rfl, ((unhide HW).setCell (by simp) _).setCell (by simp) _⟩)
                  · have hy1 : (y3 != 0) = true := by simp [hy]
                    have hy2 : (y3 == 0) = false := by simp [hy]
                    have HY := hide hy
                    clear hy
                    rcases key with ⟨k0, k1⟩ | ⟨k00, k0, k1, k2, k3⟩
                    all_goals
                      go_wp2_with fail
                      exact bodyPost_ret (v := .tuple #[.agg #[.int .i64 0, .int .i64 0], .int .i64 y3]) (by simp [results, Try.results16, go_sem, *]) rfl ⟨by rw [unhide HA2, ← unhide HF, bd3_zero (unhide HBD) (unhide HY)]; rfl, ((unhide HW).setCell (by simp) _).setCell (by simp) _⟩
end Go.Proofs.Ytimkinpbimangaa
