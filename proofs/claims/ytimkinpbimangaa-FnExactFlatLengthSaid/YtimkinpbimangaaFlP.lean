/-
  The program's FlatLength at every argument.
-/
import Derived.Test.YtimkinpbimangaaFlMath
namespace Go.Proofs.Ytimkinpbimangaa
open Go.ChangeShapes Go.WideShapes Go.ChangeAt Go.RowKit
set_option linter.unusedVariables false
set_option linter.unusedSimpArgs false

set_option maxHeartbeats 1000000 in
theorem lngP_any (s : Fc) (a b : Int) (w : World) (hs : Bd3 s) (ha : -9223372036854775808 ≤ a ∧ a ≤ 9223372036854775807) (hb : -9223372036854775808 ≤ b ∧ b ≤ 9223372036854775807) (hc : frCode a b = 0) :
    Calls Try.prog 44 #[.agg #[.int .i64 s.1, .int .i64 s.2.1], .int .i64 s.2.2, .int .i64 a, .int .i64 b] w fun e w' => e = .returned (tp3 (lng s a b)) ∧ Below w.heap.size w w' := by
  by_cases hz : s.2.2 = 0
  · have HO := hide (fun W => implOf_any a b W ha.1 ha.2 hb.1 hb.2)
    have HA := hide (fun W => implAdd_any s.1 s.2.1 (frN a b) (frD a b) W (by have := hs.1; omega) (by have := hs.1; omega) (by have := hs.2.1; omega) (by have := hs.2.1; omega) (by have := wf_N a b; omega) (by have := wf_N a b; omega) (by have := wf_D a b; omega) (by have := wf_D a b; omega))
    rw [lng_go hz]
    unfold frAns at HO
    simp only [pair_tp3] at HA
    rw [hc] at HO
    generalize add3 s.1 s.2.1 (frN a b) (frD a b) = q at *
    generalize frN a b = X at *
    generalize frD a b = Y at *
    obtain ⟨n, d, c⟩ := s
    obtain ⟨q1, q2, q3⟩ := q
    simp only at hz
    subst hz
    unfold tp3 at *
    simp only at *
    clear hs hc ha hb
    go_enter Try.func44, Try.ntmps44
    go_wp2_with fail
    refine (unhide HO _).mono ?_
    rintro e W ⟨rfl, hW⟩
    have c0 := keep1 hW (b := w.heap.size) (o := 0) (v := .int .i64 n) (by simp [go_sem])
    have c1 := keep1 hW (b := w.heap.size) (o := 1) (v := .int .i64 d) (by simp [go_sem])
    have c2 := keep1 hW (b := w.heap.size + 1) (o := 0) (v := .int .i64 0) (by simp [go_sem])
    have c3 := keep1 hW (b := w.heap.size + 1) (o := 1) (v := .int .i64 0) (by simp [go_sem])
    have l0 := cell_lt c0
    have l2 := cell_lt c2
    have f2 : ∀ o, W.frozen? ⟨w.heap.size + 1, o, none⟩ = false := fun o => keepz hW (by simp) (by simp [go_sem])
    have HW := hide (bc (ba (ba (Below.refl _ _) _) _) hW)
    clear hW
    go_wp2_with fail
    refine (unhide HA _).mono ?_
    rintro e W1 ⟨rfl, hW1⟩
    have c2 := keep1 hW1 (b := w.heap.size + 1) (o := 0) (v := .int .i64 0) (ka c2)
    have c3 := keep1 hW1 (b := w.heap.size + 1) (o := 1) (v := .int .i64 0) (ka c3)
    have l2 := cell_lt c2
    have f2 : ∀ o, W1.frozen? ⟨w.heap.size + 1, o, none⟩ = false := fun o => keepz hW1 (by simp; omega) (by simp [go_sem, *])
    have HW1 := hide (bc (ba (unhide HW) _) hW1)
    clear hW1 HW
    go_wp2_with fail
    exact bodyPost_ret (v := .tuple #[.agg #[.int .i64 q1, .int .i64 q2], .int .i64 q3]) (by simp [results, Try.results44, go_sem, *]) rfl ⟨rfl, ((unhide HW1).setCell (by simp) _).setCell (by simp) _⟩
  · rw [lng_stop hz]
    obtain ⟨n, d, c⟩ := s
    simp only at hz
    have t : (c != 0) = true := by simp [hz]
    unfold tp3
    simp only
    clear hs ha hb hc
    go_enter Try.func44, Try.ntmps44
    go_wp2_with fail
    exact bodyPost_ret (v := .tuple #[.agg #[.int .i64 0, .int .i64 0], .int .i64 c]) (by simp [results, Try.results44, go_sem]) rfl ⟨rfl, ba (ba (Below.refl _ _) _) _⟩

set_option maxHeartbeats 2000000 in
set_option maxRecDepth 100000 in
theorem flP_any (u v : Option Addr) (p po q qo n m cu cv : Nat) (ps al : List Int) (r t : Int) (w : World) (hl : ps.length = n) (hm : al.length = m) (hn : n ≤ 1048576) (hm1 : m ≤ 1048576) (hu : Its w u p po ps) (hv : Its w v q qo al) :
    Calls Try.prog 15 #[.slice u n cu, .slice v m cv, .int .i64 r, .int .i64 t] w fun e w' => e = .returned (tp3 (flA ps al r t)) ∧ Below w.heap.size w w' := by
  have n0 : (0 : Int) ≤ (n : Int) := Int.natCast_nonneg _
  have m0 : (0 : Int) ≤ (m : Int) := Int.natCast_nonneg _
  by_cases hL : 4096 < n ∨ 4096 < m
  · have HANS : Hid (flA ps al r t = (0, 0, 2)) := hide (by unfold flA; rw [hl, hm, if_pos hL])
    have tL : decide ((4096 : Int) < max (n : Int) (m : Int)) = true := decide_eq_true (by omega)
    clear hl hm hu hv
    go_enter Try.func15, Try.ntmps15
    go_wp2_with fail
    exact bodyPost_ret (v := .tuple #[.agg #[.int .i64 0, .int .i64 0], .int .i64 2]) (by simp [results, Try.results15, go_sem]) rfl ⟨by rw [unhide HANS]; rfl, ba (Below.refl _ _) _⟩
  have tL : decide ((4096 : Int) < max (n : Int) (m : Int)) = false := decide_eq_false (by omega)
  have HP := hide (fun W (hW : Below w.heap.size w W) => pnP_any u p po n cu ps W hl (by omega) (hu.bel hW))
  have HC := hide (fun W (hW : Below w.heap.size w W) => cnf42_any v q qo m cv al W hm (by omega) (hv.bel hW))
  have HANS : Hid (flA ps al r t = if (pnl ps && decide ((m : Int) = (n : Int) - 1) && al.all (inR 0 180) && inR 0 1000 r && inR 0 1000 t) = true then lenA (lenP ps) r t al else (0, 0, 1)) := hide (by unfold flA flOk; rw [hl, hm, if_neg hL])
  have HU := hide hu
  have HV := hide hv
  have HL := hide hl
  have HM := hide hm
  clear hu hv hl hm
  have HW0 := hide (ba (Below.refl w.heap.size w) (.cells #[.int .i64 0, .int .i64 0] 38))
  go_enter Try.func15, Try.ntmps15
  go_wp2_with fail
  refine (unhide HP _ (unhide HW0)).mono ?_
  rintro e w' ⟨rfl, rfl⟩
  cases hq1 : pnl ps with
  | false =>
    go_wp2_with fail
    exact bodyPost_ret (v := .tuple #[.agg #[.int .i64 0, .int .i64 0], .int .i64 1]) (by simp [results, Try.results15, go_sem]) rfl ⟨by rw [unhide HANS, if_neg (by simp [*])]; rfl, ba (Below.refl _ _) _⟩
  | true =>
    by_cases hq2 : (m : Int) = (n : Int) - 1
    rotate_left
    · have e2 : ((m : Int) == (n : Int) - 1) = false := by simp [hq2]
      go_wp2_with fail
      exact bodyPost_ret (v := .tuple #[.agg #[.int .i64 0, .int .i64 0], .int .i64 1]) (by simp [results, Try.results15, go_sem]) rfl ⟨by rw [unhide HANS, if_neg (by simp [*])]; rfl, ba (Below.refl _ _) _⟩
    have e2 : ((m : Int) == (n : Int) - 1) = true := by simp [hq2]
    have HQ2 := hide hq2
    have nm : (m : Int) ≤ (n : Int) := by omega
    have d2 : decide ((m : Int) = (n : Int) - 1) = true := decide_eq_true hq2
    clear hq2
    go_wp2_with fail
    refine (unhide HC _ (unhide HW0)).mono ?_
    rintro e w' ⟨rfl, rfl⟩
    cases hq3 : al.all (inR 0 180) with
    | false =>
      go_wp2_with fail
      exact bodyPost_ret (v := .tuple #[.agg #[.int .i64 0, .int .i64 0], .int .i64 1]) (by simp [results, Try.results15, go_sem]) rfl ⟨by rw [unhide HANS, if_neg (by simp [*])]; rfl, ba (Below.refl _ _) _⟩
    | true =>
      go_wp2_with fail
      refine (bt_any r 0 1000 _).mono ?_
      rintro e w' ⟨rfl, rfl⟩
      cases hq4 : inR 0 1000 r with
      | false =>
        go_wp2_with fail
        exact bodyPost_ret (v := .tuple #[.agg #[.int .i64 0, .int .i64 0], .int .i64 1]) (by simp [results, Try.results15, go_sem]) rfl ⟨by rw [unhide HANS, if_neg (by simp [*])]; rfl, ba (Below.refl _ _) _⟩
      | true =>
        go_wp2_with fail
        refine (bt_any t 0 1000 _).mono ?_
        rintro e w' ⟨rfl, rfl⟩
        cases hq5 : inR 0 1000 t with
        | false =>
          go_wp2_with fail
          exact bodyPost_ret (v := .tuple #[.agg #[.int .i64 0, .int .i64 0], .int .i64 1]) (by simp [results, Try.results15, go_sem]) rfl ⟨by rw [unhide HANS, if_neg (by simp [*])]; rfl, ba (Below.refl _ _) _⟩
        | true =>
          have HA2 : Hid (flA ps al r t = lenA (lenP ps) r t al) := hide (by rw [unhide HANS, hq1, hq3, hq4, hq5, d2]; rfl)
          have HPS : Hid (∀ x ∈ ps, 1 ≤ x ∧ x ≤ 1000) := hide (fun x hx => by
            unfold pnl at hq1
            simp only [Bool.and_eq_true] at hq1
            exact inR_iff.1 (List.all_eq_true.1 hq1.2 x hx))
          have HAL : Hid (∀ x ∈ al, 0 ≤ x ∧ x ≤ 180) := hide (fun x hx => inR_iff.1 (List.all_eq_true.1 hq3 x hx))
          obtain ⟨r0, r1⟩ := inR_iff.1 hq4
          obtain ⟨t0, t1⟩ := inR_iff.1 hq5
          have HG : ∀ g, Hid (g = w.heap.size + 1 → True) := fun g => hide fun _ => trivial
          clear HANS hq1 hq3 hq4 hq5 d2 e2 HP HC HG
          go_wp2_with fail
          go_loopw [53, 12] (fun s c W => ∃ (i : Nat) (f : Fc), s = .int .i64 (i : Int) ∧ i ≤ n ∧ f = lenP (ps.take i) ∧ c = .int .i64 f.2.2 ∧ Below w.heap.size w W ∧ w.heap.size + 1 < W.heap.size ∧ W.cell? ⟨w.heap.size + 1, 0, none⟩ = some (.int .i64 f.1) ∧ W.cell? ⟨w.heap.size + 1, 1, none⟩ = some (.int .i64 f.2.1) ∧ (∀ o, W.frozen? ⟨w.heap.size + 1, o, none⟩ = false) ∧ W.cell? ⟨w.heap.size, 0, none⟩ = some (.int .i64 0) ∧ W.cell? ⟨w.heap.size, 1, none⟩ = some (.int .i64 0) ∧ ∀ o, W.frozen? ⟨w.heap.size, o, none⟩ = false) (fun s _ _ => n - (intOf s).toNat)
          case atStart => exact ⟨0, (0, 1, 0), rfl, Nat.zero_le _, rfl, rfl, ba (unhide HW0) _, by simp, by simp [go_sem], by simp [go_sem], by simp [go_sem], by simp [go_sem], by simp [go_sem], by simp [go_sem]⟩
          case round =>
            obtain ⟨i, f, rfl, hi, hf, rfl, hW, hg, c0, c1, fz, z0, z1, zf⟩ := hrel
            have HBD : Hid (Bd3 f) := hide (by rw [hf]; exact lenP_bd _)
            have HF := hide hf
            have HW := hide hW
            clear hf hW
            by_cases h : i < n
            · have i1 : (i : Int) < (n : Int) := by omega
              have i0 : (0 : Int) ≤ (i : Int) := Int.natCast_nonneg _
              have iz : decide ((i : Int) < (n : Int)) = true := decide_eq_true i1
              obtain ⟨x, hx⟩ := get_some (unhide HL) h
              obtain ⟨rfl, pw, k0⟩ := ((unhide HU).bel (unhide HW)).at hx
              have xb := unhide HPS x (List.mem_of_getElem? hx)
              have HST := hide (show lng f x 1 = lenP (ps.take (i + 1)) from by rw [unhide HF]; unfold lenP; rw [fold_take _ _ hx])
              skip
              have HR := hide (fun W => lngP_any f x 1 W (unhide HBD) (by omega) (by omega) (fr_whole x (by omega) (by omega)).2.2)
              generalize hf2 : lng f x 1 = f2 at HR HST
              have HB2 : Hid (Bd3 f2) := hide (by rw [← hf2]; exact lng_bd (unhide HBD) _ _)
              obtain ⟨f0, f1, f3⟩ := f
              obtain ⟨g0, g1, g3⟩ := f2
              unfold tp3 at HR
              simp only at HR c0 c1
              clear hf2 hx xb HBD
              go_wp2_with fail
              refine (unhide HR _).mono ?_
              rintro e W1 ⟨rfl, hW1⟩
              have c0 := keep1 hW1 c0
              have c1 := keep1 hW1 c1
              have z0 := keep1 hW1 z0
              have z1 := keep1 hW1 z1
              have fz : ∀ o, W1.frozen? ⟨w.heap.size + 1, o, none⟩ = false := fun o => keepz hW1 (by omega) (fz o)
              have zf : ∀ o, W1.frozen? ⟨w.heap.size, o, none⟩ = false := fun o => keepz hW1 (by omega) (zf o)
              have hg := Nat.lt_of_lt_of_le hg hW1.size
              have HW1 := hide ((unhide HW).trans (hW1.mono (unhide HW).size))
              clear hW1
              go_wp2_with fail
              go_roundw
              case rel => exact ⟨i + 1, (g0, g1, g3), by simp, h, unhide HST, rfl, ((unhide HW1).setCell (by simp) _).setCell (by simp) _, by simpa using hg, by simp [go_sem, *], by simp [go_sem, *], by simp [go_sem, *], by simp [go_sem, *], by simp [go_sem, *], by simp [go_sem, *]⟩
              case measure => simp only [intOf]; omega
            · have iz : decide ((i : Int) < (n : Int)) = false := decide_eq_false (by omega)
              have HF : Hid (f = lenP ps) := hide (by rw [unhide HF, List.take_of_length_le (by rw [unhide HL]; omega)])
              go_wp2_with fail
              go_loopw [67, 12] (fun s c W => ∃ (i : Nat) (f : Fc), s = .int .i64 (i : Int) ∧ i ≤ m ∧ f = lenA (lenP ps) r t (al.take i) ∧ c = .int .i64 f.2.2 ∧ Below w.heap.size w W ∧ w.heap.size + 1 < W.heap.size ∧ W.cell? ⟨w.heap.size + 1, 0, none⟩ = some (.int .i64 f.1) ∧ W.cell? ⟨w.heap.size + 1, 1, none⟩ = some (.int .i64 f.2.1) ∧ (∀ o, W.frozen? ⟨w.heap.size + 1, o, none⟩ = false) ∧ W.cell? ⟨w.heap.size, 0, none⟩ = some (.int .i64 0) ∧ W.cell? ⟨w.heap.size, 1, none⟩ = some (.int .i64 0) ∧ ∀ o, W.frozen? ⟨w.heap.size, o, none⟩ = false) (fun s _ _ => m - (intOf s).toNat)
              case atStart => exact ⟨0, f, rfl, Nat.zero_le _, unhide HF, rfl, unhide HW, hg, c0, c1, fz, z0, z1, zf⟩
              case round =>
                clear hi iz h HF HW hg c0 c1 fz z0 z1 zf HBD
                obtain ⟨i, f, rfl, hi, hf, rfl, hW, hg, c0, c1, fz, z0, z1, zf⟩ := hrel
                have HBD : Hid (Bd3 f) := hide (by rw [hf]; exact lenA_bd (lenP_bd _) _ _ _)
                have HF := hide hf
                have HW := hide hW
                clear hf hW
                by_cases h : i < m
                · have i1 : (i : Int) < (m : Int) := by omega
                  have i0 : (0 : Int) ≤ (i : Int) := Int.natCast_nonneg _
                  have iz : decide ((i : Int) < (m : Int)) = true := decide_eq_true i1
                  obtain ⟨x, hx⟩ := get_some (unhide HM) h
                  obtain ⟨rfl, pw, k0⟩ := ((unhide HV).bel (unhide HW)).at hx
                  have xb := unhide HAL x (List.mem_of_getElem? hx)
                  have HST := hide (show lng f (itm r t x) 1260 = lenA (lenP ps) r t (al.take (i + 1)) from by rw [unhide HF]; unfold lenA; rw [fold_take _ _ hx])
                  obtain ⟨⟨b1, b2⟩, ⟨b3, b4⟩, b5, b6⟩ := itm_bd xb ⟨r0, r1⟩ ⟨t0, t1⟩
                  have w1 : IntKind.i64.wrap (2 * r) = 2 * r := wrap_i (by omega) (by omega)
                  have w2 : IntKind.i64.wrap (2 * r + t) = 2 * r + t := wrap_i (by omega) (by omega)
                  have w3 : IntKind.i64.wrap (x * (2 * r + t)) = x * (2 * r + t) := wrap_i (by omega) (by omega)
                  have w4 : IntKind.i64.wrap (x * (2 * r + t) * 11) = itm r t x := wrap_i (by omega) (by unfold itm at b6; omega)
                  have HR := hide (fun W => lngP_any f (itm r t x) 1260 W (unhide HBD) (by have := (itm_bd xb ⟨r0, r1⟩ ⟨t0, t1⟩).2.2; omega) (by omega) (itm_code (itm_bd xb ⟨r0, r1⟩ ⟨t0, t1⟩).2.2))
                  generalize hf2 : lng f (itm r t x) 1260 = f2 at HR HST
                  have HB2 : Hid (Bd3 f2) := hide (by rw [← hf2]; exact lng_bd (unhide HBD) _ _)
                  obtain ⟨f0, f1, f3⟩ := f
                  obtain ⟨g0, g1, g3⟩ := f2
                  unfold tp3 at HR
                  simp only at HR c0 c1
                  clear hf2 hx xb HBD
                  go_wp2_with fail
                  refine (unhide HR _).mono ?_
                  rintro e W1 ⟨rfl, hW1⟩
                  have c0 := keep1 hW1 c0
                  have c1 := keep1 hW1 c1
                  have z0 := keep1 hW1 z0
                  have z1 := keep1 hW1 z1
                  have fz : ∀ o, W1.frozen? ⟨w.heap.size + 1, o, none⟩ = false := fun o => keepz hW1 (by omega) (fz o)
                  have zf : ∀ o, W1.frozen? ⟨w.heap.size, o, none⟩ = false := fun o => keepz hW1 (by omega) (zf o)
                  have hg := Nat.lt_of_lt_of_le hg hW1.size
                  have HW1 := hide ((unhide HW).trans (hW1.mono (unhide HW).size))
                  clear hW1
                  go_wp2_with fail
                  go_roundw
                  case rel => exact ⟨i + 1, (g0, g1, g3), by simp, h, unhide HST, rfl, ((unhide HW1).setCell (by simp) _).setCell (by simp) _, by simpa using hg, by simp [go_sem, *], by simp [go_sem, *], by simp [go_sem, *], by simp [go_sem, *], by simp [go_sem, *], by simp [go_sem, *]⟩
                  case measure => simp only [intOf]; omega
                · have iz : decide ((i : Int) < (m : Int)) = false := decide_eq_false (by omega)
                  have HF : Hid (f = lenA (lenP ps) r t al) := hide (by rw [unhide HF, List.take_of_length_le (by rw [unhide HM]; omega)])
                  have HBZ := hide (lenA_bd (lenP_bd ps) r t al)
                  obtain ⟨f0, f1, f3⟩ := f
                  simp only at c0 c1
                  go_wp2_with fail
                  exact bodyPost_ret (v := .tuple #[.agg #[.int .i64 f0, .int .i64 f1], .int .i64 f3]) (by simp [results, Try.results15, go_sem, *]) rfl ⟨by rw [unhide HA2, ← unhide HF]; rfl, ((unhide HW).setCell (by simp) _).setCell (by simp) _⟩
end Go.Proofs.Ytimkinpbimangaa
