/-
  The model's question whether a shop and its jobs are right.
-/
import Derived.Test.YtbgekppggakdoaaPnB
namespace Go.Proofs.Ytbgekppggakdoaa
open Go.ChangeShapes Go.WideShapes Go.ChangeAt Go.RowKit
set_option linter.unusedVariables false
set_option linter.unusedSimpArgs false

set_option maxHeartbeats 1000000 in
theorem wi1_any (x a b : Int) (g c : Nat) (w : World) (hc : w.cell? ⟨g, 0, none⟩ = some (.int .i64 x)) :
    Calls Try.prog 28 #[.slice (some ⟨g, 0, none⟩) 1 c, .int .i64 a, .int .i64 b] w fun e w' => e = .returned (.bool (inR a b x)) ∧ w' = w := by
  go_enter Try.func28, Try.ntmps28
  go_wp2_with fail
  go_loopw [7] (fun s W => ∃ i : Nat, s = .int .i64 (i : Int) ∧ i ≤ 1 ∧ (i = 1 → inR a b x = true) ∧ W = w) (fun s _ => 1 - (intOf s).toNat)
  case atStart => exact ⟨0, rfl, Nat.zero_le _, by simp, rfl⟩
  case round =>
    obtain ⟨i, rfl, hi, ha, rfl⟩ := hrel
    have HA := hide ha
    clear ha
    by_cases h : i = 0
    · subst h
      by_cases h1 : x < a
      · have t1 : decide (x < a) = true := decide_eq_true h1
        go_wp2_with fail
        go_ret
        exact ⟨by rw [inR_f1 h1]; rfl, rfl⟩
      have t1 : decide (x < a) = false := decide_eq_false h1
      by_cases h2 : b < x
      · have t2 : decide (b < x) = true := decide_eq_true h2
        go_wp2_with fail
        go_ret
        exact ⟨by rw [inR_f2 h2]; rfl, rfl⟩
      have t2 : decide (b < x) = false := decide_eq_false h2
      go_wp2_with fail
      go_roundw
      case rel => exact ⟨1, by simp, by omega, fun _ => inR_iff.2 ⟨by omega, by omega⟩, by first | rfl | trivial⟩
      case measure => simp [intOf]
    · have h1 : i = 1 := by omega
      subst h1
      have HE := hide (unhide HA rfl)
      go_wp2_with fail
      go_ret
      exact ⟨by rw [unhide HE]; rfl, rfl⟩
theorem sEq_iff {s t : ByteArray} : (s.toList == t.toList) = decide (s = t) := by
  rw [Bool.eq_iff_iff, beq_iff_eq, decide_eq_true_eq]
  constructor
  · intro h
    rw [ByteArray.toList_eq, ByteArray.toList_eq] at h
    cases s; cases t
    simpa using h
  · intro h; rw [h]
theorem jb_no {N L : Int} {j : Jb} (h : ¬ (nameB j.nm = true ∧ 0 ≤ j.due ∧ j.due ≤ 1000000 ∧ 1 ≤ j.st.length ∧ j.st.length ≤ 8 ∧ j.st.all (stOk N L) = true)) : jbOk N L j = false := by
  cases hq : jbOk N L j with
  | false => rfl
  | true =>
    exfalso; apply h
    simp only [jbOk, Bool.and_eq_true, inR_iff] at hq
    exact ⟨hq.1, hq.2.1.1, hq.2.1.2, by omega, by omega, hq.2.2.2⟩
theorem jb_yes {N L : Int} {j : Jb} (h : nameB j.nm = true ∧ 0 ≤ j.due ∧ j.due ≤ 1000000 ∧ 1 ≤ j.st.length ∧ j.st.length ≤ 8 ∧ j.st.all (stOk N L) = true) : jbOk N L j = true := by
  simp only [jbOk, Bool.and_eq_true, inR_iff]
  exact ⟨h.1, ⟨h.2.1, h.2.2.1⟩, ⟨by omega, by omega⟩, h.2.2.2.2.2⟩
/-- two alike -/
theorem nod_no {J : List Jb} {i k : Nat} {a b : Jb} (hk : k < i) (ha : J[k]? = some a) (hb : J[i]? = some b) (e : a.nm = b.nm) : decide (names J).Nodup = false := by
  refine decide_eq_false (fun h => ?_)
  have h1 : (names J)[k]? = some a.nm := by simp [names, ha]
  have h2 : (names J)[i]? = some a.nm := by simp [names, hb, e]
  obtain ⟨l1, g1⟩ := List.getElem?_eq_some_iff.1 h1
  obtain ⟨l2, g2⟩ := List.getElem?_eq_some_iff.1 h2
  exact (List.pairwise_iff_getElem.1 h) k i l1 l2 hk (by rw [g1, g2])
theorem nod_yes {J : List Jb} {i : Nat} {b : Jb} (hb : J[i]? = some b) (h : (names (J.take i)).Nodup) (hn : ∀ (k : Nat) (a : Jb), k < i → J[k]? = some a → a.nm ≠ b.nm) : (names (J.take (i + 1))).Nodup := by
  rw [names_take hb, List.nodup_append]
  refine ⟨h, by simp, ?_⟩
  intro x hx y hy
  simp only [List.mem_singleton] at hy
  subst hy
  simp only [names, List.mem_map] at hx
  obtain ⟨a, ha, rfl⟩ := hx
  obtain ⟨k, hk⟩ := List.getElem?_of_mem ha
  rw [List.getElem?_take] at hk
  split at hk
  · exact hn k a (by assumption) hk
  · cases hk
set_option maxRecDepth 100000 in
set_option maxHeartbeats 8000000 in
theorem shM_any (N S L : Int) (u : Option Addr) (p po n c : Nat) (J : List Jb) (w : World) (hl : J.length = n) (hn : n ≤ 9223372036854775807) (hu : Jbs w u p po J) :
    Calls Try.prog 8 #[.agg #[.int .i64 N, .int .i64 S, .int .i64 L], .slice u n c] w fun e w' => e = .returned (.bool (shOk N S L J)) ∧ Below w.heap.size w w' := by
  have HQ : Hid (shOk N S L J = (inR 1 6 N && (inR 0 1000 S && (inR 1 1000 L && (decide (n ≤ 20) && (J.all (jbOk N L) && decide (names J).Nodup)))))) := hide (by unfold shOk; rw [hl])
  have HA := hide (ba (Below.refl w.heap.size w) (.cells #[.int .i64 N, .int .i64 S, .int .i64 L] 27))
  have HV := hide (vb_new w 27 [.int .i64 N, .int .i64 S, .int .i64 L] w.heap.size rfl)
  have HU := hide (fun X (hX : Below w.heap.size w X) => hu.bel hX)
  have HS := hide hl
  have n0 : (0 : Int) ≤ (n : Int) := Int.natCast_nonneg _
  clear hu hl
  by_cases g1 : N < 1
  · have t1 : decide (N < 1) = true := decide_eq_true g1
    go_enter Try.func8, Try.ntmps8
    go_wp2_with fail
    go_ret
    exact ⟨by rw [unhide HQ, inR_f1 g1]; rfl, unhide HA⟩
  have t1 : decide (N < 1) = false := decide_eq_false g1
  by_cases g2 : 6 < N
  · have t2 : decide (6 < N) = true := decide_eq_true g2
    go_enter Try.func8, Try.ntmps8
    go_wp2_with fail
    go_ret
    exact ⟨by rw [unhide HQ, inR_f2 g2]; rfl, unhide HA⟩
  have t2 : decide (6 < N) = false := decide_eq_false g2
  go_enter Try.func8, Try.ntmps8
  go_wp2_with fail
  refine (wi1_any S 0 1000 _ _ _ (by simp (maxDischargeDepth := 12) [go_sem, le1, lt1])).mono ?_
  rintro e w' ⟨rfl, rfl⟩
  cases t3 : inR 0 1000 S with
  | false =>
    go_wp2_with fail
    go_ret
    exact ⟨by rw [unhide HQ, t3]; simp, ba (unhide HA) _⟩
  | true =>
  go_wp2_with fail
  refine (wi1_any L 1 1000 _ _ _ (by simp (maxDischargeDepth := 12) [go_sem, le1, lt1])).mono ?_
  rintro e w' ⟨rfl, rfl⟩
  cases t4 : inR 1 1000 L with
  | false =>
    go_wp2_with fail
    go_ret
    exact ⟨by rw [unhide HQ, t4]; simp, ba (ba (unhide HA) _) _⟩
  | true =>
  by_cases g5 : 20 < n
  · have t5 : decide ((20 : Int) < (n : Int)) = true := decide_eq_true (by omega)
    go_wp2_with fail
    go_ret
    exact ⟨by rw [unhide HQ, decide_eq_false (by omega : ¬ n ≤ 20)]; simp, ba (ba (unhide HA) _) _⟩
  have t5 : decide ((20 : Int) < (n : Int)) = false := decide_eq_false (by omega)
  have HI : Hid (inR 1 6 N = true) := hide (inR_iff.2 ⟨by omega, by omega⟩)
  have HQ2 : Hid (shOk N S L J = (J.all (jbOk N L) && decide (names J).Nodup)) := hide (by rw [unhide HQ, unhide HI, t3, t4, decide_eq_true (by omega : n ≤ 20)]; rfl)
  have HA2 := hide (ba (ba (unhide HA) (.cells #[.int .i64 S] 3)) (.cells #[.int .i64 L] 3))
  have HV2 := hide ((unhide HV).bel (ba (ba (Below.refl _ _) (.cells #[.int .i64 S] 3)) (.cells #[.int .i64 L] 3)))
  clear t3 t4
  go_wp2_with fail
  go_loopw [5, 6, 7, 8, 9] (fun s _ _ _ _ W => ∃ i : Nat, s = .int .i64 (i : Int) ∧ i ≤ n ∧ (J.take i).all (jbOk N L) = true ∧ (names (J.take i)).Nodup ∧ Below w.heap.size w W ∧ vb W w.heap.size 27 [.int .i64 N, .int .i64 S, .int .i64 L]) (fun s _ _ _ _ _ => n - (intOf s).toNat)
  case atStart => exact ⟨0, rfl, Nat.zero_le _, by simp, by simp [names], unhide HA2, unhide HV2⟩
  case round =>
    obtain ⟨i, rfl, hi, ha, hnd, hb, hv⟩ := hrel
    have HAL := hide ha
    have HND := hide hnd
    have HB := hide hb
    have HVR := hide hv
    clear ha hnd hv
    by_cases h : i < n
    rotate_left
    · have iz : decide ((i : Int) < (n : Int)) = false := decide_eq_false (by omega)
      have HE : Hid (shOk N S L J = true) := hide (by
        rw [unhide HQ2, alls_full _ (by rw [unhide HS]; omega) (unhide HAL)]
        have := unhide HND
        rw [List.take_of_length_le (by rw [unhide HS]; omega)] at this
        rw [decide_eq_true this]; rfl)
      clear hb
      go_wp2_with fail
      go_ret
      exact ⟨by rw [unhide HE]; rfl, unhide HB⟩
    have i1 : (i : Int) < (n : Int) := by omega
    have i0 : (0 : Int) ≤ (i : Int) := Int.natCast_nonneg _
    have iz : decide ((i : Int) < (n : Int)) = true := decide_eq_true i1
    obtain ⟨j, hx⟩ := get_some (unhide HS) h
    obtain ⟨rfl, pw, l0, l1, l2⟩ := (unhide HU _ hb).at hx
    have hjo := (unhide HU _ hb).each j (List.mem_of_getElem? hx)
    have HJO := hide hjo
    have HAX := hide (alls_take (jbOk N L) hx)
    have HX := hide hx
    have HN := hide (fun W => specName_any j.nm W hjo.nsz)
    have HNO : Hid (jbOk N L j = false → shOk N S L J = false) := hide (fun e => by rw [unhide HQ2, alls_not _ hx e]; rfl)
    have hsn : j.st.length = j.sn := hjo.len
    have HSN := hide hsn
    have s0 : (0 : Int) ≤ (j.sn : Int) := Int.natCast_nonneg _
    have hsm := hjo.most
    clear hx hb hjo hsn
    go_wp2_with fail
    refine (unhide HN _).mono ?_
    rintro e w1 ⟨rfl, rfl⟩
    cases z1 : nameB j.nm with
    | false =>
      go_wp2_with fail
      go_ret
      exact ⟨by rw [unhide HNO (jb_no (by rw [z1]; simp))]; rfl, ba (unhide HB) _⟩
    | true =>
    have HZ1 := hide z1
    clear z1
    by_cases a1 : j.due < 0
    · have z2 : decide (j.due < 0) = true := decide_eq_true a1
      go_wp2_with fail
      go_ret
      exact ⟨by rw [unhide HNO (jb_no (by omega))]; rfl, ba (unhide HB) _⟩
    have z2 : decide (j.due < 0) = false := decide_eq_false a1
    by_cases a2 : 1000000 < j.due
    · have z3 : decide (1000000 < j.due) = true := decide_eq_true a2
      go_wp2_with fail
      go_ret
      exact ⟨by rw [unhide HNO (jb_no (by omega))]; rfl, ba (unhide HB) _⟩
    have z3 : decide (1000000 < j.due) = false := decide_eq_false a2
    by_cases a3 : j.sn < 1
    · have z4 : decide ((j.sn : Int) < 1) = true := decide_eq_true (by omega)
      have HF := hide (unhide HNO (jb_no (by rw [unhide HSN]; omega)))
      go_wp2_with fail
      go_ret
      exact ⟨by rw [unhide HF]; rfl, ba (unhide HB) _⟩
    have z4 : decide ((j.sn : Int) < 1) = false := decide_eq_false (by omega)
    by_cases a4 : 8 < j.sn
    · have z5 : decide ((8 : Int) < (j.sn : Int)) = true := decide_eq_true (by omega)
      have HF := hide (unhide HNO (jb_no (by rw [unhide HSN]; omega)))
      go_wp2_with fail
      go_ret
      exact ⟨by rw [unhide HF]; rfl, ba (unhide HB) _⟩
    have z5 : decide ((8 : Int) < (j.sn : Int)) = false := decide_eq_false (by omega)
    have HVJ := hide (vb_new wr 58 [.string j.nm, .int .i64 j.due, .slice j.su j.sn j.sc] wr.heap.size rfl)
    have HBJ := hide (ba (unhide HB) (.cells #[.string j.nm, .int .i64 j.due, .slice j.su j.sn j.sc] 58))
    have HVS := hide ((unhide HVR).bel (ba (Below.refl _ _) (.cells #[.string j.nm, .int .i64 j.due, .slice j.su j.sn j.sc] 58)))
    have j0 := (unhide HVJ).cell (m := 0) rfl
    have j1 := (unhide HVJ).cell (m := 1) rfl
    have j2 := (unhide HVJ).cell (m := 2) rfl
    have jlt := (unhide HVJ).lt
    have HBW := hide (ba (Below.refl wr.heap.size wr) (.cells #[.string j.nm, .int .i64 j.due, .slice j.su j.sn j.sc] 58))
    generalize wr.alloc (.cells #[.string j.nm, .int .i64 j.due, .slice j.su j.sn j.sc] 58) = W1 at *
    go_wp2_with fail
    go_loopw [7] (fun s X => ∃ k : Nat, s = .int .i64 (k : Int) ∧ k ≤ i ∧ (∀ (q : Nat) (a : Jb), q < k → J[q]? = some a → a.nm ≠ j.nm) ∧ Below W1.heap.size W1 X) (fun s _ => i - (intOf s).toNat)
    case atStart => exact ⟨0, rfl, Nat.zero_le _, fun q a hq => absurd hq (by omega), Below.refl _ _⟩
    case round =>
      obtain ⟨k, rfl, hk, hne, hbx⟩ := hrel
      have HNE := hide hne
      have HBX := hide hbx
      have k0 : (0 : Int) ≤ (k : Int) := Int.natCast_nonneg _
      clear hne
      by_cases hki : k < i
      · have kz : decide ((k : Int) < (i : Int)) = true := decide_eq_true (by omega)
        have kn : (k : Int) < (n : Int) := by omega
        obtain ⟨a, hxa⟩ := get_some (unhide HS) (show k < n by omega)
        obtain ⟨_, pw2, m0, _, _⟩ := (unhide HU _ (bc (unhide HBJ) hbx)).at hxa
        have c0 := ((unhide HVJ).bel hbx).cell (m := 0) rfl
        have HXA := hide hxa
        clear hxa hbx
        by_cases e : a.nm = j.nm
        · have z6 : (a.nm.toList == j.nm.toList) = true := by rw [sEq_iff]; exact decide_eq_true e
          have HF : Hid (shOk N S L J = false) := hide (by rw [unhide HQ2, nod_no hki (unhide HXA) (unhide HX) e]; simp)
          clear e
          go_wp2_with fail
          go_region
          go_wp2_with fail
          go_ret
          exact ⟨by rw [unhide HF]; rfl, bel_dn' (bc (unhide HBJ) (unhide HBX)) _⟩
        · have z6 : (a.nm.toList == j.nm.toList) = false := by rw [sEq_iff]; exact decide_eq_false e
          have HE := hide e
          clear e
          go_wp2_with fail
          go_region
          go_wp2_with fail
          go_roundw
          case rel =>
            have r : ∀ (q : Nat) (a : Jb), q < k + 1 → J[q]? = some a → a.nm ≠ j.nm := by
              intro q b hq hqb
              by_cases e2 : q = k
              · subst e2
                rw [unhide HXA] at hqb
                cases hqb
                exact unhide HE
              · exact unhide HNE q b (by omega) hqb
            first | exact ⟨k + 1, by simp, hki, r, bel_dn' (unhide HBX) _⟩ | ((repeat apply Exists.intro); refine ⟨?_, rfl⟩; exact ⟨k + 1, by simp, hki, r, bel_dn' (unhide HBX) _⟩)
          case measure => first | (simp only [intOf]; omega) | (simp [intOf]; omega)
      · have kz : decide ((k : Int) < (i : Int)) = false := decide_eq_false (by omega)
        have hki2 : k = i := by omega
        have HNE2 : Hid (∀ (q : Nat) (a : Jb), q < i → J[q]? = some a → a.nm ≠ j.nm) := hide (by rw [← hki2]; exact unhide HNE)
        have kq : ¬ ((k : Int) < (i : Int)) := by omega
        clear hki2
        go_wp2_with fail
        go_loopw [8, 9] (fun s _ X => ∃ t : Nat, s = .int .i64 (t : Int) ∧ t ≤ j.sn ∧ (j.st.take t).all (stOk N L) = true ∧ Below W1.heap.size W1 X) (fun s _ _ => j.sn - (intOf s).toNat)
        case atStart => exact ⟨0, rfl, Nat.zero_le _, by simp, unhide HBX⟩
        case round =>
          obtain ⟨t, rfl, ht, hal, hby⟩ := hrel
          have HAL3 := hide hal
          have HBY := hide hby
          have t0 : (0 : Int) ≤ (t : Int) := Int.natCast_nonneg _
          have y2 := ((unhide HVJ).bel hby).cell (m := 2) rfl
          have y1 := ((unhide HVS).bel hby).cell (m := 0) rfl
          have y3 := ((unhide HVS).bel hby).cell (m := 2) rfl
          have yl := ((unhide HVS).bel hby).lt
          have yl2 := ((unhide HVJ).bel hby).lt
          clear hal
          by_cases hts : t < j.sn
          · have ts1 : (t : Int) < (j.sn : Int) := by omega
            have tz : decide ((t : Int) < (j.sn : Int)) = true := decide_eq_true ts1
            obtain ⟨s, hxs⟩ := get_some (unhide HSN) hts
            obtain ⟨hsu, pw3, q0, q1, q2, q3⟩ := ((unhide HJO).bel (bc (unhide HBW) hby)).at hxs
            have HXS := hide hxs
            have HSX := hide (alls_take (stOk N L) hxs)
            have HBAD : Hid (stOk N L s = false → shOk N S L J = false) := hide (fun e => unhide HNO (jb_no (by rw [alls_not _ hxs e]; simp)))
            clear hxs hby
            rw [hsu] at y2
            by_cases b1 : s.m < 0
            · have xb1 : decide (s.m < 0) = true := decide_eq_true b1
              have HF := hide (unhide HBAD (stOk_no (by omega)))
              go_wp2_with fail
              go_ret
              exact ⟨by rw [unhide HF]; rfl, ba (bc (unhide HBJ) (unhide HBY)) _⟩
            have xb1 : decide (s.m < 0) = false := decide_eq_false b1
            by_cases b2 : N ≤ s.m
            · have xb2 : decide (N ≤ s.m) = true := decide_eq_true b2
              have HF := hide (unhide HBAD (stOk_no (by omega)))
              go_wp2_with fail
              go_ret
              exact ⟨by rw [unhide HF]; rfl, ba (bc (unhide HBJ) (unhide HBY)) _⟩
            have xb2 : decide (N ≤ s.m) = false := decide_eq_false b2
            by_cases b3 : s.t < 1
            · have xb3 : decide (s.t < 1) = true := decide_eq_true b3
              have HF := hide (unhide HBAD (stOk_no (by omega)))
              go_wp2_with fail
              go_ret
              exact ⟨by rw [unhide HF]; rfl, ba (bc (unhide HBJ) (unhide HBY)) _⟩
            have xb3 : decide (s.t < 1) = false := decide_eq_false b3
            by_cases b4 : 1000 < s.t
            · have xb4 : decide (1000 < s.t) = true := decide_eq_true b4
              have HF := hide (unhide HBAD (stOk_no (by omega)))
              go_wp2_with fail
              go_ret
              exact ⟨by rw [unhide HF]; rfl, ba (bc (unhide HBJ) (unhide HBY)) _⟩
            have xb4 : decide (1000 < s.t) = false := decide_eq_false b4
            by_cases b5 : s.l < 0
            · have xb5 : decide (s.l < 0) = true := decide_eq_true b5
              have HF := hide (unhide HBAD (stOk_no (by omega)))
              go_wp2_with fail
              go_ret
              exact ⟨by rw [unhide HF]; rfl, ba (bc (unhide HBJ) (unhide HBY)) _⟩
            have xb5 : decide (s.l < 0) = false := decide_eq_false b5
            by_cases b6 : 9 < s.l
            · have xb6 : decide (9 < s.l) = true := decide_eq_true b6
              have HF := hide (unhide HBAD (stOk_no (by omega)))
              go_wp2_with fail
              go_ret
              exact ⟨by rw [unhide HF]; rfl, ba (bc (unhide HBJ) (unhide HBY)) _⟩
            have xb6 : decide (9 < s.l) = false := decide_eq_false b6
            by_cases b7 : s.e < 0
            · have xb7 : decide (s.e < 0) = true := decide_eq_true b7
              have HF := hide (unhide HBAD (stOk_no (by omega)))
              go_wp2_with fail
              go_ret
              exact ⟨by rw [unhide HF]; rfl, ba (bc (unhide HBJ) (unhide HBY)) _⟩
            have xb7 : decide (s.e < 0) = false := decide_eq_false b7
            by_cases b8 : L < s.e
            · have xb8 : decide (L < s.e) = true := decide_eq_true b8
              have HF := hide (unhide HBAD (stOk_no (by omega)))
              go_wp2_with fail
              go_ret
              exact ⟨by rw [unhide HF]; rfl, ba (bc (unhide HBJ) (unhide HBY)) _⟩
            have xb8 : decide (L < s.e) = false := decide_eq_false b8
            have HOK := hide (stOk_iff (N := N) (L := L) (s := s).2 (by omega))
            go_wp2_with fail
            go_roundw
            case rel =>
              have r2 : (j.st.take (t + 1)).all (stOk N L) = true := by rw [unhide HSX, unhide HAL3, unhide HOK]; rfl
              first | exact ⟨t + 1, by simp, hts, r2, ba (unhide HBY) _⟩ | ((repeat apply Exists.intro); refine ⟨?_, rfl⟩; exact ⟨t + 1, by simp, hts, r2, ba (unhide HBY) _⟩)
            case measure => first | (simp only [intOf]; omega) | (simp [intOf]; omega)
          · have tz : decide ((t : Int) < (j.sn : Int)) = false := decide_eq_false (by omega)
            have HAS := hide (alls_full _ (by rw [unhide HSN]; omega) (unhide HAL3))
            clear hby
            go_wp2_with fail
            go_roundw
            case rel =>
              have r3 : (J.take (i + 1)).all (jbOk N L) = true := by rw [unhide HAX, unhide HAL, jb_yes ⟨unhide HZ1, by omega, by omega, by rw [unhide HSN]; omega, by rw [unhide HSN]; omega, unhide HAS⟩]; rfl
              have r4 := nod_yes (unhide HX) (unhide HND) (unhide HNE2)
              first | exact ⟨i + 1, by simp, h, r3, r4, bc (unhide HBJ) (unhide HBY), (unhide HVS).bel (unhide HBY)⟩ | ((repeat apply Exists.intro); refine ⟨?_, rfl⟩; exact ⟨i + 1, by simp, h, r3, r4, bc (unhide HBJ) (unhide HBY), (unhide HVS).bel (unhide HBY)⟩)
            case measure => first | (simp only [intOf]; omega) | (simp [intOf]; omega)
end Go.Proofs.Ytbgekppggakdoaa
