/-
  The model's question whether links are right.
-/
import Derived.Test.YtmhdodecofpchaaChMath
import Derived.Test.YtmhdodecofpchaaNameOK
namespace Go.Proofs.Ytmhdodecofpchaa
open Go.ChangeShapes Go.WideShapes Go.ChangeAt Go.RowKit
set_option linter.unusedVariables false
set_option linter.unusedSimpArgs false

theorem bel_dn {B : Nat} {a w : World} (h : Below B a w) (n : Nat) : Below B a (w.drewN n) := h.trans ⟨rfl, rfl, rfl, Nat.le_refl _, fun _ _ => rfl⟩
theorem bytes_ne {s t : ByteArray} (h : ¬ s = t) : (s.toList == t.toList) = false := by
  rw [beq_eq_false_iff_ne]
  intro e
  rw [ByteArray.toList_eq, ByteArray.toList_eq] at e
  apply h
  cases s; cases t
  simp only at e
  rw [Array.toList_inj.1 e]
theorem szM_any (n : Int) (w : World) : Calls Try.prog 38 #[.int .i64 n] w fun e w' => e = .returned (.bool (szOk n)) ∧ w' = w := by
  by_cases h0 : 0 ≤ n
  · have t0 : decide (0 ≤ n) = true := decide_eq_true h0
    by_cases h1 : n ≤ 100000
    · have t1 : decide (n ≤ 100000) = true := decide_eq_true h1
      have e : szOk n = true := decide_eq_true ⟨h0, h1⟩
      rw [e]
      go_enter Try.func38, Try.ntmps38
      go_wp2
      go_ret
      exact ⟨rfl, rfl⟩
    · have t1 : decide (n ≤ 100000) = false := decide_eq_false h1
      have e : szOk n = false := decide_eq_false (fun h => h1 h.2)
      rw [e]
      go_enter Try.func38, Try.ntmps38
      go_wp2
      go_ret
      exact ⟨rfl, rfl⟩
  · have t0 : decide (0 ≤ n) = false := decide_eq_false h0
    have e : szOk n = false := decide_eq_false (fun h => h0 h.1)
    rw [e]
    go_enter Try.func38, Try.ntmps38
    go_wp2
    go_ret
    exact ⟨rfl, rfl⟩

set_option maxHeartbeats 4000000 in
set_option maxRecDepth 100000 in
theorem linksM_any (u : Option Addr) (p po n cu : Nat) (ls : List Lk) (w : World) (hl : ls.length = n) (hn : n ≤ 1048576) (hsz : ∀ l ∈ ls, l.nm.size ≤ 1048576) (hu : Lks w u p po ls) :
    Calls Try.prog 37 #[.slice u n cu] w fun e w' => e = .returned (.bool (rightB ls)) ∧ Below w.heap.size w w' := by
  have n0 : (0 : Int) ≤ (n : Int) := Int.natCast_nonneg _
  by_cases hA : n < 1
  · have tA : decide ((n : Int) < 1) = true := decide_eq_true (by omega)
    rw [rightB_false (fun hr => by have := hr.1; omega)]
    go_enter Try.func37, Try.ntmps37
    go_wp2
    go_ret
    exact ⟨rfl, Below.refl _ _⟩
  have tA : decide ((n : Int) < 1) = false := decide_eq_false (by omega)
  by_cases hB : 40 < n
  · have tB : decide ((40 : Int) < (n : Int)) = true := decide_eq_true (by omega)
    rw [rightB_false (fun hr => by have := hr.2.1; omega)]
    go_enter Try.func37, Try.ntmps37
    go_wp2
    go_ret
    exact ⟨rfl, Below.refl _ _⟩
  have tB : decide ((40 : Int) < (n : Int)) = false := decide_eq_false (by omega)
  have HU := hide hu
  have HL := hide hl
  have HS := hide hsz
  clear hu hl hsz
  generalize hR : rightB ls = R
  have HR := hide hR
  clear hR
  go_enter Try.func37, Try.ntmps37
  go_wp2
  go_loopw [3] (fun s W => ∃ i : Nat, s = .int .i64 (i : Int) ∧ i ≤ n ∧ okTo ls i ∧ Below w.heap.size w W) (fun s _ => n - (intOf s).toNat)
  case atStart => exact ⟨0, rfl, Nat.zero_le _, okTo_zero _, Below.refl _ _⟩
  case round =>
    obtain ⟨i, rfl, hi, hok, hw⟩ := hrel
    have HW := hide hw
    have HO := hide hok
    clear hw hok
    by_cases h : i < n
    · have i1 : (i : Int) < (n : Int) := by omega
      have i0 : (0 : Int) ≤ (i : Int) := Int.natCast_nonneg _
      have iz : decide ((i : Int) < (n : Int)) = true := decide_eq_true i1
      obtain ⟨⟨s, a, b, c, d⟩, hx⟩ := get_some (unhide HL) h
      obtain ⟨rfl, pw, k0, k1, k2, k3, k4⟩ := ((unhide HU).bel (unhide HW)).at hx
      simp only at k0 k1 k2 k3 k4
      have HX := hide hx
      have HN := hide (fun W => specName_any s W (Nat.le_trans (unhide HS _ (List.mem_of_getElem? hx)) (by decide)))
      clear pw hx
      by_cases q0 : nameB s = true
      rotate_left
      · have e0 : nameB s = false := by simpa using q0
        have eR : R = false := by rw [← unhide HR]; exact rightB_false (not_right_bad (unhide HX) (fun h => q0 h.nm))
        rw [e0] at HN
        subst eR
        clear q0 e0
        go_wp2_with fail
        refine (unhide HN _).mono ?_
        rintro e W1 ⟨rfl, rfl⟩
        go_wp2_with fail
        go_ret
        exact ⟨rfl, by repeat (first | exact unhide HW | refine ba ?_ _)⟩
      rw [q0] at HN
      have HNM := hide q0
      by_cases q1 : a = 1 ∨ a = -1
      rotate_left
      · have a1 : (a != 1) = true := by simp only [bne_iff_ne, ne_eq]; omega
        have a2 : (a != -1) = true := by simp only [bne_iff_ne, ne_eq]; omega
        have eR : R = false := by rw [← unhide HR]; exact rightB_false (not_right_bad (unhide HX) (fun h => q1 h.sg))
        subst eR
        clear q0 q1
        go_wp2_with fail
        refine (unhide HN _).mono ?_
        rintro e W1 ⟨rfl, rfl⟩
        go_wp2_with fail
        go_ret
        exact ⟨rfl, by repeat (first | exact unhide HW | refine ba ?_ _)⟩
      have HC := hide (fun W => szM_any c W)
      have HD := hide (fun W => szM_any d W)
      have HQ := hide q1
      clear q0 q1
      by_cases q2 : b < -100000
      · have b1 : decide (b < -100000) = true := decide_eq_true q2
        have eR : R = false := by rw [← unhide HR]; exact rightB_false (not_right_bad (unhide HX) (fun h => by have := h.sz0; simp only at this; omega))
        subst eR
        clear q2
        rcases unhide HQ with e1 | e1 <;> subst e1 <;>
        · go_wp2_with fail
          refine (unhide HN _).mono ?_
          rintro e W1 ⟨rfl, rfl⟩
          go_wp2_with fail
          go_ret
          exact ⟨rfl, by repeat (first | exact unhide HW | refine ba ?_ _)⟩
      have b1 : decide (b < -100000) = false := decide_eq_false q2
      by_cases q3 : 100000 < b
      · have b2 : decide (100000 < b) = true := decide_eq_true q3
        have eR : R = false := by rw [← unhide HR]; exact rightB_false (not_right_bad (unhide HX) (fun h => by have := h.sz1; simp only at this; omega))
        subst eR
        clear q2 q3
        rcases unhide HQ with e1 | e1 <;> subst e1 <;>
        · go_wp2_with fail
          refine (unhide HN _).mono ?_
          rintro e W1 ⟨rfl, rfl⟩
          go_wp2_with fail
          go_ret
          exact ⟨rfl, by repeat (first | exact unhide HW | refine ba ?_ _)⟩
      have b2 : decide (100000 < b) = false := decide_eq_false q3
      by_cases q4 : szOk c = true
      rotate_left
      · have e4 : szOk c = false := by simpa using q4
        have eR : R = false := by rw [← unhide HR]; exact rightB_false (not_right_bad (unhide HX) (fun h => q4 (decide_eq_true ⟨h.pl0, h.pl1⟩)))
        subst eR
        rw [e4] at HC
        clear q2 q3 q4 e4
        rcases unhide HQ with e1 | e1 <;> subst e1 <;>
        · go_wp2_with fail
          refine (unhide HN _).mono ?_
          rintro e W1 ⟨rfl, rfl⟩
          go_wp2_with fail
          refine (unhide HC _).mono ?_
          rintro e W1 ⟨rfl, rfl⟩
          go_wp2_with fail
          go_ret
          exact ⟨rfl, by repeat (first | exact unhide HW | refine ba ?_ _)⟩
      rw [q4] at HC
      by_cases q5 : szOk d = true
      rotate_left
      · have e4 : szOk d = false := by simpa using q5
        have eR : R = false := by rw [← unhide HR]; exact rightB_false (not_right_bad (unhide HX) (fun h => q5 (decide_eq_true ⟨h.mi0, h.mi1⟩)))
        subst eR
        rw [e4] at HD
        clear q2 q3 q4 q5 e4
        rcases unhide HQ with e1 | e1 <;> subst e1 <;>
        · go_wp2_with fail
          refine (unhide HN _).mono ?_
          rintro e W1 ⟨rfl, rfl⟩
          go_wp2_with fail
          refine (unhide HC _).mono ?_
          rintro e W1 ⟨rfl, rfl⟩
          go_wp2_with fail
          refine (unhide HD _).mono ?_
          rintro e W1 ⟨rfl, rfl⟩
          go_wp2_with fail
          go_ret
          exact ⟨rfl, by repeat (first | exact unhide HW | refine ba ?_ _)⟩
      rw [q5] at HD
      have HLO : Hid (LOk ⟨s, a, b, c, d⟩) := hide (by
        have h4 : 0 ≤ c ∧ c ≤ 100000 := of_decide_eq_true q4
        have h5 : 0 ≤ d ∧ d ≤ 100000 := of_decide_eq_true q5
        exact ⟨unhide HNM, unhide HQ, by simp only; omega, by simp only; omega, h4.1, h4.2, h5.1, h5.2⟩)
      clear q2 q3 q4 q5
      have HA : Hid (Below w.heap.size w (wr.alloc (.cells #[.string s, .int .i64 a, .int .i64 b, .int .i64 c, .int .i64 d] 29))) := hide (ba (unhide HW) _)
      rcases unhide HQ with e1 | e1 <;> subst e1 <;>
      · go_wp2_with fail
        refine (unhide HN _).mono ?_
        rintro e W1 ⟨rfl, rfl⟩
        go_wp2_with fail
        refine (unhide HC _).mono ?_
        rintro e W1 ⟨rfl, rfl⟩
        go_wp2_with fail
        refine (unhide HD _).mono ?_
        rintro e W1 ⟨rfl, rfl⟩
        go_wp2_with fail
        go_loopw [5] (fun z W => ∃ k : Nat, z = .int .i64 (k : Int) ∧ k ≤ i ∧ freshTo ls k s ∧ W.cell? ⟨wr.heap.size, 0, none⟩ = some (.string s) ∧ Below w.heap.size w W) (fun z _ => i - (intOf z).toNat)
        case atStart => exact ⟨0, rfl, Nat.zero_le _, freshTo_zero _ _, (vblk_new wr 29 _).cell (m := 0) rfl, unhide HA⟩
        case round =>
          obtain ⟨k, rfl, hk, hfr, hc0, hw1⟩ := hrel
          have HW1 := hide hw1
          have HF := hide hfr
          have HC0 := hide hc0
          clear hw1 hfr k0 k1 k2 k3 k4
          by_cases hki : k < i
          · have j1 : (k : Int) < (i : Int) := by omega
            have j0 : (0 : Int) ≤ (k : Int) := Int.natCast_nonneg _
            have jn : (k : Int) < (n : Int) := by omega
            have jz : decide ((k : Int) < (i : Int)) = true := decide_eq_true j1
            obtain ⟨⟨s2, a2, b2', c2, d2⟩, hy⟩ := get_some (i := k) (unhide HL) (by omega)
            obtain ⟨_, pw, y0, _, _, _, _⟩ := ((unhide HU).bel (unhide HW1)).at hy
            simp only at y0
            have HY := hide hy
            clear pw hy
            by_cases he : s2 = s
            · have ez : (s2.toList == s.toList) = true := by rw [he]; exact beq_self_eq_true _
              have eR : R = false := by rw [← unhide HR]; exact rightB_false (not_right_twin (unhide HX) (unhide HY) hki he)
              subst eR
              go_wp2_with fail
              go_quiet (fail)
              go_wp2_with fail
              go_ret
              exact ⟨rfl, by repeat (first | exact unhide HW1 | refine bel_dn ?_ _ | refine Below.drew ?_)⟩
            · have ez : (s2.toList == s.toList) = false := bytes_ne he
              have HE := hide he
              go_wp2_with fail
              go_quiet (fail)
              go_wp2_with fail
              go_roundw
              case rel => exact ⟨k + 1, by simp, hki, freshTo_step (unhide HY) (unhide HF) (unhide HE), unhide HC0, by repeat (first | exact unhide HW1 | refine bel_dn ?_ _ | refine Below.drew ?_)⟩
              case measure => simp only [intOf]; omega
          · have j1 : ¬ (k : Int) < (i : Int) := by omega
            have jz : decide ((k : Int) < (i : Int)) = false := decide_eq_false j1
            have ek : k = i := by omega
            subst ek
            go_wp2_with fail
            go_roundw
            case rel => exact ⟨k + 1, by simp, h, okTo_step (unhide HX) (unhide HO) (unhide HLO) (unhide HF), unhide HW1⟩
            case measure => simp only [intOf]; omega
    · have i1 : ¬ (i : Int) < (n : Int) := by omega
      have iz : decide ((i : Int) < (n : Int)) = false := decide_eq_false i1
      have en : i = n := by omega
      have eR : R = true := by
        rw [← unhide HR]
        have h1 := unhide HO
        rw [en, ← unhide HL] at h1
        exact rightB_true (right_of_okTo (by rw [unhide HL]; omega) (by rw [unhide HL]; omega) h1)
      subst eR
      go_wp2_with fail
      go_ret
      exact ⟨rfl, unhide HW⟩
end Go.Proofs.Ytmhdodecofpchaa
