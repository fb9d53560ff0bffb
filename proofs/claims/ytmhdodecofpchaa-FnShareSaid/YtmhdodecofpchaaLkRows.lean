/-
  What the laws ask of rows of links: that two are the same, that one is made of another, how much there is of it.
-/
import Derived.Test.YtmhdodecofpchaaLkBase
namespace Go.Proofs.Ytmhdodecofpchaa
open Go.ChangeShapes Go.WideShapes Go.ChangeAt Go.RowKit
set_option linter.unusedVariables false
set_option linter.unusedSimpArgs false

theorem lkE_one (s : ByteArray) (a b c d : Int) (w : World) : Calls Try.prog 48 #[.agg #[.string s, .int .i64 a, .int .i64 b, .int .i64 c, .int .i64 d], .agg #[.string s, .int .i64 a, .int .i64 b, .int .i64 c, .int .i64 d]] w fun e w' => e = .returned (.bool true) ∧ Below w.heap.size w w' := by
  go_enter Try.func48, Try.ntmps48
  go_wp2
  go_ret
  exact ⟨rfl, ba (ba (Below.refl _ _) _) _⟩

set_option maxHeartbeats 1000000 in
theorem lk_same (u v : Option Addr) (p po q qo n cu cv : Nat) (ls : List Lk) (w : World) (hl : ls.length = n) (hn : n ≤ 1844674407370955161)
    (hu : Lks w u p po ls) (hv : Lks w v q qo ls) :
    Calls Try.prog 19 #[.slice u n cu, .slice v n cv] w fun e w' => e = .returned (.bool true) ∧ Below w.heap.size w w' := by
  have HU := hide hu
  have HV := hide hv
  have HL := hide hl
  clear hu hv hl
  go_enter Try.func19, Try.ntmps19
  go_wp2
  go_loopw [5] (fun s W => ∃ i : Nat, s = .int .i64 (i : Int) ∧ i ≤ n ∧ Below w.heap.size w W) (fun s _ => n - (intOf s).toNat)
  case atStart => exact ⟨0, rfl, Nat.zero_le _, Below.refl _ _⟩
  case round =>
    obtain ⟨i, rfl, hi, hw⟩ := hrel
    have HW := hide hw
    clear hw
    by_cases h : i < n
    · have i1 : (i : Int) < (n : Int) := by omega
      have i0 : (0 : Int) ≤ (i : Int) := Int.natCast_nonneg _
      have iz : decide ((i : Int) < (n : Int)) = true := decide_eq_true i1
      obtain ⟨⟨s, a, b, c, d⟩, hx⟩ := get_some (unhide HL) h
      obtain ⟨rfl, pw, k0, k1, k2, k3, k4⟩ := ((unhide HU).bel (unhide HW)).at hx
      obtain ⟨rfl, qw, l0, l1, l2, l3, l4⟩ := ((unhide HV).bel (unhide HW)).at hx
      simp only at k0 k1 k2 k3 k4 l0 l1 l2 l3 l4
      clear pw qw hx
      go_wp2_with fail
      go_region_held3 (fun wx => wx.cell? ⟨p, po + i * 5, none⟩ = some (.string s) ∧ wx.cell? ⟨p, po + i * 5 + 1, none⟩ = some (.int .i64 a) ∧ wx.cell? ⟨p, po + i * 5 + 2, none⟩ = some (.int .i64 b) ∧ wx.cell? ⟨p, po + i * 5 + 3, none⟩ = some (.int .i64 c) ∧ wx.cell? ⟨p, po + i * 5 + 4, none⟩ = some (.int .i64 d) ∧ wx.cell? ⟨q, qo + i * 5, none⟩ = some (.string s) ∧ wx.cell? ⟨q, qo + i * 5 + 1, none⟩ = some (.int .i64 a) ∧ wx.cell? ⟨q, qo + i * 5 + 2, none⟩ = some (.int .i64 b) ∧ wx.cell? ⟨q, qo + i * 5 + 3, none⟩ = some (.int .i64 c) ∧ wx.cell? ⟨q, qo + i * 5 + 4, none⟩ = some (.int .i64 d))
        (simp (maxDischargeDepth := 12) [go_sem, le1, lt1, *])
        (first
        | (go_at_call 48; refine (lkE_one _ _ _ _ _ _).mono ?_; rintro e w' ⟨rfl, hb⟩; have HB := hide hb; have y0 := keep1 hb (b := p) (o := _) (v := .string s) k0; have y1 := keep1 hb (b := p) (o := _) (v := .int .i64 a) k1; have y2 := keep1 hb (b := p) (o := _) (v := .int .i64 b) k2; have y3 := keep1 hb (b := p) (o := _) (v := .int .i64 c) k3; have y4 := keep1 hb (b := p) (o := _) (v := .int .i64 d) k4; have z0 := keep1 hb (b := q) (o := _) (v := .string s) l0; have z1 := keep1 hb (b := q) (o := _) (v := .int .i64 a) l1; have z2 := keep1 hb (b := q) (o := _) (v := .int .i64 b) l2; have z3 := keep1 hb (b := q) (o := _) (v := .int .i64 c) l3; have z4 := keep1 hb (b := q) (o := _) (v := .int .i64 d) l4; clear hb))
      all_goals
        go_wp2_with fail
        go_roundw
        case rel => exact ⟨i + 1, by simp, h, by repeat (first | exact unhide HW | refine bc ?_ (unhide HB) | refine Below.drew ?_)⟩
        case measure => simp only [intOf]; omega
    · have i1 : ¬ (i : Int) < (n : Int) := by omega
      have iz : decide ((i : Int) < (n : Int)) = false := decide_eq_false i1
      go_wp2_with fail
      go_ret
      exact ⟨rfl, unhide HW⟩

theorem lk_conv (s : ByteArray) (a b c d : Int) (w : World) : Calls Try.prog 47 #[.agg #[.string s, .int .i64 a, .int .i64 b, .int .i64 c, .int .i64 d]] w fun e w' => e = .returned (.agg #[.string s, .int .i64 a, .int .i64 b, .int .i64 c, .int .i64 d]) ∧ Below w.heap.size w w' := by
  go_enter Try.func47, Try.ntmps47
  go_wp2
  exact bodyPost_ret (v := .agg #[.string s, .int .i64 a, .int .i64 b, .int .i64 c, .int .i64 d]) (by simp [results, Try.results47, go_sem]) rfl ⟨rfl, by repeat (first | exact Below.refl _ _ | refine ba ?_ _)⟩
theorem lk_info : (Try.prog.info? 29).map (fun i => (i.zero, i.size, i.bytes)) = some (some (lkv lk0), 5, 48) := by kernel_rfl

set_option maxHeartbeats 1000000 in
theorem lk_to (u : Option Addr) (p po n cu : Nat) (ls : List Lk) (w : World) (hl : ls.length = n) (hn : n ≤ 1048576) (hu : Lks w u p po ls) :
    Calls Try.prog 18 #[.slice u n cu] w fun e w' => (∃ g, e = .returned (.slice (some ⟨g, 0, none⟩) n n) ∧ w.heap.size ≤ g ∧ vblk w' g 29 (flat5 ls)) ∧ Below w.heap.size w w' := by
  have HU := hide hu
  have HL := hide hl
  clear hu hl
  have hmk := fun W => make_links (P := Try.prog) 23 29 48 n Try.underlying23 lk_info (by omega) (by omega) W
  generalize hzz : flat5 (List.replicate n lk0) = Z at hmk
  have HZ := hide hzz
  clear hzz
  go_enter Try.func18, Try.ntmps18
  go_wp2_with fail
  have HG := hide (vblk_new w 29 Z)
  have HB0 := hide (ba (Below.refl w.heap.size w) (.cells Z.toArray 29))
  clear hmk
  go_loopw [4] (fun s W => ∃ i : Nat, s = .int .i64 (i : Int) ∧ i ≤ n ∧ vblk W w.heap.size 29 (flat5 (fillL ls i)) ∧ Below w.heap.size w W) (fun s _ => n - (intOf s).toNat)
  case atStart =>
    refine ⟨0, rfl, Nat.zero_le _, ?_, unhide HB0⟩
    rw [fillL_zero, unhide HL, unhide HZ]
    exact unhide HG
  case round =>
    obtain ⟨i, rfl, hi, hb, hw⟩ := hrel
    have HB := hide hb
    have HW := hide hw
    clear hb hw HG HB0
    by_cases h : i < n
    · have i1 : (i : Int) < (n : Int) := by omega
      have i0 : (0 : Int) ≤ (i : Int) := Int.natCast_nonneg _
      have iz : decide ((i : Int) < (n : Int)) = true := decide_eq_true i1
      obtain ⟨⟨s, a, b, c, d⟩, hx⟩ := get_some (unhide HL) h
      obtain ⟨rfl, pw, k0, k1, k2, k3, k4⟩ := ((unhide HU).bel (unhide HW)).at hx
      simp only at k0 k1 k2 k3 k4
      have HX := hide hx
      clear pw hx
      go_wp2_with fail
      refine (lk_conv _ _ _ _ _ _).mono ?_
      rintro e W1 ⟨rfl, hb⟩
      have pb := (unhide HB).bel hb
      obtain ⟨f0, f1, f2, f3, f4⟩ := flat5_at (fillL_at ls i (by rw [unhide HL]; exact h))
      have m0 := pb.cell f0
      have m1 := pb.cell f1
      have m2 := pb.cell f2
      have m3 := pb.cell f3
      have m4 := pb.cell f4
      have fz : ∀ o, W1.frozen? ⟨w.heap.size, o, none⟩ = false := pb.frozen
      have PB := hide pb
      have HW1 := hide (bc (unhide HW) hb)
      clear hb pb k0 k1 k2 k3 k4 f0 f1 f2 f3 f4
      go_wp2_with fail
      go_roundw
      case rel =>
        refine ⟨i + 1, by simp, h, ?_, ?_⟩
        · have h1 := (((((unhide PB).set (i * 5) (.string s)).set (i * 5 + 1) (.int .i64 a)).set (i * 5 + 2) (.int .i64 b)).set (i * 5 + 3) (.int .i64 c)).set (i * 5 + 4) (.int .i64 d)
          rw [← fillL_step ls i _ (unhide HX), flat5_set _ _ _ (by rw [fillL_len _ _ (by rw [unhide HL]; omega), unhide HL]; exact h)]
          exact h1
        · exact Below.setCell (Below.setCell (Below.setCell (Below.setCell (Below.setCell (unhide HW1) (Nat.le_refl _) _) (Nat.le_refl _) _) (Nat.le_refl _) _) (Nat.le_refl _) _) (Nat.le_refl _) _
      case measure => simp only [intOf]; omega
    · have i1 : ¬ (i : Int) < (n : Int) := by omega
      have iz : decide ((i : Int) < (n : Int)) = false := decide_eq_false i1
      have en : i = n := by omega
      subst en
      go_wp2_with fail
      go_ret
      refine ⟨⟨_, rfl, Nat.le_refl _, ?_⟩, unhide HW⟩
      have h1 := unhide HB
      rw [← unhide HL, fillL_all] at h1
      exact h1

theorem lk_sz1 (s : ByteArray) (a b c d k : Int) (w : World) (hs : s.size ≤ maxLen) (k0 : 0 ≤ k) (k1 : k ≤ 1048576) :
    Calls Try.prog 46 #[.agg #[.string s, .int .i64 a, .int .i64 b, .int .i64 c, .int .i64 d], .int .i64 k] w fun e w' => (∃ r : Int, e = .returned (.int .i64 r) ∧ (0 ≤ r → r ≤ k ∧ (s.size : Int) ≤ k) ∧ -1 ≤ r) ∧ Below w.heap.size w w' := by
  unfold maxLen at hs
  have n0 : (0 : Int) ≤ (s.size : Int) := Int.natCast_nonneg _
  by_cases h : k - (s.size : Int) < 0
  · have t : decide (k - (s.size : Int) < 0) = true := decide_eq_true h
    go_enter Try.func46, Try.ntmps46
    go_wp2
    go_ret
    exact ⟨⟨-1, rfl, fun h => by omega, by omega⟩, ba (Below.refl _ _) _⟩
  · have t : decide (k - (s.size : Int) < 0) = false := decide_eq_false h
    go_enter Try.func46, Try.ntmps46
    go_wp2
    go_ret
    exact ⟨⟨_, rfl, fun h => by omega, by omega⟩, ba (Below.refl _ _) _⟩

set_option maxHeartbeats 1000000 in
theorem lk_sz (u : Option Addr) (p po n cu : Nat) (ls : List Lk) (w : World) (hl : ls.length = n) (hn : n ≤ 9223372036854775807) (hsz : ∀ l ∈ ls, l.nm.size ≤ maxLen) (hu : Lks w u p po ls) :
    Calls Try.prog 17 #[.slice u n cu, .int .i64 1048576] w fun e w' => (∃ r : Int, e = .returned (.int .i64 r) ∧ (0 ≤ r → n ≤ 1048576 ∧ ∀ l ∈ ls, l.nm.size ≤ 1048576)) ∧ Below w.heap.size w w' := by
  have HU := hide hu
  have HL := hide hl
  have HS := hide hsz
  clear hu hl hsz
  have n0 : (0 : Int) ≤ (n : Int) := Int.natCast_nonneg _
  by_cases hb : n ≤ 1048576
  · have t : decide ((1048576 : Int) - (n : Int) < 0) = false := decide_eq_false (by omega)
    go_enter Try.func17, Try.ntmps17
    go_wp2
    go_loopw [1, 5] (fun k s W => ∃ (i : Nat) (r : Int), k = .int .i64 r ∧ 0 ≤ r ∧ r ≤ 1048576 ∧ s = .int .i64 (i : Int) ∧ i ≤ n ∧ (∀ l ∈ ls.take i, l.nm.size ≤ 1048576) ∧ Below w.heap.size w W) (fun _ s _ => n - (intOf s).toNat)
    case atStart => exact ⟨0, _, rfl, by omega, by omega, rfl, Nat.zero_le _, by simp, Below.refl _ _⟩
    case round =>
      obtain ⟨i, r, rfl, hr0, hr1, rfl, hi, hall, hw⟩ := hrel
      have HW := hide hw
      have HA := hide hall
      clear hw hall
      by_cases h : i < n
      · have i1 : (i : Int) < (n : Int) := by omega
        have i0 : (0 : Int) ≤ (i : Int) := Int.natCast_nonneg _
        have iz : decide ((i : Int) < (n : Int)) = true := decide_eq_true i1
        obtain ⟨⟨s, a, b, c, d⟩, hx⟩ := get_some (unhide HL) h
        obtain ⟨rfl, pw, k0, k1, k2, k3, k4⟩ := ((unhide HU).bel (unhide HW)).at hx
        simp only at k0 k1 k2 k3 k4
        have HX := hide hx
        clear pw hx
        go_wp2_with fail
        refine (lk_sz1 s a b c d r _ (unhide HS _ (List.mem_of_getElem? (unhide HX))) hr0 hr1).mono ?_
        rintro e W1 ⟨⟨r1, rfl, hr2, hr3⟩, hb1⟩
        have HW1 := hide (bc (unhide HW) hb1)
        clear hb1 k0 k1 k2 k3 k4
        by_cases hz : r1 < 0
        · have hzd : decide (r1 < 0) = true := decide_eq_true hz
          have HR2 := hide hr2
          clear hr2
          go_wp2_with fail
          go_ret
          exact ⟨⟨-1, rfl, fun h => by omega⟩, unhide HW1⟩
        · have hzd : decide (r1 < 0) = false := decide_eq_false hz
          obtain ⟨q1, q2⟩ := hr2 (by omega)
          have HQ := hide q2
          clear hr2 q2
          go_wp2_with fail
          go_roundw
          case rel =>
            refine ⟨i + 1, r1, rfl, by omega, by omega, by simp, h, ?_, unhide HW1⟩
            intro l hl
            rw [List.take_add_one, unhide HX] at hl
            rcases List.mem_append.1 hl with h1 | h1
            · exact unhide HA l h1
            · simp only [Option.toList_some, List.mem_singleton] at h1
              subst h1
              have := unhide HQ
              simp only
              omega
          case measure => simp only [intOf]; omega
      · have i1 : ¬ (i : Int) < (n : Int) := by omega
        have iz : decide ((i : Int) < (n : Int)) = false := decide_eq_false i1
        have en : i = n := by omega
        subst en
        go_wp2_with fail
        go_ret
        have hx := unhide HA
        rw [List.take_of_length_le (by rw [unhide HL]; exact Nat.le_refl _)] at hx
        exact ⟨⟨_, rfl, fun _ => by first | exact ⟨hb, hx⟩ | exact hx⟩, unhide HW⟩
  · have t : decide ((1048576 : Int) - (n : Int) < 0) = true := decide_eq_true (by omega)
    go_enter Try.func17, Try.ntmps17
    go_wp2
    go_ret
    exact ⟨⟨-1, rfl, fun h => by omega⟩, Below.refl _ _⟩

end Go.Proofs.Ytmhdodecofpchaa
