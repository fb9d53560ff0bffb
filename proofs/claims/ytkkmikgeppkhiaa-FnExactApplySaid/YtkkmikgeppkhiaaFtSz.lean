/-
  What the laws ask of rows of features: how much there is of it.
-/
import Derived.Test.YtkkmikgeppkhiaaCkM
namespace Go.Proofs.Ytkkmikgeppkhiaa
open Go.ChangeShapes Go.WideShapes Go.ChangeAt Go.RowKit
set_option linter.unusedVariables false
set_option linter.unusedSimpArgs false

set_option maxRecDepth 100000 in
set_option maxHeartbeats 2000000 in
theorem ft_sz1 (s o v : ByteArray) (k d x0 y0 z0 x1 y1 z1 ct dx dy dz : Int) (q : Int) (w : World) (hs : s.size ≤ maxLen) (ho : o.size ≤ maxLen) (hv : v.size ≤ maxLen) (q0 : 0 ≤ q) (q1 : q ≤ 1048576) :
    Calls Try.prog 25 #[.agg #[.string s, .string o, .string v, .int .i64 k, .int .i64 d, .int .i64 x0, .int .i64 y0, .int .i64 z0, .int .i64 x1, .int .i64 y1, .int .i64 z1, .int .i64 ct, .int .i64 dx, .int .i64 dy, .int .i64 dz], .int .i64 q] w fun e w' => (∃ r : Int, e = .returned (.int .i64 r) ∧ (0 ≤ r → r ≤ q ∧ (s.size : Int) ≤ q ∧ (o.size : Int) ≤ q ∧ (v.size : Int) ≤ q) ∧ -1 ≤ r) ∧ Below w.heap.size w w' := by
  unfold maxLen at hs ho hv
  have n0 : (0 : Int) ≤ (s.size : Int) := Int.natCast_nonneg _
  have n1 : (0 : Int) ≤ (o.size : Int) := Int.natCast_nonneg _
  have n2 : (0 : Int) ≤ (v.size : Int) := Int.natCast_nonneg _
  by_cases h : q - (s.size : Int) < 0
  · have t : decide (q - (s.size : Int) < 0) = true := decide_eq_true h
    go_enter Try.func25, Try.ntmps25
    go_wp2
    go_ret
    exact ⟨⟨-1, rfl, fun h => by omega, by omega⟩, ba (Below.refl _ _) _⟩
  have t : decide (q - (s.size : Int) < 0) = false := decide_eq_false h
  by_cases h2 : q - (s.size : Int) - (o.size : Int) < 0
  · have t2 : decide (q - (s.size : Int) - (o.size : Int) < 0) = true := decide_eq_true h2
    go_enter Try.func25, Try.ntmps25
    go_wp2
    go_ret
    exact ⟨⟨-1, rfl, fun h => by omega, by omega⟩, ba (Below.refl _ _) _⟩
  have t2 : decide (q - (s.size : Int) - (o.size : Int) < 0) = false := decide_eq_false h2
  by_cases h3 : q - (s.size : Int) - (o.size : Int) - (v.size : Int) < 0
  · have t3 : decide (q - (s.size : Int) - (o.size : Int) - (v.size : Int) < 0) = true := decide_eq_true h3
    go_enter Try.func25, Try.ntmps25
    go_wp2
    go_ret
    exact ⟨⟨-1, rfl, fun h => by omega, by omega⟩, ba (Below.refl _ _) _⟩
  have t3 : decide (q - (s.size : Int) - (o.size : Int) - (v.size : Int) < 0) = false := decide_eq_false h3
  go_enter Try.func25, Try.ntmps25
  go_wp2
  go_ret
  exact ⟨⟨_, rfl, fun h => by omega, by omega⟩, ba (Below.refl _ _) _⟩

set_option maxRecDepth 100000 in
set_option maxHeartbeats 2000000 in
theorem ft_sz (u : Option Addr) (p po n cu : Nat) (fs : List Ft) (w : World) (hl : fs.length = n) (hn : n ≤ 9223372036854775807) (hsz : ∀ f ∈ fs, f.nm.size ≤ maxLen ∧ f.on.size ≤ maxLen ∧ f.ov.size ≤ maxLen) (hu : SlG ftc 15 w u p po fs) :
    Calls Try.prog 6 #[.slice u n cu, .int .i64 1048576] w fun e w' => (∃ r : Int, e = .returned (.int .i64 r) ∧ (0 ≤ r → n ≤ 1048576 ∧ r ≤ 1048576)) ∧ Below w.heap.size w w' := by
  have HU := hide hu
  have HL := hide hl
  have HS := hide hsz
  clear hu hl hsz
  have n0 : (0 : Int) ≤ (n : Int) := Int.natCast_nonneg _
  by_cases hb : n ≤ 1048576
  · have t : decide ((1048576 : Int) - (n : Int) < 0) = false := decide_eq_false (by omega)
    go_enter Try.func6, Try.ntmps6
    go_wp2
    go_loopw [1, 5] (fun q s W => ∃ (i : Nat) (r : Int), q = .int .i64 r ∧ 0 ≤ r ∧ r ≤ 1048576 ∧ s = .int .i64 (i : Int) ∧ i ≤ n ∧ Below w.heap.size w W) (fun _ s _ => n - (intOf s).toNat)
    case atStart => exact ⟨0, _, rfl, by omega, by omega, rfl, Nat.zero_le _, Below.refl _ _⟩
    case round =>
      obtain ⟨i, r, rfl, hr0, hr1, rfl, hi, hw⟩ := hrel
      have HW := hide hw
      clear hw
      by_cases h : i < n
      · have i1 : (i : Int) < (n : Int) := by omega
        have i0 : (0 : Int) ≤ (i : Int) := Int.natCast_nonneg _
        have iz : decide ((i : Int) < (n : Int)) = true := decide_eq_true i1
        obtain ⟨f, hx⟩ := get_some (unhide HL) h
        obtain ⟨rfl, k0, k1, k2, k3, k4, k5, k6, k7, k8, k9, k10, k11, k12, k13, k14⟩ := ((unhide HU).bel (unhide HW)).at15 hx
        obtain ⟨a1, a2, a3⟩ := unhide HS f (List.mem_of_getElem? hx)
        have HZ := hide (fun W => ft_sz1 f.nm f.on f.ov f.kd f.sd f.x0 f.y0 f.z0 f.x1 f.y1 f.z1 f.ct f.dx f.dy f.dz r W a1 a2 a3 hr0 hr1)
        clear hx a1 a2 a3
        go_wp2_with fail
        refine (unhide HZ _).mono ?_
        rintro e W1 ⟨⟨r1, rfl, hr2, hr3⟩, hb1⟩
        have HW1 := hide (bc (unhide HW) hb1)
        clear hb1 k0 k1 k2 k3 k4 k5 k6 k7 k8 k9 k10 k11 k12 k13 k14
        by_cases hz : r1 < 0
        · have hzd : decide (r1 < 0) = true := decide_eq_true hz
          have HR2 := hide hr2
          clear hr2
          go_wp2_with fail
          go_ret
          exact ⟨⟨-1, rfl, fun h => by omega⟩, unhide HW1⟩
        · have hzd : decide (r1 < 0) = false := decide_eq_false hz
          have q1 := (hr2 (by omega)).1
          clear hr2
          go_wp2_with fail
          go_roundw
          case rel => exact ⟨i + 1, r1, rfl, by omega, by omega, by simp, h, unhide HW1⟩
          case measure => simp only [intOf]; omega
      · have i1 : ¬ (i : Int) < (n : Int) := by omega
        have iz : decide ((i : Int) < (n : Int)) = false := decide_eq_false i1
        go_wp2_with fail
        go_ret
        exact ⟨⟨_, rfl, fun _ => by first | exact ⟨hb, by omega⟩ | omega⟩, unhide HW⟩
  · have t : decide ((1048576 : Int) - (n : Int) < 0) = true := decide_eq_true (by omega)
    go_enter Try.func6, Try.ntmps6
    go_wp2
    go_ret
    exact ⟨⟨-1, rfl, fun h => by omega⟩, Below.refl _ _⟩
set_option maxRecDepth 100000 in
set_option maxHeartbeats 4000000 in
theorem ft_szq (q : Int) (q0 : 0 ≤ q) (q1 : q ≤ 1048576) (u : Option Addr) (p po n cu : Nat) (fs : List Ft) (w : World) (hl : fs.length = n) (hn : n ≤ 9223372036854775807) (hsz : ∀ f ∈ fs, f.nm.size ≤ maxLen ∧ f.on.size ≤ maxLen ∧ f.ov.size ≤ maxLen) (hu : SlG ftc 15 w u p po fs) :
    Calls Try.prog 6 #[.slice u n cu, .int .i64 q] w fun e w' => (∃ r : Int, e = .returned (.int .i64 r) ∧ (0 ≤ r → n ≤ 1048576 ∧ r ≤ 1048576)) ∧ Below w.heap.size w w' := by
  have HU := hide hu
  have HL := hide hl
  have HS := hide hsz
  clear hu hl hsz
  have n0 : (0 : Int) ≤ (n : Int) := Int.natCast_nonneg _
  have wq : IntKind.i64.wrap (q - (n : Int)) = q - (n : Int) := wrap_i (by omega) (by omega)
  by_cases hb : (n : Int) ≤ q
  · have t : decide (q - (n : Int) < 0) = false := decide_eq_false (by omega)
    have t' : ¬ (q - (n : Int) < 0) := by omega
    go_enter Try.func6, Try.ntmps6
    go_wp2
    go_loopw [1, 5] (fun qq s W => ∃ (i : Nat) (r : Int), qq = .int .i64 r ∧ 0 ≤ r ∧ r ≤ 1048576 ∧ s = .int .i64 (i : Int) ∧ i ≤ n ∧ Below w.heap.size w W) (fun _ s _ => n - (intOf s).toNat)
    case atStart => exact ⟨0, _, rfl, by omega, by omega, rfl, Nat.zero_le _, Below.refl _ _⟩
    case round =>
      obtain ⟨i, r, rfl, hr0, hr1, rfl, hi, hw⟩ := hrel
      have HW := hide hw
      clear hw
      by_cases h : i < n
      · have i1 : (i : Int) < (n : Int) := by omega
        have i0 : (0 : Int) ≤ (i : Int) := Int.natCast_nonneg _
        have iz : decide ((i : Int) < (n : Int)) = true := decide_eq_true i1
        obtain ⟨f, hx⟩ := get_some (unhide HL) h
        obtain ⟨rfl, k0, k1, k2, k3, k4, k5, k6, k7, k8, k9, k10, k11, k12, k13, k14⟩ := ((unhide HU).bel (unhide HW)).at15 hx
        obtain ⟨a1, a2, a3⟩ := unhide HS f (List.mem_of_getElem? hx)
        have HZ := hide (fun W => ft_sz1 f.nm f.on f.ov f.kd f.sd f.x0 f.y0 f.z0 f.x1 f.y1 f.z1 f.ct f.dx f.dy f.dz r W a1 a2 a3 hr0 hr1)
        clear hx a1 a2 a3
        go_wp2_with fail
        refine (unhide HZ _).mono ?_
        rintro e W1 ⟨⟨r1, rfl, hr2, hr3⟩, hb1⟩
        have HW1 := hide (bc (unhide HW) hb1)
        clear hb1 k0 k1 k2 k3 k4 k5 k6 k7 k8 k9 k10 k11 k12 k13 k14
        by_cases hz : r1 < 0
        · have hzd : decide (r1 < 0) = true := decide_eq_true hz
          have HR2 := hide hr2
          clear hr2
          go_wp2_with fail
          go_ret
          exact ⟨⟨-1, rfl, fun h => by omega⟩, unhide HW1⟩
        · have hzd : decide (r1 < 0) = false := decide_eq_false hz
          have q1' := (hr2 (by omega)).1
          clear hr2
          go_wp2_with fail
          go_roundw
          case rel => exact ⟨i + 1, r1, rfl, by omega, by omega, by simp, h, unhide HW1⟩
          case measure => simp only [intOf]; omega
      · have i1 : ¬ (i : Int) < (n : Int) := by omega
        have iz : decide ((i : Int) < (n : Int)) = false := decide_eq_false i1
        go_wp2_with fail
        go_ret
        exact ⟨⟨_, rfl, fun _ => by first | exact ⟨by omega, by omega⟩ | omega⟩, unhide HW⟩
  · have t : decide (q - (n : Int) < 0) = true := decide_eq_true (by omega)
    have t' : q - (n : Int) < 0 := by omega
    go_enter Try.func6, Try.ntmps6
    go_wp2
    go_ret
    exact ⟨⟨-1, rfl, fun h => by omega⟩, Below.refl _ _⟩
end Go.Proofs.Ytkkmikgeppkhiaa
