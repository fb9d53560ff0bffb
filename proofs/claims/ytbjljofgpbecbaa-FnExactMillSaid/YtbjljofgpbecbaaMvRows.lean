/-
  What the laws ask of rows of moves: that two are the same, that one is made of another, how much there is of it, that it is written over.
-/
import Derived.Test.YtbjljofgpbecbaaMvBase
import Derived.Test.YtbjljofgpbecbaaMkRows
namespace Go.Proofs.Ytbjljofgpbecbaa
open Go.ChangeShapes Go.WideShapes Go.ChangeAt Go.RowKit
set_option linter.unusedVariables false
set_option linter.unusedSimpArgs false

theorem mvE_one (s : Bool) (a b c : Int) (w : World) : Calls Try.prog 61 #[.agg #[.bool s, .int .i64 a, .int .i64 b, .int .i64 c], .agg #[.bool s, .int .i64 a, .int .i64 b, .int .i64 c]] w fun e w' => e = .returned (.bool true) ∧ Below w.heap.size w w' := by
  cases s <;>
  · go_enter Try.func61, Try.ntmps61
    go_wp2
    go_ret
    exact ⟨rfl, ba (ba (Below.refl _ _) _) _⟩

set_option maxHeartbeats 1000000 in
theorem mv_same (u v : Option Addr) (p po q qo n cu cv : Nat) (ms : List Mve) (w : World) (hl : ms.length = n) (hn : n ≤ 1844674407370955161)
    (hu : Mvs w u p po ms) (hv : Mvs w v q qo ms) :
    Calls Try.prog 27 #[.slice u n cu, .slice v n cv] w fun e w' => e = .returned (.bool true) ∧ Below w.heap.size w w' := by
  have HU := hide hu
  have HV := hide hv
  have HL := hide hl
  clear hu hv hl
  go_enter Try.func27, Try.ntmps27
  go_wp2
  go_loopw [5] (fun s W => ∃ i : Nat, s = .int .i64 (i : Int) ∧ i ≤ n ∧ Below w.heap.size w W) (fun s _ => n - (intOf s).toNat)
  case atStart => exact ⟨0, rfl, Nat.zero_le _, Below.refl _ _⟩
  case round =>
    obtain ⟨i, rfl, hi, hw⟩ := hrel
    have HW := hide hw
    clear hw
    by_cases h : i < n
    · have i1 : (i : Int) < (n : Int) := by omega
      have i0 : (0 : Int) ≤ (i : Int) := Int.natCast_nonneg _
      have iz : decide ((i : Int) < (n : Int)) = true := decide_eq_true i1
      obtain ⟨⟨s, a, b, c⟩, hx⟩ := get_some (unhide HL) h
      obtain ⟨rfl, pw, k0, k1, k2, k3⟩ := ((unhide HU).bel (unhide HW)).at hx
      obtain ⟨rfl, qw, l0, l1, l2, l3⟩ := ((unhide HV).bel (unhide HW)).at hx
      simp only at k0 k1 k2 k3 l0 l1 l2 l3
      clear pw qw hx
      go_wp2_with fail
      go_region_held3 (fun wx => wx.cell? ⟨p, po + i * 4, none⟩ = some (.bool s) ∧ wx.cell? ⟨p, po + i * 4 + 1, none⟩ = some (.int .i64 a) ∧ wx.cell? ⟨p, po + i * 4 + 2, none⟩ = some (.int .i64 b) ∧ wx.cell? ⟨p, po + i * 4 + 3, none⟩ = some (.int .i64 c) ∧ wx.cell? ⟨q, qo + i * 4, none⟩ = some (.bool s) ∧ wx.cell? ⟨q, qo + i * 4 + 1, none⟩ = some (.int .i64 a) ∧ wx.cell? ⟨q, qo + i * 4 + 2, none⟩ = some (.int .i64 b) ∧ wx.cell? ⟨q, qo + i * 4 + 3, none⟩ = some (.int .i64 c))
        (simp (maxDischargeDepth := 12) [go_sem, le1, lt1, *])
        (first
        | (go_at_call 61; refine (mvE_one _ _ _ _ _).mono ?_; rintro e w' ⟨rfl, hb⟩; have HB := hide hb; have y0 := keep1 hb (b := p) (o := _) (v := .bool s) k0; have y1 := keep1 hb (b := p) (o := _) (v := .int .i64 a) k1; have y2 := keep1 hb (b := p) (o := _) (v := .int .i64 b) k2; have y3 := keep1 hb (b := p) (o := _) (v := .int .i64 c) k3; have z0 := keep1 hb (b := q) (o := _) (v := .bool s) l0; have z1 := keep1 hb (b := q) (o := _) (v := .int .i64 a) l1; have z2 := keep1 hb (b := q) (o := _) (v := .int .i64 b) l2; have z3 := keep1 hb (b := q) (o := _) (v := .int .i64 c) l3; clear hb))
      all_goals
        go_wp2_with fail
        go_roundw
        case rel => exact ⟨i + 1, by simp, h, by repeat (first | exact unhide HW | refine bc ?_ (unhide HB) | refine Below.drew ?_)⟩
        case measure => simp only [intOf]; omega
    · have i1 : ¬ (i : Int) < (n : Int) := by omega
      have iz : decide ((i : Int) < (n : Int)) = false := decide_eq_false i1
      go_wp2_with fail
      go_ret
      exact ⟨rfl, unhide HW⟩

theorem mv_conv (s : Bool) (a b c : Int) (w : World) : Calls Try.prog 60 #[.agg #[.bool s, .int .i64 a, .int .i64 b, .int .i64 c]] w fun e w' => e = .returned (.agg #[.bool s, .int .i64 a, .int .i64 b, .int .i64 c]) ∧ Below w.heap.size w w' := by
  go_enter Try.func60, Try.ntmps60
  go_wp2
  exact bodyPost_ret (v := .agg #[.bool s, .int .i64 a, .int .i64 b, .int .i64 c]) (by simp [results, Try.results60, go_sem]) rfl ⟨rfl, by repeat (first | exact Below.refl _ _ | refine ba ?_ _)⟩
theorem mv_info : (Try.prog.info? 36).map (fun i => (i.zero, i.size, i.bytes)) = some (some (mvv mv0), 4, 32) := by kernel_rfl

set_option maxHeartbeats 1000000 in
theorem mv_to (u : Option Addr) (p po n cu : Nat) (ms : List Mve) (w : World) (hl : ms.length = n) (hn : n ≤ 1048576) (hu : Mvs w u p po ms) :
    Calls Try.prog 25 #[.slice u n cu] w fun e w' => (∃ g, e = .returned (.slice (some ⟨g, 0, none⟩) n n) ∧ w.heap.size ≤ g ∧ vb w' g 36 (flat4 ms)) ∧ Below w.heap.size w w' := by
  have HU := hide hu
  have HL := hide hl
  clear hu hl
  have hmk := fun W => make_moves (P := Try.prog) 28 36 32 n Try.underlying28 mv_info (by omega) (by omega) W
  generalize hzz : flat4 (List.replicate n mv0) = Z at hmk
  have HZ := hide hzz
  clear hzz
  go_enter Try.func25, Try.ntmps25
  go_wp2_with fail
  have HG := hide (vb_new w 36 Z w.heap.size rfl)
  have HB0 := hide (ba (Below.refl w.heap.size w) (.cells Z.toArray 36))
  clear hmk
  go_loopw [4] (fun s W => ∃ i : Nat, s = .int .i64 (i : Int) ∧ i ≤ n ∧ vb W w.heap.size 36 (flat4 (fillM ms i)) ∧ Below w.heap.size w W) (fun s _ => n - (intOf s).toNat)
  case atStart =>
    refine ⟨0, rfl, Nat.zero_le _, ?_, unhide HB0⟩
    rw [fillM_zero, unhide HL, unhide HZ]
    exact unhide HG
  case round =>
    obtain ⟨i, rfl, hi, hb, hw⟩ := hrel
    have HB := hide hb
    have HW := hide hw
    clear hb hw HG HB0
    by_cases h : i < n
    · have i1 : (i : Int) < (n : Int) := by omega
      have i0 : (0 : Int) ≤ (i : Int) := Int.natCast_nonneg _
      have iz : decide ((i : Int) < (n : Int)) = true := decide_eq_true i1
      obtain ⟨⟨s, a, b, c⟩, hx⟩ := get_some (unhide HL) h
      obtain ⟨rfl, pw, k0, k1, k2, k3⟩ := ((unhide HU).bel (unhide HW)).at hx
      simp only at k0 k1 k2 k3
      have HX := hide hx
      clear pw hx
      go_wp2_with fail
      refine (mv_conv _ _ _ _ _).mono ?_
      rintro e W1 ⟨rfl, hb⟩
      have pb := (unhide HB).bel hb
      obtain ⟨f0, f1, f2, f3⟩ := flat4_at (fillM_at ms i (by rw [unhide HL]; exact h))
      have m0 := pb.cell f0
      have m1 := pb.cell f1
      have m2 := pb.cell f2
      have m3 := pb.cell f3
      have fz : ∀ o, W1.frozen? ⟨w.heap.size, o, none⟩ = false := pb.frozen
      have PB := hide pb
      have HW1 := hide (bc (unhide HW) hb)
      clear hb pb k0 k1 k2 k3 f0 f1 f2 f3
      go_wp2_with fail
      go_roundw
      case rel =>
        refine ⟨i + 1, by simp, h, ?_, ?_⟩
        · have h1 := ((((unhide PB).set (i * 4) (.bool s)).set (i * 4 + 1) (.int .i64 a)).set (i * 4 + 2) (.int .i64 b)).set (i * 4 + 3) (.int .i64 c)
          rw [← fillM_step ms i _ (unhide HX), flat4_set _ _ _ (by rw [fillM_len _ _ (by rw [unhide HL]; omega), unhide HL]; exact h)]
          exact h1
        · exact Below.setCell (Below.setCell (Below.setCell (Below.setCell (unhide HW1) (Nat.le_refl _) _) (Nat.le_refl _) _) (Nat.le_refl _) _) (Nat.le_refl _) _
      case measure => simp only [intOf]; omega
    · have i1 : ¬ (i : Int) < (n : Int) := by omega
      have iz : decide ((i : Int) < (n : Int)) = false := decide_eq_false i1
      have en : i = n := by omega
      subst en
      go_wp2_with fail
      go_ret
      refine ⟨⟨_, rfl, Nat.le_refl _, ?_⟩, unhide HW⟩
      have h1 := unhide HB
      rw [← unhide HL, fillM_all] at h1
      exact h1

theorem mv_sz (u : Option Addr) (n cu : Nat) (k : Int) (w : World) (hn : n ≤ 9223372036854775807) (k0 : 0 ≤ k) (k1 : k ≤ 1048576) :
    Calls Try.prog 24 #[.slice u n cu, .int .i64 k] w fun e w' => (∃ r : Int, e = .returned (.int .i64 r) ∧ (0 ≤ r → n ≤ 1048576) ∧ -1 ≤ r ∧ r ≤ 1048576) ∧ w' = w := by
  have n0 : (0 : Int) ≤ (n : Int) := Int.natCast_nonneg _
  by_cases hb : k - (n : Int) < 0
  · have t : decide (k - (n : Int) < 0) = true := decide_eq_true hb
    go_enter Try.func24, Try.ntmps24
    go_wp2
    go_ret
    exact ⟨⟨-1, rfl, fun h => by omega, by omega, by omega⟩, rfl⟩
  · have t : decide (k - (n : Int) < 0) = false := decide_eq_false hb
    go_enter Try.func24, Try.ntmps24
    go_wp2
    go_ret
    exact ⟨⟨_, rfl, fun h => by omega, by omega, by omega⟩, rfl⟩

/-- what a mark writes -/
def mkM (k : Int) : Mve := ⟨k % 3 == 0, k + 1, k + 2, k + 3⟩
def mksM (k : Int) : Nat → List Mve
  | 0 => []
  | i + 1 => mksM k i ++ [mkM (k + 4 * (i : Int))]
theorem mksM_len (k : Int) (i : Nat) : (mksM k i).length = i := by
  induction i with
  | zero => rfl
  | succ i ih => simp [mksM, ih]
/-- all of a row is written over -/
def overM (ms : List Mve) (k : Int) (i : Nat) : List Mve := mksM k i ++ ms.drop i
theorem overM_len (ms : List Mve) (k : Int) {i : Nat} (h : i ≤ ms.length) : (overM ms k i).length = ms.length := by simp [overM, mksM_len]; omega
theorem overM_at {ms : List Mve} (k : Int) {i : Nat} {m : Mve} (h : ms[i]? = some m) : (overM ms k i)[i]? = some m := by
  unfold overM
  rw [List.getElem?_append_right (by rw [mksM_len]; exact Nat.le_refl _), mksM_len, Nat.sub_self, List.getElem?_drop, Nat.add_zero]
  exact h
theorem overM_step {ms : List Mve} (k : Int) {i : Nat} (h : i < ms.length) : (overM ms k i).set i (mkM (k + 4 * (i : Int))) = overM ms k (i + 1) := by
  unfold overM
  rw [List.set_append, if_neg (by rw [mksM_len]; omega), mksM_len, Nat.sub_self, mksM, List.append_assoc]
  congr 1
  rw [List.drop_eq_getElem_cons h]
  rfl

theorem flat4_cell {w : World} {g t : Nat} {ms : List Mve} (h : vb w g t (flat4 ms)) {i : Nat} {m : Mve} (hi : ms[i]? = some m) : w.cell? ⟨g, i * 4, none⟩ = some (.bool m.f) ∧ w.cell? ⟨g, i * 4 + 1, none⟩ = some (.int .i64 m.x) ∧ w.cell? ⟨g, i * 4 + 2, none⟩ = some (.int .i64 m.y) ∧ w.cell? ⟨g, i * 4 + 3, none⟩ = some (.int .i64 m.z) := by
  obtain ⟨h0, h1, h2, h3⟩ := flat4_at hi
  exact ⟨h.cell h0, h.cell h1, h.cell h2, h.cell h3⟩
set_option maxHeartbeats 1000000 in
theorem mv_mark (g n cu : Nat) (ms : List Mve) (k : Int) (w : World) (hl : ms.length = n) (hn : n ≤ 1048576) (k0 : 0 ≤ k) (k1 : k ≤ 8000000) (hu : vb w g 36 (flat4 ms)) :
    Calls Try.prog 29 #[.slice (some ⟨g, 0, none⟩) n cu, .int .i64 k] w fun e w' => e = .returned (.int .i64 (k + 4 * (n : Int))) ∧ vb w' g 36 (flat4 (mksM k n)) ∧ Mo (some ⟨g, 0, none⟩) w w' := by
  have HU := hide hu
  have HL := hide hl
  clear hu hl
  go_enter Try.func29, Try.ntmps29
  go_wp2_with fail
  go_loopw [1, 5] (fun s t W => ∃ i : Nat, s = .int .i64 (k + 4 * (i : Int)) ∧ t = .int .i64 (i : Int) ∧ i ≤ n ∧ vb W g 36 (flat4 (overM ms k i)) ∧ Mo (some ⟨g, 0, none⟩) w W) (fun _ s _ => n - (intOf s).toNat)
  case atStart => exact ⟨0, by simp, rfl, Nat.zero_le _, by simpa [overM, mksM] using unhide HU, Mo.of_bel (Below.refl _ _)⟩
  case round =>
    obtain ⟨i, rfl, rfl, hi, hb, hw⟩ := hrel
    have HB := hide hb
    have HW := hide hw
    clear hb hw
    by_cases h : i < n
    · have i1 : (i : Int) < (n : Int) := by omega
      have i0 : (0 : Int) ≤ (i : Int) := Int.natCast_nonneg _
      have iz : decide ((i : Int) < (n : Int)) = true := decide_eq_true i1
      obtain ⟨m, hx⟩ := get_some (unhide HL) h
      obtain ⟨c0, c1, c2, c3⟩ := flat4_cell (unhide HB) (overM_at k hx)
      have fz : ∀ o, wr.frozen? ⟨g, o, none⟩ = false := (unhide HB).frozen
      have HST := hide (overM_step (ms := ms) k (i := i) (by rw [unhide HL]; exact h))
      have HLN := hide (overM_len ms k (i := i) (by rw [unhide HL]; omega))
      obtain ⟨f, x, y, z⟩ := m
      simp only at c0 c1 c2 c3
      clear hx
      obtain ⟨kk, hkk⟩ : ∃ kk : Int, k + 4 * (i : Int) = kk := ⟨_, rfl⟩
      rw [hkk] at HST ⊢
      have kk0 : 0 ≤ kk := by omega
      have kk1 : kk ≤ 12194304 := by omega
      have hm0 : 0 ≤ kk.tmod 3 := Int.tmod_nonneg _ kk0
      have hm1 : kk.tmod 3 < 3 := Int.tmod_lt_of_pos _ (by omega)
      have HKK := hide hkk
      have HMK : Hid (mkM kk = ⟨(kk % 3 == 0), kk + 1, kk + 2, kk + 3⟩) := hide rfl
      have wm : IntKind.i64.wrap (kk.tmod 3) = kk.tmod 3 := Go.IntWalk.i64_in _ ⟨by omega, by omega⟩
      obtain ⟨tm, htm⟩ : ∃ tm : Int, kk.tmod 3 = tm := ⟨_, rfl⟩
      have w1 : IntKind.i64.wrap (kk + 1) = kk + 1 := Go.IntWalk.i64_in _ ⟨by omega, by omega⟩
      have w2 : IntKind.i64.wrap (kk + 1 + 1) = kk + 2 := (Go.IntWalk.i64_in _ ⟨by omega, by omega⟩).trans (by omega)
      have w3 : IntKind.i64.wrap (kk + 2 + 1) = kk + 3 := (Go.IntWalk.i64_in _ ⟨by omega, by omega⟩).trans (by omega)
      have w4 : IntKind.i64.wrap (kk + 3 + 1) = kk + 4 := (Go.IntWalk.i64_in _ ⟨by omega, by omega⟩).trans (by omega)
      clear hkk htm
      go_wp2_with fail
      go_roundw
      case rel =>
        refine ⟨i + 1, by have := unhide HKK; simp only [Value.int.injEq, true_and]; omega, by simp, h, ?_, ?_⟩
        · rw [← unhide HST, unhide HMK, flat4_set _ _ _ (by rw [unhide HLN, unhide HL]; exact h)]
          exact ((((unhide HB).set (i * 4) _).set (i * 4 + 1) _).set (i * 4 + 2) _).set (i * 4 + 3) _
        · refine (unhide HW).trans ⟨rfl, rfl, rfl, by simp [World.setCell], fun j hj ha => ?_⟩
          have hne : j ≠ g := fun e => (ha _ rfl) e.symm
          exact (Below.heap_setCell _ _ _ _ hne).trans ((Below.heap_setCell _ _ _ _ hne).trans ((Below.heap_setCell _ _ _ _ hne).trans (Below.heap_setCell _ _ _ _ hne)))
      case measure => simp only [intOf]; omega
    · have iz : decide ((i : Int) < (n : Int)) = false := decide_eq_false (by omega)
      have en : i = n := by omega
      subst en
      go_wp2_with fail
      go_ret
      refine ⟨rfl, ?_, unhide HW⟩
      have h1 := unhide HB
      unfold overM at h1
      rw [List.drop_eq_nil_of_le (by rw [unhide HL]; omega), List.append_nil] at h1
      exact h1
end Go.Proofs.Ytbjljofgpbecbaa
