/-
  What the laws ask of pairs: that two rows are the same, that one is written over, that it is held; copies of rows of numbers.
-/
import Derived.Test.YtmoobfbjehgdnaaMtM
namespace Go.Proofs.Ytmoobfbjehgdnaa
open Go.ChangeShapes Go.WideShapes Go.ChangeAt Go.RowKit
set_option linter.unusedVariables false
set_option linter.unusedSimpArgs false

theorem ptE_one (x0 x1 : Int) (w : World) : Calls Try.prog 25 #[.agg #[.int .i64 x0, .int .i64 x1], .agg #[.int .i64 x0, .int .i64 x1]] w fun e w' => e = .returned (.bool true) ∧ Below w.heap.size w w' := by
  go_enter Try.func25, Try.ntmps25
  go_wp2
  go_ret
  exact ⟨rfl, ba (ba (Below.refl _ _) _) _⟩

set_option maxHeartbeats 1000000 in
theorem pt_same (u v : Option Addr) (p po q qo n cu cv : Nat) (L : List Int) (w : World) (hl : L.length = n * 2) (hn : n ≤ 4611686018427387904)
    (hu : n ≠ 0 → u = some ⟨p, po, none⟩ ∧ p < w.heap.size ∧ IntsAt w p po L) (hv : n ≠ 0 → v = some ⟨q, qo, none⟩ ∧ q < w.heap.size ∧ IntsAt w q qo L) :
    Calls Try.prog 11 #[.slice u n cu, .slice v n cv] w fun e w' => e = .returned (.bool true) ∧ Below w.heap.size w w' := by
  have HU := hide hu
  have HV := hide hv
  have HL := hide hl
  clear hu hv hl
  go_enter Try.func11, Try.ntmps11
  go_wp2
  go_loopw [5] (fun s W => ∃ i : Nat, s = .int .i64 (i : Int) ∧ i ≤ n ∧ Below w.heap.size w W) (fun s _ => n - (intOf s).toNat)
  case atStart => exact ⟨0, rfl, Nat.zero_le _, Below.refl _ _⟩
  case round =>
    obtain ⟨i, rfl, hi, hw⟩ := hrel
    have HW := hide hw
    clear hw
    by_cases h : i < n
    · have i1 : (i : Int) < (n : Int) := by omega
      have i0 : (0 : Int) ≤ (i : Int) := Int.natCast_nonneg _
      have iz : decide ((i : Int) < (n : Int)) = true := decide_eq_true i1
      obtain ⟨rfl, pw, pa⟩ := unhide HU (by omega)
      obtain ⟨rfl, qw, qa⟩ := unhide HV (by omega)
      have pb := pa.below (unhide HW) pw
      have qb := qa.below (unhide HW) qw
      obtain ⟨x0, e0⟩ := at_of (f := 0) (unhide HL) h (by omega)
      have k0 := pb.at0 e0
      have l0 := qb.at0 e0
      obtain ⟨x1, e1⟩ := at_of (f := 1) (unhide HL) h (by omega)
      have k1 := pb.at e1
      have l1 := qb.at e1
      clear pa qa pb qb pw qw e0 e1
      go_wp2_with fail
      go_region_held3 (fun wx => wx.cell? ⟨p, po + i * 2, none⟩ = some (.int .i64 x0) ∧ wx.cell? ⟨p, po + i * 2 + 1, none⟩ = some (.int .i64 x1) ∧ wx.cell? ⟨q, qo + i * 2, none⟩ = some (.int .i64 x0) ∧ wx.cell? ⟨q, qo + i * 2 + 1, none⟩ = some (.int .i64 x1))
        (simp (maxDischargeDepth := 12) [go_sem, le1, lt1, *])
        (first
        | (go_at_call 25; refine (ptE_one _ _ _).mono ?_; rintro e w' ⟨rfl, hb⟩; have HB := hide hb; have y0 := keep1 hb (b := p) (o := _) (v := .int .i64 x0) k0; have y1 := keep1 hb (b := p) (o := _) (v := .int .i64 x1) k1; have z0 := keep1 hb (b := q) (o := _) (v := .int .i64 x0) l0; have z1 := keep1 hb (b := q) (o := _) (v := .int .i64 x1) l1; clear hb))
      all_goals
        go_wp2_with fail
        go_roundw
        case rel => exact ⟨i + 1, by simp, h, by repeat (first | exact unhide HW | refine bc ?_ (unhide HB) | refine Below.drew ?_)⟩
        case measure => simp only [intOf]; omega
    · have i1 : ¬ (i : Int) < (n : Int) := by omega
      have iz : decide ((i : Int) < (n : Int)) = false := decide_eq_false i1
      go_wp2_with fail
      go_ret
      exact ⟨rfl, unhide HW⟩

set_option maxHeartbeats 1000000 in
theorem pt_held (u : Option Addr) (p n cu : Nat) (c : Int) (w : World) (hn : n ≤ 288230376151711744) (c0 : 0 ≤ c) (c1 : c ≤ 1000000)
    (hu : n ≠ 0 → u = some ⟨p, 0, none⟩ ∧ IntsAt w p 0 (marks c (n * 2))) :
    Calls Try.prog 15 #[.slice u n cu, .int .i64 c] w fun e w' => e = .returned (.int .i64 (c + (n : Int) * 2)) ∧ Same w w' := by
  have HU := hide hu
  clear hu
  go_enter Try.func15, Try.ntmps15
  go_wp2
  go_loopw [1, 5] (fun s t W => ∃ i : Nat, s = .int .i64 (c + (i : Int) * 2) ∧ t = .int .i64 (i : Int) ∧ i ≤ n ∧ Same w W) (fun _ s _ => n - (intOf s).toNat)
  case atStart => exact ⟨0, by simp, rfl, Nat.zero_le _, Same.refl _⟩
  case round =>
    obtain ⟨i, rfl, rfl, hi, hw⟩ := hrel
    have HW := hide hw
    clear hw
    by_cases h : i < n
    · have i1 : (i : Int) < (n : Int) := by omega
      have i0 : (0 : Int) ≤ (i : Int) := Int.natCast_nonneg _
      have iz : decide ((i : Int) < (n : Int)) = true := decide_eq_true i1
      obtain ⟨rfl, pa⟩ := unhide HU (by omega)
      have k0 : wr.cell? ⟨p, i * 2, none⟩ = some (.int .i64 (c + (i : Int) * 2)) := by
        have h0 := pa (i * 2 + 0) _ (marks_at c (n * 2) (i * 2 + 0) (mul_lt_of h (by omega)))
        rw [Nat.zero_add] at h0
        rw [show c + (i : Int) * 2 = c + ((i * 2 + 0 : Nat) : Int) by omega, (unhide HW).cell]
        exact h0
      have k1 : wr.cell? ⟨p, i * 2 + 1, none⟩ = some (.int .i64 (c + (i : Int) * 2 + 1)) := by
        have h0 := pa (i * 2 + 1) _ (marks_at c (n * 2) (i * 2 + 1) (mul_lt_of h (by omega)))
        rw [Nat.zero_add] at h0
        rw [show c + (i : Int) * 2 + 1 = c + ((i * 2 + 1 : Nat) : Int) by omega, (unhide HW).cell]
        exact h0
      clear pa
      go_wp2_with fail
      go_roundw
      case rel => exact ⟨i + 1, by simp only [Value.int.injEq, true_and]; omega, by simp, h, by repeat (first | exact unhide HW | refine Same.drew ?_)⟩
      case measure => simp only [intOf]; omega
    · have i1 : ¬ (i : Int) < (n : Int) := by omega
      have iz : decide ((i : Int) < (n : Int)) = false := decide_eq_false i1
      have en : i = n := by omega
      subst en
      go_wp2_with fail
      go_ret
      exact ⟨rfl, unhide HW⟩

set_option maxHeartbeats 1000000 in
theorem pt_markR (B n : Nat) (v : Value) (L : List Int) (c : Int) (w : World) (hn : n ≤ 288230376151711744) (c0 : 0 ≤ c) (c1 : c ≤ 1000000) (hr : Row w B 31 2 v n L) :
    Calls Try.prog 14 #[v, .int .i64 c] w fun e w' => e = .returned (.int .i64 (c + (n : Int) * 2)) ∧ Row w' B 31 2 v n (marks c (n * 2)) ∧ Below B w w' ∧ Hid (v = .slice none 0 0 → w' = w) := by
  by_cases hz : n = 0
  · subst hz
    obtain ⟨u, cap, rfl, _⟩ := hr.form
    have iz : decide ((0 : Int) < ((0 : Nat) : Int)) = false := by decide
    have HR := hide hr
    clear hr
    go_enter Try.func14, Try.ntmps14
    go_wp2
    go_loopw [1, 5] (fun s t W => s = .int .i64 c ∧ t = .int .i64 0 ∧ W = w) (fun _ s _ => 0)
    case atStart => exact ⟨rfl, rfl, rfl⟩
    case round =>
      obtain ⟨rfl, rfl, rfl⟩ := hrel
      go_wp2_with fail
      go_ret
      refine ⟨ret_int (by simp), ?_, Below.refl _ _, hide fun _ => rfl⟩
      have h1 := unhide HR
      have : L = [] := List.eq_nil_of_length_eq_zero (by have := h1.len; omega)
      subst this
      exact h1
  · obtain ⟨g, cap, rfl, hB, hg, _, _, _⟩ := hr.full hz
    have HLen := hide hr.len
    have HR0 := hide hr
    clear hr
    go_enter Try.func14, Try.ntmps14
    go_wp2
    go_loopw [1, 5] (fun s t W => ∃ i : Nat, s = .int .i64 (c + (i : Int) * 2) ∧ t = .int .i64 (i : Int) ∧ i ≤ n ∧ Row W B 31 2 (.slice (some ⟨g, 0, none⟩) n cap) n (marks c (i * 2) ++ L.drop (i * 2)) ∧ Below B w W) (fun _ s _ => n - (intOf s).toNat)
    case atStart => exact ⟨0, by simp, rfl, Nat.zero_le _, by simpa [marks] using unhide HR0, Below.refl _ _⟩
    case round =>
      obtain ⟨i, rfl, rfl, hi, hb, hw⟩ := hrel
      have HB := hide hb
      have HW := hide hw
      clear hb hw
      by_cases h : i < n
      · have i1 : (i : Int) < (n : Int) := by omega
        have i0 : (0 : Int) ≤ (i : Int) := Int.natCast_nonneg _
        have iz : decide ((i : Int) < (n : Int)) = true := decide_eq_true i1
        have pb := unhide HB
        have j0 : i * 2 + 0 < L.length := by rw [unhide HLen]; exact mul_lt_of h (by omega)
        have k0 : wr.cell? ⟨g, i * 2, none⟩ = some (.int .i64 (L[i * 2 + 0]'j0)) := pb.cellAt (marks_drop1 c L (i * 2) 0 j0)
        generalize L[i * 2 + 0]'j0 = x0 at k0
        have j1 : i * 2 + 1 < L.length := by rw [unhide HLen]; exact mul_lt_of h (by omega)
        have k1 : wr.cell? ⟨g, i * 2 + 1, none⟩ = some (.int .i64 (L[i * 2 + 1]'j1)) := pb.cellAt (marks_drop1 c L (i * 2) 1 j1)
        generalize L[i * 2 + 1]'j1 = x1 at k1
        have fz : ∀ o, wr.frozen? ⟨g, o, none⟩ = false := pb.frz
        have J0 := hide j0; have J1 := hide j1
        clear pb j0 j1
        skip
        go_wp2_with fail
        go_roundw
        case rel =>
          refine ⟨i + 1, by simp only [Value.int.injEq, true_and]; omega, by simp, h, ?_, ?_⟩
          · have h1 := ((unhide HB).set (i * 2) (by rw [← unhide HLen]; have := unhide J0; omega) (c + (i : Int) * 2)).set (i * 2 + 1) (by rw [← unhide HLen]; have := unhide J1; omega) (c + (i : Int) * 2 + 1)
            rw [marks_step c L (i * 2) (unhide J0) _ (by omega), marks_step c L (i * 2 + 1) (unhide J1) _ (by omega)] at h1
            rw [show (i + 1) * 2 = i * 2 + 2 by omega]
            exact h1
          · exact Below.setCell (Below.setCell (unhide HW) hB _) hB _
        case measure => simp only [intOf]; omega
      · have i1 : ¬ (i : Int) < (n : Int) := by omega
        have iz : decide ((i : Int) < (n : Int)) = false := decide_eq_false i1
        have en : i = n := by omega
        subst en
        go_wp2_with fail
        go_ret
        refine ⟨rfl, ?_, unhide HW, by first | exact hide trivial | exact hide (fun h => nomatch h)⟩
        have h1 := unhide HB
        rw [List.drop_eq_nil_of_le (by rw [unhide HLen]; omega), List.append_nil] at h1
        exact h1


set_option maxHeartbeats 1000000 in
theorem it_to (u : Option Addr) (p po n cu : Nat) (L : List Int) (w : World) (hl : L.length = n) (hn : n ≤ 1048576) (hu : Its w u p po L) :
    Calls Try.prog 10 #[.slice u n cu] w fun e w' => (∃ g, e = .returned (.slice (some ⟨g, 0, none⟩) n n) ∧ w.heap.size ≤ g ∧ iblk w' g 3 L) ∧ Below w.heap.size w w' := by
  have HU := hide hu
  have HL := hide hl
  have n0 : (0 : Int) ≤ (n : Int) := Int.natCast_nonneg _
  clear hu hl
  have hmk := fun W => make_ints (P := Try.prog) 23 3 1 8 n Try.underlying23 (.int .i64 0) (by rfl) (by omega) int_info3 (by omega) (by omega) W
  rw [Nat.mul_one] at hmk
  generalize hzz : zeros n = Z at hmk
  have HZ := hide hzz
  clear hzz
  go_enter Try.func10, Try.ntmps10
  go_wp2_with fail
  have HG0 := hide (iblk_new w 3 Z)
  have HB0 := hide (ba (Below.refl w.heap.size w) (.cells (Z.map (Value.int .i64)).toArray 3))
  clear hmk
  go_loopw [4] (fun z W => ∃ i : Nat, z = .int .i64 (i : Int) ∧ i ≤ n ∧ iblk W w.heap.size 3 (L.take i ++ zeros (L.length - i)) ∧ Below w.heap.size w W) (fun z _ => n - (intOf z).toNat)
  case atStart =>
    refine ⟨0, rfl, Nat.zero_le _, ?_, unhide HB0⟩
    have e : L.take 0 ++ zeros (L.length - 0) = Z := by rw [unhide HL, ← unhide HZ]; simp
    rw [e]
    exact unhide HG0
  case round =>
    obtain ⟨i, rfl, hi, hb, hw⟩ := hrel
    have HB := hide hb
    have HW := hide hw
    clear hb hw HG0 HB0
    by_cases h : i < n
    · have i1 : (i : Int) < (n : Int) := by omega
      have i0 : (0 : Int) ≤ (i : Int) := Int.natCast_nonneg _
      have iz : decide ((i : Int) < (n : Int)) = true := decide_eq_true i1
      obtain ⟨x, hx⟩ := get_some (unhide HL) h
      obtain ⟨rfl, pw, k0⟩ := (unhide HU).at hx
      have k1 := (unhide HW).cell (p := ⟨p, po + i, none⟩) pw |>.trans k0
      have j0 : i + 0 < L.length := by rw [unhide HL]; exact h
      have m0 : wr.cell? ⟨w.heap.size, i, none⟩ = some (.int .i64 0) := (unhide HB).cell (fill_at L i 0 j0)
      have fz : ∀ o, wr.frozen? ⟨w.heap.size, o, none⟩ = false := (unhide HB).frozen
      have HF := hide (fill_step L i j0 x hx)
      clear k0 hx pw j0
      go_wp2_with fail
      go_roundw
      case rel =>
        refine ⟨i + 1, by simp, h, ?_, ?_⟩
        · have h1 := (unhide HB).set i x
          rw [unhide HF] at h1
          exact h1
        · exact Below.setCell (unhide HW) (Nat.le_refl _) _
      case measure => simp only [intOf]; omega
    · have i1 : ¬ (i : Int) < (n : Int) := by omega
      have iz : decide ((i : Int) < (n : Int)) = false := decide_eq_false i1
      have en : i = n := by omega
      subst en
      go_wp2_with fail
      go_ret
      refine ⟨⟨_, rfl, Nat.le_refl _, ?_⟩, unhide HW⟩
      have h1 := unhide HB
      rw [List.take_of_length_le (by rw [unhide HL]; omega), show L.length - i = 0 by rw [unhide HL]; omega] at h1
      simpa [zeros] using h1
set_option maxHeartbeats 1000000 in
theorem it_markW (u : Option Addr) (p n cu : Nat) (L : List Int) (c : Int) (w : World) (hl : L.length = n) (hn : n ≤ 1048576) (c0 : 0 ≤ c) (c1 : c ≤ 4000000)
    (hu : n ≠ 0 → u = some ⟨p, 0, none⟩ ∧ iblk w p 3 L) :
    Calls Try.prog 13 #[.slice u n cu, .int .i64 c] w fun e w' => e = .returned (.int .i64 (c + (n : Int))) ∧ (n ≠ 0 → iblk w' p 3 (marks c n)) ∧ (n = 0 → w' = w) ∧ But p w w' := by
  have HU := hide hu
  have HL := hide hl
  clear hu hl
  go_enter Try.func13, Try.ntmps13
  go_wp2
  go_loopw [1, 5] (fun s t W => ∃ i : Nat, s = .int .i64 (c + (i : Int)) ∧ t = .int .i64 (i : Int) ∧ i ≤ n ∧ (n ≠ 0 → iblk W p 3 (marks c i ++ L.drop i)) ∧ (n = 0 → W = w) ∧ But p w W) (fun _ s _ => n - (intOf s).toNat)
  case atStart => exact ⟨0, by simp, rfl, Nat.zero_le _, fun hn => by simpa [marks] using (unhide HU hn).2, fun _ => rfl, But.refl _ _⟩
  case round =>
    obtain ⟨i, rfl, rfl, hi, hb, hz, hw⟩ := hrel
    have HB := hide hb
    have HW := hide hw
    have HZ := hide hz
    clear hb hw hz
    by_cases h : i < n
    · have i1 : (i : Int) < (n : Int) := by omega
      have i0 : (0 : Int) ≤ (i : Int) := Int.natCast_nonneg _
      have iz : decide ((i : Int) < (n : Int)) = true := decide_eq_true i1
      obtain ⟨rfl, _⟩ := unhide HU (by omega)
      have pb := unhide HB (by omega)
      have j0 : i + 0 < L.length := by rw [unhide HL]; omega
      have k0 : wr.cell? ⟨p, i, none⟩ = some (.int .i64 (L[i + 0]'j0)) := pb.cell (marks_drop1 c L i 0 j0)
      generalize L[i + 0]'j0 = x0 at k0
      have fz : ∀ o, wr.frozen? ⟨p, o, none⟩ = false := pb.frozen
      have PB := hide pb
      have J0 := hide j0
      clear pb j0
      go_wp2_with fail
      go_roundw
      case rel =>
        refine ⟨i + 1, by simp only [Value.int.injEq, true_and]; omega, by simp, h, fun _ => ?_, fun e => by omega, ?_⟩
        · have h1 := (unhide PB).set i (c + (i : Int))
          rw [marks_step c L i (unhide J0) _ (by omega)] at h1
          exact h1
        · exact (unhide HW).setCell _ _
      case measure => simp only [intOf]; omega
    · have i1 : ¬ (i : Int) < (n : Int) := by omega
      have iz : decide ((i : Int) < (n : Int)) = false := decide_eq_false i1
      have en : i = n := by omega
      subst en
      go_wp2_with fail
      go_ret
      refine ⟨rfl, fun hn => ?_, unhide HZ, unhide HW⟩
      have h1 := unhide HB hn
      rw [List.drop_eq_nil_of_le (by rw [unhide HL]; omega), List.append_nil] at h1
      exact h1
theorem iblk.its {w : World} {g : Nat} {L : List Int} (h : iblk w g 3 L) : Its w (some ⟨g, 0, none⟩) g 0 L := fun _ => ⟨rfl, h.lt, h.ints⟩
theorem pr_mark0 (u : Option Addr) (cap : Nat) (c : Int) (w : World) : Calls Try.prog 14 #[.slice u 0 cap, .int .i64 c] w fun e w' => e = .returned (.int .i64 c) ∧ w' = w := by
  have iz : decide ((0 : Int) < ((0 : Nat) : Int)) = false := by decide
  go_enter Try.func14, Try.ntmps14
  go_wp2
  refine wp_loop_rounds 1 ?_
  rw [rounds_succ]
  go_wp2_with fail
  go_ret
  exact ⟨rfl, rfl⟩
end Go.Proofs.Ytmoobfbjehgdnaa
