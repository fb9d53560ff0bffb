/-
  What the laws ask of points and numbers: that two rows are the same, that one is written over, that it is held.
-/
import Derived.Test.YtbceblgakehpnaaCoreMath
namespace Go.Proofs.Ytbceblgakehpnaa
open Go.ChangeShapes Go.WideShapes Go.ChangeAt Go.RowKit
set_option linter.unusedVariables false
set_option linter.unusedSimpArgs false

theorem Row.set {w : World} {B t k g n cap : Nat} {L : List Int} (h : Row w B t k (.slice (some ⟨g, 0, none⟩) n cap) n L) (j : Nat) (hj : j < n * k) (x : Int) :
    Row (w.setCell ⟨g, j, none⟩ (.int .i64 x)) B t k (.slice (some ⟨g, 0, none⟩) n cap) n (L.set j x) := by
  refine ⟨by have := h.1; simpa using this, ?_⟩
  rcases h.2 with ⟨h1, h2⟩ | ⟨g', cap', cur, hv, hB, hh, hn, hm, hs, ht⟩
  · cases h1
  · cases hv
    refine .inr ⟨g, cap, cur.setIfInBounds j (.int .i64 x), rfl, hB, ?_, hn, hm, by simp [hs], ?_⟩
    · show (w.heap.modify g _)[g]? = _
      rw [Array.getElem?_modify, if_pos rfl, hh]
      simp
    · rw [Array.toList_setIfInBounds, List.take_set, ht, List.map_set]
theorem Row.cellAt {w : World} {B t k g n cap : Nat} {L : List Int} (h : Row w B t k (.slice (some ⟨g, 0, none⟩) n cap) n L) {j : Nat} {x : Int} (hj : L[j]? = some x) : w.cell? ⟨g, j, none⟩ = some (.int .i64 x) := by
  by_cases hn : n = 0
  · subst hn
    have := h.len
    rw [List.getElem?_eq_none (by omega)] at hj
    cases hj
  · obtain ⟨u, cap', hv, hf⟩ := h.form
    cases hv
    obtain ⟨g', hu, _, _, hi⟩ := hf hn
    cases hu
    have := hi j x hj
    rwa [Nat.zero_add] at this
theorem Row.frz {w : World} {B t k g n cap : Nat} {L : List Int} (h : Row w B t k (.slice (some ⟨g, 0, none⟩) n cap) n L) (o : Nat) : w.frozen? ⟨g, o, none⟩ = false := by
  rcases h.2 with ⟨h1, h2⟩ | ⟨g', cap', cur, hv, hB, hh, r⟩
  · cases h1
  · cases hv
    simp only [World.frozen?]
    rw [hh]
    simp
theorem Row.ge {w : World} {B t k g n cap : Nat} {L : List Int} (h : Row w B t k (.slice (some ⟨g, 0, none⟩) n cap) n L) : B ≤ g := by
  rcases h.2 with ⟨h1, h2⟩ | ⟨g', cap', cur, hv, hB, r⟩
  · cases h1
  · cases hv; exact hB
theorem Row.kept {w w' : World} {B B' t k n : Nat} {v : Value} {L : List Int} (h : Row w B t k v n L) (hb : ∀ g, v.ownBlock = some g → w'.heap[g]? = w.heap[g]?) : Row w' B t k v n L := by
  refine ⟨h.1, ?_⟩
  rcases h.2 with h1 | ⟨g, cap, cur, hv, hB, hh, r⟩
  · exact .inl h1
  · subst hv
    exact .inr ⟨g, cap, cur, rfl, hB, (hb g rfl).trans hh, r⟩

theorem ptE_one (x0 x1 : Int) (w : World) : Calls Try.prog 39 #[.agg #[.int .i64 x0, .int .i64 x1], .agg #[.int .i64 x0, .int .i64 x1]] w fun e w' => e = .returned (.bool true) ∧ Below w.heap.size w w' := by
  go_enter Try.func39, Try.ntmps39
  go_wp2
  go_ret
  exact ⟨rfl, ba (ba (Below.refl _ _) _) _⟩

set_option maxHeartbeats 1000000 in
theorem pt_same (u v : Option Addr) (p po q qo n cu cv : Nat) (L : List Int) (w : World) (hl : L.length = n * 2) (hn : n ≤ 4611686018427387904)
    (hu : n ≠ 0 → u = some ⟨p, po, none⟩ ∧ p < w.heap.size ∧ IntsAt w p po L) (hv : n ≠ 0 → v = some ⟨q, qo, none⟩ ∧ q < w.heap.size ∧ IntsAt w q qo L) :
    Calls Try.prog 14 #[.slice u n cu, .slice v n cv] w fun e w' => e = .returned (.bool true) ∧ Below w.heap.size w w' := by
  have HU := hide hu
  have HV := hide hv
  have HL := hide hl
  clear hu hv hl
  go_enter Try.func14, Try.ntmps14
  go_wp2
  go_loopw [5] (fun s W => ∃ i : Nat, s = .int .i64 (i : Int) ∧ i ≤ n ∧ Below w.heap.size w W) (fun s _ => n - (intOf s).toNat)
  case atStart => exact ⟨0, rfl, Nat.zero_le _, Below.refl _ _⟩
  case round =>
    obtain ⟨i, rfl, hi, hw⟩ := hrel
    have HW := hide hw
    clear hw
    by_cases h : i < n
    · have i1 : (i : Int) < (n : Int) := by omega
      have i0 : (0 : Int) ≤ (i : Int) := Int.natCast_nonneg _
      have iz : decide ((i : Int) < (n : Int)) = true := decide_eq_true i1
      obtain ⟨rfl, pw, pa⟩ := unhide HU (by omega)
      obtain ⟨rfl, qw, qa⟩ := unhide HV (by omega)
      have pb := pa.below (unhide HW) pw
      have qb := qa.below (unhide HW) qw
      obtain ⟨x0, e0⟩ := at_of (f := 0) (unhide HL) h (by omega)
      have k0 := pb.at0 e0
      have l0 := qb.at0 e0
      obtain ⟨x1, e1⟩ := at_of (f := 1) (unhide HL) h (by omega)
      have k1 := pb.at e1
      have l1 := qb.at e1
      clear pa qa pb qb pw qw e0 e1
      go_wp2_with fail
      go_region_held3 (fun wx => wx.cell? ⟨p, po + i * 2, none⟩ = some (.int .i64 x0) ∧ wx.cell? ⟨p, po + i * 2 + 1, none⟩ = some (.int .i64 x1) ∧ wx.cell? ⟨q, qo + i * 2, none⟩ = some (.int .i64 x0) ∧ wx.cell? ⟨q, qo + i * 2 + 1, none⟩ = some (.int .i64 x1))
        (simp (maxDischargeDepth := 12) [go_sem, le1, lt1, *])
        (first
        | (go_at_call 39; refine (ptE_one _ _ _).mono ?_; rintro e w' ⟨rfl, hb⟩; have HB := hide hb; have y0 := keep1 hb (b := p) (o := _) (v := .int .i64 x0) k0; have y1 := keep1 hb (b := p) (o := _) (v := .int .i64 x1) k1; have z0 := keep1 hb (b := q) (o := _) (v := .int .i64 x0) l0; have z1 := keep1 hb (b := q) (o := _) (v := .int .i64 x1) l1; clear hb))
      all_goals
        go_wp2_with fail
        go_roundw
        case rel => exact ⟨i + 1, by simp, h, by repeat (first | exact unhide HW | refine bc ?_ (unhide HB) | refine Below.drew ?_)⟩
        case measure => simp only [intOf]; omega
    · have i1 : ¬ (i : Int) < (n : Int) := by omega
      have iz : decide ((i : Int) < (n : Int)) = false := decide_eq_false i1
      go_wp2_with fail
      go_ret
      exact ⟨rfl, unhide HW⟩

set_option maxHeartbeats 1000000 in
theorem pt_held (u : Option Addr) (p n cu : Nat) (c : Int) (w : World) (hn : n ≤ 288230376151711744) (c0 : 0 ≤ c) (c1 : c ≤ 1000000)
    (hu : n ≠ 0 → u = some ⟨p, 0, none⟩ ∧ IntsAt w p 0 (marks c (n * 2))) :
    Calls Try.prog 19 #[.slice u n cu, .int .i64 c] w fun e w' => e = .returned (.int .i64 (c + (n : Int) * 2)) ∧ Same w w' := by
  have HU := hide hu
  clear hu
  go_enter Try.func19, Try.ntmps19
  go_wp2
  go_loopw [1, 5] (fun s t W => ∃ i : Nat, s = .int .i64 (c + (i : Int) * 2) ∧ t = .int .i64 (i : Int) ∧ i ≤ n ∧ Same w W) (fun _ s _ => n - (intOf s).toNat)
  case atStart => exact ⟨0, by simp, rfl, Nat.zero_le _, Same.refl _⟩
  case round =>
    obtain ⟨i, rfl, rfl, hi, hw⟩ := hrel
    have HW := hide hw
    clear hw
    by_cases h : i < n
    · have i1 : (i : Int) < (n : Int) := by omega
      have i0 : (0 : Int) ≤ (i : Int) := Int.natCast_nonneg _
      have iz : decide ((i : Int) < (n : Int)) = true := decide_eq_true i1
      obtain ⟨rfl, pa⟩ := unhide HU (by omega)
      have k0 : wr.cell? ⟨p, i * 2, none⟩ = some (.int .i64 (c + (i : Int) * 2)) := by
        have h0 := pa (i * 2 + 0) _ (marks_at c (n * 2) (i * 2 + 0) (mul_lt_of h (by omega)))
        rw [Nat.zero_add] at h0
        rw [show c + (i : Int) * 2 = c + ((i * 2 + 0 : Nat) : Int) by omega, (unhide HW).cell]
        exact h0
      have k1 : wr.cell? ⟨p, i * 2 + 1, none⟩ = some (.int .i64 (c + (i : Int) * 2 + 1)) := by
        have h0 := pa (i * 2 + 1) _ (marks_at c (n * 2) (i * 2 + 1) (mul_lt_of h (by omega)))
        rw [Nat.zero_add] at h0
        rw [show c + (i : Int) * 2 + 1 = c + ((i * 2 + 1 : Nat) : Int) by omega, (unhide HW).cell]
        exact h0
      clear pa
      go_wp2_with fail
      go_roundw
      case rel => exact ⟨i + 1, by simp only [Value.int.injEq, true_and]; omega, by simp, h, by repeat (first | exact unhide HW | refine Same.drew ?_)⟩
      case measure => simp only [intOf]; omega
    · have i1 : ¬ (i : Int) < (n : Int) := by omega
      have iz : decide ((i : Int) < (n : Int)) = false := decide_eq_false i1
      have en : i = n := by omega
      subst en
      go_wp2_with fail
      go_ret
      exact ⟨rfl, unhide HW⟩

set_option maxHeartbeats 1000000 in
theorem pt_markR (B n : Nat) (v : Value) (L : List Int) (c : Int) (w : World) (hn : n ≤ 288230376151711744) (c0 : 0 ≤ c) (c1 : c ≤ 1000000) (hr : Row w B 47 2 v n L) :
    Calls Try.prog 17 #[v, .int .i64 c] w fun e w' => e = .returned (.int .i64 (c + (n : Int) * 2)) ∧ Row w' B 47 2 v n (marks c (n * 2)) ∧ Below B w w' ∧ Hid (v = .slice none 0 0 → w' = w) := by
  by_cases hz : n = 0
  · subst hz
    obtain ⟨u, cap, rfl, _⟩ := hr.form
    have iz : decide ((0 : Int) < ((0 : Nat) : Int)) = false := by decide
    have HR := hide hr
    clear hr
    go_enter Try.func17, Try.ntmps17
    go_wp2
    go_loopw [1, 5] (fun s t W => s = .int .i64 c ∧ t = .int .i64 0 ∧ W = w) (fun _ s _ => 0)
    case atStart => exact ⟨rfl, rfl, rfl⟩
    case round =>
      obtain ⟨rfl, rfl, rfl⟩ := hrel
      go_wp2_with fail
      go_ret
      refine ⟨ret_int (by simp), ?_, Below.refl _ _, hide fun _ => rfl⟩
      have h1 := unhide HR
      have : L = [] := List.eq_nil_of_length_eq_zero (by have := h1.len; omega)
      subst this
      exact h1
  · obtain ⟨g, cap, rfl, hB, hg, _, _, _⟩ := hr.full hz
    have HLen := hide hr.len
    have HR0 := hide hr
    clear hr
    go_enter Try.func17, Try.ntmps17
    go_wp2
    go_loopw [1, 5] (fun s t W => ∃ i : Nat, s = .int .i64 (c + (i : Int) * 2) ∧ t = .int .i64 (i : Int) ∧ i ≤ n ∧ Row W B 47 2 (.slice (some ⟨g, 0, none⟩) n cap) n (marks c (i * 2) ++ L.drop (i * 2)) ∧ Below B w W) (fun _ s _ => n - (intOf s).toNat)
    case atStart => exact ⟨0, by simp, rfl, Nat.zero_le _, by simpa [marks] using unhide HR0, Below.refl _ _⟩
    case round =>
      obtain ⟨i, rfl, rfl, hi, hb, hw⟩ := hrel
      have HB := hide hb
      have HW := hide hw
      clear hb hw
      by_cases h : i < n
      · have i1 : (i : Int) < (n : Int) := by omega
        have i0 : (0 : Int) ≤ (i : Int) := Int.natCast_nonneg _
        have iz : decide ((i : Int) < (n : Int)) = true := decide_eq_true i1
        have pb := unhide HB
        have j0 : i * 2 + 0 < L.length := by rw [unhide HLen]; exact mul_lt_of h (by omega)
        have k0 : wr.cell? ⟨g, i * 2, none⟩ = some (.int .i64 (L[i * 2 + 0]'j0)) := pb.cellAt (marks_drop1 c L (i * 2) 0 j0)
        generalize L[i * 2 + 0]'j0 = x0 at k0
        have j1 : i * 2 + 1 < L.length := by rw [unhide HLen]; exact mul_lt_of h (by omega)
        have k1 : wr.cell? ⟨g, i * 2 + 1, none⟩ = some (.int .i64 (L[i * 2 + 1]'j1)) := pb.cellAt (marks_drop1 c L (i * 2) 1 j1)
        generalize L[i * 2 + 1]'j1 = x1 at k1
        have fz : ∀ o, wr.frozen? ⟨g, o, none⟩ = false := pb.frz
        have J0 := hide j0; have J1 := hide j1
        clear pb j0 j1
        skip
        go_wp2_with fail
        go_roundw
        case rel =>
          refine ⟨i + 1, by simp only [Value.int.injEq, true_and]; omega, by simp, h, ?_, ?_⟩
          · have h1 := ((unhide HB).set (i * 2) (by rw [← unhide HLen]; have := unhide J0; omega) (c + (i : Int) * 2)).set (i * 2 + 1) (by rw [← unhide HLen]; have := unhide J1; omega) (c + (i : Int) * 2 + 1)
            rw [marks_step c L (i * 2) (unhide J0) _ (by omega), marks_step c L (i * 2 + 1) (unhide J1) _ (by omega)] at h1
            rw [show (i + 1) * 2 = i * 2 + 2 by omega]
            exact h1
          · exact Below.setCell (Below.setCell (unhide HW) hB _) hB _
        case measure => simp only [intOf]; omega
      · have i1 : ¬ (i : Int) < (n : Int) := by omega
        have iz : decide ((i : Int) < (n : Int)) = false := decide_eq_false i1
        have en : i = n := by omega
        subst en
        go_wp2_with fail
        go_ret
        refine ⟨rfl, ?_, unhide HW, by first | exact hide trivial | exact hide (fun h => nomatch h)⟩
        have h1 := unhide HB
        rw [List.drop_eq_nil_of_le (by rw [unhide HLen]; omega), List.append_nil] at h1
        exact h1

set_option maxHeartbeats 1000000 in
theorem it_same (u v : Option Addr) (p po q qo n cu cv : Nat) (L : List Int) (w : World) (hl : L.length = n * 1) (hn : n ≤ 4611686018427387904)
    (hu : n ≠ 0 → u = some ⟨p, po, none⟩ ∧ p < w.heap.size ∧ IntsAt w p po L) (hv : n ≠ 0 → v = some ⟨q, qo, none⟩ ∧ q < w.heap.size ∧ IntsAt w q qo L) :
    Calls Try.prog 15 #[.slice u n cu, .slice v n cv] w fun e w' => e = .returned (.bool true) ∧ Below w.heap.size w w' := by
  have HU := hide hu
  have HV := hide hv
  have HL := hide hl
  clear hu hv hl
  go_enter Try.func15, Try.ntmps15
  go_wp2
  go_loopw [5] (fun s W => ∃ i : Nat, s = .int .i64 (i : Int) ∧ i ≤ n ∧ Below w.heap.size w W) (fun s _ => n - (intOf s).toNat)
  case atStart => exact ⟨0, rfl, Nat.zero_le _, Below.refl _ _⟩
  case round =>
    obtain ⟨i, rfl, hi, hw⟩ := hrel
    have HW := hide hw
    clear hw
    by_cases h : i < n
    · have i1 : (i : Int) < (n : Int) := by omega
      have i0 : (0 : Int) ≤ (i : Int) := Int.natCast_nonneg _
      have iz : decide ((i : Int) < (n : Int)) = true := decide_eq_true i1
      obtain ⟨rfl, pw, pa⟩ := unhide HU (by omega)
      obtain ⟨rfl, qw, qa⟩ := unhide HV (by omega)
      have pb := pa.below (unhide HW) pw
      have qb := qa.below (unhide HW) qw
      obtain ⟨x0, e0⟩ := at_of (f := 0) (unhide HL) h (by omega)
      have k0 := pb.at0 e0
      have l0 := qb.at0 e0
      clear pa qa pb qb pw qw e0
      have f0 : (x0 != x0) = false := by simp
      rw [Nat.mul_one] at k0 l0
      go_wp2_with fail
      go_region
      all_goals
        go_wp2_with fail
        go_roundw
        case rel => exact ⟨i + 1, by simp, h, by repeat (first | exact unhide HW | refine Below.drew ?_)⟩
        case measure => simp only [intOf]; omega
    · have i1 : ¬ (i : Int) < (n : Int) := by omega
      have iz : decide ((i : Int) < (n : Int)) = false := decide_eq_false i1
      go_wp2_with fail
      go_ret
      exact ⟨rfl, unhide HW⟩

set_option maxHeartbeats 1000000 in
theorem it_held (u : Option Addr) (p n cu : Nat) (c : Int) (w : World) (hn : n ≤ 288230376151711744) (c0 : 0 ≤ c) (c1 : c ≤ 1000000)
    (hu : n ≠ 0 → u = some ⟨p, 0, none⟩ ∧ IntsAt w p 0 (marks c (n * 1))) :
    Calls Try.prog 20 #[.slice u n cu, .int .i64 c] w fun e w' => e = .returned (.int .i64 (c + (n : Int) * 1)) ∧ Same w w' := by
  have HU := hide hu
  clear hu
  go_enter Try.func20, Try.ntmps20
  go_wp2
  go_loopw [1, 5] (fun s t W => ∃ i : Nat, s = .int .i64 (c + (i : Int) * 1) ∧ t = .int .i64 (i : Int) ∧ i ≤ n ∧ Same w W) (fun _ s _ => n - (intOf s).toNat)
  case atStart => exact ⟨0, by simp, rfl, Nat.zero_le _, Same.refl _⟩
  case round =>
    obtain ⟨i, rfl, rfl, hi, hw⟩ := hrel
    have HW := hide hw
    clear hw
    by_cases h : i < n
    · have i1 : (i : Int) < (n : Int) := by omega
      have i0 : (0 : Int) ≤ (i : Int) := Int.natCast_nonneg _
      have iz : decide ((i : Int) < (n : Int)) = true := decide_eq_true i1
      obtain ⟨rfl, pa⟩ := unhide HU (by omega)
      have k0 : wr.cell? ⟨p, i * 1, none⟩ = some (.int .i64 (c + (i : Int) * 1)) := by
        have h0 := pa (i * 1 + 0) _ (marks_at c (n * 1) (i * 1 + 0) (mul_lt_of h (by omega)))
        rw [Nat.zero_add] at h0
        rw [show c + (i : Int) * 1 = c + ((i * 1 + 0 : Nat) : Int) by omega, (unhide HW).cell]
        exact h0
      clear pa
      rw [Nat.mul_one] at k0
      go_wp2_with fail
      go_roundw
      case rel => exact ⟨i + 1, by simp only [Value.int.injEq, true_and]; omega, by simp, h, by repeat (first | exact unhide HW | refine Same.drew ?_)⟩
      case measure => simp only [intOf]; omega
    · have i1 : ¬ (i : Int) < (n : Int) := by omega
      have iz : decide ((i : Int) < (n : Int)) = false := decide_eq_false i1
      have en : i = n := by omega
      subst en
      go_wp2_with fail
      go_ret
      exact ⟨rfl, unhide HW⟩

set_option maxHeartbeats 1000000 in
theorem it_markR (B n : Nat) (v : Value) (L : List Int) (c : Int) (w : World) (hn : n ≤ 288230376151711744) (c0 : 0 ≤ c) (c1 : c ≤ 1000000) (hr : Row w B 3 1 v n L) :
    Calls Try.prog 18 #[v, .int .i64 c] w fun e w' => e = .returned (.int .i64 (c + (n : Int) * 1)) ∧ Row w' B 3 1 v n (marks c (n * 1)) ∧ Below B w w' ∧ Hid (v = .slice none 0 0 → w' = w) := by
  by_cases hz : n = 0
  · subst hz
    obtain ⟨u, cap, rfl, _⟩ := hr.form
    have iz : decide ((0 : Int) < ((0 : Nat) : Int)) = false := by decide
    have HR := hide hr
    clear hr
    go_enter Try.func18, Try.ntmps18
    go_wp2
    go_loopw [1, 5] (fun s t W => s = .int .i64 c ∧ t = .int .i64 0 ∧ W = w) (fun _ s _ => 0)
    case atStart => exact ⟨rfl, rfl, rfl⟩
    case round =>
      obtain ⟨rfl, rfl, rfl⟩ := hrel
      go_wp2_with fail
      go_ret
      refine ⟨ret_int (by simp), ?_, Below.refl _ _, hide fun _ => rfl⟩
      have h1 := unhide HR
      have : L = [] := List.eq_nil_of_length_eq_zero (by have := h1.len; omega)
      subst this
      exact h1
  · obtain ⟨g, cap, rfl, hB, hg, _, _, _⟩ := hr.full hz
    have HLen := hide hr.len
    have HR0 := hide hr
    clear hr
    go_enter Try.func18, Try.ntmps18
    go_wp2
    go_loopw [1, 5] (fun s t W => ∃ i : Nat, s = .int .i64 (c + (i : Int) * 1) ∧ t = .int .i64 (i : Int) ∧ i ≤ n ∧ Row W B 3 1 (.slice (some ⟨g, 0, none⟩) n cap) n (marks c (i * 1) ++ L.drop (i * 1)) ∧ Below B w W) (fun _ s _ => n - (intOf s).toNat)
    case atStart => exact ⟨0, by simp, rfl, Nat.zero_le _, by simpa [marks] using unhide HR0, Below.refl _ _⟩
    case round =>
      obtain ⟨i, rfl, rfl, hi, hb, hw⟩ := hrel
      have HB := hide hb
      have HW := hide hw
      clear hb hw
      by_cases h : i < n
      · have i1 : (i : Int) < (n : Int) := by omega
        have i0 : (0 : Int) ≤ (i : Int) := Int.natCast_nonneg _
        have iz : decide ((i : Int) < (n : Int)) = true := decide_eq_true i1
        have pb := unhide HB
        have j0 : i * 1 + 0 < L.length := by rw [unhide HLen]; exact mul_lt_of h (by omega)
        have k0 : wr.cell? ⟨g, i * 1, none⟩ = some (.int .i64 (L[i * 1 + 0]'j0)) := pb.cellAt (marks_drop1 c L (i * 1) 0 j0)
        generalize L[i * 1 + 0]'j0 = x0 at k0
        have fz : ∀ o, wr.frozen? ⟨g, o, none⟩ = false := pb.frz
        have J0 := hide j0
        clear pb j0
        rw [Nat.mul_one] at k0
        go_wp2_with fail
        go_roundw
        case rel =>
          refine ⟨i + 1, by simp only [Value.int.injEq, true_and]; omega, by simp, h, ?_, ?_⟩
          · have h1 := (unhide HB).set (i * 1) (by rw [← unhide HLen]; have := unhide J0; omega) (c + (i : Int) * 1)
            rw [marks_step c L (i * 1) (unhide J0) _ (by omega)] at h1
            rw [show (i + 1) * 1 = i * 1 + 1 by omega]
            simpa using h1
          · exact Below.setCell (unhide HW) hB _
        case measure => simp only [intOf]; omega
      · have i1 : ¬ (i : Int) < (n : Int) := by omega
        have iz : decide ((i : Int) < (n : Int)) = false := decide_eq_false i1
        have en : i = n := by omega
        subst en
        go_wp2_with fail
        go_ret
        refine ⟨rfl, ?_, unhide HW, by first | exact hide trivial | exact hide (fun h => nomatch h)⟩
        have h1 := unhide HB
        rw [List.drop_eq_nil_of_le (by rw [unhide HLen]; omega), List.append_nil] at h1
        simpa using h1
end Go.Proofs.Ytbceblgakehpnaa
