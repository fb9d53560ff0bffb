/-
  What the laws ask of rows of spots: that two are the same, that one is written over, that it is held.
-/
import Derived.Test.YtoidhlackoigkaaNsNp
namespace Go.Proofs.Ytoidhlackoigkaa
open Go.ChangeShapes Go.WideShapes Go.ChangeAt Go.RowKit
set_option linter.unusedVariables false
set_option linter.unusedSimpArgs false

theorem stE_one (n x y : Int) (t : Bool) (w : World) : Calls Try.prog 30 #[.agg #[.int .i64 n, .int .i64 x, .int .i64 y, .bool t], .agg #[.int .i64 n, .int .i64 x, .int .i64 y, .bool t]] w fun e w' => e = .returned (.bool true) ∧ Below w.heap.size w w' := by
  cases t with
  | true =>
    go_enter Try.func30, Try.ntmps30
    go_wp2
    go_ret
    exact ⟨rfl, ba (ba (Below.refl _ _) _) _⟩
  | false =>
    go_enter Try.func30, Try.ntmps30
    go_wp2
    go_ret
    exact ⟨rfl, ba (ba (Below.refl _ _) _) _⟩
abbrev Sps (w : World) (u : Option Addr) (p po : Nat) (L : List Ld) : Prop := SlG spC 4 w u p po L
set_option maxHeartbeats 2000000 in
theorem st_same (u v : Option Addr) (p po q qo n cu cv : Nat) (L : List Ld) (w : World) (hl : L.length = n) (hn : n ≤ 1000000) (hu : Sps w u p po L) (hv : Sps w v q qo L) :
    Calls Try.prog 14 #[.slice u n cu, .slice v n cv] w fun e w' => e = .returned (.bool true) ∧ Below w.heap.size w w' := by
  have HU := hide (fun X (hX : Below w.heap.size w X) => hu.bel hX)
  have HV := hide (fun X (hX : Below w.heap.size w X) => hv.bel hX)
  have HL := hide hl
  have n0 : (0 : Int) ≤ (n : Int) := Int.natCast_nonneg _
  clear hu hv hl
  go_enter Try.func14, Try.ntmps14
  go_wp2
  go_loopw [5] (fun s W => ∃ i : Nat, s = .int .i64 (i : Int) ∧ i ≤ n ∧ Below w.heap.size w W) (fun s _ => n - (intOf s).toNat)
  case atStart => exact ⟨0, rfl, Nat.zero_le _, Below.refl _ _⟩
  case round =>
    obtain ⟨i, rfl, hi, hw⟩ := hrel
    have HW := hide hw
    by_cases h : i < n
    · have i1 : (i : Int) < (n : Int) := by omega
      have i0 : (0 : Int) ≤ (i : Int) := Int.natCast_nonneg _
      have iz : decide ((i : Int) < (n : Int)) = true := decide_eq_true i1
      obtain ⟨l, hx⟩ := get_some (unhide HL) h
      obtain ⟨rfl, pw, k9⟩ := (unhide HU _ hw).at hx
      obtain ⟨rfl, qw, l9⟩ := (unhide HV _ hw).at hx
      have k0 := k9 0 _ rfl
      have k1 := k9 1 _ rfl
      have k2 := k9 2 _ rfl
      have k3 := k9 3 _ rfl
      have l0 := l9 0 _ rfl
      have l1 := l9 1 _ rfl
      have l2 := l9 2 _ rfl
      have l3 := l9 3 _ rfl
      rw [Nat.add_zero] at k0 l0
      obtain ⟨ln, lt, ⟨lx, ly, lw, lh⟩⟩ := l
      simp only at k0 k1 k2 k3 l0 l1 l2 l3
      clear hw hx k9 l9 pw qw
      go_wp2_with fail
      go_region_held3 (fun wx => wx.cell? ⟨p, po + i * 4, none⟩ = some (.int .i64 ln) ∧ wx.cell? ⟨p, po + i * 4 + 1, none⟩ = some (.int .i64 lx) ∧ wx.cell? ⟨p, po + i * 4 + 2, none⟩ = some (.int .i64 ly) ∧ wx.cell? ⟨p, po + i * 4 + 3, none⟩ = some (.bool lt) ∧ wx.cell? ⟨q, qo + i * 4, none⟩ = some (.int .i64 ln) ∧ wx.cell? ⟨q, qo + i * 4 + 1, none⟩ = some (.int .i64 lx) ∧ wx.cell? ⟨q, qo + i * 4 + 2, none⟩ = some (.int .i64 ly) ∧ wx.cell? ⟨q, qo + i * 4 + 3, none⟩ = some (.bool lt))
        (simp (maxDischargeDepth := 12) [go_sem, le1, lt1, *])
        (first
        | (go_at_call 30; refine (stE_one _ _ _ _ _).mono ?_; rintro e w' ⟨rfl, hb⟩; have HB := hide hb; have y0 := keep1 hb (b := p) (o := _) (v := .int .i64 ln) k0; have y1 := keep1 hb (b := p) (o := _) (v := .int .i64 lx) k1; have y2 := keep1 hb (b := p) (o := _) (v := .int .i64 ly) k2; have y3 := keep1 hb (b := p) (o := _) (v := .bool lt) k3; have z0 := keep1 hb (b := q) (o := _) (v := .int .i64 ln) l0; have z1 := keep1 hb (b := q) (o := _) (v := .int .i64 lx) l1; have z2 := keep1 hb (b := q) (o := _) (v := .int .i64 ly) l2; have z3 := keep1 hb (b := q) (o := _) (v := .bool lt) l3; clear hb))
      all_goals
        go_wp2_with fail
        go_roundw
        case rel => exact ⟨i + 1, by simp, h, by repeat (first | exact unhide HW | refine bc ?_ (unhide HB) | refine Below.drew ?_)⟩
        case measure => simp only [intOf]; omega
    · have iz : decide ((i : Int) < (n : Int)) = false := decide_eq_false (by omega)
      clear hw
      go_wp2_with fail
      go_ret
      exact ⟨rfl, unhide HW⟩
/-- what a spot that was written over holds -/
def mC (c : Int) (i : Nat) : List Value := [.int .i64 (c + (i : Int) * 4), .int .i64 (c + (i : Int) * 4 + 1), .int .i64 (c + (i : Int) * 4 + 2), .bool ((c + (i : Int) * 4 + 3) % 3 == 0)]
theorem mC_len (c : Int) (i : Nat) : (mC c i).length = 4 := rfl
def mRow (c : Int) (n : Nat) : List Value := flatG (mC c) (List.range n)
theorem mRow_len (c : Int) (n : Nat) : (mRow c n).length = n * 4 := by unfold mRow; rw [flatG_len (mC_len c)]; simp
theorem mRow_succ (c : Int) (n : Nat) : mRow c (n + 1) = mRow c n ++ mC c n := by unfold mRow; rw [List.range_succ, flatG_append]; simp [flatG]
theorem mRow_step {c : Int} {L : List Ld} {i : Nat} {l : Ld} (hx : L[i]? = some l) : setAll (mRow c i ++ flatG spC (L.drop i)) (i * 4) (mC c i) = mRow c (i + 1) ++ flatG spC (L.drop (i + 1)) := by
  have hi := (List.getElem?_eq_some_iff.1 hx).1
  have hd : L.drop i = l :: L.drop (i + 1) := by rw [List.drop_eq_getElem_cons hi, (List.getElem?_eq_some_iff.1 hx).2]
  rw [hd]
  simp only [flatG]
  have h2 := setAll_right (mRow c i) (spC l ++ flatG spC (L.drop (i + 1))) 0 (mC c i)
  rw [mRow_len] at h2
  simp only [Nat.add_zero] at h2
  rw [h2, setAll_over (spC l) _ (mC c i) rfl, mRow_succ, List.append_assoc]
theorem mRow_old {c : Int} {L : List Ld} {i : Nat} {l : Ld} (hx : L[i]? = some l) (j : Nat) (hj : j < 4) : (mRow c i ++ flatG spC (L.drop i))[i * 4 + j]? = (spC l)[j]? := by
  have hi := (List.getElem?_eq_some_iff.1 hx).1
  have hd : L.drop i = l :: L.drop (i + 1) := by rw [List.drop_eq_getElem_cons hi, (List.getElem?_eq_some_iff.1 hx).2]
  rw [List.getElem?_append_right (by rw [mRow_len]; omega), mRow_len, show i * 4 + j - i * 4 = j by omega, hd]
  simp only [flatG]
  rw [List.getElem?_append_left (by simpa [spC] using hj)]
set_option maxHeartbeats 4000000 in
theorem st_mark (u : Option Addr) (p n cu : Nat) (L : List Ld) (c : Int) (w : World) (hl : L.length = n) (hn : n ≤ 1000000) (c0 : 0 ≤ c) (c1 : c ≤ 1000000) (hu : n ≠ 0 → u = some ⟨p, 0, none⟩ ∧ vb w p 61 (flatG spC L)) :
    Calls Try.prog 17 #[.slice u n cu, .int .i64 c] w fun e w' => e = .returned (.int .i64 (c + (n : Int) * 4)) ∧ (n ≠ 0 → vb w' p 61 (mRow c n)) ∧ But p w w' := by
  have HU := hide hu
  have HL := hide hl
  have n0 : (0 : Int) ≤ (n : Int) := Int.natCast_nonneg _
  clear hu hl
  go_enter Try.func17, Try.ntmps17
  go_wp2
  go_loopw [1, 5] (fun s t W => ∃ i : Nat, s = .int .i64 (c + (i : Int) * 4) ∧ t = .int .i64 (i : Int) ∧ i ≤ n ∧ (n ≠ 0 → vb W p 61 (mRow c i ++ flatG spC (L.drop i))) ∧ But p w W) (fun _ s _ => n - (intOf s).toNat)
  case atStart => exact ⟨0, by simp, rfl, Nat.zero_le _, fun hn => by simpa [mRow, flatG] using (unhide HU hn).2, But.refl _ _⟩
  case round =>
    obtain ⟨i, rfl, rfl, hi, hb, hw⟩ := hrel
    have HB := hide hb
    have HW := hide hw
    by_cases h : i < n
    · have i1 : (i : Int) < (n : Int) := by omega
      have i0 : (0 : Int) ≤ (i : Int) := Int.natCast_nonneg _
      have iz : decide ((i : Int) < (n : Int)) = true := decide_eq_true i1
      obtain ⟨rfl, _⟩ := unhide HU (by omega)
      obtain ⟨l, hx⟩ := get_some (unhide HL) h
      have hv := hb (by omega)
      have m0 : wr.cell? ⟨p, i * 4, none⟩ = some (.int .i64 l.n) := hv.cell (mRow_old hx 0 (by omega))
      have m1 : wr.cell? ⟨p, i * 4 + 1, none⟩ = some (.int .i64 l.a.x) := hv.cell (mRow_old hx 1 (by omega))
      have m2 : wr.cell? ⟨p, i * 4 + 2, none⟩ = some (.int .i64 l.a.y) := hv.cell (mRow_old hx 2 (by omega))
      have m3 : wr.cell? ⟨p, i * 4 + 3, none⟩ = some (.bool l.t) := hv.cell (mRow_old hx 3 (by omega))
      have fz := hv.frozen
      have HVV := hide hv
      have HST := hide (mRow_step (c := c) hx)
      obtain ⟨C, hC⟩ : ∃ C, c + (i : Int) * 4 = C := ⟨_, rfl⟩
      have HC := hide hC
      have cb : 0 ≤ C ∧ C ≤ 5000000 := by omega
      rw [hC]
      have w1 : IntKind.i64.wrap (C + 1) = C + 1 := wrap_i (by omega) (by omega)
      have w2 : IntKind.i64.wrap (C + 1 + 1) = C + 1 + 1 := wrap_i (by omega) (by omega)
      have w3 : IntKind.i64.wrap (C + 1 + 1 + 1) = C + 1 + 1 + 1 := wrap_i (by omega) (by omega)
      have w4 : IntKind.i64.wrap (C + 1 + 1 + 1 + 1) = C + 1 + 1 + 1 + 1 := wrap_i (by omega) (by omega)
      clear hb hw hv hx hC
      go_wp2_with fail
      go_roundw
      case rel =>
        have hv4 : vb ((((wr.setCell ⟨p, i * 4, none⟩ (.int .i64 C)).setCell ⟨p, i * 4 + 1, none⟩ (.int .i64 (C + 1))).setCell ⟨p, i * 4 + 2, none⟩ (.int .i64 (C + 1 + 1))).setCell ⟨p, i * 4 + 3, none⟩ (.bool ((C + 1 + 1 + 1) % 3 == 0))) p 61 (setAll (mRow c i ++ flatG spC (L.drop i)) (i * 4) [.int .i64 C, .int .i64 (C + 1), .int .i64 (C + 1 + 1), .bool ((C + 1 + 1 + 1) % 3 == 0)]) := ((((unhide HVV).set (i * 4) _).set (i * 4 + 1) _).set (i * 4 + 2) _).set (i * 4 + 3) _
        have e : [Value.int .i64 C, .int .i64 (C + 1), .int .i64 (C + 1 + 1), .bool ((C + 1 + 1 + 1) % 3 == 0)] = mC c i := by
          unfold mC
          rw [unhide HC, show C + 1 + 1 = C + 2 by omega, show C + 2 + 1 = C + 3 by omega]
        rw [e, unhide HST] at hv4
        have hb4 := ((((unhide HW).setCell (i * 4) (.int .i64 C)).setCell (i * 4 + 1) (.int .i64 (C + 1))).setCell (i * 4 + 2) (.int .i64 (C + 1 + 1))).setCell (i * 4 + 3) (.bool ((C + 1 + 1 + 1) % 3 == 0))
        have es : C + 1 + 1 + 1 + 1 = c + ((i + 1 : Nat) : Int) * 4 := by have := unhide HC; omega
        first | exact ⟨i + 1, by rw [← es], by simp, h, fun _ => hv4, hb4⟩ | ((repeat apply Exists.intro); refine ⟨?_, rfl⟩; exact ⟨i + 1, by rw [← es], by simp, h, fun _ => hv4, hb4⟩)
      case measure => first | (simp only [intOf]; omega) | (simp [intOf]; omega)
    · have iz : decide ((i : Int) < (n : Int)) = false := decide_eq_false (by omega)
      obtain rfl : n = i := by omega
      have HE : Hid (mRow c n ++ flatG spC (L.drop n) = mRow c n) := hide (by rw [List.drop_of_length_le (Nat.le_of_eq (unhide HL))]; simp [flatG])
      clear hb hw
      go_wp2_with fail
      go_ret
      refine ⟨rfl, fun hn => ?_, unhide HW⟩
      rw [← unhide HE]
      exact unhide HB hn
set_option maxHeartbeats 4000000 in
theorem st_held (u : Option Addr) (p n cu : Nat) (c : Int) (w : World) (hn : n ≤ 1000000) (c0 : 0 ≤ c) (c1 : c ≤ 1000000) (hu : n ≠ 0 → u = some ⟨p, 0, none⟩ ∧ vb w p 61 (mRow c n)) :
    Calls Try.prog 18 #[.slice u n cu, .int .i64 c] w fun e w' => e = .returned (.int .i64 (c + (n : Int) * 4)) ∧ Same w w' := by
  have HU := hide hu
  have n0 : (0 : Int) ≤ (n : Int) := Int.natCast_nonneg _
  clear hu
  go_enter Try.func18, Try.ntmps18
  go_wp2
  go_loopw [1, 5] (fun s t W => ∃ i : Nat, s = .int .i64 (c + (i : Int) * 4) ∧ t = .int .i64 (i : Int) ∧ i ≤ n ∧ Same w W) (fun _ s _ => n - (intOf s).toNat)
  case atStart => exact ⟨0, by simp, rfl, Nat.zero_le _, Same.refl _⟩
  case round =>
    obtain ⟨i, rfl, rfl, hi, hw⟩ := hrel
    have HW := hide hw
    by_cases h : i < n
    · have i1 : (i : Int) < (n : Int) := by omega
      have i0 : (0 : Int) ≤ (i : Int) := Int.natCast_nonneg _
      have iz : decide ((i : Int) < (n : Int)) = true := decide_eq_true i1
      obtain ⟨rfl, hv⟩ := unhide HU (by omega)
      have hat : ∀ j v, (mC c i)[j]? = some v → wr.cell? ⟨p, i * 4 + j, none⟩ = some v := fun j v hj => by
        rw [hw.cell]
        exact hv.cell (flatG_at (mC_len c) (by simp [h]) hj)
      obtain ⟨C, hC⟩ : ∃ C, c + (i : Int) * 4 = C := ⟨_, rfl⟩
      have HC := hide hC
      have cb : 0 ≤ C ∧ C ≤ 5000000 := by omega
      have m0 : wr.cell? ⟨p, i * 4, none⟩ = some (.int .i64 C) := by have := hat 0 _ rfl; rw [hC] at this; exact this
      have m1 : wr.cell? ⟨p, i * 4 + 1, none⟩ = some (.int .i64 (C + 1)) := by have := hat 1 _ rfl; rw [hC] at this; exact this
      have m2 : wr.cell? ⟨p, i * 4 + 2, none⟩ = some (.int .i64 (C + 1 + 1)) := by have := hat 2 _ rfl; rw [hC] at this; rw [show C + 1 + 1 = C + 2 by omega]; exact this
      have m3 : wr.cell? ⟨p, i * 4 + 3, none⟩ = some (.bool ((C + 1 + 1 + 1) % 3 == 0)) := by have := hat 3 _ rfl; rw [hC] at this; rw [show C + 1 + 1 + 1 = C + 3 by omega]; exact this
      rw [hC]
      have w1 : IntKind.i64.wrap (C + 1) = C + 1 := wrap_i (by omega) (by omega)
      have w2 : IntKind.i64.wrap (C + 1 + 1) = C + 1 + 1 := wrap_i (by omega) (by omega)
      have w3 : IntKind.i64.wrap (C + 1 + 1 + 1) = C + 1 + 1 + 1 := wrap_i (by omega) (by omega)
      have w4 : IntKind.i64.wrap (C + 1 + 1 + 1 + 1) = C + 1 + 1 + 1 + 1 := wrap_i (by omega) (by omega)
      clear hw hv hat hC
      cases ht : ((C + 1 + 1 + 1) % 3 == 0) with
      | true =>
        rw [ht] at m3
        go_wp2_with fail
        go_roundw
        case rel =>
          have es : C + 1 + 1 + 1 + 1 = c + ((i + 1 : Nat) : Int) * 4 := by have := unhide HC; omega
          first | exact ⟨i + 1, by rw [← es], by simp, h, unhide HW⟩ | ((repeat apply Exists.intro); refine ⟨?_, rfl⟩; exact ⟨i + 1, by rw [← es], by simp, h, unhide HW⟩)
        case measure => first | (simp only [intOf]; omega) | (simp [intOf]; omega)
      | false =>
        rw [ht] at m3
        go_wp2_with fail
        go_roundw
        case rel =>
          have es : C + 1 + 1 + 1 + 1 = c + ((i + 1 : Nat) : Int) * 4 := by have := unhide HC; omega
          first | exact ⟨i + 1, by rw [← es], by simp, h, unhide HW⟩ | ((repeat apply Exists.intro); refine ⟨?_, rfl⟩; exact ⟨i + 1, by rw [← es], by simp, h, unhide HW⟩)
        case measure => first | (simp only [intOf]; omega) | (simp [intOf]; omega)
    · have iz : decide ((i : Int) < (n : Int)) = false := decide_eq_false (by omega)
      obtain rfl : n = i := by omega
      clear hw
      go_wp2_with fail
      go_ret
      exact ⟨rfl, unhide HW⟩
end Go.Proofs.Ytoidhlackoigkaa
