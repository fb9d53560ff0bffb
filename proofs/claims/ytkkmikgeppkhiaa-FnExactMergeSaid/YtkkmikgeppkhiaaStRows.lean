/-
  Rows of texts: that two are the same, marks on them, that these are held.
-/
import Derived.Test.YtkkmikgeppkhiaaFtMark
namespace Go.Proofs.Ytkkmikgeppkhiaa
open Go.ChangeShapes Go.WideShapes Go.ChangeAt Go.RowKit
set_option linter.unusedVariables false
set_option linter.unusedSimpArgs false

/-- the slice has these texts -/
def StAt (w : World) (u : Option Addr) (l : List ByteArray) : Prop := l ≠ [] → ∃ g o, u = some ⟨g, o, none⟩ ∧ g < w.heap.size ∧ ∀ (i : Nat) (s : ByteArray), l[i]? = some s → w.cell? ⟨g, o + i, none⟩ = some (.string s)
theorem StAt.bel {w w' : World} {u : Option Addr} {l : List ByteArray} (h : StAt w u l) (hb : Below w.heap.size w w') : StAt w' u l := by
  intro h0
  obtain ⟨g, o, rfl, hg, hc⟩ := h h0
  exact ⟨g, o, rfl, Nat.lt_of_lt_of_le hg hb.size, fun i s hi => (hb.cell (p := ⟨g, _, none⟩) hg).trans (hc i s hi)⟩
theorem SRow.stAt {w : World} {B n c : Nat} {u : Option Addr} {l : List ByteArray} (h : SRow w B (.slice u n c) l) : n = l.length ∧ StAt w u l := by
  obtain ⟨u9, c9, e9, _, _, h9⟩ := own_form h
  injection e9 with a1 a2 a3
  subst a1
  refine ⟨a2, fun h0 => ?_⟩
  obtain ⟨g, rfl, _, hg, hc⟩ := h9 (by intro e; exact h0 (List.eq_nil_of_length_eq_zero e))
  exact ⟨g, 0, rfl, hg, fun i s hi => by rw [Nat.zero_add]; apply hc; simp [strs, hi]⟩
set_option maxHeartbeats 1000000 in
theorem st_same (u v : Option Addr) (n cu cv : Nat) (l : List ByteArray) (w : World) (hl : l.length = n) (hn : n ≤ 1048576) (hu : StAt w u l) (hv : StAt w v l) :
    Calls Try.prog 17 #[.slice u n cu, .slice v n cv] w fun e w' => e = .returned (.bool true) ∧ Below w.heap.size w w' := by
  have HU := hide hu
  have HV := hide hv
  have HL := hide hl
  clear hu hv hl
  go_enter Try.func17, Try.ntmps17
  go_wp2
  go_loopw [5] (fun s W => ∃ i : Nat, s = .int .i64 (i : Int) ∧ i ≤ n ∧ Below w.heap.size w W) (fun s _ => n - (intOf s).toNat)
  case atStart => exact ⟨0, rfl, Nat.zero_le _, Below.refl _ _⟩
  case round =>
    obtain ⟨i, rfl, hi, hw⟩ := hrel
    have HW := hide hw
    by_cases h : i < n
    · have i1 : (i : Int) < (n : Int) := by omega
      have i0 : (0 : Int) ≤ (i : Int) := Int.natCast_nonneg _
      have iz : decide ((i : Int) < (n : Int)) = true := decide_eq_true i1
      obtain ⟨s, hx⟩ := get_some (unhide HL) h
      have hne : l ≠ [] := by intro e; subst e; cases hx
      obtain ⟨g, o, rfl, _, hc⟩ := ((unhide HU).bel hw) hne
      obtain ⟨g2, o2, rfl, _, hc2⟩ := ((unhide HV).bel hw) hne
      have k0 := hc i s hx
      have l0 := hc2 i s hx
      clear hx hne hc hc2 hw
      go_wp2_with fail
      go_quiet (fail)
      go_wp2_with fail
      go_roundw
      case rel => exact ⟨i + 1, by simp, h, (unhide HW).trans ⟨rfl, rfl, rfl, Nat.le_refl _, fun _ _ => rfl⟩⟩
      case measure => simp only [intOf]; omega
    · have i1 : ¬ (i : Int) < (n : Int) := by omega
      have iz : decide ((i : Int) < (n : Int)) = false := decide_eq_false i1
      clear hw
      go_wp2_with fail
      go_ret
      exact ⟨rfl, unhide HW⟩
/-- the marked texts -/
def mkS (c m : Nat) : List ByteArray := (List.range m).map fun i => mkT (c + i)
theorem mkS_len (c m : Nat) : (mkS c m).length = m := by simp [mkS]
theorem mkS_succ (c m : Nat) : mkS c (m + 1) = mkS c m ++ [mkT (c + m)] := by simp [mkS, List.range_succ]
theorem mkS_at (c m i : Nat) (h : i < m) : (mkS c m)[i]? = some (mkT (c + i)) := by simp [mkS, h]
theorem over_set (A B : List Value) (x y : Value) (n : Nat) (h : A.length = n) : (A ++ x :: B).set n y = A ++ [y] ++ B := by
  subst h
  rw [List.set_append, if_neg (by omega), Nat.sub_self]
  simp
set_option maxRecDepth 100000 in
set_option maxHeartbeats 2000000 in
theorem st_mark (u : Option Addr) (B n cu c : Nat) (l : List ByteArray) (w : World) (hl : l.length = n) (hn : n ≤ 1048576) (c0 : 0 < c) (c1 : c ≤ 60000000) (hs : SRow w B (.slice u n cu) l) :
    Calls Try.prog 18 #[.slice u n cu, .int .i64 (c : Int)] w fun e w' => e = .returned (.int .i64 ((c : Int) + (n : Int))) ∧ SRow w' B (.slice u n cu) (mkS c n) ∧ (n = 0 → w' = w) ∧ (n ≠ 0 → ∃ g, u = some ⟨g, 0, none⟩ ∧ B ≤ g ∧ Mw g w w') := by
  obtain ⟨u9, c9, e9, _, _, h9⟩ := own_form hs
  injection e9 with a1 a2 a3
  subst a1
  subst a3
  by_cases hn0 : n = 0
  · subst hn0
    have hl0 : l = [] := List.eq_nil_of_length_eq_zero hl
    subst hl0
    have HS := hide hs
    clear hs h9 hl a2
    go_enter Try.func18, Try.ntmps18
    go_wp2
    go_loopw [1, 5] (fun s t W => s = .int .i64 (c : Int) ∧ t = .int .i64 0 ∧ W = w) (fun _ s _ => 0)
    case atStart => exact ⟨rfl, rfl, rfl⟩
    case round =>
      obtain ⟨rfl, rfl, hw⟩ := hrel
      subst hw
      go_wp2
      go_ret
      first
      | exact ⟨by simp, unhide HS, fun _ => rfl, fun h => absurd rfl h⟩
      | exact ⟨by simp, unhide HS, rfl⟩
      | exact ⟨by simp, unhide HS⟩
  · obtain ⟨g, rfl, hg1, hg2, hc⟩ := h9 (by omega)
    have HS := hide hs
    have HL := hide hl
    clear hs h9 hc hl a2
    go_enter Try.func18, Try.ntmps18
    go_wp2
    go_loopw [1, 5] (fun s t W => ∃ i : Nat, s = .int .i64 ((c : Int) + (i : Int)) ∧ t = .int .i64 (i : Int) ∧ i ≤ n ∧ W.ownsRow B 9 1 (.slice (some ⟨g, 0, none⟩) n cu) n (strs (mkS c i) ++ (strs l).drop i) ∧ Mw g w W) (fun _ s _ => n - (intOf s).toNat)
    case atStart => exact ⟨0, by simp, rfl, Nat.zero_le _, by have h9 := unhide HS; unfold SRow at h9; rw [unhide HL] at h9; simpa [mkS, strs] using h9, Mw.refl _ _⟩
    case round =>
      obtain ⟨i, rfl, rfl, hi, hown, hw⟩ := hrel
      have HO := hide hown
      have HW := hide hw
      clear hown hw
      by_cases h : i < n
      · have i1 : (i : Int) < (n : Int) := by omega
        have i0 : (0 : Int) ≤ (i : Int) := Int.natCast_nonneg _
        have iz : decide ((i : Int) < (n : Int)) = true := decide_eq_true i1
        have K0 := hide (fun W => mkText_any (c + i) W (by omega) (by omega))
        rw [show (((c + i : Nat) : Int)) = (c : Int) + (i : Int) by omega] at K0
        have hil : i < (strs l).length := by simp [strs]; rw [unhide HL]; exact h
        have hdr : (strs l).drop i = (strs l)[i] :: (strs l).drop (i + 1) := List.drop_eq_getElem_cons hil
        go_wp2_with fail
        refine (unhide K0 _).mono ?_
        rintro e W1 ⟨rfl, hb1⟩
        have ho1 := own_bel (unhide HO) hb1
        have HW1 := hide ((unhide HW).bel hb1)
        rw [hdr] at ho1
        have e0 : W1.cell? ⟨g, i, none⟩ = some (strs l)[i] := by
          obtain ⟨u8, c8, e8, _, _, h8⟩ := own_form ho1
          injection e8 with b1 b2 b3
          subst b1
          obtain ⟨g8, e9, _, _, hc8⟩ := h8 (by omega)
          cases e9
          apply hc8
          rw [List.getElem?_append_right (by simp [strs, mkS_len]), show (strs (mkS c i)).length = i by simp [strs, mkS_len], Nat.sub_self]
          rfl
        have fz1 : ∀ q, W1.frozen? ⟨g, q, none⟩ = false := own_frz ho1
        have hst := own_set ho1 i (.string (mkT (c + i)))
        rw [over_set _ _ _ _ i (by simp [strs, mkS_len])] at hst
        have HST := hide hst
        clear hb1 ho1 hst hdr
        generalize hmk : mkT (c + i) = s0 at *
        have HMK := hide hmk
        clear hmk
        generalize (strs l)[i] = x0 at *
        go_wp2_with fail
        go_roundw
        case rel =>
          refine ⟨i + 1, by simp only [Value.int.injEq, true_and]; omega, by simp, h, ?_, (unhide HW1).set _ _⟩
          rw [mkS_succ, unhide HMK]
          have e : strs (mkS c i ++ [s0]) = strs (mkS c i) ++ [.string s0] := by simp [strs]
          rw [e]
          exact unhide HST
        case measure => simp only [intOf]; omega
      · have i1 : ¬ (i : Int) < (n : Int) := by omega
        have iz : decide ((i : Int) < (n : Int)) = false := decide_eq_false i1
        have en : i = n := by omega
        subst en
        have h9 := unhide HO
        rw [List.drop_eq_nil_of_le (by simp [strs]; rw [unhide HL]; exact Nat.le_refl _), List.append_nil] at h9
        have HO9 := hide h9
        clear h9
        go_wp2_with fail
        go_ret
        have hsr : SRow wr B (.slice (some ⟨g, 0, none⟩) i cu) (mkS c i) := by
          unfold SRow
          rw [mkS_len]
          exact unhide HO9
        first
        | exact ⟨rfl, hsr, unhide HW⟩
        | exact ⟨rfl, hsr, hg1, unhide HW⟩
        | exact ⟨rfl, hsr, ⟨hg1, unhide HW⟩⟩
        | exact ⟨rfl, hsr, fun h => absurd h hn0, fun _ => ⟨g, rfl, hg1, unhide HW⟩⟩
        | exact ⟨rfl, hsr, fun h => absurd h hn0, fun _ => ⟨hg1, unhide HW⟩⟩
        | exact ⟨rfl, hsr, fun h => (hn0 h).elim, fun _ => ⟨g, ⟨rfl, rfl⟩, hg1, unhide HW⟩⟩
set_option maxRecDepth 100000 in
set_option maxHeartbeats 2000000 in
theorem st_held (u : Option Addr) (n cu c : Nat) (w : World) (hn : n ≤ 1048576) (c0 : 0 < c) (c1 : c ≤ 60000000) (hu : StAt w u (mkS c n)) :
    Calls Try.prog 20 #[.slice u n cu, .int .i64 (c : Int)] w fun e w' => e = .returned (.int .i64 ((c : Int) + (n : Int))) ∧ Below w.heap.size w w' := by
  have HU := hide hu
  clear hu
  go_enter Try.func20, Try.ntmps20
  go_wp2
  go_loopw [1, 5] (fun s t W => ∃ i : Nat, s = .int .i64 ((c : Int) + (i : Int)) ∧ t = .int .i64 (i : Int) ∧ i ≤ n ∧ Below w.heap.size w W) (fun _ s _ => n - (intOf s).toNat)
  case atStart => exact ⟨0, by simp, rfl, Nat.zero_le _, Below.refl _ _⟩
  case round =>
    obtain ⟨i, rfl, rfl, hi, hw⟩ := hrel
    have HW := hide hw
    by_cases h : i < n
    · have i1 : (i : Int) < (n : Int) := by omega
      have i0 : (0 : Int) ≤ (i : Int) := Int.natCast_nonneg _
      have iz : decide ((i : Int) < (n : Int)) = true := decide_eq_true i1
      have hx := mkS_at c n i h
      obtain ⟨g, o, rfl, _, hc⟩ := ((unhide HU).bel hw) (by intro e; rw [e] at hx; cases hx)
      have k0 := hc i _ hx
      have kl := cell_lt k0
      have K0 := hide (fun W => mkText_any (c + i) W (by omega) (by omega))
      rw [show (((c + i : Nat) : Int)) = (c : Int) + (i : Int) by omega] at K0
      clear hx hc hw
      generalize mkT (c + i) = s0 at *
      go_wp2_with fail
      go_region_held3 (fun wx => wx.cell? ⟨g, o + i, none⟩ = some (.string s0)) (simp (maxDischargeDepth := 12) [go_sem, le1, lt1, *])
        (first
        | (go_at_call 37; refine (unhide K0 _).mono ?_; rintro e w' ⟨rfl, hb⟩; have HB := hide hb; have ya := keep1 hb (b := g) (o := o + i) (v := .string s0) k0; clear hb))
      all_goals
        go_wp2_with fail
        go_roundw
        case rel => exact ⟨i + 1, by simp only [Value.int.injEq, true_and]; omega, by simp, h, by repeat (first | exact unhide HW | refine bc ?_ (unhide HB) | refine Below.drew ?_)⟩
        case measure => simp only [intOf]; omega
    · have i1 : ¬ (i : Int) < (n : Int) := by omega
      have iz : decide ((i : Int) < (n : Int)) = false := decide_eq_false i1
      have en : i = n := by omega
      subst en
      clear hw
      go_wp2_with fail
      go_ret
      exact ⟨rfl, unhide HW⟩
theorem st_mark0 (u : Option Addr) (cu : Nat) (c : Int) (w : World) : Calls Try.prog 18 #[.slice u 0 cu, .int .i64 c] w fun e w' => e = .returned (.int .i64 c) ∧ w' = w := by
  go_enter Try.func18, Try.ntmps18
  go_wp2
  go_loopw [1, 5] (fun s t W => s = .int .i64 c ∧ t = .int .i64 0 ∧ W = w) (fun _ s _ => 0)
  case atStart => exact ⟨rfl, rfl, rfl⟩
  case round =>
    obtain ⟨rfl, rfl, hw⟩ := hrel
    subst hw
    go_wp2
    go_ret
    exact ⟨rfl, rfl⟩
theorem st_held0 (u : Option Addr) (cu : Nat) (c : Int) (w : World) : Calls Try.prog 20 #[.slice u 0 cu, .int .i64 c] w fun e w' => e = .returned (.int .i64 c) ∧ w' = w := by
  go_enter Try.func20, Try.ntmps20
  go_wp2
  go_loopw [1, 5] (fun s t W => s = .int .i64 c ∧ t = .int .i64 0 ∧ W = w) (fun _ s _ => 0)
  case atStart => exact ⟨rfl, rfl, rfl⟩
  case round =>
    obtain ⟨rfl, rfl, hw⟩ := hrel
    subst hw
    go_wp2
    go_ret
    exact ⟨rfl, rfl⟩
end Go.Proofs.Ytkkmikgeppkhiaa
