/-
  The program's first panel that meets one ahead of it.
-/
import Derived.Test.YtimkinpbimangaaBnP
import Derived.Test.YtimkinpbimangaaCommonP
namespace Go.Proofs.Ytimkinpbimangaa
open Go.ChangeShapes Go.WideShapes Go.ChangeAt Go.RowKit
set_option linter.unusedVariables false
set_option linter.unusedSimpArgs false

/-- the first panels as segments -/
def sgs (ps bs : List Int) (n : Nat) : List Int := (List.range n).flatMap fun k => [(cn ps bs k).1, (cn ps bs k).2, (cn ps bs (k + 1)).1, (cn ps bs (k + 1)).2]
theorem sgs_succ (ps bs : List Int) (n : Nat) : sgs ps bs (n + 1) = sgs ps bs n ++ [(cn ps bs n).1, (cn ps bs n).2, (cn ps bs (n + 1)).1, (cn ps bs (n + 1)).2] := by simp [sgs, List.range_succ]
theorem sgs_len (ps bs : List Int) (n : Nat) : (sgs ps bs n).length = n * 4 := by
  induction n with
  | zero => rfl
  | succ n ih => rw [sgs_succ]; simp [ih]; omega
theorem sgs_at (ps bs : List Int) {n k : Nat} (h : k < n) : (sgs ps bs n)[k * 4]? = some (cn ps bs k).1 ∧ (sgs ps bs n)[k * 4 + 1]? = some (cn ps bs k).2 ∧ (sgs ps bs n)[k * 4 + 2]? = some (cn ps bs (k + 1)).1 ∧ (sgs ps bs n)[k * 4 + 3]? = some (cn ps bs (k + 1)).2 := by
  induction n with
  | zero => omega
  | succ n ih =>
    rw [sgs_succ]
    have hl := sgs_len ps bs n
    by_cases hk : k < n
    · obtain ⟨a, b, c, d⟩ := ih hk
      refine ⟨?_, ?_, ?_, ?_⟩ <;> rw [List.getElem?_append_left (by omega)] <;> assumption
    · obtain rfl : k = n := by omega
      refine ⟨?_, ?_, ?_, ?_⟩ <;> rw [List.getElem?_append_right (by omega)] <;> rw [hl]
      · rw [show k * 4 - k * 4 = 0 by omega]; rfl
      · rw [show k * 4 + 1 - k * 4 = 1 by omega]; rfl
      · rw [show k * 4 + 2 - k * 4 = 2 by omega]; rfl
      · rw [show k * 4 + 3 - k * 4 = 3 by omega]; rfl
theorem comN_any (a b c d : Pt) (w : World) (ha : ptOk a = true) (hb : ptOk b = true) (hc : ptOk c = true) (hd : ptOk d = true) :
    Calls Try.prog 60 #[sgv a b, sgv c d] w fun e w' => (∃ so cap, e = .returned (.slice so (cross a b c d).length cap)) ∧ Below w.heap.size w w' :=
  (commonP_any a b c d w ha hb hc hd).mono fun e w' ⟨⟨v, he, hv⟩, hb⟩ => ⟨by
    rcases hv with ⟨rfl, h0⟩ | ⟨k, cap, rfl, _, _⟩
    · exact ⟨none, 0, by rw [he, h0]; rfl⟩
    · exact ⟨_, cap, he⟩, hb⟩
theorem sg_info : (Try.prog.info? 84).map (fun i => (i.zero, i.size, i.bytes)) = some (some (.agg #[.int .i64 0, .int .i64 0, .int .i64 0, .int .i64 0]), 4, 32) := by kernel_rfl
/-- the answer as a number -/
def fstN (o : Option Nat) : Int := match o with | none => 0 | some i => (i : Int)
set_option maxHeartbeats 4000000 in
set_option maxRecDepth 100000 in
theorem meP_any (b n cap : Nat) (ps bs : List Int) (w : World) (hl : ps.length = n) (hs : stp ps bs = true) (hb : b < w.heap.size) (hc : IntsAt w b 0 (fl2 (cns ps bs (n + 1)))) :
    Calls Try.prog 37 #[.slice (some ⟨b, 0, none⟩) (n + 1) cap] w fun e w' => e = .returned (.int .i64 (fstN (fstB ps bs n))) ∧ Below w.heap.size w w' := by
  obtain ⟨⟨n1, n2⟩, nm, hp, hbb⟩ := stp_parts hs
  rw [hl] at n1 n2
  have HOK : Hid (∀ i, i ≤ 41 → ptOk (cn ps bs i) = true) := hide (fun i hi => cn_ok hp hbb hi)
  have HC := hide hc
  have wn : IntKind.i64.wrap (((n + 1 : Nat) : Int) - 1) = (n : Int) := by rw [wrap_i (by omega) (by omega)]; omega
  have n0 : (0 : Int) ≤ (n : Int) := Int.natCast_nonneg _
  obtain ⟨iP, hi1, hp0, hp1, hp2⟩ := info_parts sg_info
  clear hp hbb hc hl hs nm
  generalize hN1 : n + 1 = N1 at *
  have HN1 := hide hN1
  clear hN1
  go_enter Try.func37, Try.ntmps37
  go_wp2_with fail
  go_loopw [3, 11] (fun r s W => ∃ i : Nat, s = .int .i64 (i : Int) ∧ i ≤ n ∧ Below w.heap.size w W ∧ Row W w.heap.size 84 4 r i (sgs ps bs i) ∧ (i = 0 → r = .slice none 0 0) ∧ (i ≠ 0 → r ≠ .slice none 0 0) ∧ ∀ j, j < i → meetsB ps bs j = false) (fun _ s _ => n - (intOf s).toNat)
  case atStart => exact ⟨0, rfl, Nat.zero_le _, Below.refl _ _, ⟨rfl, .inl ⟨rfl, rfl⟩⟩, fun _ => rfl, fun h => absurd rfl h, fun j hj => absurd hj (by omega)⟩
  case round =>
    obtain ⟨i, rfl, hi, hW, hR, hz, hnz, hF⟩ := hrel
    have HW := hide hW
    have HR := hide hR
    have HF := hide hF
    clear hW hR hF
    by_cases h : i < n
    · have i1 : (i : Int) < (n : Int) := by omega
      have i0 : (0 : Int) ≤ (i : Int) := Int.natCast_nonneg _
      have iz : decide ((i : Int) < (n : Int)) = true := decide_eq_true i1
      have hN := unhide HN1
      obtain ⟨ca0, ca1⟩ := fl2_cns_at ps bs (n := n + 1) (i := i) (by omega)
      obtain ⟨cb0, cb1⟩ := fl2_cns_at ps bs (n := n + 1) (i := i + 1) (by omega)
      rw [hN] at ca0 ca1 cb0 cb1
      have HCW := hide ((unhide HC).below (unhide HW) hb)
      have A0 := hide (unhide HCW _ _ ca0)
      have A1 := hide (unhide HCW _ _ ca1)
      have B0 := hide (unhide HCW _ _ cb0)
      have B1 := hide (unhide HCW _ _ cb1)
      rw [Nat.zero_add] at A0 A1 B0 B1
      have wi : IntKind.i64.wrap ((i : Int) + 1) = ((i + 1 : Nat) : Int) := by rw [wrap_i (by omega) (by omega)]; omega
      have hlt1 : i < N1 := by omega
      have hlt2 : i + 1 < N1 := by omega
      have HCI : Hid (∀ k, k < i - 1 → ∀ W, Calls Try.prog 60 #[sgv (cn ps bs i) (cn ps bs (i + 1)), sgv (cn ps bs k) (cn ps bs (k + 1))] W fun e w' => (∃ so cap, e = .returned (.slice so (cross (cn ps bs i) (cn ps bs (i + 1)) (cn ps bs k) (cn ps bs (k + 1))).length cap)) ∧ Below W.heap.size W w') := hide (fun k hk W => comN_any _ _ _ _ W (unhide HOK i (by omega)) (unhide HOK (i + 1) (by omega)) (unhide HOK k (by omega)) (unhide HOK (k + 1) (by omega)))
      clear ca0 ca1 cb0 cb1 HCW hN
      go_wp2_with fail
      refine Go.Code.wp_mono (Only.to (fun _ _ h => h)) (me5 (j := i + 1) A0 A1 B0 B1 (hide hlt1) (hide wi) (hide hlt2) ?_)
      intro nb W1 hW1 vn hnb
      have HV := hide vn
      have HR := hide ((unhide HR).below hW1)
      have HW1 := hide (bc (unhide HW) hW1)
      have nbl : w.heap.size ≤ nb := Nat.le_trans (unhide HW).size hnb
      clear hW1 vn hnb A0 A1 B0 B1 wi hlt1 hlt2
      by_cases h0 : i = 0
      · obtain rfl := hz h0
        have HNM : Hid (meetsB ps bs i = false) := hide (meets_not fun k hk => absurd hk (by omega))
        have wm : IntKind.i64.wrap ((i : Int) - 1) = (i : Int) - 1 := wrap_i (by omega) (by omega)
        have hmx : max (0 : Int) ((i : Int) - 1) = 0 := by omega
        clear h0 hz hnz
        go_wp2_with fail
        go_loopw [30] (fun s W => s = .int .i64 0 ∧ W = W1) (fun s _ => 0)
        case atStart => exact ⟨rfl, rfl⟩
        case round =>
          obtain ⟨rfl, rfl⟩ := hrel
          have HV2 := HV
          have HR2 := HR
          have HB2 := HW1
          rename World => W2
          have k0 := (unhide HV2).cell (m := 0) rfl
          have k1 := (unhide HV2).cell (m := 1) rfl
          have k2 := (unhide HV2).cell (m := 2) rfl
          have k3 := (unhide HV2).cell (m := 3) rfl
          have hsz2 : w.heap.size ≤ W2.heap.size := (unhide HB2).size
          go_wp2_with (at_builtin; refine unhide ?_)
          refine hide ?_
          refine wpList_append_own _ rfl _ _ 82 rfl w.heap.size 84 iP _ 4 32 Try.underlying82 hi1 hp0 hp1 hp2 rfl (by decide) _ _ _ rfl ((unhide HR2).below (ba (Below.refl _ _) _)) _ 1 1 ([(cn ps bs i).1, (cn ps bs i).2, (cn ps bs (i + 1)).1, (cn ps bs (i + 1)).2].map (Value.int .i64)) rfl rfl (by first | exact news_cells _ _ rfl | exact news_cells _ _ (by simp)) ints_one (by unfold maxLen; omega) (by omega) (by first | omega | (simp; omega)) ?_
          intro v' wz hown' hgrow hnil
          obtain ⟨R4, B4⟩ := own_more (wr := W2) (news := [(cn ps bs i).1, (cn ps bs i).2, (cn ps bs (i + 1)).1, (cn ps bs (i + 1)).2]) (by repeat (first | exact Below.refl _ _ | refine Below.alloc ?_ (by first | omega | (simp; omega)) _ | refine Below.drew ?_)) (by simp; omega) (unhide HR2) hown' hgrow
          have R5 := hide R4
          have B5 := hide B4
          have HNN : Hid (v' ≠ .slice none 0 0) := hide (fun e => absurd (hnil.1 e).2 (by decide))
          have HNX : Hid (∀ j, j < i + 1 → meetsB ps bs j = false) := hide (by
            intro j hj
            by_cases e : j < i
            · exact unhide HF j e
            · obtain rfl : j = i := by omega
              exact unhide HNM)
          have R6 : Hid (Row wz w.heap.size 84 4 v' (i + 1) (sgs ps bs (i + 1))) := hide (by rw [sgs_succ]; exact R4)
          clear hown' hgrow R4 B4 hnil R5
          go_wp2_with fail
          go_roundw
          case rel => first | exact ⟨i + 1, by simp, h, (unhide HB2).trans ((unhide B5).mono (by omega)), unhide R6, fun e => absurd e (by omega), fun _ => unhide HNN, unhide HNX⟩ | ((repeat apply Exists.intro); refine ⟨?_, rfl⟩; exact ⟨i + 1, by simp, h, (unhide HB2).trans ((unhide B5).mono (by omega)), unhide R6, fun e => absurd e (by omega), fun _ => unhide HNN, unhide HNX⟩)
          case measure => first | (simp only [intOf]; omega) | (simp [intOf]; omega)
      · obtain ⟨g, cap', rfl, hg, hgl, hcap, hcm⟩ := (unhide HR).sm (hnz h0)
        obtain ⟨jj, hj⟩ : ∃ j, i = j + 1 := ⟨i - 1, by omega⟩
        have wm : IntKind.i64.wrap ((i : Int) - 1) = (i : Int) - 1 := wrap_i (by omega) (by omega)
        have hmx : max (0 : Int) ((i : Int) - 1) = (jj : Int) := by omega
        have hjc : (jj : Int) ≤ (cap' : Int) := by omega
        have hjc2 : jj ≤ cap' := by omega
        have j0 : (0 : Int) ≤ (jj : Int) := Int.natCast_nonneg _
        have HJ := hide hj
        have jl : jj < i := by omega
        clear h0 hz hnz hj
        go_wp2_with fail
        go_loopw [30] (fun s W => ∃ k : Nat, s = .int .i64 (k : Int) ∧ k ≤ jj ∧ Below W1.heap.size W1 W ∧ ∀ k', k' < k → hit ps bs i k' = false) (fun s _ => jj - (intOf s).toNat)
        case atStart => exact ⟨0, rfl, Nat.zero_le _, Below.refl _ _, fun k hk => absurd hk (by omega)⟩
        case round =>
          obtain ⟨k, rfl, hk, hWk, hFk⟩ := hrel
          have HWk := hide hWk
          have HFk := hide hFk
          clear hWk hFk
          by_cases hkj : k < jj
          · have q1 : (k : Int) < (jj : Int) := by omega
            have q0 : (0 : Int) ≤ (k : Int) := Int.natCast_nonneg _
            have qz : decide ((k : Int) < (jj : Int)) = true := decide_eq_true q1
            have HRk := hide ((unhide HR).below (unhide HWk))
            have HVk := hide ((unhide HV).bel (unhide HWk))
            obtain ⟨s0, s1, s2, s3⟩ := sgs_at ps bs (n := i) (k := k) (by omega)
            have c0 := (unhide HRk).cellAt s0
            have c1 := (unhide HRk).cellAt s1
            have c2 := (unhide HRk).cellAt s2
            have c3 := (unhide HRk).cellAt s3
            have k0 := (unhide HVk).cell (m := 0) rfl
            have k1 := (unhide HVk).cell (m := 1) rfl
            have k2 := (unhide HVk).cell (m := 2) rfl
            have k3 := (unhide HVk).cell (m := 3) rfl
            have nl := (unhide HVk).lt
            have HCK := hide (unhide HCI k (by have := unhide HJ; omega))
            have HHC := hide (hit_comm ps bs i k)
            simp only [sgv] at HCK
            clear s0 s1 s2 s3
            generalize (cross (cn ps bs i) (cn ps bs (i + 1)) (cn ps bs k) (cn ps bs (k + 1))).length = len at HCK HHC
            go_wp2_with fail
            refine (unhide HCK _).mono ?_
            rintro e W3 ⟨⟨so, cap3, rfl⟩, hb3⟩
            have HB3 := hide (bc (ba (unhide HWk) _) hb3)
            clear hb3 c0 c1 c2 c3 k0 k1 k2 k3
            by_cases hp : 0 < len
            · have t1 : decide ((0 : Int) < (len : Int)) = true := decide_eq_true (by omega)
              have t2 : (0 : Int) < (len : Int) := by omega
              have HM : Hid (meetsB ps bs i = true) := hide (meets_of (k := k) (by have := unhide HJ; omega) (by rw [unhide HHC]; exact decide_eq_true hp))
              go_wp2_with fail
              go_ret
              exact ⟨by rw [fst_some h (unhide HM) (unhide HF)]; rfl, bc (unhide HW1) (unhide HB3)⟩
            · have t1 : decide ((0 : Int) < (len : Int)) = false := decide_eq_false (by omega)
              have t2 : ¬ (0 : Int) < (len : Int) := by omega
              have HH : Hid (hit ps bs i k = false) := hide (by rw [unhide HHC]; exact decide_eq_false hp)
              have HNX : Hid (∀ k', k' < k + 1 → hit ps bs i k' = false) := hide (by
                intro k' hk'
                by_cases e : k' < k
                · exact unhide HFk k' e
                · obtain rfl : k' = k := by omega
                  exact unhide HH)
              go_wp2_with fail
              go_roundw
              case rel => first | exact ⟨k + 1, by simp, hkj, unhide HB3, unhide HNX⟩ | ((repeat apply Exists.intro); refine ⟨?_, rfl⟩; exact ⟨k + 1, by simp, hkj, unhide HB3, unhide HNX⟩)
              case measure => first | (simp only [intOf]; omega) | (simp [intOf]; omega)
          · have qz : decide ((k : Int) < (jj : Int)) = false := decide_eq_false (by omega)
            have q1 : ¬ (k : Int) < (jj : Int) := by omega
            have HNM : Hid (meetsB ps bs i = false) := hide (meets_not fun k' hk' => unhide HFk k' (by have := unhide HJ; omega))
            have HV2 := hide ((unhide HV).bel (unhide HWk))
            have HR2 := hide ((unhide HR).below (unhide HWk))
            have HB2 := hide (bc (unhide HW1) (unhide HWk))
            rename World => W2
            have k0 := (unhide HV2).cell (m := 0) rfl
            have k1 := (unhide HV2).cell (m := 1) rfl
            have k2 := (unhide HV2).cell (m := 2) rfl
            have k3 := (unhide HV2).cell (m := 3) rfl
            have hsz2 : w.heap.size ≤ W2.heap.size := (unhide HB2).size
            go_wp2_with (at_builtin; refine unhide ?_)
            refine hide ?_
            refine wpList_append_own _ rfl _ _ 82 rfl w.heap.size 84 iP _ 4 32 Try.underlying82 hi1 hp0 hp1 hp2 rfl (by decide) _ _ _ rfl ((unhide HR2).below (ba (Below.refl _ _) _)) _ 1 1 ([(cn ps bs i).1, (cn ps bs i).2, (cn ps bs (i + 1)).1, (cn ps bs (i + 1)).2].map (Value.int .i64)) rfl rfl (by first | exact news_cells _ _ rfl | exact news_cells _ _ (by simp)) ints_one (by unfold maxLen; omega) (by omega) (by first | omega | (simp; omega)) ?_
            intro v' wz hown' hgrow hnil
            obtain ⟨R4, B4⟩ := own_more (wr := W2) (news := [(cn ps bs i).1, (cn ps bs i).2, (cn ps bs (i + 1)).1, (cn ps bs (i + 1)).2]) (by repeat (first | exact Below.refl _ _ | refine Below.alloc ?_ (by first | omega | (simp; omega)) _ | refine Below.drew ?_)) (by simp; omega) (unhide HR2) hown' hgrow
            have R5 := hide R4
            have B5 := hide B4
            have HNN : Hid (v' ≠ .slice none 0 0) := hide (fun e => absurd (hnil.1 e).2 (by decide))
            have HNX : Hid (∀ j, j < i + 1 → meetsB ps bs j = false) := hide (by
              intro j hj
              by_cases e : j < i
              · exact unhide HF j e
              · obtain rfl : j = i := by omega
                exact unhide HNM)
            have R6 : Hid (Row wz w.heap.size 84 4 v' (i + 1) (sgs ps bs (i + 1))) := hide (by rw [sgs_succ]; exact R4)
            clear hown' hgrow R4 B4 hnil R5
            go_wp2_with fail
            go_roundw
            case rel => first | exact ⟨i + 1, by simp, h, (unhide HB2).trans ((unhide B5).mono (by omega)), unhide R6, fun e => absurd e (by omega), fun _ => unhide HNN, unhide HNX⟩ | ((repeat apply Exists.intro); refine ⟨?_, rfl⟩; exact ⟨i + 1, by simp, h, (unhide HB2).trans ((unhide B5).mono (by omega)), unhide R6, fun e => absurd e (by omega), fun _ => unhide HNN, unhide HNX⟩)
            case measure => first | (simp only [intOf]; omega) | (simp [intOf]; omega)
    · have iz : decide ((i : Int) < (n : Int)) = false := decide_eq_false (by omega)
      obtain rfl : n = i := by omega
      go_wp2_with fail
      go_ret
      exact ⟨by rw [fst_none (unhide HF)]; rfl, unhide HW⟩
end Go.Proofs.Ytimkinpbimangaa
