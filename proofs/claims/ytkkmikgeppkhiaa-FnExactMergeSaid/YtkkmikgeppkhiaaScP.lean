/-
  The program's shortest circle.
-/
import Derived.Test.YtkkmikgeppkhiaaStP
import Derived.Lib.SliceRun
namespace Go.Proofs.Ytkkmikgeppkhiaa
open Go.ChangeShapes Go.WideShapes Go.ChangeAt Go.RowKit
set_option linter.unusedVariables false
set_option linter.unusedSimpArgs false

theorem StAns.at {s : Nat → Option Nat} {n goal m L : Nat} {st : List Nat} (h : StAns s n goal st) (f : First s m goal L) (hm : m < n) : st[m]? = some L := by
  obtain ⟨x, hx⟩ := get_some h.1 hm
  rcases Nat.eq_zero_or_pos x with e | e
  · subst e
    exact (h.2.2 m hx L f).elim
  · rw [hx, (h.2.1 m x hx e).uniq f]
theorem path_last (s : Nat → Option Nat) (t i : Nat) : (path s (t + 1) i)[t]? = some ((it s t i).getD 0) := by
  show (path s t i ++ _)[t]? = _
  rw [List.getElem?_append_right (by rw [path_len]; omega), path_len, Nat.sub_self]
  rfl
set_option maxRecDepth 100000 in
set_option maxHeartbeats 4000000 in
theorem circP_any (u : Option Addr) (n cu gs i0 L : Nat) (nm : List (List Nat)) (st : List Nat) (w : World) (hl : nm.length = n) (hn : n ≤ 4000) (hi0 : i0 < n) (hu : NmAt w u nm) (ho : Oneful nm) (hst : StAns (sc nm) n i0 st) (hv : vb w gs 3 (natV st)) (hL : st[i0]? = some L) (hLp : 0 < L) :
    Calls Try.prog 98 #[.slice u n cu, .slice (some ⟨gs, 0, none⟩) n n, .int .i64 (i0 : Int)] w fun e w' => ∃ v, e = .returned v ∧ w'.ownsRow w.heap.size 3 1 v L (natV (path (sc nm) L i0)) ∧ Below w.heap.size w w' := by
  obtain ⟨iI, hi, hz0, hz1, hz2⟩ := info_parts info3
  have hF := hst.2.1 i0 L hL hLp
  have hLn := hF.le ho
  rw [hl] at hLn
  have HU := hide hu
  have HN := hide hl
  have HO := hide ho
  have HST := hide hst
  have HF := hide hF
  have HVS := hide (hv.bel (ba (Below.refl w.heap.size w) (.cells #[.int .i64 (i0 : Int)] 3)))
  have HV := hide hv
  have k0 := hv.cell (natV_at hL)
  have k0' := ka (o := .cells #[.int .i64 (i0 : Int)] 3) k0
  have i1 : (i0 : Int) < (n : Int) := by omega
  have iz : (0 : Int) ≤ (i0 : Int) := Int.natCast_nonneg _
  have HR0 := hide ((vb_new w 3 (natV [i0]) _ rfl).owns (B := w.heap.size) (n := 1) (Nat.le_refl _) rfl (by decide))
  have HB0 := hide (ba (Below.refl w.heap.size w) (.cells #[.int .i64 (i0 : Int)] 3))
  clear hu hl ho hst hF hv hL
  go_enter Try.func98, Try.ntmps98
  go_wp2_with fail
  clear k0 k0'
  go_loopw [7, 8] (fun v s W => ∃ t : Nat, 0 < t ∧ t ≤ L ∧ s = .int .i64 ((L : Int) - (t : Int)) ∧ W.ownsRow w.heap.size 3 1 v t (natV (path (sc nm) t i0)) ∧ Below w.heap.size w W) (fun _ s _ => (intOf s).toNat)
  case atStart => exact ⟨1, by omega, hLp, by simp, unhide HR0, unhide HB0⟩
  case round =>
    obtain ⟨t, ht0, htL, rfl, hown, hw⟩ := hrel
    rename World => W1
    obtain ⟨uv, cv, rfl, _, _, hfv⟩ := own_form hown
    have HOW := hide hown
    have HW := hide hw
    clear hown hw HR0 HB0
    by_cases h : t < L
    · have t1 : (0 : Int) < (L : Int) - (t : Int) := by omega
      have tz : decide ((0 : Int) < (L : Int) - (t : Int)) = true := decide_eq_true t1
      obtain ⟨gv, rfl, hgv1, hgv2, hcr⟩ := hfv (by omega)
      obtain ⟨p, hp, fp⟩ := (unhide HF).rest (show t - 1 < L by omega)
      obtain ⟨r, hr, fr⟩ := (unhide HF).rest h
      have hpr : sc nm p = some r := by
        rw [show t = t - 1 + 1 by omega, it, hp] at hr
        exact hr
      obtain ⟨hpn, hrn⟩ := sc_lt (unhide HO) hpr
      rw [unhide HN] at hpn hrn
      have hpl : (path (sc nm) t i0)[t - 1]? = some p := by
        have := path_last (sc nm) (t - 1) i0
        rw [show t - 1 + 1 = t by omega, hp] at this
        exact this
      have k1 := hcr (t - 1) _ (natV_at hpl)
      have e1 : ((t : Int) - 1) = ((t - 1 : Nat) : Int) := by omega
      have e2 : ((t - 1 : Nat) : Int) < (t : Int) := by omega
      have e3 : (0 : Int) ≤ ((t - 1 : Nat) : Int) := Int.natCast_nonneg _
      have p1 : (p : Int) < (n : Int) := by omega
      have p0 : (0 : Int) ≤ (p : Int) := Int.natCast_nonneg _
      have r1 : (r : Int) < (n : Int) := by omega
      have r0 : (0 : Int) ≤ (r : Int) := Int.natCast_nonneg _
      have hnp : nm[p]? = some [r] := by
        rcases (unhide HO).at (by rw [unhide HN]; exact hpn) with ⟨_, e⟩ | ⟨q, _, e, e'⟩
        · rw [hpr] at e; cases e
        · rw [hpr] at e'; cases e'; exact e
      obtain ⟨gn, on, rfl, xv, xc, hcx, hin⟩ := ((unhide HU).bel (unhide HW)).at hnp
      obtain ⟨bx, qx, rfl, hcell⟩ := hin (by simp)
      have k2 := hcell 0 r rfl
      have hpth : path (sc nm) (t + 1) i0 = path (sc nm) t i0 ++ [r] := by
        show path (sc nm) t i0 ++ [(it (sc nm) t i0).getD 0] = _
        rw [hr]; rfl
      have HPT := hide hpth
      have k3 := ((unhide HV).below (unhide HW) (unhide HV).lt).cell (natV_at ((unhide HST).at fr hrn))
      have e4 : ((L - t : Nat) : Int) = (L : Int) - (t : Int) := by omega
      rw [e4] at k3
      clear hcr hfv hp hr hpr hpl hnp hin hcell hpth fp fr e4
      simp only [List.length_singleton, Nat.add_zero] at hcx k2
      generalize hq : t - 1 = tm at *
      have HQ := hide hq
      clear hq
      have hww : IntKind.i64.wrap ((L : Int) - (t : Int) - 1) = (L : Int) - ((t + 1 : Nat) : Int) := by rw [wrap_i (by omega) (by omega)]; omega
      go_wp2_with fail
      have HC := hide hcx
      have K2 := hide k2
      have K3 := hide k3
      clear k1 hcx k2 k3 e1 e2 e3
      go_loopw [7, 32] (fun v s W => v = .slice (some ⟨gv, 0, none⟩) t cv ∧ s = .int .i64 0 ∧ W = W1) (fun _ s _ => 1 - (intOf s).toNat)
      case atStart => exact ⟨rfl, rfl, rfl⟩
      case round =>
        obtain ⟨rfl, rfl, hww1⟩ := hrel
        subst hww1
        rename World => W1
        have k2 := unhide K2
        have k3 := unhide K3
        go_wp2_with (at_builtin; refine unhide ?_)
        refine hide ?_
        clear k2 k3
        refine wpList_append_own _ rfl _ _ 94 rfl w.heap.size 3 iI _ 1 8 Try.underlying94 hi hz0 hz1 hz2 rfl (by decide) _ t _ rfl ((unhide HOW).alloc _) _ 1 1 (natV [r]) rfl rfl (by first | exact news_cells _ _ rfl | exact news_cells _ _ (by simp)) (by intro u hu; simp only [natV, List.map_cons, List.map_nil, List.mem_singleton] at hu; subst hu; rfl) (by unfold maxLen; omega) (by omega) (Nat.le_trans (unhide HW).size (by simp)) ?_
        intro v' w1 hown' hgrow _
        have hbw : Below w.heap.size w w1 := ((unhide HW).alloc (unhide HW).size _).grown hgrow (Nat.le_trans (unhide HW).size (by simp)) (fun g hg => (own_ge (unhide HOW) g hg).1)
        have hown2 : w1.ownsRow w.heap.size 3 1 v' (t + 1) (natV (path (sc nm) (t + 1) i0)) := by
          rw [unhide HPT]
          have e : natV (path (sc nm) t i0 ++ [r]) = natV (path (sc nm) t i0) ++ natV [r] := by simp [natV]
          rw [e]
          exact hown'
        have HO2 := hide hown2
        have HBW := hide hbw
        clear hown' hgrow hown2 hbw
        go_wp2_with fail
        go_roundw
        case rel => exact ⟨t + 1, by omega, by omega, by first | rfl | (simp only [Value.int.injEq, true_and]; omega), unhide HO2, unhide HBW⟩
        case measure => simp only [intOf]; omega
    · have t1 : ¬ (0 : Int) < (L : Int) - (t : Int) := by omega
      have tz : decide ((0 : Int) < (L : Int) - (t : Int)) = false := decide_eq_false t1
      have htl : L = t := by omega
      subst htl
      clear hfv
      go_wp2_with fail
      go_ret
      exact ⟨_, rfl, unhide HOW, unhide HW⟩

set_option maxRecDepth 100000 in
set_option maxHeartbeats 4000000 in
theorem shortP_any (u : Option Addr) (n cu : Nat) (nm : List (List Nat)) (w : World) (hl : nm.length = n) (hn : n ≤ 4000) (hu : NmAt w u nm) (ho : Oneful nm) :
    Calls Try.prog 78 #[.slice u n cu] w fun e w' => (∃ v b, e = .returned v ∧ Bst (sc nm) n b ∧ w'.ownsRow w.heap.size 3 1 v b.length (natV b)) ∧ Below w.heap.size w w' := by
  have HU := hide hu
  have HN := hide hl
  have HO := hide ho
  clear hu hl ho
  have hnil : ∀ (W : World) (a : Option Addr) (l c : Nat), (binOp .eql 94 (.slice a l c) (.slice none 0 0)).run Try.prog W = .ok (.bool a.isNone) W := fun W a l c => Lib.run_eql_slice_nil W 94 3 a l c 0 0 Try.underlying94
  go_enter Try.func78, Try.ntmps78
  go_wp2_with fail
  go_loopw [3, 8] (fun v s W => ∃ (k : Nat) (b : List Nat), s = .int .i64 (k : Int) ∧ k ≤ n ∧ Bst (sc nm) k b ∧ W.ownsRow w.heap.size 3 1 v b.length (natV b) ∧ (b = [] → v = .slice none 0 0) ∧ Below w.heap.size w W) (fun _ s _ => n - (intOf s).toNat)
  case atStart => exact ⟨0, [], rfl, Nat.zero_le _, rfl, own_nil _ _ _ _, fun _ => rfl, Below.refl _ _⟩
  case round =>
    obtain ⟨k, b, rfl, hkn, hbst, hown, hnl, hw⟩ := hrel
    rename World => W1
    obtain ⟨ub, cb, rfl, _, _, hfb⟩ := own_form hown
    have HB := hide hbst
    have HOW := hide hown
    have HNL := hide hnl
    have HW := hide hw
    clear hbst hown hnl hw
    by_cases h : k < n
    · have k1 : (k : Int) < (n : Int) := by omega
      have k0 : (0 : Int) ≤ (k : Int) := Int.natCast_nonneg _
      have kz : decide ((k : Int) < (n : Int)) = true := decide_eq_true k1
      have HS := hide (stepsP_any u n cu k nm W1 (unhide HN) hn h ((unhide HU).bel (unhide HW)) (unhide HO))
      go_wp2_with fail
      refine (unhide HS).mono ?_
      rintro e W2 ⟨⟨st, rfl, hvb, hst⟩, hb⟩
      obtain ⟨L, hL⟩ := get_some hst.1 h
      have c1 := hvb.cell (natV_at hL)
      have HW2 := hide (bc (unhide HW) hb)
      have HOW2 := hide (own_bel (unhide HOW) hb)
      have HV := hide hvb
      have HST := hide hst
      have HL := hide hL
      clear hvb hst hL hb HS
      by_cases hL0 : 0 < L
      · have l1 : (0 : Int) < (L : Int) := by omega
        have lz : decide ((0 : Int) < (L : Int)) = true := decide_eq_true l1
        have hcy : Cyc (sc nm) k (path (sc nm) L k) := .inl ⟨L, (unhide HST).2.1 k L (unhide HL) hL0, rfl⟩
        have HB1 : Hid (Bst (sc nm) (k + 1) (better b (path (sc nm) L k))) := hide ⟨b, _, unhide HB, hcy, rfl⟩
        have HCC := hide (fun W (hb : Below W2.heap.size W2 W) => circP_any u n cu W1.heap.size k L nm st W (unhide HN) hn h ((unhide HU).bel (bc (unhide HW2) hb)) (unhide HO) (unhide HST) ((unhide HV).bel hb) (unhide HL) hL0)
        clear hcy
        by_cases hb0 : b = []
        · have e := unhide HNL hb0
          simp only [Value.slice.injEq] at e
          obtain ⟨rfl, e2, rfl⟩ := e
          have hbt : better b (path (sc nm) L k) = path (sc nm) L k := if_pos ⟨by rw [path_len]; exact hL0, .inl e2⟩
          rw [hbt] at HB1
          clear hbt hb0
          go_wp2_with fail
          refine (unhide HCC _ (Below.refl _ _)).mono ?_
          rintro e W3 ⟨vc, rfl, hrc, hb3⟩
          have HW3 := hide (bc (unhide HW2) hb3)
          have HRC := hide (own_mono hrc (unhide HW2).size)
          clear hrc hb3
          go_wp2_with fail
          go_roundw
          case rel => exact ⟨k + 1, path (sc nm) L k, by simp, h, unhide HB1, by rw [path_len]; exact unhide HRC, fun e => by have := congrArg List.length e; rw [path_len] at this; simp at this; omega, unhide HW3⟩
          case measure => simp only [intOf]; omega
        · have hbp : b.length ≠ 0 := fun e => hb0 (List.eq_nil_of_length_eq_zero e)
          obtain ⟨gb, rfl, _⟩ := hfb hbp
          by_cases hlt : L < b.length
          · have m1 : (L : Int) < (b.length : Int) := by omega
            have mz : decide ((L : Int) < (b.length : Int)) = true := decide_eq_true m1
            have hbt : better b (path (sc nm) L k) = path (sc nm) L k := if_pos ⟨by rw [path_len]; exact hL0, .inr (by rw [path_len]; exact hlt)⟩
            rw [hbt] at HB1
            clear hbt hb0
            go_wp2_with fail
            refine (unhide HCC _ (Below.refl _ _)).mono ?_
            rintro e W3 ⟨vc, rfl, hrc, hb3⟩
            have HW3 := hide (bc (unhide HW2) hb3)
            have HRC := hide (own_mono hrc (unhide HW2).size)
            clear hrc hb3
            go_wp2_with fail
            go_roundw
            case rel => exact ⟨k + 1, path (sc nm) L k, by simp, h, unhide HB1, by rw [path_len]; exact unhide HRC, fun e => by have := congrArg List.length e; rw [path_len] at this; simp at this; omega, unhide HW3⟩
            case measure => simp only [intOf]; omega
          · have m1 : ¬ (L : Int) < (b.length : Int) := by omega
            have mz : decide ((L : Int) < (b.length : Int)) = false := decide_eq_false m1
            have hbt : better b (path (sc nm) L k) = b := if_neg (by rw [path_len]; omega)
            rw [hbt] at HB1
            clear hbt
            go_wp2_with fail
            go_roundw
            case rel => exact ⟨k + 1, b, by simp, h, unhide HB1, unhide HOW2, fun e => (hb0 e).elim, unhide HW2⟩
            case measure => simp only [intOf]; omega
      · have l1 : ¬ (0 : Int) < (L : Int) := by omega
        have lz : decide ((0 : Int) < (L : Int)) = false := decide_eq_false l1
        have hL00 : L = 0 := by omega
        have hcy : Cyc (sc nm) k [] := .inr ⟨(unhide HST).2.2 k (by rw [unhide HL, hL00]), rfl⟩
        have HB1 : Hid (Bst (sc nm) (k + 1) (better b [])) := hide ⟨b, _, unhide HB, hcy, rfl⟩
        rw [show better b [] = b from if_neg (by simp)] at HB1
        clear hcy hL00
        go_wp2_with fail
        go_roundw
        case rel => exact ⟨k + 1, b, by simp, h, unhide HB1, unhide HOW2, unhide HNL, unhide HW2⟩
        case measure => simp only [intOf]; omega
    · have k1 : ¬ (k : Int) < (n : Int) := by omega
      have kz : decide ((k : Int) < (n : Int)) = false := decide_eq_false k1
      have hk : n = k := by omega
      subst hk
      clear hfb
      go_wp2_with fail
      go_ret
      first
      | exact ⟨⟨_, b, rfl, unhide HB, unhide HOW⟩, unhide HW⟩
      | exact ⟨⟨_, rfl, b, unhide HB, unhide HOW⟩, unhide HW⟩
end Go.Proofs.Ytkkmikgeppkhiaa
