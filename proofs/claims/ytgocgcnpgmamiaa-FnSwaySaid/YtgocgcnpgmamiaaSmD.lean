/-
  Drawn numbers: SamplesOf, whatever the code; all of them are right.
-/
import Derived.Test.YtgocgcnpgmamiaaFlNum
import Derived.Test.YtgocgcnpgmamiaaSou
import Derived.Test.YtgocgcnpgmamiaaOwnY
namespace Go.Proofs.Ytgocgcnpgmamiaa
open Go.ChangeShapes Go.WideShapes Go.ChangeAt Go.RowKit
set_option linter.unusedVariables false
set_option linter.unusedSimpArgs false
attribute [local go_sem] run_store_flt run_store_cpx

theorem So.dn {B g : Nat} {k : Int} {w : World} (h : So B g k w) (n : Nat) : So B g k (w.drewN n) := h.bel (bel_dn' (Below.refl _ _) _)
theorem numD {B g : Nat} {k : Int} {w : World} (m : Int) (h : So B g k w) (n1 : k ≤ 1000000000) (m0 : 1 ≤ m) (m1 : m ≤ 1000) :
    Calls Try.prog 65 #[.pointer (some ⟨g, 0, none⟩), .int .i64 m] w fun e w' => (∃ b, e = .returned (.float .f64 b)) ∧ So B g (k + 3) w' ∧ Mv g w w' := by
  have HN := hide (next_any (m * 8) h n1 (by omega) (by omega))
  have wm : IntKind.i64.wrap (m * 8) = m * 8 := wrap_i (by omega) (by omega)
  clear h
  go_enter Try.func65, Try.ntmps65
  go_wp2_with fail
  refine (unhide HN).mono ?_
  rintro e W ⟨r, rfl, r0, r1, hso, hmv⟩
  have HS := hide hso
  have HM := hide hmv
  have wr1 : IntKind.i64.wrap (1 + r) = 1 + r := wrap_i (by omega) (by omega)
  clear hso hmv
  go_wp2_with (refine upon_flt (by simp) ?_; intro _ _ _)
  go_ret
  exact ⟨⟨_, rfl⟩, (unhide HS).dn _, (unhide HM).dn _⟩
theorem chD {B g : Nat} {k : Int} {w : World} (m : Int) (h : So B g k w) (n1 : k ≤ 1000000000) (m0 : 1 ≤ m) (m1 : m ≤ 1000) :
    Calls Try.prog 66 #[.pointer (some ⟨g, 0, none⟩), .int .i64 m] w fun e w' => (∃ b, e = .returned (.bool b)) ∧ So B g (k + 3) w' ∧ Mv g w w' := by
  have HN := hide (next_any m h n1 (by omega) (by omega))
  have wm : IntKind.i64.wrap (m - 1) = m - 1 := wrap_i (by omega) (by omega)
  clear h
  go_enter Try.func66, Try.ntmps66
  go_wp2_with fail
  refine (unhide HN).mono ?_
  rintro e W ⟨r, rfl, r0, r1, hso, hmv⟩
  have HS := hide hso
  have HM := hide hmv
  clear hso hmv
  go_wp2_with fail
  go_ret
  exact ⟨⟨_, rfl⟩, unhide HS, unhide HM⟩
theorem oddD {B g : Nat} {k : Int} {w : World} (h : So B g k w) (n1 : k ≤ 1000000000) :
    Calls Try.prog 67 #[.pointer (some ⟨g, 0, none⟩)] w fun e w' => (∃ b, e = .returned (.float .f64 b)) ∧ So B g (k + 3) w' ∧ Mv g w w' := by
  have HH := hide h
  clear h
  go_enter Try.func67, Try.ntmps67
  go_wp2_with (refine upon_flt (by simp) ?_; intro _ _ _)
  refine (next_any 9 (B := B) (k := k) (by first | exact ((unhide HH).dn _).alloc _ | exact ((unhide HH).alloc _).dn _) n1 (by omega) (by omega)).mono ?_
  rintro e W2 ⟨r, rfl, r0, r1, hso, hmv⟩
  have lg := (unhide HH).lt
  obtain ⟨q, rfl⟩ : ∃ q : Nat, r = (q : Int) := ⟨r.toNat, by omega⟩
  have q9 : q < 9 := by omega
  obtain ⟨b, hb⟩ : ∃ b, W2.cell? ⟨w.heap.size, q, none⟩ = some (.float .f64 b) := by
    match q, q9 with
    | 0, _ => exact ⟨_, hmv.cell (by omega) ((vb_new (w.drewN _) 28 _ _ rfl).cell (m := 0) rfl)⟩
    | 1, _ => exact ⟨_, hmv.cell (by omega) ((vb_new (w.drewN _) 28 _ _ rfl).cell (m := 1) rfl)⟩
    | 2, _ => exact ⟨_, hmv.cell (by omega) ((vb_new (w.drewN _) 28 _ _ rfl).cell (m := 2) rfl)⟩
    | 3, _ => exact ⟨_, hmv.cell (by omega) ((vb_new (w.drewN _) 28 _ _ rfl).cell (m := 3) rfl)⟩
    | 4, _ => exact ⟨_, hmv.cell (by omega) ((vb_new (w.drewN _) 28 _ _ rfl).cell (m := 4) rfl)⟩
    | 5, _ => exact ⟨_, hmv.cell (by omega) ((vb_new (w.drewN _) 28 _ _ rfl).cell (m := 5) rfl)⟩
    | 6, _ => exact ⟨_, hmv.cell (by omega) ((vb_new (w.drewN _) 28 _ _ rfl).cell (m := 6) rfl)⟩
    | 7, _ => exact ⟨_, hmv.cell (by omega) ((vb_new (w.drewN _) 28 _ _ rfl).cell (m := 7) rfl)⟩
    | 8, _ => exact ⟨_, hmv.cell (by omega) ((vb_new (w.drewN _) 28 _ _ rfl).cell (m := 8) rfl)⟩
  have HS := hide hso
  have HM : Hid (Mv g w W2) := hide (Mv.trans (by first | exact ((Mv.refl g w).dn _).alloc _ | exact ((Mv.refl g w).alloc _).dn _) hmv)
  clear hso hmv lg
  go_wp2_with fail
  go_ret
  exact ⟨⟨_, rfl⟩, unhide HS, unhide HM⟩
/-- so many drawn numbers -/
theorem f64_info : (Try.prog.info? 28).map (fun i => (i.zero, i.size, i.bytes)) = some (some (.float .f64 0), 1, 8) := by kernel_rfl
theorem FRow.mv {fk : FloatKind} {w w' : World} {B t k n g : Nat} {v : Value} {L : List Nat} (h : FRow fk w B t k v n L) (hb : Mv g w w') (hg : g < B) : FRow fk w' B t k v n L :=
  FRow.kept' h fun g' hg' => by
    rcases h.2 with ⟨h1, _⟩ | ⟨g2, cap, cur, hv, hB, hh, _⟩
    · rw [h1] at hg'; cases hg'
    · rw [hv] at hg'
      simp only [Value.ownBlock, Option.some.injEq] at hg'
      subst hg'
      exact hb.block _ (Array.getElem?_eq_some_iff.1 hh).1 (by omega)
set_option maxHeartbeats 2000000 in
set_option maxRecDepth 10000 in
theorem samD {B g : Nat} {k : Int} {w : World} (n : Nat) (h : So B g k w) (k0 : 0 ≤ k) (n1 : k ≤ 1000) (hn : n ≤ 1000) :
    Calls Try.prog 54 #[.pointer (some ⟨g, 0, none⟩), .int .i64 (n : Int)] w fun e w' => (∃ v R, e = .returned v ∧ FRow .f64 w' w.heap.size 28 1 v n R) ∧ So B g (k + 9 * n + 9) w' ∧ Mv g w w' := by
  have HH := hide h
  have lg := h.lt
  have n0 : (0 : Int) ≤ (n : Int) := Int.natCast_nonneg _
  obtain ⟨iI, hi1, hy0, hy1, hy2⟩ := info_parts f64_info
  have HI1 := hide hi1
  have HY0 := hide hy0
  have HY1 := hide hy1
  have HY2 := hide hy2
  clear h hi1 hy0 hy1 hy2
  go_enter Try.func54, Try.ntmps54
  go_wp2_with fail
  have HR0 := hide (frow_made (fk := .f64) w 28 w.heap.size 1 (Nat.le_refl _) w.heap.size rfl)
  have HS0 := hide ((unhide HH).alloc (.cells #[] 28))
  have HM0 := hide ((Mv.refl g w).alloc (.cells #[] 28))
  go_loopw [5, 6] (fun s t W => ∃ (i gr cr : Nat) (R : List Nat), s = .slice (some ⟨gr, 0, none⟩) i cr ∧ t = .int .i64 (i : Int) ∧ i ≤ n ∧ FRow .f64 W w.heap.size 28 1 (.slice (some ⟨gr, 0, none⟩) i cr) i R ∧ So B g (k + 9 * i) W ∧ Mv g w W) (fun _ s _ => n - (intOf s).toNat)
  case atStart => exact ⟨0, _, 0, [], rfl, rfl, Nat.zero_le _, unhide HR0, by simpa using unhide HS0, unhide HM0⟩
  case round =>
    obtain ⟨i, gr, cr, R, rfl, rfl, hi, hr, hso, hmv⟩ := hrel
    have HR := hide hr
    have HS := hide hso
    have HM := hide hmv
    clear hr hso hmv HR0 HS0 HM0
    have i0 : (0 : Int) ≤ (i : Int) := Int.natCast_nonneg _
    by_cases h : i < n
    · have i1 : (i : Int) < (n : Int) := by omega
      have iz : decide ((i : Int) < (n : Int)) = true := decide_eq_true i1
      go_wp2_with fail
      refine (numD 20 (unhide HS) (by omega) (by omega) (by omega)).mono ?_
      rintro e W1 ⟨⟨b, rfl⟩, hso, hmv⟩
      have HS1 := hide hso
      have HM1 := hide ((unhide HM).trans hmv)
      have HR1 := hide ((unhide HR).mv hmv lg)
      clear hso hmv
      go_wp2_with (refine upon_flt (by simp) ?_; intro rr nn _)
      refine (chD 5 ((unhide HS1).dn _) (by omega) (by omega) (by omega)).mono ?_
      rintro e W2 ⟨⟨t, rfl⟩, hso, hmv⟩
      have HS2 := hide hso
      have HM2 := hide (((unhide HM1).dn _).trans hmv)
      have HR2 := hide (((unhide HR1).below (bel_dn' (Below.refl _ _) _)).mv hmv lg)
      clear hso hmv HS1 HM1 HR1
      cases t with
      | true =>
        go_wp2_with fail
        refine (next_any 1000000 (unhide HS2) (by omega) (by omega) (by omega)).mono ?_
        rintro e W3 ⟨r, rfl, r0, r1, hso, hmv⟩
        have HS3 := hide hso
        have HM3 := hide ((unhide HM2).trans hmv)
        have HR3 := hide ((unhide HR2).mv hmv lg)
        clear hso hmv HS2 HM2 HR2
        go_wp2_with (first | (at_builtin; refine unhide ?_) | (refine upon_flt (by simp) ?_; intro r2 n2 _))
        refine hide ?_
        refine wpList_append_own _ rfl _ _ 35 rfl w.heap.size 28 iI _ 1 8 Try.underlying35 (unhide HI1) (unhide HY0) (unhide HY1) (unhide HY2) rfl (by decide) _ _ _ rfl (World.ownsRow.alloc ((unhide HR3).below (bel_dn' (Below.refl _ _) _)) _) _ 1 1 ([r2].map (Value.float .f64)) rfl rfl (by first | exact news_cells _ _ rfl | exact news_cells _ _ (by simp) | exact news_drew _ _ (by simp)) flts_one (by unfold maxLen; omega) (by omega) (by have := (unhide HM3).size; simp; omega) ?_
        intro v' w1 hown hgrow _
        obtain ⟨hrow, hbel⟩ := fown_more (fk := .f64) (wr := W3) (ba (bel_dn' (Below.refl _ _) _) _ |>.mono (unhide HM3).size) (by have := (unhide HM3).size; simp; omega) (unhide HR3) hown hgrow
        obtain ⟨g9, c9, hrr, _⟩ := hrow.full (by omega)
        subst hrr
        have HROW := hide hrow
        have HM9 := hide ((unhide HM3).belB hbel (Nat.le_refl _))
        have HS9 := hide (((unhide HS3).belB hbel lg).up (show k + 9 * (i : Int) + 3 + 3 + 3 ≤ k + 9 * ((i + 1 : Nat) : Int) by omega))
        clear hrow hbel hown hgrow
        go_wp2_with fail
        go_roundw
        case rel => exact ⟨i + 1, g9, c9, R ++ [r2], rfl, by simp, h, unhide HROW, unhide HS9, unhide HM9⟩
        case measure => simp only [intOf]; omega
      | false =>
        go_wp2_with (at_builtin; refine unhide ?_)
        refine hide ?_
        refine wpList_append_own _ rfl _ _ 35 rfl w.heap.size 28 iI _ 1 8 Try.underlying35 (unhide HI1) (unhide HY0) (unhide HY1) (unhide HY2) rfl (by decide) _ _ _ rfl (World.ownsRow.alloc (unhide HR2) _) _ 1 1 ([rr].map (Value.float .f64)) rfl rfl (by first | exact news_cells _ _ rfl | exact news_cells _ _ (by simp) | exact news_drew _ _ (by simp)) flts_one (by unfold maxLen; omega) (by omega) (by have := (unhide HM2).size; simp; omega) ?_
        intro v' w1 hown hgrow _
        obtain ⟨hrow, hbel⟩ := fown_more (fk := .f64) (wr := W2) (ba (Below.refl _ _) _ |>.mono (unhide HM2).size) (by have := (unhide HM2).size; simp; omega) (unhide HR2) hown hgrow
        obtain ⟨g9, c9, hrr, _⟩ := hrow.full (by omega)
        subst hrr
        have HROW := hide hrow
        have HM9 := hide ((unhide HM2).belB hbel (Nat.le_refl _))
        have HS9 := hide (((unhide HS2).belB hbel lg).up (show k + 9 * (i : Int) + 3 + 3 ≤ k + 9 * ((i + 1 : Nat) : Int) by omega))
        clear hrow hbel hown hgrow
        go_wp2_with fail
        go_roundw
        case rel => exact ⟨i + 1, g9, c9, R ++ [rr], rfl, by simp, h, unhide HROW, unhide HS9, unhide HM9⟩
        case measure => simp only [intOf]; omega
    · have iz : decide ((i : Int) < (n : Int)) = false := decide_eq_false (by omega)
      have en : i = n := by omega
      subst en
      by_cases hi0 : i = 0
      · have t0 : decide ((0 : Int) < (i : Int)) = false := decide_eq_false (by omega)
        have t9 : ¬ (0 : Int) < (i : Int) := by omega
        have HI0 := hide hi0
        clear hi0
        go_wp2_with fail
        refine bodyPost_ret (v := .slice (some ⟨gr, 0, none⟩) i cr) (by simp [results, Try.results54, go_sem]) rfl ⟨⟨_, rfl, R, unhide HR⟩, (unhide HS).up (by omega), unhide HM⟩
      · have t0 : decide ((0 : Int) < (i : Int)) = true := decide_eq_true (by omega)
        have ip : (0 : Int) < (i : Int) := by omega
        go_wp2_with fail
        refine (chD 25 (unhide HS) (by omega) (by omega) (by omega)).mono ?_
        rintro e W2 ⟨⟨t, rfl⟩, hso, hmv⟩
        have HS2 := hide hso
        have HM2 := hide ((unhide HM).trans hmv)
        have HR2 := hide ((unhide HR).mv hmv lg)
        clear hso hmv
        cases t with
        | false =>
          go_wp2_with fail
          go_ret
          exact ⟨⟨_, R, rfl, unhide HR2⟩, (unhide HS2).up (by omega), unhide HM2⟩
        | true =>
          go_wp2_with fail
          refine (next_any (i : Int) (unhide HS2) (by omega) (by omega) (by omega)).mono ?_
          rintro e W3 ⟨r, rfl, r0, r1, hso, hmv⟩
          have HS3 := hide hso
          have HM3 := hide ((unhide HM2).trans hmv)
          have HR3 := hide ((unhide HR2).mv hmv lg)
          clear hso hmv HS2 HM2 HR2
          go_wp2_with fail
          refine (oddD (unhide HS3) (by omega)).mono ?_
          rintro e W4 ⟨⟨b, rfl⟩, hso, hmv⟩
          have HS4 := hide hso
          have HM4 := hide ((unhide HM3).trans hmv)
          have HR4 := hide ((unhide HR3).mv hmv lg)
          obtain ⟨q, rfl⟩ : ∃ q : Nat, r = (q : Int) := ⟨r.toNat, by omega⟩
          have hq : q < R.length := by have := (unhide HR4).len; omega
          have c0 := (unhide HR4).cellAt (List.getElem?_eq_getElem hq)
          generalize R[q] = z at c0
          have fz := (unhide HR4).frz
          have lgr := cell_lt c0
          clear hso hmv HS3 HM3 HR3
          go_wp2_with fail
          go_ret
          refine ⟨⟨_, R.set q b, rfl, (unhide HR4).set q (by have := (unhide HR4).len; omega) b⟩, ?_, (unhide HM4).new (unhide HR4).ge _ _⟩
          exact ((unhide HS4).set (by have := (unhide HS4).above; have := (unhide HR4).ge; omega) (by have := (unhide HR4).ge; omega) _ _).up (by omega)

theorem smp_1 : smp 4607182418800017408 = true := by decide
set_option maxHeartbeats 2000000 in
set_option maxRecDepth 10000 in
theorem samplesD (a : Option Addr) (len cap : Nat) (zs : List Int) (n : Nat) (w : World) (hc : Code w.heap.size w a len cap zs) (hl : len ≤ 9223372036854775807) (hn : n ≤ 100) :
    Calls Try.prog 16 #[.slice a len cap, .int .i64 (n : Int)] w fun e w' => (∃ v R, e = .returned v ∧ FRow .f64 w' w.heap.size 28 1 v n R ∧ R.all smp = true) ∧ Below w.heap.size w w' := by
  have HSO := hide (source_any a len cap zs w hc hl)
  have n0 : (0 : Int) ≤ (n : Int) := Int.natCast_nonneg _
  clear hc
  go_enter Try.func16, Try.ntmps16
  go_wp2_with fail
  refine (unhide HSO).mono ?_
  rintro e W1 ⟨rfl, hb, hso⟩
  have HB1 := hide hb
  have HS1 := hide hso
  clear hb hso HSO
  go_wp2_with fail
  refine (samD n (unhide HS1) (by omega) (by omega) (by omega)).mono ?_
  rintro e W2 ⟨⟨v, R, rfl, hr⟩, _, hmv⟩
  have hB2 : Below w.heap.size w W2 := Mv.bel (unhide HB1) hmv (Nat.le_refl _) (unhide HB1).size
  have hr2 : FRow .f64 W2 w.heap.size 28 1 v n R := hr.mono (unhide HB1).size
  by_cases hn0 : n = 0
  · obtain ⟨u, cp, rfl, _⟩ := hr2.form
    have HR := hide hr2
    have HB := hide hB2
    have HN0 := hide hn0
    have iz : decide ((0 : Int) < (n : Int)) = false := decide_eq_false (by omega)
    have iz2 : ¬ (0 : Int) < (n : Int) := by omega
    clear hr hr2 hmv hB2 hn0
    go_wp2_with fail
    go_loopw [6] (fun s W => s = .int .i64 0 ∧ W = W2) (fun _ _ => 0)
    case atStart => exact ⟨rfl, rfl⟩
    case round =>
      obtain ⟨rfl, rfl⟩ := hrel
      go_wp2_with fail
      refine bodyPost_ret (v := .slice u n cp) (by simp [results, Try.results16, go_sem]) rfl ⟨⟨_, R, rfl, unhide HR, ?_⟩, unhide HB⟩
      have hl := (unhide HR).len
      rw [unhide HN0] at hl
      have hnil : R = [] := List.eq_nil_of_length_eq_zero (by omega)
      rw [hnil]
      rfl
  · obtain ⟨g, cp, rfl, hg, _⟩ := hr2.full hn0
    have HR := hide hr2
    have HB := hide hB2
    have HG := hide hg
    clear hr hr2 hmv hB2 HB1 HS1
    go_wp2_with fail
    go_loopw [6] (fun s W => ∃ (i : Nat) (Q : List Nat), s = .int .i64 (i : Int) ∧ i ≤ n ∧ FRow .f64 W w.heap.size 28 1 (.slice (some ⟨g, 0, none⟩) n cp) n Q ∧ (Q.take i).all smp = true ∧ Below w.heap.size w W) (fun s _ => n - (intOf s).toNat)
    case atStart => exact ⟨0, R, rfl, Nat.zero_le _, unhide HR, by simp, unhide HB⟩
    case round =>
      obtain ⟨i, Q, rfl, hi, hq, ha, hw⟩ := hrel
      have HQ := hide hq
      have HA := hide ha
      have HW := hide hw
      have HQL : Hid (Q.length = n) := hide (by have := hq.len; omega)
      clear hq ha hw HR HB
      have i0 : (0 : Int) ≤ (i : Int) := Int.natCast_nonneg _
      by_cases h : i < n
      · have i1 : (i : Int) < (n : Int) := by omega
        have iz : decide ((i : Int) < (n : Int)) = true := decide_eq_true i1
        obtain ⟨x, hx⟩ := get_some (unhide HQL) h
        have c0 := (unhide HQ).cellAt hx
        have fz := (unhide HQ).frz
        have lgr := cell_lt c0
        have HX := hide hx
        clear hx
        go_wp2_with fail
        refine (withinM x _ _ _).mono ?_
        rintro e w' ⟨rfl, hq⟩
        rw [hq]
        clear hq
        cases hto : fin .f64 (Fv .f64 x) (Fv .f64 13920209183539462144) (Fv .f64 4696837146684686336) with
        | true =>
          go_wp2_with fail
          go_roundw
          case rel => exact ⟨i + 1, Q, by simp, h, unhide HQ, by rw [fall_take smp (unhide HX), unhide HA]; exact hto, unhide HW⟩
          case measure => simp only [intOf]; omega
        | false =>
          go_wp2_with fail
          go_roundw
          case rel =>
            refine ⟨i + 1, Q.set i 4607182418800017408, by simp, h, (unhide HQ).set i (by omega) _, ?_, bs (unhide HW) (unhide HG)⟩
            rw [fall_take smp (List.getElem?_set_self (by rw [unhide HQL]; exact h)), List.take_set_of_le (Nat.le_refl _), unhide HA, smp_1]
            rfl
          case measure => simp only [intOf]; omega
      · have iz : decide ((i : Int) < (n : Int)) = false := decide_eq_false (by omega)
        have HE : Hid (Q.all smp = true) := hide (by have := unhide HA; rwa [List.take_of_length_le (by rw [unhide HQL]; omega)] at this)
        go_wp2_with fail
        exact bodyPost_ret (v := .slice (some ⟨g, 0, none⟩) n cp) (by simp [results, Try.results16, go_sem]) rfl ⟨⟨_, Q, rfl, unhide HQ, unhide HE⟩, unhide HW⟩
end Go.Proofs.Ytgocgcnpgmamiaa
