/-
  Drawn masses, whatever the code; they are right.
-/
import Derived.Test.YtgocgcnpgmamiaaSmD
import Derived.Test.YtgocgcnpgmamiaaSwLf
import Derived.Lib.MinMax
import Derived.Test.YtgocgcnpgmamiaaGen
namespace Go.Proofs.Ytgocgcnpgmamiaa
open Go.ChangeShapes Go.WideShapes Go.ChangeAt Go.RowKit
set_option linter.unusedVariables false
set_option linter.unusedSimpArgs false
attribute [local go_sem] run_store_flt run_store_cpx

theorem sizD {B g : Nat} {k : Int} {w : World} (h : So B g k w) :
    Calls Try.prog 64 #[.pointer (some ⟨g, 0, none⟩), .int .i64 6] w fun e w' => (∃ r : Int, e = .returned (.int .i64 r) ∧ 1 ≤ r ∧ r ≤ 6) ∧ w' = w := by
  obtain ⟨a, len, cap, zs, n, s, hs, _⟩ := h
  have c0 := hs.c0
  have l1 := hs.l1
  have lg := cell_lt c0
  obtain ⟨d, hd⟩ : ∃ d : Nat, len / 12 = d := ⟨_, rfl⟩
  have hd2 : (len : Int).tdiv 12 = (d : Int) := by rw [← hd]; rfl
  have w1 : IntKind.i64.wrap ((len : Int).tdiv 12) = (d : Int) := by rw [hd2]; exact wrap_i (by omega) (by omega)
  have w0 : IntKind.i64.wrap (d : Int) = (d : Int) := wrap_i (by omega) (by omega)
  have w2 : IntKind.i64.wrap (1 + (d : Int)) = 1 + (d : Int) := wrap_i (by omega) (by omega)
  clear hs
  go_enter Try.func64, Try.ntmps64
  go_wp2_with fail
  go_ret
  exact ⟨⟨_, rfl, by omega, by omega⟩, rfl⟩
theorem mass_info : (Try.prog.info? 30).map (fun i => (i.zero, i.size, i.bytes)) = some (some (.agg #[.float .f64 0, .float .f64 0, .float .f64 0]), 3, 24) := by kernel_rfl
theorem FRow.put3 {w : World} {B n g cap q f : Nat} {L : List Nat} (h : FRow .f64 w B 30 3 (.slice (some ⟨g, 0, none⟩) n cap) n L) (hq : q < n) (hf : f < 3) : ∃ z, w.cell? ⟨g, q * 3 + f, none⟩ = some (.float .f64 z) := by
  have hl := h.len
  obtain ⟨z, hz⟩ := fat_of (f := f) hl hq hf
  exact ⟨z, h.cellAt hz⟩
theorem frow_new {fk : FloatKind} (w : World) (t B k n cap : Nat) (L : List Nat) (hb : B ≤ w.heap.size) (g : Nat) (hg : g = w.heap.size) (hl : L.length = n * k) (hc : n ≤ cap) (hm : cap ≤ maxLen) (hs : L.length = cap * k) : FRow fk (w.alloc (.cells (L.map (Value.float fk)).toArray t)) B t k (.slice (some ⟨g, 0, none⟩) n cap) n L := by
  subst hg
  refine ⟨by simpa using hl, .inr ⟨w.heap.size, cap, _, rfl, hb, fblk_new w t L, hc, hm, by simpa using hs, ?_⟩⟩
  simp only [List.toList_toArray]
  exact List.take_of_length_le (by simp; omega)
def lenOf : Value → Nat
  | .slice _ n _ => n
  | _ => 0

set_option maxHeartbeats 4000000 in
set_option maxRecDepth 10000 in
theorem masD {B g : Nat} {k : Int} {w : World} (h : So B g k w) (k0 : 0 ≤ k) (n1 : k ≤ 100000) :
    Calls Try.prog 37 #[.pointer (some ⟨g, 0, none⟩)] w fun e w' => (∃ v n R, e = .returned v ∧ n ≤ 40 ∧ FRow .f64 w' w.heap.size 30 3 v n R) ∧ So B g (k + 1000) w' ∧ Mv g w w' := by
  have HH := hide h
  have lg := h.lt
  obtain ⟨iI, hi1, hy0, hy1, hy2⟩ := info_parts mass_info
  have HI1 := hide hi1
  have HY0 := hide hy0
  have HY1 := hide hy1
  have HY2 := hide hy2
  clear h hi1 hy0 hy1 hy2
  go_enter Try.func37, Try.ntmps37
  go_wp2_with fail
  have HR0 := hide (frow_made (fk := .f64) w 30 w.heap.size 3 (Nat.le_refl _) w.heap.size rfl)
  have HS0 := hide ((unhide HH).alloc (.cells #[] 30))
  have HM0 := hide ((Mv.refl g w).alloc (.cells #[] 30))
  refine (sizD (unhide HS0)).mono ?_
  rintro e W0 ⟨⟨r, rfl, r0, r1⟩, hq⟩
  rw [hq]
  clear hq
  have wr1 : IntKind.i64.wrap (r + 1) = r + 1 := wrap_i (by omega) (by omega)
  go_wp2_with fail
  refine (next_any (r + 1) (unhide HS0) (by omega) (by omega) (by omega)).mono ?_
  rintro e W1 ⟨c, rfl, c0, c1, hso, hmv⟩
  have wr2 : IntKind.i64.wrap (1 + c) = 1 + c := wrap_i (by omega) (by omega)
  have HS1 := hide hso
  have HM1 := hide ((unhide HM0).trans hmv)
  have HR1 := hide ((unhide HR0).mv hmv lg)
  obtain ⟨m, hm⟩ : ∃ m : Nat, 1 + c = (m : Int) := ⟨(1 + c).toNat, by omega⟩
  have hm7 : m ≤ 7 := by omega
  have hm1 : 1 ≤ m := by omega
  have HHM := hide hm
  clear hso hmv hm wr1 HR0 HS0 HM0
  go_wp2_with fail
  go_loopw [3, 4] (fun s t W => ∃ (i n gr cr : Nat) (R : List Nat), s = .slice (some ⟨gr, 0, none⟩) n cr ∧ t = .int .i64 (i : Int) ∧ i + n = m ∧ FRow .f64 W w.heap.size 30 3 (.slice (some ⟨gr, 0, none⟩) n cr) n R ∧ So B g (k + 3 + 12 * n) W ∧ Mv g w W) (fun _ s _ => (intOf s).toNat)
  case atStart => exact ⟨m, 0, _, 0, [], rfl, by rw [← unhide HHM], by omega, unhide HR1, by simpa using unhide HS1, unhide HM1⟩
  case round =>
    obtain ⟨i, n, gr, cr, R, rfl, rfl, hin, hr, hso, hmv⟩ := hrel
    have HR := hide hr
    have HS := hide hso
    have HM := hide hmv
    have HIN := hide hin
    have i0 : (0 : Int) ≤ (i : Int) := Int.natCast_nonneg _
    have hn7 : n ≤ 7 := by omega
    by_cases h : 0 < i
    · have i1 : (0 : Int) < (i : Int) := by omega
      have iz : decide ((0 : Int) < (i : Int)) = true := decide_eq_true i1
      obtain ⟨j, hj⟩ : ∃ j, j + 1 = i := ⟨i - 1, by omega⟩
      have wj : IntKind.i64.wrap ((i : Int) - 1) = (j : Int) := by rw [show (i : Int) - 1 = (j : Int) by omega]; exact wrap_i (by omega) (by omega)
      have HJ := hide hj
      clear hr hso hmv HR1 HS1 HM1 hin hj
      go_wp2_with fail
      refine (numD 9 (unhide HS) (by omega) (by omega) (by omega)).mono ?_
      rintro e W2 ⟨⟨b0, rfl⟩, hso, hmv⟩
      have HS2 := hide hso
      have HM2 := hide ((unhide HM).trans hmv)
      have HR2 := hide ((unhide HR).mv hmv lg)
      clear hso hmv HS HM HR
      go_wp2_with fail
      refine (numD 2 (unhide HS2) (by omega) (by omega) (by omega)).mono ?_
      rintro e W3 ⟨⟨b1, rfl⟩, hso, hmv⟩
      have HS3 := hide hso
      have HM3 := hide ((unhide HM2).trans hmv)
      have HR3 := hide ((unhide HR2).mv hmv lg)
      clear hso hmv HS2 HM2 HR2
      go_wp2_with fail
      refine (numD 40 (unhide HS3) (by omega) (by omega) (by omega)).mono ?_
      rintro e W4 ⟨⟨b2, rfl⟩, hso, hmv⟩
      have HS4 := hide (hso.alloc (.cells #[.float .f64 b0, .float .f64 b1, .float .f64 b2] 30))
      have HM4 := hide (((unhide HM3).trans hmv).alloc (.cells #[.float .f64 b0, .float .f64 b1, .float .f64 b2] 30))
      have HR4 := hide (((unhide HR3).mv hmv lg).below (ba (Below.refl _ _) (.cells #[.float .f64 b0, .float .f64 b1, .float .f64 b2] 30)))
      have HR4w := hide ((unhide HR3).mv hmv lg)
      have lw4 : w.heap.size ≤ W4.heap.size := Nat.le_trans (unhide HM3).size hmv.size
      clear hso hmv HS3 HM3 HR3
      go_wp2_with fail
      refine (chD 3 (unhide HS4) (by omega) (by omega) (by omega)).mono ?_
      rintro e W5 ⟨⟨t, rfl⟩, hso, hmv⟩
      have v5 : vb W5 W4.heap.size 30 [.float .f64 b0, .float .f64 b1, .float .f64 b2] := (hmv.block _ (by simp) (by omega)).trans (vb_new W4 30 [.float .f64 b0, .float .f64 b1, .float .f64 b2] _ rfl)
      have HS5 := hide hso
      have HM5 := hide ((unhide HM4).trans hmv)
      have HR5 := hide ((unhide HR4).mv hmv lg)
      have d0 := v5.cell (m := 0) rfl
      have d1 := v5.cell (m := 1) rfl
      have d2 := v5.cell (m := 2) rfl
      have fz := v5.frozen
      have lv := v5.lt
      have s5 := (unhide HM5).size
      clear hso hmv HS4 HM4 HR4
      have hge := own_ge (unhide HR5) gr rfl
      have hne : gr ≠ W4.heap.size := by have := own_ge (unhide HR4w) gr rfl; omega
      clear HR4w
      cases t with
      | true =>
        have HV6 := (v5.set 1 (.float .f64 0))
        have HS6 := hide ((unhide HS5).set (T := W4.heap.size) (by have := (unhide HS5).above; omega) (by omega) 1 (.float .f64 0))
        have HM6 := hide ((unhide HM5).new (T := W4.heap.size) lw4 1 (.float .f64 0))
        have HR6 : Hid (FRow .f64 (W5.setCell ⟨W4.heap.size, 1, none⟩ (.float .f64 0)) w.heap.size 30 3 (.slice (some ⟨gr, 0, none⟩) n cr) n R) := hide ((unhide HR5).kept' fun g' hg' => by
          simp only [Value.ownBlock, Option.some.injEq] at hg'
          exact (But.setCell (But.refl _ _) _ _).block _ (by omega))
        have x0 := HV6.cell (m := 0) rfl
        have x1 := HV6.cell (m := 1) rfl
        have x2 := HV6.cell (m := 2) rfl
        clear HV6
        go_wp2_with (at_builtin; refine unhide ?_)
        refine hide ?_
        refine wpList_append_own _ rfl _ _ 23 rfl w.heap.size 30 iI _ 3 24 Try.underlying23 (unhide HI1) (unhide HY0) (unhide HY1) (unhide HY2) rfl (by decide) _ _ _ rfl (World.ownsRow.alloc (unhide HR6) _) _ 1 1 ([b0, 0, b2].map (Value.float .f64)) rfl rfl (by first | exact news_cells _ _ rfl | exact news_cells _ _ (by simp) | exact news_drew _ _ (by simp)) flts_one (by unfold maxLen; omega) (by omega) (by have := (unhide HM6).size; simp at this ⊢; omega) ?_
        intro v' w1 hown hgrow _
        obtain ⟨hrow, hbel⟩ := fown_more (fk := .f64) (wr := W5.setCell ⟨W4.heap.size, 1, none⟩ (.float .f64 0)) (ba (Below.refl _ _) _ |>.mono (unhide HM6).size) (by have := (unhide HM6).size; simp at this ⊢; omega) (unhide HR6) hown hgrow
        obtain ⟨g9, c9, hrr, _⟩ := hrow.full (by omega)
        subst hrr
        have HROW := hide hrow
        have HM9 := hide ((unhide HM6).belB hbel (Nat.le_refl _))
        have HS9 := hide (((unhide HS6).belB hbel lg).up (show k + 3 + 12 * (n : Int) + 3 + 3 + 3 + 3 ≤ k + 3 + 12 * ((n + 1 : Nat) : Int) by omega))
        clear hrow hbel hown hgrow
        go_wp2_with fail
        go_roundw
        case rel => exact ⟨j, n + 1, g9, c9, R ++ [b0, 0, b2], rfl, by simp, by have := unhide HIN; have := unhide HJ; omega, unhide HROW, unhide HS9, unhide HM9⟩
        case measure => have := unhide HJ; simp only [intOf]; omega
      | false =>
        go_wp2_with (at_builtin; refine unhide ?_)
        refine hide ?_
        refine wpList_append_own _ rfl _ _ 23 rfl w.heap.size 30 iI _ 3 24 Try.underlying23 (unhide HI1) (unhide HY0) (unhide HY1) (unhide HY2) rfl (by decide) _ _ _ rfl (World.ownsRow.alloc (unhide HR5) _) _ 1 1 ([b0, b1, b2].map (Value.float .f64)) rfl rfl (by first | exact news_cells _ _ rfl | exact news_cells _ _ (by simp) | exact news_drew _ _ (by simp)) flts_one (by unfold maxLen; omega) (by omega) (by have := (unhide HM5).size; simp at this ⊢; omega) ?_
        intro v' w1 hown hgrow _
        obtain ⟨hrow, hbel⟩ := fown_more (fk := .f64) (wr := W5) (ba (Below.refl _ _) _ |>.mono (unhide HM5).size) (by have := (unhide HM5).size; simp at this ⊢; omega) (unhide HR5) hown hgrow
        obtain ⟨g9, c9, hrr, _⟩ := hrow.full (by omega)
        subst hrr
        have HROW := hide hrow
        have HM9 := hide ((unhide HM5).belB hbel (Nat.le_refl _))
        have HS9 := hide (((unhide HS5).belB hbel lg).up (show k + 3 + 12 * (n : Int) + 3 + 3 + 3 + 3 ≤ k + 3 + 12 * ((n + 1 : Nat) : Int) by omega))
        clear hrow hbel hown hgrow
        go_wp2_with fail
        go_roundw
        case rel => exact ⟨j, n + 1, g9, c9, R ++ [b0, b1, b2], rfl, by simp, by have := unhide HIN; have := unhide HJ; omega, unhide HROW, unhide HS9, unhide HM9⟩
        case measure => have := unhide HJ; simp only [intOf]; omega
    · have i1 : ¬ (0 : Int) < (i : Int) := by omega
      have iz : decide ((0 : Int) < (i : Int)) = false := decide_eq_false i1
      have hnm : n = m := by omega
      have HNM := hide hnm
      have n1' : 1 ≤ n := by omega
      clear hr hso hmv HR1 HS1 HM1 hin hnm HIN
      go_wp2_with fail
      refine (next_any 30 (unhide HS) (by omega) (by omega) (by omega)).mono ?_
      rintro e W2 ⟨q, rfl, q0, q1, hso, hmv⟩
      have HS2 := hide hso
      have HM2 := hide ((unhide HM).trans hmv)
      have HR2 := hide ((unhide HR).mv hmv lg)
      clear hso hmv HS HM HR
      have hq : q = 0 ∨ q = 1 ∨ q = 2 ∨ q = 3 ∨ q = 4 ∨ q = 5 ∨ 6 ≤ q := by omega
      rcases hq with rfl | rfl | rfl | rfl | rfl | rfl | hq
      · have l1 : (1 : Int) ≤ (n : Int) := by omega
        go_wp2_with fail
        refine (next_any (n : Int) (unhide HS2) (by omega) (by omega) (by omega)).mono ?_
        rintro e W3 ⟨r, rfl, r0, r1, hso, hmv⟩
        have HS3 := hide hso
        have HM3 := hide ((unhide HM2).trans hmv)
        have HR3 := hide ((unhide HR2).mv hmv lg)
        clear hso hmv HS2 HM2 HR2
        go_wp2_with fail
        refine (oddD (unhide HS3) (by omega)).mono ?_
        rintro e W4 ⟨⟨b, rfl⟩, hso, hmv⟩
        have HS4 := hide hso
        have HM4 := hide ((unhide HM3).trans hmv)
        have HR4 := hide ((unhide HR3).mv hmv lg)
        obtain ⟨q, rfl⟩ : ∃ q : Nat, r = (q : Int) := ⟨r.toNat, by omega⟩
        have hq : q < n := by omega
        obtain ⟨z, c0⟩ := (unhide HR4).put3 hq (show 0 < 3 by omega)
        rw [Nat.add_zero] at c0
        have fz := (unhide HR4).frz
        have lgr := cell_lt c0
        clear hso hmv HS3 HM3 HR3
        go_wp2_with fail
        go_ret
        refine ⟨⟨_, n, R.set (q * 3) b, rfl, by omega, (unhide HR4).set (q * 3) (by omega) b⟩, ?_, (unhide HM4).new (unhide HR4).ge _ _⟩
        exact ((unhide HS4).set (by have := (unhide HS4).above; have := (unhide HR4).ge; omega) (by have := (unhide HR4).ge; omega) _ _).up (by omega)
      · have l1 : (1 : Int) ≤ (n : Int) := by omega
        go_wp2_with fail
        refine (next_any (n : Int) (unhide HS2) (by omega) (by omega) (by omega)).mono ?_
        rintro e W3 ⟨r, rfl, r0, r1, hso, hmv⟩
        have HS3 := hide hso
        have HM3 := hide ((unhide HM2).trans hmv)
        have HR3 := hide ((unhide HR2).mv hmv lg)
        clear hso hmv HS2 HM2 HR2
        go_wp2_with fail
        refine (oddD (unhide HS3) (by omega)).mono ?_
        rintro e W4 ⟨⟨b, rfl⟩, hso, hmv⟩
        have HS4 := hide hso
        have HM4 := hide ((unhide HM3).trans hmv)
        have HR4 := hide ((unhide HR3).mv hmv lg)
        obtain ⟨q, rfl⟩ : ∃ q : Nat, r = (q : Int) := ⟨r.toNat, by omega⟩
        have hq : q < n := by omega
        obtain ⟨z, c0⟩ := (unhide HR4).put3 hq (show 1 < 3 by omega)
        have fz := (unhide HR4).frz
        have lgr := cell_lt c0
        clear hso hmv HS3 HM3 HR3
        go_wp2_with fail
        go_ret
        refine ⟨⟨_, n, R.set (q * 3 + 1) b, rfl, by omega, (unhide HR4).set (q * 3 + 1) (by omega) b⟩, ?_, (unhide HM4).new (unhide HR4).ge _ _⟩
        exact ((unhide HS4).set (by have := (unhide HS4).above; have := (unhide HR4).ge; omega) (by have := (unhide HR4).ge; omega) _ _).up (by omega)
      · have l1 : (1 : Int) ≤ (n : Int) := by omega
        go_wp2_with fail
        refine (next_any (n : Int) (unhide HS2) (by omega) (by omega) (by omega)).mono ?_
        rintro e W3 ⟨r, rfl, r0, r1, hso, hmv⟩
        have HS3 := hide hso
        have HM3 := hide ((unhide HM2).trans hmv)
        have HR3 := hide ((unhide HR2).mv hmv lg)
        clear hso hmv HS2 HM2 HR2
        go_wp2_with fail
        refine (oddD (unhide HS3) (by omega)).mono ?_
        rintro e W4 ⟨⟨b, rfl⟩, hso, hmv⟩
        have HS4 := hide hso
        have HM4 := hide ((unhide HM3).trans hmv)
        have HR4 := hide ((unhide HR3).mv hmv lg)
        obtain ⟨q, rfl⟩ : ∃ q : Nat, r = (q : Int) := ⟨r.toNat, by omega⟩
        have hq : q < n := by omega
        obtain ⟨z, c0⟩ := (unhide HR4).put3 hq (show 2 < 3 by omega)
        have fz := (unhide HR4).frz
        have lgr := cell_lt c0
        clear hso hmv HS3 HM3 HR3
        go_wp2_with fail
        go_ret
        refine ⟨⟨_, n, R.set (q * 3 + 2) b, rfl, by omega, (unhide HR4).set (q * 3 + 2) (by omega) b⟩, ?_, (unhide HM4).new (unhide HR4).ge _ _⟩
        exact ((unhide HS4).set (by have := (unhide HS4).above; have := (unhide HR4).ge; omega) (by have := (unhide HR4).ge; omega) _ _).up (by omega)
      · go_wp2_with fail
        go_loopw [3] (fun s W => ∃ (n gr cr : Nat) (R : List Nat), s = .slice (some ⟨gr, 0, none⟩) n cr ∧ n ≤ 21 ∧ FRow .f64 W w.heap.size 30 3 (.slice (some ⟨gr, 0, none⟩) n cr) n R ∧ So B g (k + 200 + 3 * n) W ∧ Mv g w W) (fun s _ => 30 - lenOf s)
        case atStart => exact ⟨n, gr, cr, R, rfl, by omega, unhide HR2, (unhide HS2).up (by omega), unhide HM2⟩
        case round =>
          clear HR2 HS2 HM2 HNM
          obtain ⟨n, gr, cr, R, rfl, hn21, hr, hso, hmv⟩ := hrel
          have HR := hide hr
          have HS := hide hso
          have HM := hide hmv
          clear hr hso hmv
          go_wp2_with fail
          refine (next_any 3 (unhide HS) (by omega) (by omega) (by omega)).mono ?_
          rintro e W3 ⟨r, rfl, r0, r1, hso, hmv⟩
          have HS3 := hide hso
          have HM3 := hide ((unhide HM).trans hmv)
          have HR3 := hide ((unhide HR).mv hmv lg)
          have w9 : IntKind.i64.wrap (19 + r) = 19 + r := wrap_i (by omega) (by omega)
          clear hso hmv HS HM HR
          by_cases h9 : (n : Int) < 19 + r
          · have iz : decide ((n : Int) < 19 + r) = true := decide_eq_true h9
            go_wp2_with (at_builtin; refine unhide ?_)
            refine hide ?_
            refine wpList_append_own _ rfl _ _ 23 rfl w.heap.size 30 iI _ 3 24 Try.underlying23 (unhide HI1) (unhide HY0) (unhide HY1) (unhide HY2) rfl (by decide) _ _ _ rfl (World.ownsRow.alloc (unhide HR3) _) _ 1 1 ([4607182418800017408, 0, 4607182418800017408].map (Value.float .f64)) rfl rfl (by first | exact news_cells _ _ rfl | exact news_cells _ _ (by simp) | exact news_drew _ _ (by simp)) flts_one (by unfold maxLen; omega) (by omega) (by have := (unhide HM3).size; simp at this ⊢; omega) ?_
            intro v' w1 hown hgrow _
            obtain ⟨hrow, hbel⟩ := fown_more (fk := .f64) (wr := W3) (ba (Below.refl _ _) _ |>.mono (unhide HM3).size) (by have := (unhide HM3).size; simp at this ⊢; omega) (unhide HR3) hown hgrow
            obtain ⟨g9, c9, hrr, _⟩ := hrow.full (by omega)
            subst hrr
            have HROW := hide hrow
            have HM9 := hide ((unhide HM3).belB hbel (Nat.le_refl _))
            have HS9 := hide (((unhide HS3).belB hbel lg).up (show k + 200 + 3 * (n : Int) + 3 ≤ k + 200 + 3 * ((n + 1 : Nat) : Int) by omega))
            clear hrow hbel hown hgrow
            go_wp2_with fail
            go_roundw
            case rel => exact ⟨n + 1, g9, c9, R ++ [4607182418800017408, 0, 4607182418800017408], rfl, by omega, unhide HROW, unhide HS9, unhide HM9⟩
            case measure => simp only [lenOf]; omega
          · have iz : decide ((n : Int) < 19 + r) = false := decide_eq_false h9
            go_wp2_with fail
            go_ret
            exact ⟨⟨_, n, R, rfl, by omega, unhide HR3⟩, (unhide HS3).up (by omega), unhide HM3⟩
      · go_wp2_with fail
        go_ret
        exact ⟨⟨_, 1, [4611686018427387904, 0, 4620693217682128896], rfl, by omega, frow_new W2 30 w.heap.size 3 1 1 [4611686018427387904, 0, 4620693217682128896] (unhide HM2).size _ rfl rfl (Nat.le_refl _) (by decide) rfl⟩, ((unhide HS2).alloc _).up (by omega), (unhide HM2).alloc _⟩
      · go_wp2_with fail
        go_ret
        exact ⟨⟨_, 0, [], rfl, by omega, frow_made (fk := .f64) W2 30 w.heap.size 3 (unhide HM2).size _ rfl⟩, ((unhide HS2).alloc _).up (by omega), (unhide HM2).alloc _⟩
      · have f0 : decide (q = 0) = false := decide_eq_false (by omega)
        have f1 : decide (q = 1) = false := decide_eq_false (by omega)
        have f2 : decide (q = 2) = false := decide_eq_false (by omega)
        have f3 : decide (q = 3) = false := decide_eq_false (by omega)
        have f4 : decide (q = 4) = false := decide_eq_false (by omega)
        have f5 : decide (q = 5) = false := decide_eq_false (by omega)
        have g0 : ¬ q = 0 := by omega
        have g1 : ¬ q = 1 := by omega
        have g2 : ¬ q = 2 := by omega
        have g3 : ¬ q = 3 := by omega
        have g4 : ¬ q = 4 := by omega
        have g5 : ¬ q = 5 := by omega
        go_wp2_with fail
        go_ret
        exact ⟨⟨_, n, R, rfl, by omega, unhide HR2⟩, (unhide HS2).up (by omega), unhide HM2⟩
end Go.Proofs.Ytgocgcnpgmamiaa
