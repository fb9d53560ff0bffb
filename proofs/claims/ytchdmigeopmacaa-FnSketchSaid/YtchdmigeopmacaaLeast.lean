/-
  The model's least coordinates of an axis.
-/
import Derived.Test.YtchdmigeopmacaaOwn
namespace Go.Proofs.Ytchdmigeopmacaa
open Go.ChangeShapes Go.WideShapes Go.ChangeAt Go.RowKit
set_option linter.unusedVariables false
set_option linter.unusedSimpArgs false

/-- no number is below 0 or above M -/
def Bd (M : Int) (a : List Int) : Prop := ∀ i, 0 ≤ gt a i ∧ gt a i ≤ M
theorem Bd.mono {M M' : Int} {a : List Int} (h : Bd M a) (hm : M ≤ M') : Bd M' a := fun i => ⟨(h i).1, Int.le_trans (h i).2 hm⟩
theorem bd_zer (n : Nat) : Bd 0 (zer n) := fun i => by rw [gt_zer]; omega
theorem step_bd {n : Nat} {M : Int} {s : List Int × Bool} {e : Edge} (hl : s.1.length = n) (he : e.2.1 < n) (h : Bd M s.1) (h2 : e.2.2 ≤ 100000) (hM : 0 ≤ M) : Bd (M + 100000) (step s e).1 := by
  intro i
  have hi := h i
  have hf := h e.1
  have ht := h e.2.1
  unfold step
  split
  · show 0 ≤ gt (s.1.set _ _) i ∧ gt (s.1.set _ _) i ≤ _
    rw [gt_set _ _ _ _ (by omega)]
    split <;> omega
  · omega
theorem gt_some {a : List Int} {i : Nat} (h : i < a.length) : a[i]? = some (gt a i) := by
  unfold gt
  rw [List.getD_eq_getElem?_getD, List.getElem?_eq_getElem h]
  rfl
theorem passF_take {es : List Edge} {i : Nat} {e : Edge} (s : List Int × Bool) (h : es[i]? = some e) : passF (es.take (i + 1)) s = step (passF (es.take i) s) e := by
  unfold passF
  rw [List.take_add_one, h]
  simp
theorem zer_zeros (n : Nat) : zer n = zeros n := rfl
theorem info3 : (Try.prog.info? 3).map (fun i => (i.zero, i.size, i.bytes)) = some (some (.int .i64 0), 1, 8) := by kernel_rfl
theorem go_succ {es : List Edge} {k : Nat} {a b : List Int} (h : pass es a = (b, true)) : go es (k + 1) a = go es k b := by
  rw [go, h]; rfl
theorem go_stop {es : List Edge} {k : Nat} {a b : List Int} (h : pass es a = (b, false)) : go es (k + 1) a = (b, true) := by
  rw [go, h]; rfl

set_option maxHeartbeats 4000000 in
set_option maxRecDepth 100000 in
theorem least_core (N : Nat) (axis : Int) (vk : Value) (u : Option Addr) (l c : Nat) (es : List Edge) (A : List Int) (B : Bool) (w : World) (h1 : 1 ≤ N) (h2 : N ≤ 24)
    (HST : Hid (∀ W, Below w.heap.size w W → Calls Try.prog 59 #[skv (N : Int) u l c, vk, .int .i64 axis] W fun e w' => ∃ v, e = .returned v ∧ Row w' (W.heap.size + 1) 91 3 v es.length (flat es) ∧ Below W.heap.size W w'))
    (HE0 : es.length ≠ 0) (HE : es.length ≤ 168) (HIN : Hid (∀ e ∈ es, e.1 < N + 1 ∧ e.2.1 < N + 1 ∧ -100000 ≤ e.2.2 ∧ e.2.2 ≤ 100000))
    (HGO : Hid (go es (N + 2) (zer (N + 1)) = (A, B))) :
    Calls Try.prog 52 #[skv (N : Int) u l c, vk, .int .i64 axis] w fun e w' => ∃ g, e = .returned (.tuple #[.slice (some ⟨g, 0, none⟩) (N + 1) (N + 1), .bool (B && decide (gt A N = 0))]) ∧ w.heap.size ≤ g ∧ iblk w' g 3 A ∧ Below w.heap.size w w' := by
  have hmk : ∀ W : World, (Instr.makeSlice 28 (.int .i64 ((N : Int) + 1)) (.int .i64 ((N : Int) + 1))).run Try.prog W = .ok (.slice (some ⟨W.heap.size, 0, none⟩) (N + 1) (N + 1)) (W.alloc (.cells ((zeros ((N + 1) * 1)).map (Value.int .i64)).toArray 3)) := by
    intro W
    rw [show ((N : Int) + 1) = ((N + 1 : Nat) : Int) by omega]
    exact make_ints (P := Try.prog) 28 3 1 8 (N + 1) Try.underlying28 (.int .i64 0) (by rfl) (by omega) info3 (by omega) (by omega) W
  rw [Nat.mul_one] at hmk
  generalize hE : es.length = E at HE0 HE
  have HEE := hide hE
  rw [hE] at HST
  clear hE
  generalize hzz : zeros (N + 1) = Z at hmk
  have HZ := hide hzz
  clear hzz
  go_enter Try.func52, Try.ntmps52
  go_wp2_with fail
  refine (unhide HST _ (ba (Below.refl _ _) _)).mono ?_
  rintro e W1 ⟨v, rfl, hrow, hb1⟩
  have z0 : W1.cell? ⟨w.heap.size, 0, none⟩ = some (.int .i64 (N : Int)) := keep1 hb1 (by simp [go_sem])
  obtain ⟨us, cs, rfl, hus⟩ := hrow.form
  obtain ⟨gs, rfl, hgs, hgs2, hia⟩ := hus HE0
  have HI1 := hide hia
  have HB1 := hide (bc (ba (Below.refl _ _) _) hb1)
  clear hrow hus hb1 hia
  go_wp2_with fail
  have hlt := cell_lt z0
  have HBZ := hide (ba (Below.refl W1.heap.size W1) (.cells (Z.map (Value.int .i64)).toArray 3))
  have HG := hide (iblk_new W1 3 Z)
  generalize hW2 : W1.alloc (.cells (Z.map (Value.int .i64)).toArray 3) = W2 at HBZ HG
  clear hmk
  go_loopw [10] (fun s W => ∃ (t cc : Nat) (a : List Int), s = .int .i64 (t : Int) ∧ t ≤ N + 2 ∧ go es (N + 2 - t) a = (A, B) ∧ a.length = N + 1 ∧ cc ≤ t * 168 ∧ Bd ((cc : Int) * 100000) a ∧ iblk W W1.heap.size 3 a ∧ But W1.heap.size W2 W) (fun s _ => N + 2 - (intOf s).toNat)
  case atStart =>
    refine ⟨0, 0, zer (N + 1), rfl, Nat.zero_le _, unhide HGO, zer_len _, by omega, by simpa using bd_zer (N + 1), ?_, ?_⟩
    · rw [zer_zeros, unhide HZ]; exact unhide HG
    · exact But.refl _ _
  case round =>
    obtain ⟨t, cc, a, rfl, ht, hgo, hal, hcc, hbd, hblk, hbut⟩ := hrel
    have HGT := hide hgo
    have HAL := hide hal
    have HBD := hide hbd
    have HBL := hide hblk
    have HBUT := hide hbut
    have y0 : wr.cell? ⟨w.heap.size, 0, none⟩ = some (.int .i64 (N : Int)) := cell_but hbut (by omega) (keep1 (unhide HBZ) z0)
    clear hgo hal hbd hblk hbut
    by_cases h : t < N + 2
    · have t1 : decide ((t : Int) ≤ (N : Int) + 1) = true := decide_eq_true (by omega)
      go_wp2_with fail
      go_loopw [11, 12] (fun f s W => ∃ (i : Nat) (ci : Nat) (a2 : List Int) (fl : Bool), s = .int .i64 (i : Int) ∧ f = .bool fl ∧ i ≤ E ∧ passF (es.take i) (a, false) = (a2, fl) ∧ a2.length = N + 1 ∧ ci ≤ t * 168 + i ∧ Bd ((ci : Int) * 100000) a2 ∧ iblk W W1.heap.size 3 a2 ∧ But W1.heap.size W2 W) (fun _ s _ => E - (intOf s).toNat)
      case atStart => exact ⟨0, cc, a, false, rfl, rfl, Nat.zero_le _, rfl, unhide HAL, by omega, unhide HBD, unhide HBL, unhide HBUT⟩
      case round =>
        obtain ⟨i, ci, a2, fl, rfl, rfl, hi, hp, hal, hci, hbd, hblk, hbut⟩ := hrel
        have HP := hide hp
        have HAL2 := hide hal
        have HBD2 := hide hbd
        have HBL2 := hide hblk
        have HBUT2 := hide hbut
        have y0 : wr.cell? ⟨w.heap.size, 0, none⟩ = some (.int .i64 (N : Int)) := cell_but hbut (by omega) (keep1 (unhide HBZ) z0)
        clear hp hal hbd hblk hbut
        by_cases hiE : i < E
        · have i1 : (i : Int) < (E : Int) := by omega
          have i0 : (0 : Int) ≤ (i : Int) := Int.natCast_nonneg _
          have iz : decide ((i : Int) < (E : Int)) = true := decide_eq_true i1
          obtain ⟨⟨ef, et, en⟩, he⟩ : ∃ e, es[i]? = some e := ⟨es[i]'(by rw [unhide HEE]; exact hiE), List.getElem?_eq_getElem _⟩
          obtain ⟨q1, q2, q3, q4⟩ := unhide HIN _ (List.mem_of_getElem? he)
          simp only at q1 q2 q3 q4
          obtain ⟨f0, f1, f2⟩ := flat_at he
          simp only at f0 f1 f2
          have k0 : wr.cell? ⟨gs, i * 3, none⟩ = some (.int .i64 (ef : Int)) := cell_but (unhide HBUT2) (by omega) (keep1 (unhide HBZ) (by have := (unhide HI1) _ _ f0; rwa [Nat.zero_add] at this))
          have k1 : wr.cell? ⟨gs, i * 3 + 1, none⟩ = some (.int .i64 (et : Int)) := cell_but (unhide HBUT2) (by omega) (keep1 (unhide HBZ) (by have := (unhide HI1) _ _ f1; rwa [Nat.zero_add] at this))
          have k2 : wr.cell? ⟨gs, i * 3 + 2, none⟩ = some (.int .i64 en) := cell_but (unhide HBUT2) (by omega) (keep1 (unhide HBZ) (by have := (unhide HI1) _ _ f2; rwa [Nat.zero_add] at this))
          have m1 : wr.cell? ⟨W1.heap.size, ef, none⟩ = some (.int .i64 (gt a2 ef)) := (unhide HBL2).cell (gt_some (by rw [unhide HAL2]; exact q1))
          have m2 : wr.cell? ⟨W1.heap.size, et, none⟩ = some (.int .i64 (gt a2 et)) := (unhide HBL2).cell (gt_some (by rw [unhide HAL2]; exact q2))
          have fz := (unhide HBL2).frozen
          have b1 := (unhide HBD2) ef
          have b2 := (unhide HBD2) et
          have HST2 := hide (passF_take (a, false) he)
          have HSB := hide (step_bd (s := (a2, fl)) (e := (ef, et, en)) (unhide HAL2) q2 (unhide HBD2) q4 (by omega))
          have HSL := hide (step_len (a2, fl) (ef, et, en))
          rw [unhide HP] at HST2
          have r1 : (ef : Int) < (N : Int) + 1 := by omega
          have r2 : (0 : Int) ≤ (ef : Int) := Int.natCast_nonneg _
          have r3 : (et : Int) < (N : Int) + 1 := by omega
          have r4 : (0 : Int) ≤ (et : Int) := Int.natCast_nonneg _
          have HB12 := hide (And.intro b1 b2)
          have wsum : IntKind.i64.wrap (gt a2 ef + en) = gt a2 ef + en := wrap_i (by omega) (by omega)
          clear f0 f1 f2 he
          by_cases hlt2 : gt a2 et < gt a2 ef + en
          · have g1 : decide (gt a2 et < gt a2 ef + en) = true := decide_eq_true hlt2
            have HS : Hid (step (a2, fl) (ef, et, en) = (a2.set et (gt a2 ef + en), true)) := hide (if_pos hlt2)
            generalize gt a2 ef = X at *
            generalize gt a2 et = Y at *
            clear hlt2
            go_wp2_with fail
            go_region
            all_goals
              go_wp2_with fail
              go_roundw
              case rel =>
                rw [unhide HS] at HSB HSL HST2
                refine ⟨i + 1, ci + 1, a2.set et (X + en), true, by simp, rfl, hiE, unhide HST2, (unhide HSL).trans (unhide HAL2), by omega, ?_, ?_, ?_⟩
                · exact (unhide HSB).mono (by omega)
                · exact (unhide HBL2).set et (X + en)
                · first | exact (unhide HBUT2).setCell et _ | exact ((unhide HBUT2).setCell et _).drew
              case measure => simp only [intOf]; omega
          · have g1 : decide (gt a2 et < gt a2 ef + en) = false := decide_eq_false hlt2
            have HS : Hid (step (a2, fl) (ef, et, en) = (a2, fl)) := hide (if_neg hlt2)
            generalize gt a2 ef = X at *
            generalize gt a2 et = Y at *
            clear hlt2
            go_wp2_with fail
            go_region
            all_goals
              go_wp2_with fail
              go_roundw
              case rel =>
                rw [unhide HS] at HSB HSL HST2
                refine ⟨i + 1, ci + 1, a2, fl, by simp, rfl, hiE, unhide HST2, unhide HAL2, by omega, ?_, ?_, ?_⟩
                · exact (unhide HSB).mono (by omega)
                · exact unhide HBL2
                · first | exact unhide HBUT2 | exact (unhide HBUT2).drew
              case measure => simp only [intOf]; omega
        · have i1 : ¬ (i : Int) < (E : Int) := by omega
          have iz : decide ((i : Int) < (E : Int)) = false := decide_eq_false i1
          have HPP : Hid (pass es a = (a2, fl)) := hide (by
            have := unhide HP
            rw [List.take_of_length_le (by rw [unhide HEE]; omega)] at this
            exact this)
          have HG2 : Hid (go es (N + 2 - (t + 1) + 1) a = (A, B)) := hide (by
            have := unhide HGT
            rwa [show N + 2 - t = N + 2 - (t + 1) + 1 by omega] at this)
          cases fl with
          | true =>
            have HG3 := hide ((go_succ (unhide HPP)).symm.trans (unhide HG2))
            go_wp2_with fail
            go_roundw
            case rel => exact ⟨t + 1, ci, a2, by simp, by omega, unhide HG3, unhide HAL2, by omega, unhide HBD2, unhide HBL2, unhide HBUT2⟩
            case measure => simp only [intOf]; omega
          | false =>
            have HG3 := hide ((go_stop (unhide HPP)).symm.trans (unhide HG2))
            have m1 : wr.cell? ⟨W1.heap.size, N, none⟩ = some (.int .i64 (gt a2 N)) := (unhide HBL2).cell (gt_some (by rw [unhide HAL2]; omega))
            have r1 : (N : Int) < (N : Int) + 1 := by omega
            generalize hX : gt a2 N = X at m1
            have HX := hide hX
            clear hX
            go_wp2_with fail
            go_region
            all_goals
              go_wp2_with fail
              have hg := unhide HG3
              cases hg
              refine bodyPost_ret (v := .tuple #[.slice (some ⟨W1.heap.size, 0, none⟩) (N + 1) (N + 1), (.bool (X == 0))]) (by simp [results, Try.results52, go_sem]) rfl ⟨W1.heap.size, ?_, (unhide HB1).size, unhide HBL2, ?_⟩
              · rw [unhide HX, show (true && decide (X = 0)) = (X == 0) by by_cases hx : X = 0 <;> simp [hx]]
              · first
                | exact (bc (unhide HB1) (unhide HBZ)).trans ((unhide HBUT2).bel (unhide HB1).size)
                | exact ((bc (unhide HB1) (unhide HBZ)).trans ((unhide HBUT2).bel (unhide HB1).size)).drew
    · have t1 : decide ((t : Int) ≤ (N : Int) + 1) = false := decide_eq_false (by omega)
      have en : t = N + 2 := by omega
      subst en
      have hg := unhide HGT
      rw [Nat.sub_self] at hg
      cases hg
      go_wp2_with fail
      refine bodyPost_ret (v := .tuple #[.slice (some ⟨W1.heap.size, 0, none⟩) (N + 1) (N + 1), .bool false]) (by simp [results, Try.results52, go_sem]) rfl ⟨W1.heap.size, rfl, (unhide HB1).size, unhide HBL, ?_⟩
      exact (bc (unhide HB1) (unhide HBZ)).trans ((unhide HBUT).bel (unhide HB1).size)
end Go.Proofs.Ytchdmigeopmacaa
