/-
  What the model's SketchOf answers: a right sketch, whatever the code.
-/
import Derived.Test.YtchdmigeopmacaaOsk
import Derived.Test.YtchdmigeopmacaaMoveM
namespace Go.Proofs.Ytchdmigeopmacaa
open Go.ChangeShapes Go.WideShapes Go.ChangeAt Go.RowKit
set_option linter.unusedVariables false
set_option linter.unusedSimpArgs false

/-- a right sketch that a call has made -/
def SkAt (w : World) (v : Value) (n : Int) (rs : List Ru) : Prop := skOk n rs = true ∧ ∃ u c p, v = skv n u rs.length c ∧ rs.length ≤ c ∧ c ≤ maxLen ∧ (rs.length ≠ 0 → u = some ⟨p, 0, none⟩ ∧ p < w.heap.size ∧ RusAt w p 0 rs)

theorem Row.cap {w : World} {B t k n m cap : Nat} {u : Option Addr} {L : List Int} (h : Row w B t k (.slice u m cap) n L) : m ≤ cap ∧ cap ≤ maxLen := by
  rcases h.2 with ⟨h1, h2⟩ | ⟨g, cap', cur, hv, hB, hh, hn, hm, _⟩
  · cases h1
    exact ⟨Nat.le_refl _, Nat.zero_le _⟩
  · cases hv
    exact ⟨hn, hm⟩
theorem RusAt.kept {w w' : World} {b off : Nat} {rs : List Ru} (h : RusAt w b off rs) (hb : w'.heap[b]? = w.heap[b]?) : RusAt w' b off rs := by
  have hc : ∀ o, w'.cell? ⟨b, o, none⟩ = w.cell? ⟨b, o, none⟩ := fun o => World.cell?_of_block (w := w) (a := ⟨b, o, none⟩) hb
  exact fun j p hj => ⟨(hc _).trans (h j p hj).1, (hc _).trans (h j p hj).2.1, (hc _).trans (h j p hj).2.2.1, (hc _).trans (h j p hj).2.2.2⟩

set_option maxHeartbeats 2000000 in
set_option maxRecDepth 100000 in
theorem sketchOf_core (a : Option Addr) (len cap : Nat) (zs : List Int) (w : World) (hc : Code w.heap.size w a len cap zs) (hl : len ≤ 9223372036854775807)
    (HOD : Hid (∀ (B g : Nat) (k : Int) (W : World), So B g k W → k ≤ 90000000 → Calls Try.prog 19 #[.pointer (some ⟨g, 0, none⟩)] W fun e w' => ∃ (n : Int) (v : Value) (l : Nat) (L : List Int), e = .returned (.agg #[.int .i64 n, v]) ∧ Row w' W.heap.size 35 4 v l L ∧ l ≤ 100 ∧ So B g (k + 20000) w' ∧ Mv g W w')) :
    Calls Try.prog 6 #[.slice a len cap] w fun e w' => ∃ (v : Value) (n : Int) (rs : List Ru), e = .returned v ∧ SkAt w' v n rs ∧ Below w.heap.size w w' := by
  have hb0 : Below w.heap.size w (w.alloc (.cells #[.int .i64 0, .slice none 0 0] 25)) := ba (Below.refl _ _) _
  have HC : Hid (Code (w.heap.size + 1) (w.alloc (.cells #[.int .i64 0, .slice none 0 0] 25)) a len cap zs) := hide (by
    rcases hc with h | ⟨b, off, rfl, h1, h0, h2, h3, h4, h5, h6⟩
    · exact .inl h
    · exact .inr ⟨b, off, rfl, by omega, by simp; omega, h2, h3, h4, fun i hi => ka (h5 i hi), h6⟩)
  clear hc hb0
  go_enter Try.func6, Try.ntmps6
  go_wp2_with fail
  refine (source_any a len cap zs _ (by simpa using unhide HC) hl).mono ?_
  rintro e W1 ⟨rfl, hb, hs⟩
  simp only [World.size_alloc] at hs
  have HS : Hid (So (w.heap.size + 1) (w.heap.size + 1) 0 W1) := hide (by simpa using hs)
  have HR : Hid (sblk W1 w.heap.size 0 (.slice none 0 0)) := hide ((sblk_new w 0 _).kept (hb.block _ (by simp)))
  have HB : Hid (Below w.heap.size w W1) := hide (bc (ba (Below.refl _ _) _) hb)
  have hsz := (unhide HS).lt
  clear hb hs HC
  go_wp2_with fail
  go_loopw [4] (fun s W => ∃ i : Nat, s = .int .i64 (i : Int) ∧ i ≤ 3 ∧ So (w.heap.size + 1) (w.heap.size + 1) (20000 * (i : Int)) W ∧ sblk W w.heap.size 0 (.slice none 0 0) ∧ Below w.heap.size w W) (fun s _ => 3 - (intOf s).toNat)
  case atStart => exact ⟨0, rfl, by omega, unhide HS, unhide HR, unhide HB⟩
  case round =>
    obtain ⟨i, rfl, hi3, hso, hrb, hbb⟩ := hrel
    have HSO := hide hso
    have HRB := hide hrb
    have HBB := hide hbb
    have lw := hrb.lt
    have lg := hso.lt
    have q0 := hrb.c0
    have q1 := hrb.c1
    have p0 := hrb.frz 0
    have p1 := hrb.frz 1
    clear hso hrb hbb
    by_cases h : i < 3
    · have i1 : (i : Int) < 3 := by omega
      have iz : decide ((i : Int) < 3) = true := decide_eq_true i1
      clear q0 q1 p0 p1
      go_wp2_with fail
      refine (unhide HOD _ _ _ _ (unhide HSO) (by omega)).mono ?_
      rintro e W2 ⟨n, v, l, L, rfl, hrow, hl2, hso2, mv⟩
      have hsz2 := mv.size
      obtain ⟨u, c, rfl, hf⟩ := hrow.form
      have hlen := hrow.len
      have hcap := hrow.cap
      have hRU : ∃ p, (l ≠ 0 → u = some ⟨p, 0, none⟩ ∧ p < W2.heap.size ∧ RusAt W2 p 0 (toRus L l)) ∧ (l ≠ 0 → w.heap.size < p) := by
        by_cases h0 : l = 0
        · exact ⟨0, fun hh => absurd h0 hh, fun hh => absurd h0 hh⟩
        · obtain ⟨p, h1, h2, h3, h4⟩ := hf h0
          exact ⟨p, fun _ => ⟨h1, h3, rusAt_ints h4 hlen⟩, fun _ => by omega⟩
      obtain ⟨p, hp, hpw⟩ := hRU
      have HPW := hide hpw
      clear hpw
      have hrl : (toRus L l).length = l := toRus_len L l
      have HSO2 := hide hso2
      have HRB2 := hide ((unhide HRB).kept (mv.block _ lw (by omega)))
      have HBB2 := hide (Mv.bel (unhide HBB) mv (by omega) (by omega))
      have HP : Hid (l ≠ 0 → u = some ⟨p, 0, none⟩ ∧ p < (W2.alloc (.cells #[.int .i64 n, .slice u l c] 25)).heap.size ∧ RusAt (W2.alloc (.cells #[.int .i64 n, .slice u l c] 25)) p 0 (toRus L l)) := hide (fun h0 => ⟨(hp h0).1, by have := (hp h0).2.1; simp; omega, (hp h0).2.2.bel (ba (Below.refl _ _) _) (hp h0).2.1⟩)
      have HRL := hide hrl
      clear hso2 hrow hf hp hlen hrl mv
      generalize toRus L l = rs at *
      go_wp2_with fail
      refine (okM_any n u p 0 l c rs _ HRL (by omega) HP).mono ?_
      rintro e W3 ⟨rfl, hb3⟩
      have T0 : W3.cell? ⟨W2.heap.size, 0, none⟩ = some (.int .i64 n) := keep1 hb3 (by simp [go_sem])
      have T1 : W3.cell? ⟨W2.heap.size, 1, none⟩ = some (.slice u l c) := keep1 hb3 (by simp [go_sem])
      have HSO3 := hide (((unhide HSO2).alloc _).bel hb3)
      have HRB3 := hide (((unhide HRB2).kept (Below.heap_alloc _ _ _ (unhide HRB2).lt)).kept (hb3.block _ (by have := (unhide HRB2).lt; simp; omega)))
      have HBB3 := hide (bc (ba (unhide HBB2) _) hb3)
      have HP3 : Hid (l ≠ 0 → u = some ⟨p, 0, none⟩ ∧ p < W3.heap.size ∧ RusAt W3 p 0 rs) := hide (fun h0 => ⟨(unhide HP h0).1, Nat.lt_of_lt_of_le (unhide HP h0).2.1 hb3.size, (unhide HP h0).2.2.bel hb3 (unhide HP h0).2.1⟩)
      have s0 := (unhide HRB3).c0
      have s1 := (unhide HRB3).c1
      have sf0 := (unhide HRB3).frz 0
      have sf1 := (unhide HRB3).frz 1
      have lw3 := (unhide HRB3).lt
      have lt3 := cell_lt T0
      have ne1 : w.heap.size ≠ W2.heap.size := by omega
      have ne2 : W2.heap.size ≠ w.heap.size := by omega
      clear hb3 HP HSO2 HRB2 HBB2
      cases hok : skOk n rs with
      | true =>
        go_wp2_with fail
        have HFIN : Below w.heap.size w ((W3.setCell ⟨w.heap.size, 0, none⟩ (.int .i64 n)).setCell ⟨w.heap.size, 1, none⟩ (.slice u l c)) := Below.setCell (Below.setCell (unhide HBB3) (Nat.le_refl _) _) (Nat.le_refl _) _
        have HSK : SkAt ((W3.setCell ⟨w.heap.size, 0, none⟩ (.int .i64 n)).setCell ⟨w.heap.size, 1, none⟩ (.slice u l c)) (.agg #[.int .i64 n, .slice u l c]) n rs := by
          refine ⟨hok, u, c, p, by rw [unhide HRL], by rw [unhide HRL]; exact hcap.1, hcap.2, fun h0 => ?_⟩
          rw [unhide HRL] at h0
          have h1 := unhide HP3 h0
          have h2 := unhide HPW h0
          exact ⟨h1.1, by simpa using h1.2.1, (h1.2.2.kept (Below.heap_setCell _ _ _ _ (show p ≠ w.heap.size by omega))).kept (Below.heap_setCell _ _ _ _ (show p ≠ w.heap.size by omega))⟩
        exact bodyPost_ret (v := .agg #[.int .i64 n, .slice u l c]) (by simp [results, Try.results6, go_sem, s0, s1, lw3, ne1, ne2]) rfl ⟨_, n, rs, rfl, HSK, HFIN⟩
      | false =>
        go_wp2_with fail
        go_roundw
        case rel => exact ⟨i + 1, by simp, by omega, (unhide HSO3).up (by simp; omega), unhide HRB3, unhide HBB3⟩
        case measure => simp only [intOf]; omega
    · have i1 : ¬ (i : Int) < 3 := by omega
      have iz : decide ((i : Int) < 3) = false := decide_eq_false i1
      go_wp2_with fail
      have HFIN : Below w.heap.size w (((wr.setCell ⟨w.heap.size, 0, none⟩ (.int .i64 2)).setCell ⟨w.heap.size, 1, none⟩ (.slice (some ⟨wr.heap.size, 0, none⟩) 1 1)).alloc (.cells #[.int .i64 3, .int .i64 0, .int .i64 1, .int .i64 5] 35)) := ba (Below.setCell (Below.setCell (unhide HBB) (Nat.le_refl _) _) (Nat.le_refl _) _) _
      have hR : RusAt (((wr.setCell ⟨w.heap.size, 0, none⟩ (.int .i64 2)).setCell ⟨w.heap.size, 1, none⟩ (.slice (some ⟨wr.heap.size, 0, none⟩) 1 1)).alloc (.cells #[.int .i64 3, .int .i64 0, .int .i64 1, .int .i64 5] 35)) wr.heap.size 0 [(3, 0, 1, 5)] := by
        intro j r hj
        have : j = 0 := by
          rcases Nat.eq_zero_or_pos j with h0 | h0
          · exact h0
          · rw [List.getElem?_eq_none (by simp; omega)] at hj
            cases hj
        subst this
        cases hj
        exact ⟨by simp [go_sem], by simp [go_sem], by simp [go_sem], by simp [go_sem]⟩
      have HSK : SkAt (((wr.setCell ⟨w.heap.size, 0, none⟩ (.int .i64 2)).setCell ⟨w.heap.size, 1, none⟩ (.slice (some ⟨wr.heap.size, 0, none⟩) 1 1)).alloc (.cells #[.int .i64 3, .int .i64 0, .int .i64 1, .int .i64 5] 35)) (.agg #[.int .i64 2, .slice (some ⟨wr.heap.size, 0, none⟩) 1 1]) 2 [(3, 0, 1, 5)] :=
        ⟨by decide, some ⟨wr.heap.size, 0, none⟩, 1, wr.heap.size, rfl, Nat.le_refl _, by unfold maxLen; decide, fun _ => ⟨rfl, by simp, hR⟩⟩
      first
      | exact bodyPost_ret (v := .agg #[.int .i64 2, .slice (some ⟨wr.heap.size, 0, none⟩) 1 1]) (by simp [results, Try.results6, go_sem, q0, q1, lw]) rfl ⟨_, rfl, ⟨2, _, HSK⟩, HFIN⟩
      | exact bodyPost_ret (v := .agg #[.int .i64 2, .slice (some ⟨wr.heap.size, 0, none⟩) 1 1]) (by simp [results, Try.results6, go_sem, q0, q1, lw]) rfl ⟨_, 2, _, rfl, HSK, HFIN⟩
end Go.Proofs.Ytchdmigeopmacaa
