/-
  The model's chain of right links, its answers for ChainOf and ChainLikely.
-/
import Derived.Test.YtlanpmdekbjgeaaLinksM
namespace Go.Proofs.Ytlanpmdekbjgeaa
open Go.ChangeShapes Go.WideShapes Go.ChangeAt Go.RowKit
set_option linter.unusedVariables false
set_option linter.unusedSimpArgs false

theorem vblk_new' (W : World) (t : Nat) (L : List Value) (g : Nat) (hg : g = W.heap.size) : vblk (W.alloc (.cells L.toArray t)) g t L := by subst hg; exact vblk_new W t L

set_option maxHeartbeats 4000000 in
set_option maxRecDepth 100000 in
theorem chainM_any (u : Option Addr) (p po n cu : Nat) (ls : List Lk) (w : World) (hl : ls.length = n) (hr : Right ls) (hu : Lks w u p po ls) :
    Calls Try.prog 37 #[.slice u n cu] w fun e w' => e = .returned (.agg #[.int .i64 (sumBy lo ls), .int .i64 (sumBy hi ls), .int .i64 (sumBy lo ls + sumBy hi ls), .int .i64 (sumBy sq ls)]) ∧ Below w.heap.size w w' := by
  have HU := hide hu
  have HL := hide hl
  have HR := hide hr
  have n0 : (0 : Int) ≤ (n : Int) := Int.natCast_nonneg _
  have n40 : n ≤ 40 := by have := hr.2.1; omega
  clear hu hl hr
  go_enter Try.func37, Try.ntmps37
  go_wp2_with fail
  go_loopw [4] (fun s W => ∃ i : Nat, s = .int .i64 (i : Int) ∧ i ≤ n ∧ vblk W (w.heap.size + 1) 26 [.int .i64 (sumBy lo (ls.take i)), .int .i64 (sumBy hi (ls.take i)), .int .i64 0, .int .i64 (sumBy sq (ls.take i))] ∧ vblk W w.heap.size 26 [.int .i64 0, .int .i64 0, .int .i64 0, .int .i64 0] ∧ Below w.heap.size w W) (fun s _ => n - (intOf s).toNat)
  case atStart =>
    refine ⟨0, rfl, Nat.zero_le _, ?_, ?_, ?_⟩
    · rw [sumBy_zero, sumBy_zero, sumBy_zero]
      exact vblk_new' _ _ _ _ (by simp)
    · exact (vblk_new w 26 _).bel (ba (Below.refl _ _) _)
    · exact ba (ba (Below.refl _ _) _) _
  case round =>
    obtain ⟨i, rfl, hi', hc, hz, hw⟩ := hrel
    have HW := hide hw
    have HC := hide hc
    have HZ := hide hz
    have hsz := hw.size
    obtain ⟨s0, s1, s2, s3, s4, s5⟩ := sum_small (unhide HR) i (by rw [unhide HL]; exact hi')
    have c0 := hc.cell (m := 0) rfl
    have c1 := hc.cell (m := 1) rfl
    have c2 := hc.cell (m := 2) rfl
    have c3 := hc.cell (m := 3) rfl
    have fz : ∀ o, wr.frozen? ⟨w.heap.size + 1, o, none⟩ = false := hc.frozen
    have hlt := hc.lt
    have z0 := hz.cell (m := 0) rfl
    have z1 := hz.cell (m := 1) rfl
    have z2 := hz.cell (m := 2) rfl
    have z3 := hz.cell (m := 3) rfl
    have fz0 : ∀ o, wr.frozen? ⟨w.heap.size, o, none⟩ = false := hz.frozen
    by_cases h : i < n
    · have i1 : (i : Int) < (n : Int) := by omega
      have i0 : (0 : Int) ≤ (i : Int) := Int.natCast_nonneg _
      have iz : decide ((i : Int) < (n : Int)) = true := decide_eq_true i1
      obtain ⟨⟨s, a, b, c, d⟩, hx⟩ := get_some (unhide HL) h
      obtain ⟨rfl, pw, k0, k1, k2, k3, k4⟩ := ((unhide HU).bel (unhide HW)).at hx
      simp only at k0 k1 k2 k3 k4
      have HX := hide hx
      have hok := (unhide HR).2.2.1 _ (List.mem_of_getElem? hx)
      have hlo := hide (sumBy_succ (f := lo) hx)
      have hhi := hide (sumBy_succ (f := Go.Proofs.Ytlanpmdekbjgeaa.hi) hx)
      have hsq := hide (sumBy_succ (f := sq) hx)
      generalize hL : sumBy lo (ls.take i) = SL at *
      generalize hM : sumBy Go.Proofs.Ytlanpmdekbjgeaa.hi (ls.take i) = SM at *
      generalize hQ : sumBy sq (ls.take i) = SQ at *
      clear hL hM hQ hz hc hx hw pw
      obtain ⟨_, q1, q2, q3, q4, q5, q6, q7⟩ := hok
      simp only at q1 q2 q3 q4 q5 q6 q7
      obtain ⟨t0, t1⟩ := sqr_bound (a := c + d) (by omega) (by omega)
      have HQ1 := hide q1
      clear q1
      rcases unhide HQ1 with e1 | e1 <;> subst e1 <;>
      · go_wp2_with fail
        go_roundw
        case rel =>
          refine ⟨i + 1, by simp, h, ?_, ?_, ?_⟩
          · rw [unhide hlo, unhide hhi, unhide hsq]
            exact ((((unhide HC).set 0 _).set 1 _).set 3 _).bel (ba (Below.refl _ _) _)
          · refine (unhide HZ).below (B := w.heap.size + 1) ?_ (by omega)
            refine Below.alloc (Below.setCell (Below.setCell (Below.setCell (Below.refl _ _) ?_ _) ?_ _) ?_ _) ?_ _
            · exact Nat.le_refl _
            · exact Nat.le_refl _
            · exact Nat.le_refl _
            · simpa using Nat.le_of_lt hlt
          · exact Below.alloc (Below.setCell (Below.setCell (Below.setCell (unhide HW) (by simp) _) (by simp) _) (by simp) _) (by simpa using hsz) _
        case measure => simp only [intOf]; omega
    · have i1 : ¬ (i : Int) < (n : Int) := by omega
      have iz : decide ((i : Int) < (n : Int)) = false := decide_eq_false i1
      have et : ls.take i = ls := List.take_of_length_le (by rw [unhide HL]; omega)
      rw [et] at s0 s1 s2 s3 s4 s5 c0 c1 c3
      clear et hc hz hw
      go_wp2_with fail
      refine bodyPost_ret (v := .agg #[.int .i64 (sumBy lo ls), .int .i64 (sumBy Go.Proofs.Ytlanpmdekbjgeaa.hi ls), .int .i64 (sumBy lo ls + sumBy Go.Proofs.Ytlanpmdekbjgeaa.hi ls), .int .i64 (sumBy sq ls)]) (by simp [results, Try.results37, go_sem, *]) rfl ⟨rfl, ?_⟩
      repeat (first | exact unhide HW | refine Below.setCell ?_ (by simp) _)
end Go.Proofs.Ytlanpmdekbjgeaa
