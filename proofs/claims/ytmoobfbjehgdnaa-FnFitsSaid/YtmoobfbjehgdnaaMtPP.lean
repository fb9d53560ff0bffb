/-
  The program's Matched, at all lists and bounds.
-/
import Derived.Test.YtmoobfbjehgdnaaMtP
namespace Go.Proofs.Ytmoobfbjehgdnaa
open Go.ChangeShapes Go.WideShapes Go.ChangeAt Go.RowKit
set_option linter.unusedVariables false
set_option linter.unusedSimpArgs false

theorem Row.pat {w : World} {B : Nat} {v : Value} {ps : List (Int × Int)} (h : Row w B 31 2 v ps.length (flat2 ps)) : PAt w B v ps := by
  obtain ⟨u, cap, hv, hf⟩ := h.form
  refine ⟨u, cap, hv, fun h0 => ?_⟩
  obtain ⟨g, rfl, _⟩ := hf (fun e => h0 (List.eq_nil_of_length_eq_zero e))
  exact ⟨g, rfl, by rw [← hv]; exact h⟩
set_option maxHeartbeats 1000000 in
theorem mtP_any (u v : Option Addr) (p po n cu q qo m cv : Nat) (H S : List Int) (lo hi : Int) (w : World) (hl : H.length = n) (hm : S.length = m) (hn : n ≤ 1048576) (hm2 : m ≤ 1048576) (hu : Its w u p po H) (hv : Its w v q qo S) :
    Calls Try.prog 7 #[.slice u n cu, .slice v m cv, .int .i64 lo, .int .i64 hi] w fun e w' => (∃ val, e = .returned (.tuple #[val, .int .i64 (mtC H S lo hi)]) ∧ PAt w' w.heap.size val (mtP H S lo hi)) ∧ Below w.heap.size w w' := by
  have HB0 := hide (ba (Below.refl w.heap.size w) (.cells #[.slice u n cu, .slice v m cv, .int .i64 lo, .int .i64 hi] 46))
  have HCD := hide (codeP_any u v p po n cu q qo m cv H S lo hi _ hl hm hn hm2 (hu.bel (unhide HB0)) (hv.bel (unhide HB0)))
  by_cases hC : mtC H S lo hi = 0
  · have HPR := hide (fun (W : World) (hW : Below w.heap.size w W) => paired_any u v p po n cu q qo m cv H S lo hi W hl hm (hu.bel hW) (hv.bel hW) hC)
    have e : mtP H S lo hi = (pgo H S lo hi (ordL H n) (ordL S m)).ps := by unfold mtP; rw [if_pos hC, hl, hm]
    rw [hC, e]
    rw [hC] at HCD
    clear hu hv hC e
    generalize pgo H S lo hi (ordL H n) (ordL S m) = s at *
    go_enter Try.func7, Try.ntmps7
    go_wp2_with fail
    refine (unhide HCD).mono ?_
    rintro e W1 ⟨rfl, hb1⟩
    have c0 := keep1 hb1 (b := w.heap.size) (o := 0) (v := .slice u n cu) (by simp [go_sem])
    have c1 := keep1 hb1 (b := w.heap.size) (o := 1) (v := .slice v m cv) (by simp [go_sem])
    have c2 := keep1 hb1 (b := w.heap.size) (o := 2) (v := .int .i64 lo) (by simp [go_sem])
    have c3 := keep1 hb1 (b := w.heap.size) (o := 3) (v := .int .i64 hi) (by simp [go_sem])
    have HB1 := hide (bc (unhide HB0) hb1)
    clear hb1
    go_wp2_with fail
    refine (unhide HPR _ (unhide HB1)).mono ?_
    rintro e W2 ⟨⟨vp, va, rfl, hpa⟩, hb2⟩
    have HPA := hide hpa
    have HB2 := hide (bc (unhide HB1) hb2)
    have hs1 := (unhide HB1).size
    clear hpa hb2
    go_wp2_with fail
    exact bodyPost_ret (v := .tuple #[vp, .int .i64 0]) (by simp [results, Try.results7, go_sem]) rfl ⟨⟨vp, rfl, ((unhide HPA).1.mono hs1).pat⟩, unhide HB2⟩
  · have e : mtP H S lo hi = [] := by unfold mtP; rw [if_neg hC]
    rw [e]
    have cz : (mtC H S lo hi != 0) = true := by rw [bne_iff_ne]; exact hC
    clear hu hv hC e
    generalize mtC H S lo hi = C at *
    go_enter Try.func7, Try.ntmps7
    go_wp2_with fail
    refine (unhide HCD).mono ?_
    rintro e W1 ⟨rfl, hb1⟩
    have HB1 := hide (bc (unhide HB0) hb1)
    clear hb1
    go_wp2_with fail
    exact bodyPost_ret (v := .tuple #[.slice none 0 0, .int .i64 C]) (by simp [results, Try.results7, go_sem]) rfl ⟨⟨_, rfl, pat_empty _ _ _ _⟩, unhide HB1⟩
end Go.Proofs.Ytmoobfbjehgdnaa
