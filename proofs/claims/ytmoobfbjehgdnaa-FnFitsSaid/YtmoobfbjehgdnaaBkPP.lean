/-
  The program's Blocked, at all lists and bounds.
-/
import Derived.Test.YtmoobfbjehgdnaaBkP
import Derived.Test.YtmoobfbjehgdnaaBkM
namespace Go.Proofs.Ytmoobfbjehgdnaa
open Go.ChangeShapes Go.WideShapes Go.ChangeAt Go.RowKit
set_option linter.unusedVariables false
set_option linter.unusedSimpArgs false

set_option maxHeartbeats 1000000 in
theorem bkP_any (u v : Option Addr) (p po n cu q qo m cv : Nat) (H S : List Int) (lo hi : Int) (w : World) (hl : H.length = n) (hm : S.length = m) (hn : n ≤ 1048576) (hm2 : m ≤ 1048576) (hu : Its w u p po H) (hv : Its w v q qo S) :
    Calls Try.prog 9 #[.slice u n cu, .slice v m cv, .int .i64 lo, .int .i64 hi] w fun e w' => (∃ va vs, e = .returned (.tuple #[va, vs, .int .i64 (mtC H S lo hi)]) ∧ Row w' w.heap.size 3 1 va (bkH H S lo hi).length (bkH H S lo hi) ∧ Row w' w.heap.size 3 1 vs (bkS H S lo hi).length (bkS H S lo hi) ∧ (∀ b, va.ownBlock = some b → vs.ownBlock ≠ some b)) ∧ Below w.heap.size w w' := by
  have HB0 := hide (ba (Below.refl w.heap.size w) (.cells #[.slice u n cu, .slice v m cv, .int .i64 lo, .int .i64 hi] 46))
  have HCD := hide (codeP_any u v p po n cu q qo m cv H S lo hi _ hl hm hn hm2 (hu.bel (unhide HB0)) (hv.bel (unhide HB0)))
  by_cases hC : mtC H S lo hi = 0
  · have HPR := hide (fun (W : World) (hW : Below w.heap.size w W) => reason_any u v p po n cu q qo m cv H S lo hi W hl hm (hu.bel hW) (hv.bel hW) hC)
    have e1 : bkH H S lo hi = those (TH H S lo hi) n := by unfold bkH; rw [if_pos hC, hl]
    have e2 : bkS H S lo hi = those (TS H S lo hi) m := by unfold bkS; rw [if_pos hC, hm]
    rw [hC, e1, e2]
    rw [hC] at HCD
    clear hu hv hC e1 e2
    generalize those (TH H S lo hi) n = X at *
    generalize those (TS H S lo hi) m = Z at *
    go_enter Try.func9, Try.ntmps9
    go_wp2_with fail
    refine (unhide HCD).mono ?_
    rintro e W1 ⟨rfl, hb1⟩
    have c0 := keep1 hb1 (b := w.heap.size) (o := 0) (v := .slice u n cu) (by simp [go_sem])
    have c1 := keep1 hb1 (b := w.heap.size) (o := 1) (v := .slice v m cv) (by simp [go_sem])
    have c2 := keep1 hb1 (b := w.heap.size) (o := 2) (v := .int .i64 lo) (by simp [go_sem])
    have c3 := keep1 hb1 (b := w.heap.size) (o := 3) (v := .int .i64 hi) (by simp [go_sem])
    have HB1 := hide (bc (unhide HB0) hb1)
    clear hb1
    go_wp2_with fail
    refine (unhide HPR _ (unhide HB1)).mono ?_
    rintro e W2 ⟨⟨va, vs, rfl, hra, hrs, hne⟩, hb2⟩
    have HRA := hide hra
    have HRS := hide hrs
    have HNE := hide hne
    have HB2 := hide (bc (unhide HB1) hb2)
    have hs1 := (unhide HB1).size
    clear hra hrs hb2 hne
    go_wp2_with fail
    exact bodyPost_ret (v := .tuple #[va, vs, .int .i64 0]) (by simp [results, Try.results9, go_sem]) rfl ⟨⟨va, vs, rfl, (unhide HRA).mono hs1, (unhide HRS).mono hs1, unhide HNE⟩, unhide HB2⟩
  · have e1 : bkH H S lo hi = [] := by unfold bkH; rw [if_neg hC]
    have e2 : bkS H S lo hi = [] := by unfold bkS; rw [if_neg hC]
    rw [e1, e2]
    have cz : (mtC H S lo hi != 0) = true := by rw [bne_iff_ne]; exact hC
    clear hu hv hC e1 e2
    generalize mtC H S lo hi = C at *
    go_enter Try.func9, Try.ntmps9
    go_wp2_with fail
    refine (unhide HCD).mono ?_
    rintro e W1 ⟨rfl, hb1⟩
    have HB1 := hide (bc (unhide HB0) hb1)
    clear hb1
    go_wp2_with fail
    exact bodyPost_ret (v := .tuple #[.slice none 0 0, .slice none 0 0, .int .i64 C]) (by simp [results, Try.results9, go_sem]) rfl ⟨⟨_, _, rfl, ⟨by simp, .inl ⟨rfl, rfl⟩⟩, ⟨by simp, .inl ⟨rfl, rfl⟩⟩, fun b hb => by simp [Value.ownBlock] at hb⟩, unhide HB1⟩
end Go.Proofs.Ytmoobfbjehgdnaa
