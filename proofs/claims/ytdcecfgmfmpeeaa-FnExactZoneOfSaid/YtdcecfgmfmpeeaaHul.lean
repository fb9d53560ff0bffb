/-
  Hull of the model and of the program at every list of points, right or not.
-/
import Derived.Test.YtdcecfgmfmpeeaaHpa
namespace Go.Proofs.Ytdcecfgmfmpeeaa
open Go.ChangeShapes Go.WideShapes Go.ChangeAt Go.RowKit
set_option linter.unusedVariables false
set_option linter.unusedSimpArgs false

theorem ptsAt_flat {w : World} {g : Nat} {L : List Pt} (h : IntsAt w g 0 (flat2 L)) : PtsAt w g 0 L := by
  intro j p hj
  exact ⟨h _ _ (flat2_at hj).1, h _ _ (flat2_at hj).2⟩
set_option maxHeartbeats 2000000 in
set_option maxRecDepth 100000 in
theorem hullI_any (b cap : Nat) (L : List Pt) (w : World) (hn : L.length ≤ 4611686018427387904) (hb : b < w.heap.size) (hI : IntsAt w b 0 (flat2 L)) :
    Calls Try.prog 9 #[.slice (some ⟨b, 0, none⟩) L.length cap] w fun e w' => ∃ v, e = .returned (.tuple #[v, .int .i64 (hullC L)]) ∧ Row w' w.heap.size 30 2 v (hullL L).length (flat2 (hullL L)) ∧ Below w.heap.size w w' := by
  have HP := hide (ptsP_any b 0 cap L w hn hb (ptsAt_flat hI))
  have HI := hide hI
  unfold hullC hullL
  clear hI
  by_cases h1 : 4096 < L.length
  · rw [if_pos h1, if_pos h1]
    have d0 : decide ((4096 : Int) < (L.length : Int)) = true := decide_eq_true (by omega)
    go_enter Try.func9, Try.ntmps9
    go_wp2_with fail
    exact bodyPost_ret (v := .tuple #[.slice none 0 0, .int .i64 2]) (by simp [results, Try.results9, go_sem]) rfl ⟨_, rfl, World.ownsRow_nil _ _ _ _, Below.refl _ _⟩
  · rw [if_neg h1, if_neg h1]
    have d0 : decide ((4096 : Int) < (L.length : Int)) = false := decide_eq_false (by omega)
    by_cases h2 : 1 ≤ L.length ∧ L.length ≤ 200
    · have d1 : decide ((1 : Int) ≤ (L.length : Int)) = true := decide_eq_true (by omega)
      have d2 : decide ((L.length : Int) ≤ 200) = true := decide_eq_true (by omega)
      cases ho : L.all ptOk with
      | false =>
        rw [if_neg (by simp), if_neg (by simp)]
        rw [ho] at HP
        go_enter Try.func9, Try.ntmps9
        go_wp2_with fail
        refine (btw_any _ _ _ _).mono ?_
        rintro e w' ⟨rfl, hww⟩
        have hww' := hww.symm
        clear hww
        subst hww'
        rw [d1, d2]
        go_wp2_with fail
        refine (unhide HP).mono ?_
        rintro e W1 ⟨rfl, hb1⟩
        have HB1 := hide hb1
        clear hb1
        go_wp2_with fail
        exact bodyPost_ret (v := .tuple #[.slice none 0 0, .int .i64 1]) (by simp [results, Try.results9, go_sem]) rfl ⟨_, rfl, World.ownsRow_nil _ _ _ _, unhide HB1⟩
      | true =>
        rw [if_pos ⟨h2.1, h2.2, rfl⟩, if_pos ⟨h2.1, h2.2, rfl⟩]
        rw [ho] at HP
        exact hullP_good b cap L w h2.1 h2.2 ho hb (unhide HI) HP
    · rw [if_neg (fun h => h2 ⟨h.1, h.2.1⟩), if_neg (fun h => h2 ⟨h.1, h.2.1⟩)]
      have d3 : (decide ((1 : Int) ≤ (L.length : Int)) && decide ((L.length : Int) ≤ 200)) = false := by
        rw [Bool.and_eq_false_iff]
        by_cases h3 : 1 ≤ L.length
        · exact .inr (decide_eq_false (by omega))
        · exact .inl (decide_eq_false (by omega))
      go_enter Try.func9, Try.ntmps9
      go_wp2_with fail
      refine (btw_any _ _ _ _).mono ?_
      rintro e w' ⟨rfl, hww⟩
      have hww' := hww.symm
      clear hww
      subst hww'
      rw [d3]
      go_wp2_with fail
      exact bodyPost_ret (v := .tuple #[.slice none 0 0, .int .i64 1]) (by simp [results, Try.results9, go_sem]) rfl ⟨_, rfl, World.ownsRow_nil _ _ _ _, Below.refl _ _⟩
end Go.Proofs.Ytdcecfgmfmpeeaa
