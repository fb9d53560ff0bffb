/-
  The model's hull.
-/
import Derived.Test.YtdcecfgmfmpeeaaHsb
namespace Go.Proofs.Ytdcecfgmfmpeeaa
open Go.ChangeShapes Go.WideShapes Go.ChangeAt Go.RowKit
set_option linter.unusedVariables false
set_option linter.unusedSimpArgs false

theorem rev_at {U : List Pt} {j : Nat} {p : Pt} (hj : j < U.length) (h : U[U.length - 1 - j]? = some p) : U.reverse[j]? = some p := by
  rw [List.getElem?_reverse hj]
  exact h
theorem srtU_ne {L : List Pt} (h : L ≠ []) : srtU L ≠ [] := by
  intro e
  cases L with
  | nil => exact h rfl
  | cons a L =>
    have := ((srtU_facts (a :: L)).2 a).2 List.mem_cons_self
    rw [e] at this
    cases this
theorem insU_len (L : List Pt) (p : Pt) : (insU L p).length ≤ L.length + 1 := by
  induction L with
  | nil => simp [insU]
  | cons a L ih =>
    unfold insU
    split
    · simp; omega
    · split
      · simp
      · simp
theorem foldl_len (L : List Pt) : ∀ A : List Pt, (L.foldl insU A).length ≤ A.length + L.length := by
  induction L with
  | nil => intro A; simp
  | cons p L ih =>
    intro A
    have h1 := ih (insU A p)
    have h2 := insU_len A p
    rw [List.foldl_cons, List.length_cons]
    omega
theorem srtU_len (L : List Pt) : (srtU L).length ≤ L.length := by have := foldl_len L []; simpa [srtU] using this

set_option maxHeartbeats 4000000 in
set_option maxRecDepth 100000 in
theorem hullM_any (b cap : Nat) (L : List Pt) (w : World) (hn : L.length ≤ 4096) (hne : L ≠ []) (hb : b < w.heap.size) (hok : ∀ p ∈ L, ptOk p = true) (hI : IntsAt w b 0 (flat2 L)) :
    Calls Try.prog 28 #[.slice (some ⟨b, 0, none⟩) L.length cap] w fun e w' => ∃ v, e = .returned v ∧ Row w' w.heap.size 30 2 v (hullM (srtU L)).length (flat2 (hullM (srtU L))) ∧ Below w.heap.size w w' := by
  obtain ⟨iP, hi1, hy0, hy1, hy2⟩ := info_parts info26
  have HSO := hide (sortM_any b cap L w hn hb hI)
  have HUO : Hid (∀ p ∈ srtU L, ptOk p = true) := hide (fun p hp => hok p (((srtU_facts L).2 p).1 hp))
  have HUN := hide (srtU_ne hne)
  have hlen := srtU_len L
  clear hok hI hne
  generalize hU : srtU L = U at *
  clear hU
  go_enter Try.func28, Try.ntmps28
  go_wp2_with fail
  refine (unhide HSO).mono ?_
  rintro e W1 ⟨g, c, rfl, hrow, hb1⟩
  have HR1 := hide hrow
  have HB1 := hide hb1
  obtain ⟨_, _, hvg, hg1, hg2, hc1, hc2⟩ := hrow.sm (by simp)
  cases hvg
  have hsz1 := hb1.size
  clear hrow hb1 HSO
  by_cases h3 : U.length < 3
  · have d3 : decide ((U.length : Int) < 3) = true := decide_eq_true (by omega)
    go_wp2_with fail
    go_ret
    exact ⟨_, rfl, by unfold hullM; rw [if_pos h3]; exact unhide HR1, unhide HB1⟩
  · have d3 : decide ((U.length : Int) < 3) = false := decide_eq_false (by omega)
    have w1 : IntKind.i64.wrap ((U.length : Int) - 1) = (U.length : Int) - 1 := wrap_i (by omega) (by omega)
    have HI1 := hide (unhide HR1).ints
    go_wp2_with fail
    go_loopw [4, 5] (fun v s W => ∃ j : Nat, s = .int .i64 ((U.length : Int) - 1 - (j : Int)) ∧ j ≤ U.length ∧ Row W W1.heap.size 30 2 v j (flat2 (U.reverse.take j)) ∧ Below W1.heap.size W1 W) (fun _ s _ => ((intOf s) + 1).toNat)
    case atStart => exact ⟨0, by simp, by omega, row_made _ 30 _ 2 (by simp) _ (by simp), ba (Below.refl _ _) _⟩
    case round =>
      obtain ⟨j, rfl, hj, hrow, hw⟩ := hrel
      have HRW := hide hrow
      have HW := hide hw
      have hszw := hw.size
      obtain ⟨u, cu, rfl, _⟩ := hrow.form
      clear hrow hw
      by_cases h : j < U.length
      · obtain ⟨M, hM⟩ : ∃ M : Nat, M = U.length - 1 - j := ⟨_, rfl⟩
        have eM : (U.length : Int) - 1 - (j : Int) = (M : Int) := by omega
        rw [eM]
        have dz : decide ((0 : Int) ≤ (M : Int)) = true := decide_eq_true (by omega)
        have i1 : (M : Int) < (U.length : Int) := by omega
        have i0 : (0 : Int) ≤ (M : Int) := by omega
        obtain ⟨p1, p2, hp⟩ : ∃ p1 p2 : Int, U[M]? = some (p1, p2) := ⟨_, _, List.getElem?_eq_getElem (show M < U.length by omega)⟩
        have hIw := (unhide HI1).below (unhide HW) hg2
        have c0 := hIw _ _ (flat2_at hp).1
        have c1 := hIw _ _ (flat2_at hp).2
        rw [Nat.zero_add] at c0 c1
        have lc := cell_lt c0
        have HRV := hide (rev_at (U := U) (p := (p1, p2)) h (by rw [← hM]; exact hp))
        have wm : IntKind.i64.wrap ((M : Int) - 1) = (M : Int) - 1 := wrap_i (by omega) (by omega)
        have EM := hide hM
        have EI := hide eM
        clear hIw hp hM eM
        go_wp2_with (at_builtin; refine unhide ?_)
        refine hide ?_
        refine wpList_append_own _ rfl _ _ 23 rfl W1.heap.size 30 iP _ 2 16 Try.underlying23 hi1 hy0 hy1 hy2 rfl (by decide) _ _ _ rfl ((unhide HRW).alloc _) _ 1 1 ([p1, p2].map (Value.int .i64)) rfl rfl (by first | exact news_cells _ _ rfl | exact news_cells _ _ (by simp) | exact news_drew _ _ (by simp)) ints_one (by unfold maxLen; omega) (by omega) (by simp; omega) ?_
        intro v' wz hown' hgrow _
        have R := hide (own_more (wr := wr) (news := [p1, p2]) (by repeat (first | exact Below.refl _ _ | refine Below.alloc ?_ (by first | omega | (simp; omega)) _ | refine Below.drew ?_)) (by simp; omega) (unhide HRW) hown' hgrow)
        clear hown' hgrow
        go_wp2_with fail
        go_roundw
        case rel =>
          have H : ∃ j' : Nat, Value.int .i64 ((M : Int) - 1) = .int .i64 ((U.length : Int) - 1 - (j' : Int)) ∧ j' ≤ U.length ∧ Row wz W1.heap.size 30 2 v' j' (flat2 (U.reverse.take j')) ∧ Below W1.heap.size W1 wz := by
            refine ⟨j + 1, by have := unhide EI; congr 1; omega, by omega, ?_, (unhide HW).trans (unhide R).2⟩
            rw [List.take_add_one, unhide HRV, flat2_app]
            exact (unhide R).1
          first | exact H | ((repeat apply Exists.intro); refine ⟨?_, rfl⟩; exact H)
        case measure => have := unhide EI; simp only [intOf]; omega
      · have en : j = U.length := by omega
        subst en
        have dz : decide ((0 : Int) ≤ (U.length : Int) - 1 - (U.length : Int)) = false := decide_eq_false (by omega)
        have HRV : Hid (Row wr W1.heap.size 30 2 (.slice u U.length cu) U.reverse.length (flat2 U.reverse)) := hide (by have := unhide HRW; rw [List.take_of_length_le (by simp)] at this; rw [List.length_reverse]; exact this)
        obtain ⟨gd, cd, hvd, hgd1, hgd2, hid, hcd, hcd2⟩ := (unhide HRV).full (by rw [List.length_reverse]; omega)
        rw [List.length_reverse] at hvd
        cases hvd
        have HH1 := hide (fun W (hW : Below wr.heap.size wr W) => halfM_any g c U W (by omega) (unhide HUN) (by have := hW.size; omega) (unhide HUO) (((unhide HI1).below (unhide HW) hg2).below hW (by omega)))
        have HH2 := hide (fun W (hW : Below wr.heap.size wr W) => (by have := halfM_any gd cu U.reverse W (by rw [List.length_reverse]; omega) (by rw [Ne, List.reverse_eq_nil_iff]; exact unhide HUN) (by have := hW.size; omega) (fun p hp => unhide HUO p (List.mem_reverse.1 hp)) (hid.below hW hgd2); rw [List.length_reverse] at this; exact this : Calls Try.prog 59 #[.slice (some ⟨gd, 0, none⟩) U.length cu] W fun e w' => ∃ v, e = .returned v ∧ Row w' W.heap.size 30 2 v (half U.reverse).dropLast.length (flat2 (half U.reverse).dropLast) ∧ Below W.heap.size W w'))
        have HLE1 : Hid ((half U).length ≤ U.length) := hide (by have := halfR_le U; unfold half; rw [List.length_reverse]; exact this)
        have HLE2 : Hid ((half U.reverse).length ≤ U.length) := hide (by have := halfR_le U.reverse; unfold half; rw [List.length_reverse]; rw [List.length_reverse] at this; exact this)
        have HP2 : Hid (2 ≤ (half U.reverse).length) := hide (by
          cases hr : U.reverse with
          | nil => rw [List.reverse_eq_nil_iff] at hr; exact absurd hr (unhide HUN)
          | cons z R =>
            refine (half_facts (a := z) (L := R) (fun e => ?_)).2.2.1
            have := congrArg List.length hr
            rw [List.length_reverse, e] at this
            simp at this
            omega)
        clear hid HRW
        go_wp2_with fail
        refine (unhide HH1 _ (Below.refl _ _)).mono ?_
        rintro e W3 ⟨v3, rfl, hr3, hb3⟩
        have HR3 := hide hr3
        have HB3 := hide hb3
        clear hr3 hb3
        go_wp2_with fail
        refine (unhide HH2 _ (unhide HB3)).mono ?_
        rintro e W4 ⟨v4, rfl, hr4, hb4⟩
        have hs3 := (unhide HB3).size
        have hs4 := hb4.size
        have HR3' : Hid (Row W4 w.heap.size 30 2 v3 (half U).dropLast.length (flat2 (half U).dropLast)) := hide (((unhide HR3).below hb4).mono (by omega))
        have l1 := unhide HLE1
        have l2 := unhide HLE2
        have l3 := unhide HP2
        have e1 : (half U).dropLast.length = (half U).length - 1 := List.length_dropLast
        have e2 : (half U.reverse).dropLast.length = (half U.reverse).length - 1 := List.length_dropLast
        obtain ⟨g4, c4, rfl, hg41, hg42, hi4, hc4, hc42⟩ := hr4.full (by omega)
        have HI4 := hide hi4
        have HL4 := hide hr4.len
        have HBW : Hid (Below w.heap.size w W4) := hide (bc (bc (bc (unhide HB1) (unhide HW)) (unhide HB3)) hb4)
        have bn1 : (half U).dropLast.length ≤ 4096 := by omega
        have bn2 : (half U.reverse).dropLast.length ≤ 4096 := by omega
        obtain ⟨u3, c3, rfl, _⟩ := (unhide HR3').form
        have HHM : Hid (hullM U = (half U).dropLast ++ (half U.reverse).dropLast) := hide (by unfold hullM; rw [if_neg h3])
        clear hr4 hi4 hb4 l1 l2 l3 e1 e2
        generalize hX : (half U).dropLast = X at *
        generalize hY : (half U.reverse).dropLast = Y at *
        clear hX hY
        go_wp2_with (at_builtin; refine unhide ?_)
        refine hide ?_
        refine wpList_append_own _ rfl _ _ 23 rfl w.heap.size 30 iP _ 2 16 Try.underlying23 hi1 hy0 hy1 hy2 rfl (by decide) _ _ _ rfl (unhide HR3') ⟨g4, 0, none⟩ Y.length c4 ((flat2 Y).map (Value.int .i64)) rfl (by rw [List.length_map, flat2_len]) (src_cells (unhide HI4) _ 0 (fun j x h => by rw [Nat.zero_add]; exact h)) ints_one (by unfold maxLen; omega) (by omega) (by omega) ?_
        intro v' wz hown' hgrow _
        have R := hide (own_more (wr := W4) (news := flat2 Y) (Below.refl _ _) (by omega) (unhide HR3') hown' hgrow)
        clear hown' hgrow
        go_wp2_with fail
        go_ret
        exact ⟨_, rfl, by rw [unhide HHM, List.length_append, flat2_app]; exact (unhide R).1, (unhide HBW).trans (unhide R).2⟩
end Go.Proofs.Ytdcecfgmfmpeeaa
