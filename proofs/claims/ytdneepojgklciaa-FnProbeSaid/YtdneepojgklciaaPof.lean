/-
  The drawn points: four at least, all right, whatever the code.
-/
import Derived.Test.YtdneepojgklciaaPta
namespace Go.Proofs.Ytdneepojgklciaa
open Go.ChangeShapes Go.WideShapes Go.ChangeAt Go.RowKit
set_option linter.unusedVariables false
set_option linter.unusedSimpArgs false

theorem info26 : (Try.prog.info? 26).map (fun i => (i.zero, i.size, i.bytes)) = some (some (.agg #[.int .i64 0, .int .i64 0]), 2, 16) := by kernel_rfl
/-- points one behind another -/
def flat2 (L : List Pt) : List Int := L.flatMap fun p => [p.1, p.2]
theorem flat2_len (L : List Pt) : (flat2 L).length = L.length * 2 := by
  induction L with
  | nil => rfl
  | cons e L ih => show (flat2 L).length + 2 = (L.length + 1) * 2; omega
theorem flat2_app (a b : List Pt) : flat2 (a ++ b) = flat2 a ++ flat2 b := by simp [flat2]
theorem flat2_at {L : List Pt} {i : Nat} {p : Pt} (h : L[i]? = some p) : (flat2 L)[i * 2]? = some p.1 ∧ (flat2 L)[i * 2 + 1]? = some p.2 := by
  induction L generalizing i with
  | nil => cases h
  | cons x L ih =>
    cases i with
    | zero =>
      simp only [List.getElem?_cons_zero, Option.some.injEq] at h
      subst h
      exact ⟨rfl, rfl⟩
    | succ i =>
      rw [List.getElem?_cons_succ] at h
      have := ih h
      rw [show (i + 1) * 2 = i * 2 + 1 + 1 by omega]
      exact this
theorem Mv.bel' {g : Nat} {w W w' : World} (h : Below w.heap.size w W) (m : Mv g W w') (hg : w.heap.size ≤ g) : Below w.heap.size w w' :=
  ⟨m.os.trans h.os, m.tape.trans h.tape, m.output.trans h.output, Nat.le_trans h.size m.size, fun k hk => (m.block k (Nat.lt_of_lt_of_le hk h.size) (by omega)).trans (h.block k hk)⟩

set_option maxHeartbeats 2000000 in
set_option maxRecDepth 100000 in
theorem pointsOf_any (a : Option Addr) (len cap : Nat) (zs : List Int) (w : World) (hc : Code w.heap.size w a len cap zs) (hl : len ≤ 9223372036854775807) :
    Calls Try.prog 6 #[.slice a len cap] w fun e w' => ∃ (g c : Nat) (L : List Pt), e = .returned (.slice (some ⟨g, 0, none⟩) L.length c) ∧ 4 ≤ L.length ∧ L.length ≤ 100 ∧ (∀ p ∈ L, ptOk p = true) ∧ g < w'.heap.size ∧ IntsAt w' g 0 (flat2 L) ∧ Below w.heap.size w w' := by
  obtain ⟨iP, hi1, hy0, hy1, hy2⟩ := info_parts info26
  have HSO := hide (source_any a len cap zs w hc hl)
  clear hc
  go_enter Try.func6, Try.ntmps6
  go_wp2_with fail
  refine (unhide HSO).mono ?_
  rintro e W1 ⟨rfl, hb1, hs1⟩
  have H1 := hide hs1
  have HB1 := hide hb1
  have lt1' := hs1.lt
  clear hs1 hb1 HSO
  go_wp2_with fail
  refine (size_any 12 ((unhide H1).alloc _) (by omega) (by omega)).mono ?_
  rintro e W2 ⟨r, rfl, r1, r2, rfl⟩
  have wr1 : IntKind.i64.wrap (r + 1) = r + 1 := wrap_i (by omega) (by omega)
  go_wp2_with fail
  refine (next_any (k := 0) (r + 1) ((unhide H1).alloc _) (by omega) (by omega) (by omega)).mono ?_
  rintro e W3 ⟨m, rfl, m0, m1, hs3, mv3⟩
  have HS3 := hide hs3
  have HB3 : Hid (Below w.heap.size w W3) := hide (Mv.bel' (ba (unhide HB1) _) mv3 (Nat.le_refl _))
  have HR3 : Hid (Row W3 (w.heap.size + 1) 26 2 (.slice (some ⟨W1.heap.size, 0, none⟩) 0 0) 0 []) := hide ((row_made W1 26 (w.heap.size + 1) 2 (by omega) _ rfl).mv mv3 (by omega))
  have wr2 : IntKind.i64.wrap (4 + m) = 4 + m := wrap_i (by omega) (by omega)
  obtain ⟨M, rfl⟩ := Int.eq_ofNat_of_zero_le m0
  clear hs3 mv3 H1 HB1
  go_wp2_with fail
  go_loopw [4, 5] (fun v s W => ∃ (i : Nat) (L : List Pt), s = .int .i64 (i : Int) ∧ i + L.length = 4 + M ∧ (∀ p ∈ L, ptOk p = true) ∧ Row W (w.heap.size + 1) 26 2 v L.length (flat2 L) ∧ So w.heap.size w.heap.size (3 + 9 * (L.length : Int)) W ∧ Below w.heap.size w W) (fun _ s _ => (intOf s).toNat)
  case atStart => exact ⟨4 + M, [], by simp, by simp, (fun p hp => by cases hp), unhide HR3, by simpa using unhide HS3, unhide HB3⟩
  case round =>
    obtain ⟨i, L, rfl, hiL, hok, hrow, hso, hbb⟩ := hrel
    have HOK := hide hok
    have HRW := hide hrow
    have HSO := hide hso
    have HBB := hide hbb
    have hszb := hbb.size
    have hltg := hso.lt
    clear hok hrow hso hbb HR3 HS3 HB3
    by_cases h : 0 < i
    · have iz : decide ((0 : Int) < (i : Int)) = true := decide_eq_true (by omega)
      obtain ⟨u, c, rfl, _⟩ := (unhide HRW).form
      go_wp2_with fail
      refine (point_any (unhide HSO) (by omega)).mono ?_
      rintro e W4 ⟨X, Y, rfl, hXY, hs4, mv4⟩
      have HS4 := hide hs4
      have HB4 : Hid (Below w.heap.size w W4) := hide (Mv.bel' (unhide HBB) mv4 (Nat.le_refl _))
      have HR4 := hide ((unhide HRW).mv mv4 (by omega))
      have hsz4 := mv4.size
      clear hs4 mv4
      go_wp2_with (at_builtin; refine unhide ?_)
      refine hide ?_
      refine wpList_append_own _ rfl _ _ 23 rfl (w.heap.size + 1) 26 iP _ 2 16 Try.underlying23 hi1 hy0 hy1 hy2 rfl (by decide) _ _ _ rfl ((unhide HR4).alloc _) _ 1 1 ([X, Y].map (Value.int .i64)) rfl rfl (by first | exact news_cells _ _ rfl | exact news_cells _ _ (by simp) | exact news_drew _ _ (by simp)) ints_one (by unfold maxLen; omega) (by omega) (by simp; omega) ?_
      intro v' wz hown' hgrow _
      have R := hide (own_more (wr := W4) (news := [X, Y]) (by repeat (first | exact Below.refl _ _ | refine Below.alloc ?_ (by first | omega | (simp; omega)) _ | refine Below.drew ?_)) (by simp; omega) (unhide HR4) hown' hgrow)
      have wi : IntKind.i64.wrap ((i : Int) - 1) = (i : Int) - 1 := wrap_i (by omega) (by omega)
      have HSF := hide ((unhide HS4).belB (unhide R).2 (by omega))
      clear hown' hgrow
      go_wp2_with fail
      go_roundw
      case rel =>
        have H : ∃ (i' : Nat) (L' : List Pt), Value.int .i64 ((i : Int) - 1) = .int .i64 (i' : Int) ∧ i' + L'.length = 4 + M ∧ (∀ p ∈ L', ptOk p = true) ∧ Row wz (w.heap.size + 1) 26 2 v' L'.length (flat2 L') ∧ So w.heap.size w.heap.size (3 + 9 * (L'.length : Int)) wz ∧ Below w.heap.size w wz := by
          refine ⟨i - 1, L ++ [(X, Y)], by congr 1; omega, by simp; omega, fun p hp => ?_, ?_, ?_, ?_⟩
          · rcases List.mem_append.1 hp with hp | hp
            · exact unhide HOK p hp
            · rw [List.mem_singleton] at hp
              subst hp
              exact hXY
          · rw [List.length_append, flat2_app]
            exact (unhide R).1
          · refine (unhide HSF).up ?_
            simp
            omega
          · exact (unhide HB4).trans ((unhide R).2.mono (by omega))
        first | exact H | ((repeat apply Exists.intro); refine ⟨?_, rfl⟩; exact H)
      case measure => simp only [intOf]; omega
    · have iz : decide ((0 : Int) < (i : Int)) = false := decide_eq_false (by omega)
      have hL : L.length = 4 + M := by omega
      obtain ⟨g, c, rfl, hg1, hg2, hg3, _, _⟩ := (unhide HRW).full (by omega)
      have HG3 := hide hg3
      clear hg3
      go_wp2_with fail
      go_ret
      exact ⟨g, c, L, rfl, by omega, by omega, unhide HOK, hg2, unhide HG3, unhide HBB⟩
end Go.Proofs.Ytdneepojgklciaa
