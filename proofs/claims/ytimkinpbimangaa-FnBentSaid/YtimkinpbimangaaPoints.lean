/-
  Right points, one and many, of both sides.
-/
import Derived.Test.YtimkinpbimangaaLeaves2
namespace Go.Proofs.Ytimkinpbimangaa
open Go.ChangeShapes Go.WideShapes Go.ChangeAt Go.RowKit
set_option linter.unusedVariables false
set_option linter.unusedSimpArgs false

/-- the points lie in the cells from off on -/
def PtsAt (w : World) (b off : Nat) (L : List Pt) : Prop :=
  ∀ j (p : Pt), L[j]? = some p → w.cell? ⟨b, off + j * 2, none⟩ = some (.int .i64 p.1) ∧ w.cell? ⟨b, off + j * 2 + 1, none⟩ = some (.int .i64 p.2)
theorem PtsAt.below {w w' : World} {b off : Nat} {L : List Pt} (h : PtsAt w b off L) (hb : Below w.heap.size w w') : PtsAt w' b off L :=
  fun j p hj => ⟨keep1 hb (h j p hj).1, keep1 hb (h j p hj).2⟩
theorem PtsAt.bel {B : Nat} {w w' : World} {b off : Nat} {L : List Pt} (h : PtsAt w b off L) (hb : Below B w w') (hB : b < B) : PtsAt w' b off L :=
  fun j p hj => ⟨(hb.cell (p := ⟨b, _, none⟩) hB).trans (h j p hj).1, (hb.cell (p := ⟨b, _, none⟩) hB).trans (h j p hj).2⟩

theorem okM_ints (a1 a2 : Int) (w : World) :
    Calls Try.prog 72 #[.agg #[.int .i64 a1, .int .i64 a2]] w fun e w' => e = .returned (.bool (ptOk (a1, a2))) ∧ Below w.heap.size w w' := by
  by_cases h1 : -100000 ≤ a1
  · by_cases h2 : a1 ≤ 100000
    · by_cases h3 : -100000 ≤ a2
      · have b1 : decide (-100000 ≤ a1) = true := decide_eq_true h1
        have b2 : decide (a1 ≤ 100000) = true := decide_eq_true h2
        have b3 : decide (-100000 ≤ a2) = true := decide_eq_true h3
        have e : ptOk (a1, a2) = decide (a2 ≤ 100000) := by simp [ptOk, h1, h2, h3]
        rw [e]
        clear e h1 h2 h3
        go_enter Try.func72, Try.ntmps72
        go_wp2
        go_ret
        exact ⟨rfl, ba (Below.refl _ _) _⟩
      · have b1 : decide (-100000 ≤ a1) = true := decide_eq_true h1
        have b2 : decide (a1 ≤ 100000) = true := decide_eq_true h2
        have b3 : decide (-100000 ≤ a2) = false := decide_eq_false h3
        have e : ptOk (a1, a2) = false := by simp [ptOk, h1, h2, h3]
        rw [e]
        clear e h1 h2 h3
        go_enter Try.func72, Try.ntmps72
        go_wp2
        go_ret
        exact ⟨rfl, ba (Below.refl _ _) _⟩
    · have b1 : decide (-100000 ≤ a1) = true := decide_eq_true h1
      have b2 : decide (a1 ≤ 100000) = false := decide_eq_false h2
      have e : ptOk (a1, a2) = false := by simp [ptOk, h1, h2]
      rw [e]
      clear e h1 h2
      go_enter Try.func72, Try.ntmps72
      go_wp2
      go_ret
      exact ⟨rfl, ba (Below.refl _ _) _⟩
  · have b1 : decide (-100000 ≤ a1) = false := decide_eq_false h1
    have e : ptOk (a1, a2) = false := by simp [ptOk, h1]
    rw [e]
    clear e h1
    go_enter Try.func72, Try.ntmps72
    go_wp2
    go_ret
    exact ⟨rfl, ba (Below.refl _ _) _⟩
theorem btw_any (x l h : Int) (w : World) : Calls Try.prog 43 #[.int .i64 x, .int .i64 l, .int .i64 h] w fun e w' => e = .returned (.bool (decide (l ≤ x) && decide (x ≤ h))) ∧ w' = w := by
  by_cases h1 : l ≤ x
  · have b1 : decide (l ≤ x) = true := decide_eq_true h1
    go_enter Try.func43, Try.ntmps43
    go_wp2
    go_ret
    exact ⟨ret_bool (by simp [h1]), rfl⟩
  · have b1 : decide (l ≤ x) = false := decide_eq_false h1
    go_enter Try.func43, Try.ntmps43
    go_wp2
    go_ret
    exact ⟨ret_bool (by simp [h1]), rfl⟩
theorem okP_ints (a1 a2 : Int) (w : World) :
    Calls Try.prog 83 #[.agg #[.int .i64 a1, .int .i64 a2]] w fun e w' => e = .returned (.bool (ptOk (a1, a2))) ∧ w' = w.alloc (.cells #[.int .i64 a1, .int .i64 a2] 32) := by
  have e : ptOk (a1, a2) = ((decide (-100000 ≤ a1) && decide (a1 ≤ 100000)) && (decide (-100000 ≤ a2) && decide (a2 ≤ 100000))) := by
    simp only [ptOk, ← Bool.decide_and]; congr 1; simp only [eq_iff_iff]; omega
  rw [e]
  by_cases hx : (decide (-100000 ≤ a1) && decide (a1 ≤ 100000)) = true
  · go_enter Try.func83, Try.ntmps83
    go_wp2_with fail
    refine (btw_any _ _ _ _).mono ?_
    rintro e w' ⟨rfl, rfl⟩
    rw [hx]
    go_wp2_with fail
    refine (btw_any _ _ _ _).mono ?_
    rintro e w' ⟨rfl, rfl⟩
    go_wp2_with fail
    go_ret
    exact ⟨ret_bool (by rw [hx]; simp), rfl⟩
  · have hx' : (decide (-100000 ≤ a1) && decide (a1 ≤ 100000)) = false := by simpa using hx
    go_enter Try.func83, Try.ntmps83
    go_wp2_with fail
    refine (btw_any _ _ _ _).mono ?_
    rintro e w' ⟨rfl, rfl⟩
    rw [hx']
    go_wp2_with fail
    go_ret
    exact ⟨ret_bool (by first | rfl | (rw [hx']; rfl)), rfl⟩
theorem wrong_ints (a1 a2 : Int) (w : World) :
    Calls Try.prog 63 #[.agg #[.int .i64 a1, .int .i64 a2]] w fun e w' => e = .returned (.bool (!ptOk (a1, a2))) ∧ Below w.heap.size w w' := by
  have hc := fun W => okP_ints a1 a2 W
  generalize ptOk (a1, a2) = t at hc ⊢
  go_enter Try.func63, Try.ntmps63
  go_wp2_with fail
  refine (hc _).mono ?_
  rintro e w' ⟨rfl, rfl⟩
  go_wp2_with fail
  go_ret
  exact ⟨rfl, ba (ba (Below.refl _ _) _) _⟩

set_option maxHeartbeats 1000000 in
/-- the model asks of each point of a list whether it is right -/
theorem ptsM_any (b off cap : Nat) (L : List Pt) (w : World) (hn : L.length ≤ 4611686018427387904) (hb : b < w.heap.size) (hc : PtsAt w b off L) :
    Calls Try.prog 50 #[.slice (some ⟨b, off, none⟩) L.length cap] w fun e w' => e = .returned (.bool (L.all ptOk)) ∧ Below w.heap.size w w' := by
  have HC := hide hc
  clear hc
  generalize hN : L.length = N at hn ⊢
  have HN := hide hN
  clear hN
  go_enter Try.func50, Try.ntmps50
  go_wp2
  go_loopw [3] (fun s W => ∃ i : Nat, s = .int .i64 (i : Int) ∧ i ≤ N ∧ (L.take i).all ptOk = true ∧ Below w.heap.size w W) (fun s _ => N - (intOf s).toNat)
  case atStart => exact ⟨0, rfl, Nat.zero_le _, by simp, Below.refl _ _⟩
  case round =>
    obtain ⟨i, rfl, hi, ht, hw⟩ := hrel
    have HT := hide ht
    have HW := hide hw
    clear ht hw
    by_cases h : i < N
    · have i1 : (i : Int) < (N : Int) := by omega
      have i0 : (0 : Int) ≤ (i : Int) := Int.natCast_nonneg _
      have iz : decide ((i : Int) < (N : Int)) = true := decide_eq_true i1
      obtain ⟨p, hp⟩ : ∃ p, L[i]? = some p := by
        refine ⟨L[i]'(by have := unhide HN; omega), ?_⟩
        exact List.getElem?_eq_getElem _
      obtain ⟨k0, k1⟩ := ((unhide HC).bel (unhide HW) hb) i p hp
      have HP := hide hp
      clear hp
      obtain ⟨p1, p2⟩ := p
      dsimp only at k0 k1
      go_wp2_with fail
      refine (okM_ints _ _ _).mono ?_
      rintro e w' ⟨rfl, hb2⟩
      have HB := hide hb2
      clear hb2
      cases hq : ptOk (p1, p2)
      · go_wp2_with fail
        go_ret
        refine ⟨ret_bool ?_, bc (unhide HW) (unhide HB)⟩
        have : (p1, p2) ∈ L := List.mem_of_getElem? (unhide HP)
        cases ha : L.all ptOk
        · rfl
        · rw [List.all_eq_true] at ha
          rw [ha _ this] at hq
          cases hq
      · go_wp2_with fail
        go_roundw
        case rel =>
          refine ⟨i + 1, by simp, h, ?_, bc (unhide HW) (unhide HB)⟩
          rw [List.take_add_one, List.all_append, unhide HT, unhide HP]
          simp [hq]
        case measure => simp only [intOf]; omega
    · have i1 : ¬ (i : Int) < (N : Int) := by omega
      have iz : decide ((i : Int) < (N : Int)) = false := decide_eq_false i1
      go_wp2_with fail
      go_ret
      refine ⟨ret_bool ?_, unhide HW⟩
      have e := unhide HT
      rw [List.take_of_length_le (by have := unhide HN; omega)] at e
      exact e.symm
end Go.Proofs.Ytimkinpbimangaa
