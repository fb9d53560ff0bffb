/-
  Small functions of strips: places found, squares, ways.
-/
import Derived.Test.YtdcecfgmfmpeeaaZoMath
import Derived.Test.YtdcecfgmfmpeeaaHhm
import Derived.Lib.MinMax
namespace Go.Proofs.Ytdcecfgmfmpeeaa
open Go.ChangeShapes Go.WideShapes Go.ChangeAt Go.RowKit
set_option linter.unusedVariables false
set_option linter.unusedSimpArgs false

theorem eq30 (a1 a2 b1 b2 : Int) (W : World) : (binOp .eql 30 (.agg #[.int .i64 a1, .int .i64 a2]) (.agg #[.int .i64 b1, .int .i64 b2])).run Try.prog W = .ok (.bool (decide ((a1, a2) = (b1, b2)))) W := by
  cases h1 : a1 == b1 <;> cases h2 : a2 == b2
  all_goals
    have k1 := h1
    have k2 := h2
    simp only [beq_eq_false_iff_ne, beq_iff_eq] at k1 k2
    have e : decide ((a1, a2) = (b1, b2)) = (a1 == b1 && a2 == b2) := by simp [k1, k2]
    rw [e, h1, h2]
    clear e k1 k2
    go_simp
/-- the points lie there -/
theorem pts_at {w : World} {b : Nat} {L : List Pt} (h : IntsAt w b 0 (flat2 L)) {i : Nat} {x y : Int} (hi : L[i]? = some (x, y)) : w.cell? ⟨b, i * 2, none⟩ = some (.int .i64 x) ∧ w.cell? ⟨b, i * 2 + 1, none⟩ = some (.int .i64 y) := by
  have h1 := h _ _ (flat2_at hi).1
  have h2 := h _ _ (flat2_at hi).2
  rw [Nat.zero_add] at h1 h2
  exact ⟨h1, h2⟩
theorem bel_dq {B : Nat} {a w : World} (h : Below B a w) (n : Nat) : Below B a (w.drewN n) := ⟨h.os, h.tape, h.output, h.size, h.block⟩
theorem sameDn {a w : World} (h : Same a w) (n : Nat) : Same a (w.drewN n) := ⟨h.os, h.tape, h.output, h.heap⟩
set_option maxHeartbeats 1000000 in
theorem fstM_any (b cap n : Nat) (L : List Pt) (p1 p2 : Int) (j : Nat) (w : World) (HL : Hid (L.length = n)) (hn : n ≤ 4096) (hb : b < w.heap.size) (HI : Hid (IntsAt w b 0 (flat2 L))) (HF : Hid (Fst L (p1, p2) j)) :
    Calls Try.prog 29 #[.slice (some ⟨b, 0, none⟩) n cap, .agg #[.int .i64 p1, .int .i64 p2]] w fun e w' => e = .returned (.int .i64 (j : Int)) ∧ Below w.heap.size w w' := by
  have HB := hide (ba (Below.refl w.heap.size w) (.cells #[.int .i64 p1, .int .i64 p2] 30))
  have HV : Hid ((w.alloc (.cells #[.int .i64 p1, .int .i64 p2] 30)).cell? ⟨w.heap.size, 0, none⟩ = some (.int .i64 p1) ∧ (w.alloc (.cells #[.int .i64 p1, .int .i64 p2] 30)).cell? ⟨w.heap.size, 1, none⟩ = some (.int .i64 p2)) := hide ⟨by simp only [World.cell?]; rw [heap_alloc_new]; rfl, by simp only [World.cell?]; rw [heap_alloc_new]; rfl⟩
  have HI2 : Hid (IntsAt (w.alloc (.cells #[.int .i64 p1, .int .i64 p2] 30)) b 0 (flat2 L)) := hide ((unhide HI).below (unhide HB) hb)
  have hjl : j < n := by rw [← unhide HL]; exact (unhide HF).lt
  go_enter Try.func29, Try.ntmps29
  go_wp2_with fail
  generalize w.alloc (.cells #[.int .i64 p1, .int .i64 p2] 30) = W1 at *
  go_loopw [5] (fun z X => ∃ i : Nat, z = .int .i64 (i : Int) ∧ i ≤ j ∧ Same W1 X) (fun z _ => n - (intOf z).toNat)
  case atStart => exact ⟨0, rfl, Nat.zero_le _, Same.refl _⟩
  case round =>
    obtain ⟨i, rfl, hi, hs⟩ := hrel
    have HS := hide hs
    have i1 : (i : Int) < (n : Int) := by omega
    have i0 : (0 : Int) ≤ (i : Int) := Int.natCast_nonneg _
    have iz : decide ((i : Int) < (n : Int)) = true := decide_eq_true i1
    obtain ⟨⟨x, y⟩, hx⟩ : ∃ q, L[i]? = some q := ⟨_, List.getElem?_eq_getElem (by rw [unhide HL]; omega)⟩
    obtain ⟨c0, c1⟩ := pts_at (unhide HI2) hx
    obtain ⟨v0, v1⟩ := unhide HV
    rw [← hs.cell] at c0 c1 v0 v1
    by_cases h : i = j
    · subst h
      have he : (x, y) = (p1, p2) := by
        have h1 := (unhide HF).at'
        rw [hx] at h1
        exact Option.some.inj h1
      have hq : ∀ X, (binOp .eql 30 (.agg #[.int .i64 x, .int .i64 y]) (.agg #[.int .i64 p1, .int .i64 p2])).run Try.prog X = .ok (.bool true) X := fun X => by rw [eq30, decide_eq_true he]
      have HBS : Hid (Below W1.heap.size W1 wr) := hide hs.bel
      clear hs hx he
      go_wp2_with fail
      go_quiet (fail)
      go_wp2_with fail
      go_ret
      exact ⟨rfl, bel_dq (bc (unhide HB) (unhide HBS)) _⟩
    · have he : (x, y) ≠ (p1, p2) := fun e => (unhide HF).no i (by omega) (by rw [hx, e])
      have hq : ∀ X, (binOp .eql 30 (.agg #[.int .i64 x, .int .i64 y]) (.agg #[.int .i64 p1, .int .i64 p2])).run Try.prog X = .ok (.bool false) X := fun X => by rw [eq30, decide_eq_false he]
      have hij : i + 1 ≤ j := by omega
      clear hs hx he
      go_wp2_with fail
      go_quiet (fail)
      go_wp2_with fail
      go_roundw
      case rel => exact ⟨i + 1, by simp, hij, sameDn (unhide HS) _⟩
      case measure => simp only [intOf]; omega
set_option maxHeartbeats 1000000 in
theorem idxP_any (b cap n : Nat) (L : List Pt) (p1 p2 : Int) (j : Nat) (w : World) (HL : Hid (L.length = n)) (hn : n ≤ 4096) (hb : b < w.heap.size) (HI : Hid (IntsAt w b 0 (flat2 L))) (HF : Hid (Fst L (p1, p2) j)) :
    Calls Try.prog 53 #[.slice (some ⟨b, 0, none⟩) n cap, .agg #[.int .i64 p1, .int .i64 p2]] w fun e w' => e = .returned (.int .i64 (j : Int)) ∧ Below w.heap.size w w' := by
  have HB := hide (ba (Below.refl w.heap.size w) (.cells #[.int .i64 p1, .int .i64 p2] 30))
  have HV : Hid ((w.alloc (.cells #[.int .i64 p1, .int .i64 p2] 30)).cell? ⟨w.heap.size, 0, none⟩ = some (.int .i64 p1) ∧ (w.alloc (.cells #[.int .i64 p1, .int .i64 p2] 30)).cell? ⟨w.heap.size, 1, none⟩ = some (.int .i64 p2)) := hide ⟨by simp only [World.cell?]; rw [heap_alloc_new]; rfl, by simp only [World.cell?]; rw [heap_alloc_new]; rfl⟩
  have HI2 : Hid (IntsAt (w.alloc (.cells #[.int .i64 p1, .int .i64 p2] 30)) b 0 (flat2 L)) := hide ((unhide HI).below (unhide HB) hb)
  have hjl : j < n := by rw [← unhide HL]; exact (unhide HF).lt
  go_enter Try.func53, Try.ntmps53
  go_wp2_with fail
  generalize w.alloc (.cells #[.int .i64 p1, .int .i64 p2] 30) = W1 at *
  go_loopw [8] (fun z X => ∃ i : Nat, z = .int .i64 (i : Int) ∧ i ≤ j ∧ Same W1 X) (fun z _ => n - (intOf z).toNat)
  case atStart => exact ⟨0, rfl, Nat.zero_le _, Same.refl _⟩
  case round =>
    obtain ⟨i, rfl, hi, hs⟩ := hrel
    have HS := hide hs
    have i1 : (i : Int) < (n : Int) := by omega
    have i0 : (0 : Int) ≤ (i : Int) := Int.natCast_nonneg _
    have iz : decide ((i : Int) < (n : Int)) = true := decide_eq_true i1
    obtain ⟨⟨x, y⟩, hx⟩ : ∃ q, L[i]? = some q := ⟨_, List.getElem?_eq_getElem (by rw [unhide HL]; omega)⟩
    obtain ⟨c0, c1⟩ := pts_at (unhide HI2) hx
    obtain ⟨v0, v1⟩ := unhide HV
    rw [← hs.cell] at c0 c1 v0 v1
    by_cases h : i = j
    · subst h
      have he : (p1, p2) = (x, y) := by
        have h1 := (unhide HF).at'
        rw [hx] at h1
        exact (Option.some.inj h1).symm
      have hq : ∀ X, (binOp .eql 30 (.agg #[.int .i64 p1, .int .i64 p2]) (.agg #[.int .i64 x, .int .i64 y])).run Try.prog X = .ok (.bool true) X := fun X => by rw [eq30, decide_eq_true he]
      have HBS : Hid (Below W1.heap.size W1 wr) := hide hs.bel
      clear hs hx he
      go_wp2_with fail
      go_quiet (fail)
      go_wp2_with fail
      go_ret
      exact ⟨rfl, bel_dq (bc (unhide HB) (unhide HBS)) _⟩
    · have he : (p1, p2) ≠ (x, y) := fun e => (unhide HF).no i (by omega) (by rw [hx, ← e])
      have hq : ∀ X, (binOp .eql 30 (.agg #[.int .i64 p1, .int .i64 p2]) (.agg #[.int .i64 x, .int .i64 y])).run Try.prog X = .ok (.bool false) X := fun X => by rw [eq30, decide_eq_false he]
      have hij : i + 1 ≤ j := by omega
      clear hs hx he
      go_wp2_with fail
      go_quiet (fail)
      go_wp2_with fail
      go_roundw
      case rel => exact ⟨i + 1, by simp, hij, sameDn (unhide HS) _⟩
      case measure => simp only [intOf]; omega
/-- a product that does not wrap -/
theorem wr64 {x : Int} (h1 : -9223372036854775808 ≤ x) (h2 : x ≤ 9223372036854775807) : IntKind.i64.wrap x = x := Go.IntWalk.i64_in _ ⟨by omega, by omega⟩
theorem sqM_any (a1 a2 b1 b2 : Int) (w : World) (ha : -200 ≤ a1 ∧ a1 ≤ 200 ∧ -200 ≤ a2 ∧ a2 ≤ 200) (hb : -200 ≤ b1 ∧ b1 ≤ 200 ∧ -200 ≤ b2 ∧ b2 ≤ 200) :
    Calls Try.prog 30 #[.agg #[.int .i64 a1, .int .i64 a2], .agg #[.int .i64 b1, .int .i64 b2]] w fun e w' => e = .returned (.int .i64 (sqd (a1, a2) (b1, b2))) ∧ Below w.heap.size w w' := by
  have h1 := mulB (x := a1 - b1) (y := a1 - b1) (a := 400) (b := 400) (by omega) (by omega) (by omega) (by omega)
  have h2 := mulB (x := a2 - b2) (y := a2 - b2) (a := 400) (b := 400) (by omega) (by omega) (by omega) (by omega)
  have HE : Hid (sqd (a1, a2) (b1, b2) = (a1 - b1) * (a1 - b1) + (a2 - b2) * (a2 - b2)) := hide rfl
  have w1 : IntKind.i64.wrap (a1 - b1) = a1 - b1 := wr64 (by omega) (by omega)
  have w2 : IntKind.i64.wrap (a2 - b2) = a2 - b2 := wr64 (by omega) (by omega)
  have w3 : IntKind.i64.wrap ((a1 - b1) * (a1 - b1)) = (a1 - b1) * (a1 - b1) := wr64 (by omega) (by omega)
  have w4 : IntKind.i64.wrap ((a2 - b2) * (a2 - b2)) = (a2 - b2) * (a2 - b2) := wr64 (by omega) (by omega)
  have w5 : IntKind.i64.wrap ((a1 - b1) * (a1 - b1) + (a2 - b2) * (a2 - b2)) = (a1 - b1) * (a1 - b1) + (a2 - b2) * (a2 - b2) := wr64 (by omega) (by omega)
  go_enter Try.func30, Try.ntmps30
  go_wp2_with fail
  go_ret
  exact ⟨ret_int (unhide HE).symm, ba (ba (Below.refl _ _) _) _⟩
theorem aloP_any (a1 a2 b1 b2 : Int) (w : World) (ha : -400 ≤ a1 ∧ a1 ≤ 400 ∧ -400 ≤ a2 ∧ a2 ≤ 400) (hb : -400 ≤ b1 ∧ b1 ≤ 400 ∧ -400 ≤ b2 ∧ b2 ≤ 400) :
    Calls Try.prog 54 #[.agg #[.int .i64 a1, .int .i64 a2], .agg #[.int .i64 b1, .int .i64 b2]] w fun e w' => e = .returned (.int .i64 (a1 * b1 + a2 * b2)) ∧ Below w.heap.size w w' := by
  have h1 := mulB (x := a1) (y := b1) (a := 400) (b := 400) (by omega) (by omega) (by omega) (by omega)
  have h2 := mulB (x := a2) (y := b2) (a := 400) (b := 400) (by omega) (by omega) (by omega) (by omega)
  have w3 : IntKind.i64.wrap (a1 * b1) = a1 * b1 := wr64 (by omega) (by omega)
  have w4 : IntKind.i64.wrap (a2 * b2) = a2 * b2 := wr64 (by omega) (by omega)
  have w5 : IntKind.i64.wrap (a1 * b1 + a2 * b2) = a1 * b1 + a2 * b2 := wr64 (by omega) (by omega)
  go_enter Try.func54, Try.ntmps54
  go_wp2_with fail
  go_ret
  exact ⟨rfl, ba (ba (Below.refl _ _) _) _⟩
end Go.Proofs.Ytdcecfgmfmpeeaa
