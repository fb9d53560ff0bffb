/-
  The program's ties: labels moved, one freedom less.
-/
import Derived.Test.YtchdmigeopmacaaFreeMath
namespace Go.Proofs.Ytchdmigeopmacaa
open Go.ChangeShapes Go.WideShapes Go.ChangeAt Go.RowKit
set_option linter.unusedVariables false
set_option linter.unusedSimpArgs false

/-- the first i labels moved -/
def relabTo (lab : List Int) (f t : Int) (i : Nat) : List Int := relab (lab.take i) f t ++ lab.drop i
theorem relabTo_len (lab : List Int) (f t : Int) (i : Nat) : (relabTo lab f t i).length = lab.length := by
  simp [relabTo, relab]; omega
theorem relabTo_at {lab : List Int} {f t : Int} {i : Nat} (h : i < lab.length) : (relabTo lab f t i)[i]? = some (gt lab i) := by
  unfold relabTo
  rw [List.getElem?_append_right (by simp [relab]; omega)]
  have e : (relab (lab.take i) f t).length = i := by simp [relab]; omega
  rw [e, Nat.sub_self, List.getElem?_drop, Nat.add_zero]
  exact gt_some h
theorem relabTo_hit {lab : List Int} {f t : Int} {i : Nat} (h : i < lab.length) (he : gt lab i = f) : (relabTo lab f t i).set i t = relabTo lab f t (i + 1) := by
  unfold relabTo
  have e : (relab (lab.take i) f t).length = i := by simp [relab]; omega
  have e2 : relab (lab.take (i + 1)) f t = relab (lab.take i) f t ++ [t] := by
    unfold relab
    rw [List.take_add_one, gt_some h]
    simp [he]
  rw [List.set_append, if_neg (by omega), e, Nat.sub_self, e2, List.append_assoc]
  congr 1
  rw [List.drop_eq_getElem_cons h]
  rfl
theorem relabTo_miss {lab : List Int} {f t : Int} {i : Nat} (h : i < lab.length) (he : ¬ gt lab i = f) : relabTo lab f t i = relabTo lab f t (i + 1) := by
  unfold relabTo
  have e2 : relab (lab.take (i + 1)) f t = relab (lab.take i) f t ++ [gt lab i] := by
    unfold relab
    rw [List.take_add_one, gt_some h]
    simp [he]
  have e3 : lab[i] = gt lab i := by
    have := gt_some h
    rw [List.getElem?_eq_getElem h] at this
    exact Option.some.inj this
  rw [e2, List.drop_eq_getElem_cons h, e3]
  simp
theorem relabTo_all {lab : List Int} {f t : Int} {i : Nat} (h : lab.length ≤ i) : relabTo lab f t i = relab lab f t := by
  unfold relabTo
  rw [List.take_of_length_le h, List.drop_eq_nil_of_le h, List.append_nil]

set_option maxHeartbeats 1000000 in
theorem moveG_any (g n : Nat) (lab : List Int) (f t : Int) (w : World) (hn : n ≤ 1000) (HL : Hid (lab.length = n)) (HG : Hid (iblk w g 3 lab)) :
    Calls Try.prog 33 #[.slice (some ⟨g, 0, none⟩) n n, .int .i64 f, .int .i64 t] w fun e w' => e = .returned (.tuple #[]) ∧ iblk w' g 3 (relab lab f t) ∧ But g w w' := by
  go_enter Try.func33, Try.ntmps33
  go_wp2_with fail
  go_loopw [10] (fun s W => ∃ i : Nat, s = .int .i64 (i : Int) ∧ i ≤ n ∧ iblk W g 3 (relabTo lab f t i) ∧ But g w W) (fun s _ => n - (intOf s).toNat)
  case atStart => exact ⟨0, rfl, Nat.zero_le _, by simpa [relabTo, relab] using unhide HG, But.refl _ _⟩
  case round =>
    obtain ⟨i, rfl, hi, hb, hw⟩ := hrel
    have HB := hide hb
    have HW := hide hw
    clear hb hw
    by_cases h : i < n
    · have i1 : (i : Int) < (n : Int) := by omega
      have i0 : (0 : Int) ≤ (i : Int) := Int.natCast_nonneg _
      have iz : decide ((i : Int) < (n : Int)) = true := decide_eq_true i1
      have hil : i < lab.length := by rw [unhide HL]; exact h
      have m1 : wr.cell? ⟨g, i, none⟩ = some (.int .i64 (gt lab i)) := (unhide HB).cell (relabTo_at hil)
      have fz := (unhide HB).frozen
      by_cases he : gt lab i = f
      · have e1 : (gt lab i == f) = true := by simp [he]
        have HH := hide (relabTo_hit (t := t) hil he)
        generalize gt lab i = X at *
        clear he hil
        go_wp2_with fail
        go_roundw
        case rel => exact ⟨i + 1, by simp, h, by rw [← unhide HH]; exact (unhide HB).set i t, (unhide HW).setCell _ _⟩
        case measure => simp only [intOf]; omega
      · have e1 : (gt lab i == f) = false := by simp [he]
        have HH := hide (relabTo_miss (t := t) hil he)
        generalize gt lab i = X at *
        clear he hil
        go_wp2_with fail
        go_roundw
        case rel => exact ⟨i + 1, by simp, h, by rw [← unhide HH]; exact unhide HB, unhide HW⟩
        case measure => simp only [intOf]; omega
    · have i1 : ¬ (i : Int) < (n : Int) := by omega
      have iz : decide ((i : Int) < (n : Int)) = false := decide_eq_false i1
      go_wp2_with fail
      refine bodyPost_end (v := .tuple #[]) (by simp [results, Try.results33, go_sem]) rfl ⟨rfl, ?_, unhide HW⟩
      have h1 := unhide HB
      rw [relabTo_all (by rw [unhide HL]; omega)] at h1
      exact h1

set_option maxHeartbeats 2000000 in
set_option maxRecDepth 100000 in
theorem tieP_any (lo hi n g b7 b9 : Nat) (num fr : Int) (lab : List Int) (w : World) (hlo : lo < n) (hhi : hi < n) (hn : n ≤ 1000) (HL : Hid (lab.length = n)) (h1 : b7 ≠ g) (h2 : b7 ≠ b9) (h3 : g ≠ b9) (q1 : -1000000 ≤ fr) (q2 : fr ≤ 1000000)
    (k7 : w.cell? ⟨b7, 0, none⟩ = some (.slice (some ⟨g, 0, none⟩) n n)) (HG : Hid (iblk w g 3 lab)) (HF : Hid (iblk w b9 3 [fr])) :
    Calls Try.prog 32 #[.agg #[.int .i64 (lo : Int), .int .i64 (hi : Int), .int .i64 num, .bool true], .pointer (some ⟨b7, 0, none⟩), .pointer (some ⟨b9, 0, none⟩)] w
      fun e w' => e = .returned (.bool (tieL (lab, fr) lo hi).2) ∧ iblk w' g 3 (tieL (lab, fr) lo hi).1.1 ∧ iblk w' b9 3 [(tieL (lab, fr) lo hi).1.2] ∧ Two g b9 w w' := by
  have lo1 : (lo : Int) < (n : Int) := by omega
  have lo0 : (0 : Int) ≤ (lo : Int) := Int.natCast_nonneg _
  have hi1 : (hi : Int) < (n : Int) := by omega
  have hi0 : (0 : Int) ≤ (hi : Int) := Int.natCast_nonneg _
  have m1 : w.cell? ⟨g, lo, none⟩ = some (.int .i64 (gt lab lo)) := (unhide HG).cell (gt_some (by rw [unhide HL]; exact hlo))
  have m2 : w.cell? ⟨g, hi, none⟩ = some (.int .i64 (gt lab hi)) := (unhide HG).cell (gt_some (by rw [unhide HL]; exact hhi))
  have ltg := (unhide HG).lt
  have ltb := (unhide HF).lt
  have lta := cell_lt k7
  have HMV := hide (fun W (hW : Below w.heap.size w W) => moveG_any g n lab (gt lab hi) (gt lab lo) W hn HL (hide ((unhide HG).bel hW)))
  by_cases he : gt lab hi = gt lab lo
  · have e1 : (gt lab hi == gt lab lo) = true := by simp [he]
    have HS : Hid (tieL (lab, fr) lo hi = ((lab, fr), false)) := hide (if_pos he)
    rw [unhide HS]
    generalize gt lab lo = X at *
    generalize gt lab hi = Y at *
    clear he
    go_enter Try.func32, Try.ntmps32
    go_wp2_with fail
    go_region
    all_goals
      go_wp2_with fail
      go_ret
      exact ⟨rfl, bel_iblk (ba (Below.refl _ _) _) (unhide HG), bel_iblk (ba (Below.refl _ _) _) (unhide HF), by repeat (first | exact Two.refl _ _ _ | refine Two.alloc ?_ _ | refine Two.drew ?_)⟩
  · have e1 : (gt lab hi == gt lab lo) = false := by simp [he]
    have HS : Hid (tieL (lab, fr) lo hi = ((relab lab (gt lab hi) (gt lab lo), fr - 1), true)) := hide (if_neg he)
    rw [unhide HS]
    have wf : IntKind.i64.wrap (fr - 1) = fr - 1 := wrap_i (by omega) (by omega)
    generalize gt lab lo = X at *
    generalize gt lab hi = Y at *
    clear he
    go_enter Try.func32, Try.ntmps32
    go_wp2_with fail
    go_region
    all_goals
      go_wp2_with fail
      refine (unhide HMV _ (by repeat (first | exact Below.refl _ _ | refine ba ?_ _ | refine Below.drew ?_))).mono ?_
      rintro e W1 ⟨rfl, hg1, hb1⟩
      have HG1 := hide hg1
      have hbb : Below w.heap.size w (w.alloc (.cells #[.int .i64 (lo : Int), .int .i64 (hi : Int), .int .i64 num, .bool true] 58)) := ba (Below.refl _ _) _
      have HF1 : Hid (iblk W1 b9 3 [fr]) := hide ((hb1.block b9 (Ne.symm h3)).trans (bel_iblk hbb (unhide HF)))
      have m9 := (unhide HF1).cell (m := 0) (x := fr) rfl
      have f9 := (unhide HF1).frozen 0
      have HT1 : Hid (Two g b9 w W1) := hide (Two.trans (by repeat (first | exact Two.refl _ _ _ | refine Two.alloc ?_ _ | refine Two.drew ?_)) ⟨hb1.os, hb1.tape, hb1.output, Nat.le_of_eq hb1.size, fun k _ h _ => hb1.block k h⟩)
      clear hg1 hb1 hbb
      go_wp2_with fail
      go_ret
      refine ⟨rfl, ?_, ?_, (unhide HT1).set2 _ _⟩
      · exact (unhide HG1).far (Below.heap_setCell _ _ _ _ h3)
      · exact (unhide HF1).set 0 (fr - 1)
end Go.Proofs.Ytchdmigeopmacaa
