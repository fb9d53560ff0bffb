/-
  The numbers below a count, by the program.
-/
import Derived.Test.YtdneepojgklciaaPrMath
namespace Go.Proofs.Ytdneepojgklciaa
open Go.ChangeShapes Go.WideShapes Go.ChangeAt Go.RowKit
set_option linter.unusedVariables false
set_option linter.unusedSimpArgs false

theorem int_info3 : (Try.prog.info? 3).map (fun i => (i.zero, i.size, i.bytes)) = some (some (.int .i64 0), 1, 8) := by kernel_rfl
set_option maxHeartbeats 2000000 in
set_option maxRecDepth 100000 in
theorem numb_any (n : Nat) (w : World) (hn : n ≤ 200) :
    Calls Try.prog 29 #[.int .i64 (n : Int)] w fun e w' => (∃ g, e = .returned (.slice (some ⟨g, 0, none⟩) n n) ∧ w.heap.size ≤ g ∧ iblk w' g 3 (marks 0 n)) ∧ Below w.heap.size w w' := by
  have hmk := fun W => make_ints (P := Try.prog) 28 3 1 8 n Try.underlying28 (.int .i64 0) (by rfl) (by omega) int_info3 (by omega) (by omega) W
  rw [Nat.mul_one] at hmk
  have HML : Hid ((marks 0 n).length = n) := hide (marks_len 0 n)
  have n0 : (0 : Int) ≤ (n : Int) := Int.natCast_nonneg _
  generalize hZ : zeros n = Z at hmk
  have HZ := hide hZ
  clear hZ
  go_enter Try.func29, Try.ntmps29
  go_wp2_with fail
  have Z3 := hide (iblk_new w 3 Z)
  have Z5 := hide (ba (Below.refl w.heap.size w) (.cells (Z.map (Value.int .i64)).toArray 3))
  clear hmk
  generalize w.alloc (.cells (Z.map (Value.int .i64)).toArray 3) = WA at *
  obtain ⟨D, hD⟩ : ∃ R, w.heap.size = R := ⟨_, rfl⟩
  rw [hD] at Z3 Z5 ⊢
  have HD := hide hD
  clear hD
  go_loopw [9] (fun z W => ∃ i : Nat, z = .int .i64 (i : Int) ∧ i ≤ n ∧ iblk W D 3 ((marks 0 n).take i ++ zeros ((marks 0 n).length - i)) ∧ Below D w W) (fun z _ => n - (intOf z).toNat)
  case atStart =>
    refine ⟨0, rfl, Nat.zero_le _, ?_, unhide Z5⟩
    rw [unhide HML, List.take_zero, List.nil_append, Nat.sub_zero, unhide HZ]; exact unhide Z3
  case round =>
    obtain ⟨i, rfl, hi, hc, hw⟩ := hrel
    have HC := hide hc
    have HW := hide hw
    clear Z3 Z5
    by_cases h : i < n
    · have i1 : decide ((i : Int) < (n : Int)) = true := decide_eq_true (by omega)
      have i0 : (0 : Int) ≤ (i : Int) := Int.natCast_nonneg _
      have i2 : (i : Int) < (n : Int) := by omega
      have k0 : i + 0 < (marks 0 n).length := by rw [unhide HML]; omega
      have cc := hc.cell (fill_at (marks 0 n) i 0 k0)
      simp only [Nat.add_zero] at cc
      have fc : ∀ o, wr.frozen? ⟨D, o, none⟩ = false := hc.frozen
      have HSC := hide (fill_step (marks 0 n) i k0 _ (by have := marks_at 0 n i h; rw [Int.zero_add] at this; exact this))
      clear hc k0 hw
      go_wp2_with fail
      go_roundw
      case rel =>
        refine ⟨i + 1, by simp, h, ?_, ?_⟩
        · rw [← unhide HSC]; exact (unhide HC).set i _
        · exact Below.setCell (unhide HW) (Nat.le_refl _) _
      case measure => simp only [intOf]; omega
    · have i1 : decide ((i : Int) < (n : Int)) = false := decide_eq_false (by omega)
      have en : i = n := by omega
      subst en
      have ec : (marks 0 i).take i ++ zeros ((marks 0 i).length - i) = marks 0 i := by rw [List.take_of_length_le (by rw [unhide HML]; omega), unhide HML, Nat.sub_self]; simp [zeros]
      rw [ec] at hc
      have HC2 := hide hc
      clear hc hw ec HC
      go_wp2_with fail
      go_ret
      first | exact ⟨⟨D, rfl, Nat.le_refl _, unhide HC2⟩, unhide HW⟩ | exact ⟨⟨D, rfl, Nat.le_of_eq (unhide HD), unhide HC2⟩, by rw [unhide HD]; exact unhide HW⟩
end Go.Proofs.Ytdneepojgklciaa
