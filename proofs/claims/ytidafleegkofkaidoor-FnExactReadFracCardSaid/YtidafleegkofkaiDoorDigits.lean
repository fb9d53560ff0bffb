/-
  A number's digits, by the model: the same as the decimal numeral.
-/
import Derived.Test.YtidafleegkofkaiDoorOkay
import Derived.Test.YtidafleegkofkaiDoorShelf
import Derived.Laws.BytesString
import Derived.Deep.RegionWith
namespace Go.Proofs.YtidafleegkofkaiDoor
open Go.ChangeShapes Go.WideShapes Go.ChangeAt Go.RowKit
set_option linter.unusedVariables false
set_option linter.unusedSimpArgs false

/-- one byte as a string -/
theorem conv_one (x : Int) (W : World) (b : Nat) (h : W.cell? ⟨b, 0, none⟩ = some (.int .u8 x)) :
    Sem.run Tryd.prog (convert 47 9 (.slice (some ⟨b, 0, none⟩) 1 1)) W = .ok (.string ⟨#[UInt8.ofNat x.toNat]⟩) W := by
  rw [run_convert_bytes_string W 47 9 5 _ 1 1 Tryd.underlying47 Tryd.underlying5 Tryd.underlying9]
  rw [run_bytesToString W ⟨b, 0, none⟩ 1 1 [x] (by simp [loadCells, go_sem, h])]
  rfl

theorem wrap_i {x : Int} (h1 : 0 ≤ x) (h2 : x ≤ 1000000000000000000) : IntKind.i64.wrap x = x := by
  simp only [IntKind.wrap, IntKind.bits, IntKind.signed]
  simp
  omega
theorem wrap_u8 {x : Int} (h1 : 0 ≤ x) (h2 : x ≤ 255) : IntKind.u8.wrap x = x := by
  simp only [IntKind.wrap, IntKind.bits, IntKind.signed]
  simp
  omega
theorem ret_str {a b : ByteArray} (h : a = b) : Ending.returned (.string a) = .returned (.string b) := by rw [h]
theorem dec_small (m : Nat) (h : m < 10) : Lib.decDigits m = [UInt8.ofNat (48 + m)] := by rw [Lib.decDigits, dif_pos h]
theorem dec_big (m : Nat) (h : ¬ m < 10) : Lib.decDigits m = Lib.decDigits (m / 10) ++ [UInt8.ofNat (48 + m % 10)] := by rw [Lib.decDigits, dif_neg h]

set_option maxHeartbeats 400000 in
theorem dig_small (m : Nat) (w : World) (h : m < 10) :
    Calls Tryd.prog 12 #[.int .i64 (m : Int)] w fun e w' => e = .returned (.string ⟨(Lib.decDigits m).toArray⟩) ∧ Below w.heap.size w w' := by
  have e1 : (((m : Int)) == -9223372036854775808) = false := by rw [beq_eq_false_iff_ne]; omega
  have hcv := conv_one (48 + (m : Int)) (w.alloc (.cells #[.int .u8 (48 + (m : Int))] 5)) w.heap.size (by simp [go_sem])
  have HD := hide (dec_small m h)
  go_enter Tryd.func12, Tryd.ntmps12
  go_wp2
  go_ret
  exact ⟨ret_str (by rw [unhide HD]), bel_alloc (Below.refl _ _) _⟩

set_option maxHeartbeats 1000000 in
theorem dig_big (m : Nat) (s : ByteArray) (w : World) (h : ¬ m < 10) (hm : m ≤ 1000000000000000000) (hs : s.size ≤ 100)
    (ih : Hid (∀ (n : Int) (W : World), n = (m : Int) / 10 → Calls Tryd.prog 12 #[.int .i64 n] W fun e w' => e = .returned (.string s) ∧ Below W.heap.size W w')) :
    Calls Tryd.prog 12 #[.int .i64 (m : Int)] w fun e w' => e = .returned (.string (s ++ ⟨#[UInt8.ofNat (48 + m % 10)]⟩)) ∧ Below w.heap.size w w' := by
  have e1 : (((m : Int)) == -9223372036854775808) = false := by rw [beq_eq_false_iff_ne]; omega
  have hcv := fun W b => conv_one (48 + (m : Int) % 10) W b
  have f1 : IntKind.i64.wrap ((m : Int) / 10) = (m : Int) / 10 := wrap_i (by omega) (by omega)
  have f2 : ((m : Int)).tmod 10 = (m : Int) % 10 := Int.tmod_eq_emod_of_nonneg (by omega)
  have f3 : IntKind.i64.wrap (48 + (m : Int) % 10) = 48 + (m : Int) % 10 := wrap_i (by omega) (by omega)
  have f4 : IntKind.u8.wrap (48 + (m : Int) % 10) = 48 + (m : Int) % 10 := wrap_u8 (by omega) (by omega)
  go_enter Tryd.func12, Tryd.ntmps12
  go_wp2
  go_region_with (first
    | (go_at_call 12; refine (unhide ih _ _ (by omega)).mono ?_; rintro e w' ⟨rfl, hb⟩; have HB := hide hb; obtain ⟨hc, hf, hl, hz⟩ := kept hb; clear hb))
  all_goals
    go_wp2
    go_ret
    refine ⟨ret_str (by first | rfl | (rw [UInt8.ofNat_add]; rfl)), ?_⟩
    repeat (first | exact Below.refl _ _ | refine bel_alloc ?_ _ | refine Below.drew ?_ | refine bel_call ?_ (unhide HB))

theorem dec_len (m : Nat) : (Lib.decDigits m).length = Lib.nDigits m := by
  by_cases h : m < 10
  · rw [dec_small m h, Lib.nDigits_small h]; rfl
  · rw [dec_big m h, Lib.nDigits_big h, List.length_append, dec_len (m / 10)]; rfl

theorem nd_le (f : Nat) : ∀ m : Nat, m < 10 ^ f → Lib.nDigits m ≤ f + 1 := by
  induction f with
  | zero => intro m h; rw [Lib.nDigits_small (by omega)]; omega
  | succ f ih =>
    intro m h
    by_cases h0 : m < 10
    · rw [Lib.nDigits_small h0]; omega
    · rw [Lib.nDigits_big h0]
      have := ih (m / 10) (by rw [Nat.div_lt_iff_lt_mul (by omega)]; rw [Nat.pow_succ] at h; exact h)
      omega
theorem dec_size (m : Nat) (h : m ≤ 1000000000000000000) : (Lib.decDigits m).length ≤ 20 := by
  rw [dec_len]
  exact Nat.le_trans (nd_le 19 m (by omega)) (by omega)

theorem dig_nat (f : Nat) : ∀ (m : Nat) (w : World), m ≤ f → m ≤ 1000000000000000000 →
    Calls Tryd.prog 12 #[.int .i64 (m : Int)] w fun e w' => e = .returned (.string ⟨(Lib.decDigits m).toArray⟩) ∧ Below w.heap.size w w' := by
  induction f with
  | zero => intro m w h _; exact dig_small m w (by omega)
  | succ f ih =>
    intro m w h hm
    by_cases h0 : m < 10
    · exact dig_small m w h0
    · have hsz := dec_size (m / 10) (by omega)
      have := dig_big m ⟨(Lib.decDigits (m / 10)).toArray⟩ w h0 hm (by simp [ByteArray.size]; omega) (hide fun n W hn => by
        subst hn
        have := ih (m / 10) W (by omega) (by omega)
        simpa using this)
      rw [dec_big m h0]
      refine this.mono ?_
      rintro e w' ⟨rfl, hb⟩
      refine ⟨ret_str ?_, hb⟩
      apply ByteArray.ext
      simp

set_option maxHeartbeats 400000 in
theorem dig_any (n : Int) (w : World) (h1 : -1000000000 ≤ n) (h2 : n ≤ 1000000000) :
    Calls Tryd.prog 12 #[.int .i64 n] w fun e w' => e = .returned (.string ⟨(Lib.itoa n).toArray⟩) ∧ Below w.heap.size w w' := by
  by_cases hn : n < 0
  · have e1 : (n == -9223372036854775808) = false := by rw [beq_eq_false_iff_ne]; omega
    have HD := hide (fun W => dig_nat n.natAbs n.natAbs W (Nat.le_refl _) (by omega))
    have hsz := dec_size n.natAbs (by omega)
    have HI : Hid (Lib.itoa n = 45 :: Lib.decDigits n.natAbs) := hide (by unfold Lib.itoa; rw [if_pos hn])
    have he : (n.natAbs : Int) = -n := by omega
    rw [he] at HD
    have hs2 : (⟨(Lib.decDigits n.natAbs).toArray⟩ : ByteArray).size ≤ 20 := by simp [ByteArray.size]; omega
    clear he
    generalize Lib.decDigits n.natAbs = ds at *
    go_enter Tryd.func12, Tryd.ntmps12
    go_wp2_with fail
    refine (unhide HD _).mono ?_
    rintro e w1 ⟨rfl, hb⟩
    have HB := hide hb
    clear hb
    go_wp2
    go_ret
    refine ⟨ret_str ?_, unhide HB⟩
    rw [unhide HI]
    apply ByteArray.ext
    simp
  · obtain ⟨m, rfl⟩ := Int.eq_ofNat_of_zero_le (by omega : 0 ≤ n)
    have hi : Lib.itoa (m : Int) = Lib.decDigits m := by unfold Lib.itoa; rw [if_neg (by omega)]; rfl
    rw [hi]
    exact dig_nat m m w (Nat.le_refl _) (by omega)
end Go.Proofs.YtidafleegkofkaiDoor
