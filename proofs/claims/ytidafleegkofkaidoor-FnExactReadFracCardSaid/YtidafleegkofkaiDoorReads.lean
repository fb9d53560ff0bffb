/-
  What the program's ReadFrac answers at every text of at most 65536 bytes: the fraction whose text it is, or the code of a fault.
-/
import Derived.Test.YtidafleegkofkaiDoorTextMath
import Derived.Test.YtidafleegkofkaiDoorShelfB
import Derived.Lib.IndexBytes
import Derived.Lib.IndexLaws
import Derived.Lib.AtoiErrMem
import Derived.Lib.AtoiAllCases
import Derived.Lib.AtoiTie
namespace Go.Proofs.YtidafleegkofkaiDoor
open Go.ChangeShapes Go.WideShapes Go.ChangeAt Go.RowKit
set_option linter.unusedVariables false
set_option linter.unusedSimpArgs false

theorem bel_dn {B : Nat} {w W : World} (h : Below B w W) (q : Nat) : Below B w (W.drewN q) := ⟨h.os, h.tape, h.output, h.size, h.block⟩

set_option maxHeartbeats 400000 in
theorem lite_no (s : ByteArray) (w : World) (H : Hid (Lib.indexByte s.data.toList 47 = -1)) :
    Calls Tryd.prog 23 #[.string s, .string ⟨#[47]⟩] w fun e w' => e = .returned (.tuple #[.string s, .string ⟨#[]⟩, .bool false]) ∧ Below w.heap.size w w' := by
  go_enter Tryd.func23, Tryd.ntmps23
  go_wp2_with fail
  refine (Tryd.stringslite_Index_one s 47 _).mono ?_
  rintro e w1 ⟨rfl, rfl⟩
  rw [unhide H]
  go_wp2
  go_ret3
  exact ⟨rfl, Below.refl _ _⟩

theorem ex_left (A C : ByteArray) : (A ++ (⟨#[47]⟩ ++ C)).extract 0 A.size = A := by
  apply ByteArray.ext
  rw [ByteArray.data_extract, ByteArray.data_append]
  show (A.data ++ _).extract 0 A.data.size = A.data
  simp
theorem ex_right (A C : ByteArray) : (A ++ (⟨#[47]⟩ ++ C)).extract (A.size + 1) (A ++ (⟨#[47]⟩ ++ C)).size = C := by
  apply ByteArray.ext
  rw [ByteArray.data_extract, ByteArray.data_append, ByteArray.data_append]
  have e : (A ++ ((⟨#[47]⟩ : ByteArray) ++ C)).size = (A.data ++ (#[47] ++ C.data)).size := by
    show (A ++ ((⟨#[47]⟩ : ByteArray) ++ C)).data.size = _
    rw [ByteArray.data_append, ByteArray.data_append]
  rw [e]
  show (A.data ++ (#[47] ++ C.data)).extract (A.data.size + 1) _ = C.data
  apply Array.toList_inj.1
  rw [Array.toList_extract]
  simp only [Array.toList_append, List.extract_eq_take_drop, Array.size_append]
  rw [List.drop_append, List.drop_of_length_le (by simp)]
  simp
  rw [show A.size + (1 + C.size) - (A.size + 1) = C.size from by omega]
  exact List.take_of_length_le (by show C.data.toList.length ≤ C.data.size; simp)

set_option maxHeartbeats 400000 in
theorem lite_at (s A C : ByteArray) (k : Nat) (w : World) (hs : s.size ≤ 65536) (hk : k + 1 ≤ s.size) (H : Hid (Lib.indexByte s.data.toList 47 = (k : Int))) (HA : Hid (s.extract 0 k = A)) (HC : Hid (s.extract (k + 1) s.size = C)) :
    Calls Tryd.prog 23 #[.string s, .string ⟨#[47]⟩] w fun e w' => e = .returned (.tuple #[.string A, .string C, .bool true]) ∧ Below w.heap.size w w' := by
  go_enter Tryd.func23, Tryd.ntmps23
  go_wp2_with fail
  refine (Tryd.stringslite_Index_one s 47 _).mono ?_
  rintro e w1 ⟨rfl, rfl⟩
  rw [unhide H]
  go_wp2_with fail
  go_quiet (fail)
  go_wp2
  go_ret3
  exact ⟨by rw [← unhide HA, ← unhide HC]; rfl, bel_dn (Below.refl _ _) _⟩

set_option maxHeartbeats 400000 in
theorem cut_calls (s A C : ByteArray) (b : Bool) (w : World) (HL : Hid (∀ W, Calls Tryd.prog 23 #[.string s, .string ⟨#[47]⟩] W fun e w' => e = .returned (.tuple #[.string A, .string C, .bool b]) ∧ Below W.heap.size W w')) :
    Calls Tryd.prog 17 #[.string s, .string ⟨#[47]⟩] w fun e w' => e = .returned (.tuple #[.string A, .string C, .bool b]) ∧ Below w.heap.size w w' := by
  go_enter Tryd.func17, Tryd.ntmps17
  go_wp2_with fail
  refine (unhide HL _).mono ?_
  rintro e w1 ⟨rfl, hb⟩
  have HB := hide hb
  clear hb
  go_wp2
  go_ret3
  exact ⟨rfl, unhide HB⟩

/-- strings.Cut at a slash, at every text: some two texts and a word -/
theorem cut_some (s : ByteArray) (hs : s.size ≤ 65536) : ∃ (A C : ByteArray) (b : Bool), A.size ≤ 65536 ∧ C.size ≤ 65536 ∧ ∀ w, Calls Tryd.prog 17 #[.string s, .string ⟨#[47]⟩] w fun e w' => e = .returned (.tuple #[.string A, .string C, .bool b]) ∧ Below w.heap.size w w' := by
  by_cases h : Lib.indexByte s.data.toList 47 = -1
  · exact ⟨s, ⟨#[]⟩, false, hs, by show 0 ≤ 65536; omega, fun w => cut_calls _ _ _ _ w (hide fun W => lite_no s W (hide h))⟩
  · have hg := Lib.indexByte_ge s.data.toList 47
    obtain ⟨k, hk⟩ : ∃ k : Nat, Lib.indexByte s.data.toList 47 = (k : Int) := ⟨(Lib.indexByte s.data.toList 47).toNat, by omega⟩
    have h1 := (Lib.indexByte_some hk).1
    have hlt : k < s.size := by
      have := (List.getElem?_eq_some_iff.1 h1).1
      rw [Array.length_toList] at this
      exact this
    refine ⟨s.extract 0 k, s.extract (k + 1) s.size, true, ?_, ?_, fun w => cut_calls _ _ _ _ w (hide fun W => lite_at s _ _ k W hs (by omega) (hide hk) (hide rfl) (hide rfl))⟩
    · rw [ByteArray.size_extract]; omega
    · rw [ByteArray.size_extract]; omega

/-- both sentinels of strconv stand, whatever is done from block B on -/
def Sent (B : Nat) (w : World) : Prop := (1 < B ∧ ∃ ev, w.cell? ⟨1, 0, none⟩ = some ev ∧ (ev = .nilIface ∨ ∃ te pe, ev = .iface te pe)) ∧ (2 < B ∧ ∃ ev, w.cell? ⟨2, 0, none⟩ = some ev ∧ (ev = .nilIface ∨ ∃ te pe, ev = .iface te pe))

/-- strconv.Atoi at every text: a number and no fault, or a fault -/
theorem atoi_some (s : ByteArray) (hs : s.size ≤ 65536) {B : Nat} {w0 : World} (hS : Sent B w0) :
    (∃ n : Int, (-9223372036854775808 ≤ n ∧ n ≤ 9223372036854775807) ∧ ∀ W, Below B w0 W → Calls Tryd.prog 18 #[.string s] W fun e w' => e = .returned (.tuple #[.int .i64 n, .nilIface]) ∧ Below W.heap.size W w') ∨
    (∃ n : Int, ∀ W, Below B w0 W → Calls Tryd.prog 18 #[.string s] W fun e w' => (∃ p, e = .returned (.tuple #[.int .i64 n, .iface 59 p])) ∧ Below W.heap.size W w') := by
  obtain ⟨⟨g1, ev1, c1, k1⟩, ⟨g2, ev2, c2, k2⟩⟩ := hS
  cases h : Lib.atoiAll s.data.toList with
  | ok v =>
    refine Or.inl ⟨v, Lib.atoiAll_bounds h, fun W _ => (Tryd.strconv_Atoi_ok s (by omega) v h W).mono ?_⟩
    rintro e w' ⟨rfl, hw⟩
    refine ⟨rfl, ?_⟩
    rcases hw with rfl | ⟨t, rfl⟩
    · exact Below.refl _ _
    · exact Lib.bytesWorld_below W 5 t
  | «syntax» =>
    refine Or.inr ⟨0, fun W hb => (Tryd.strconv_Atoi_syntax s (by omega) h ev1 W ((hb.cell (by exact g1)).trans c1) k1).mono ?_⟩
    rintro e w' ⟨N, rfl, _, _, hw⟩
    exact ⟨⟨_, rfl⟩, hw⟩
  | range =>
    refine Or.inr ⟨Lib.atoiSat s.data.toList, fun W hb => (Tryd.strconv_Atoi_range s (by omega) h ev2 W ((hb.cell (by exact g2)).trans c2) k2).mono ?_⟩
    rintro e w' ⟨N, rfl, _, _, hw⟩
    exact ⟨⟨_, rfl⟩, hw⟩
theorem atoi_exact (s : ByteArray) (n : Int) (w : World) (hl : s.size ≤ 18) (h : Lib.atoi s.data.toList = some n) :
    Calls Tryd.prog 18 #[.string s] w fun e w' => e = .returned (.tuple #[.int .i64 n, .nilIface]) ∧ Below w.heap.size w w' := by
  have h2 : Lib.atoiAll s.data.toList = .ok n := by
    rw [Lib.atoiAll_short _ (by rw [Array.length_toList]; exact hl), h]; rfl
  refine (Tryd.strconv_Atoi_ok s (by omega) n h2 w).mono ?_
  rintro e w' ⟨rfl, hw⟩
  refine ⟨rfl, ?_⟩
  rcases hw with rfl | ⟨t, rfl⟩
  · exact Below.refl _ _
  · exact Lib.bytesWorld_below w 5 t

theorem size18 (n : Int) (h1 : -1000000000 ≤ n) (h2 : n ≤ 1000000000) : (itoaS n).size ≤ 18 := by
  unfold itoaS Lib.itoa
  split
  · have := nd_le 10 n.natAbs (by omega)
    rw [← dec_len] at this
    simp [ByteArray.size]; omega
  · have := nd_le 10 n.toNat (by omega)
    rw [← dec_len] at this
    simp [ByteArray.size]; omega
end Go.Proofs.YtidafleegkofkaiDoor
