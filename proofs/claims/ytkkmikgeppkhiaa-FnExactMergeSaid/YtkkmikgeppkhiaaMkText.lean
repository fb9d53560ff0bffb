/-
  The laws' own mark of a text: the letter m and the digits of a number.
-/
import Derived.Test.YtkkmikgeppkhiaaGen
import Derived.Laws.BytesString
namespace Go.Proofs.Ytkkmikgeppkhiaa
open Go.ChangeShapes Go.WideShapes Go.ChangeAt Go.RowKit
set_option linter.unusedVariables false
set_option linter.unusedSimpArgs false

/-- one byte as a text -/
theorem conv_one (x : Int) (W : World) (b : Nat) (h : W.cell? ⟨b, 0, none⟩ = some (.int .u8 x)) :
    Sem.run Try.prog (convert 91 9 (.slice (some ⟨b, 0, none⟩) 1 1)) W = .ok (.string ⟨#[UInt8.ofNat x.toNat]⟩) W := by
  rw [run_convert_bytes_string W 91 9 5 _ 1 1 Try.underlying91 Try.underlying5 Try.underlying9]
  rw [run_bytesToString W ⟨b, 0, none⟩ 1 1 [x] (by simp [loadCells, go_sem, h])]
  rfl
theorem ret_str {a b : ByteArray} (h : a = b) : Ending.returned (.string a) = .returned (.string b) := by rw [h]
def digB (k : Nat) : ByteArray := ⟨#[UInt8.ofNat (48 + k % 10)]⟩
/-- the digits of k ahead of what is there -/
def digF : Nat → Nat → ByteArray → ByteArray
  | 0, _, o => o
  | f + 1, k, o => if k = 0 then o else digF f (k / 10) (digB k ++ o)
def mkT (k : Nat) : ByteArray := (⟨#[109]⟩ : ByteArray) ++ digF k k ByteArray.empty
theorem digF_zero (f : Nat) (o : ByteArray) : digF f 0 o = o := by cases f <;> simp [digF]
theorem digF_fuel : ∀ (f g k : Nat) (o : ByteArray), k ≤ f → k ≤ g → digF f k o = digF g k o := by
  intro f
  induction f with
  | zero => intro g k o h1 h2; have : k = 0 := by omega
            subst this; rw [digF_zero, digF_zero]
  | succ f ih =>
    intro g k o h1 h2
    by_cases h : k = 0
    · subst h; rw [digF_zero, digF_zero]
    · cases g with
      | zero => omega
      | succ g =>
        simp only [digF, if_neg h]
        exact ih g (k / 10) _ (by omega) (by omega)
theorem digF_size : ∀ (f k : Nat) (o : ByteArray), (digF f k o).size ≤ o.size + f := by
  intro f
  induction f with
  | zero => intro k o; exact Nat.le_refl _
  | succ f ih =>
    intro k o
    simp only [digF]
    split
    · omega
    · have := ih (k / 10) (digB k ++ o)
      rw [ByteArray.size_append] at this
      have e : (digB k).size = 1 := rfl
      omega

set_option maxHeartbeats 1000000 in
theorem mkText_any (k : Nat) (w : World) (h0 : 0 < k) (h1 : k ≤ 100000000) : Calls Try.prog 37 #[.int .i64 (k : Int)] w fun e w' => e = .returned (.string (mkT k)) ∧ Below w.heap.size w w' := by
  have hk : decide ((k : Int) ≤ 0) = false := decide_eq_false (by omega)
  go_enter Try.func37, Try.ntmps37
  go_wp2
  go_loopw [0, 3] (fun z s W => ∃ (j : Nat) (o : ByteArray), z = .int .i64 (j : Int) ∧ s = .string o ∧ j ≤ k ∧ o.size + j ≤ k ∧ digF j j o = digF k k ByteArray.empty ∧ Below w.heap.size w W) (fun z _ _ => (intOf z).toNat)
  case atStart => exact ⟨k, ByteArray.empty, rfl, rfl, Nat.le_refl _, by simp, rfl, Below.refl _ _⟩
  case round =>
    obtain ⟨j, o, rfl, rfl, hj, ho, hd, hw⟩ := hrel
    have HW := hide hw
    have HD := hide hd
    clear hw hd
    by_cases h : 0 < j
    · have j1 : decide ((0 : Int) < (j : Int)) = true := decide_eq_true (by omega)
      have j2 : (0 : Int) < (j : Int) := by omega
      have hcv := conv_one (48 + (j : Int) % 10) (wr.alloc (.cells #[.int .u8 (48 + (j : Int) % 10)] 5)) wr.heap.size (by simp [go_sem])
      have e8 : (⟨#[UInt8.ofNat (48 + (j : Int) % 10).toNat]⟩ : ByteArray) = digB j := by
        unfold digB
        rw [show (48 + (j : Int) % 10).toNat = 48 + j % 10 by omega]
      rw [e8] at hcv
      have sz : (digB j).size = 1 := rfl
      go_wp2_with fail
      go_roundw
      case rel =>
        refine ⟨j / 10, digB j ++ o, by simp, rfl, by omega, ?_, ?_, ba (unhide HW) _⟩
        · rw [ByteArray.size_append, sz]; omega
        · rw [← unhide HD]
          cases j with
          | zero => omega
          | succ j =>
            show _ = digF (j + 1) (j + 1) o
            simp only [digF, if_neg (Nat.succ_ne_zero j)]
            exact digF_fuel _ _ _ _ (by omega) (by omega)
      case measure => simp only [intOf]; omega
    · have j1 : decide ((0 : Int) < (j : Int)) = false := decide_eq_false (by omega)
      have j2 : ¬ (0 : Int) < (j : Int) := by omega
      have ej : j = 0 := by omega
      subst ej
      have e : o = digF k k ByteArray.empty := by have := unhide HD; rwa [digF_zero] at this
      subst e
      go_wp2_with fail
      go_ret
      exact ⟨rfl, unhide HW⟩
end Go.Proofs.Ytkkmikgeppkhiaa
