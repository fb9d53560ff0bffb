/-
  Rows of numbers of one's own that the laws write over.
-/
import Derived.Test.YtimkinpbimangaaPtKit
namespace Go.Proofs.Ytimkinpbimangaa
open Go.ChangeShapes Go.WideShapes Go.ChangeAt Go.RowKit
set_option linter.unusedVariables false
set_option linter.unusedSimpArgs false

/-- all but the block of a slice is as it was -/
structure Mo (u : Option Addr) (w w' : World) : Prop where
  os : w'.os = w.os
  tape : w'.tape = w.tape
  output : w'.output = w.output
  size : w.heap.size ≤ w'.heap.size
  block : ∀ k, k < w.heap.size → (∀ a, u = some a → a.block ≠ k) → w'.heap[k]? = w.heap[k]?
theorem Mo.of_bel {u : Option Addr} {w w' : World} (h : Below w.heap.size w w') : Mo u w w' := ⟨h.os, h.tape, h.output, h.size, fun k hk _ => h.block k hk⟩
theorem Mo.trans {u : Option Addr} {a b c : World} (x : Mo u a b) (y : Mo u b c) : Mo u a c :=
  ⟨y.os.trans x.os, y.tape.trans x.tape, y.output.trans x.output, Nat.le_trans x.size y.size, fun k hk h1 => (y.block k (Nat.lt_of_lt_of_le hk x.size) h1).trans (x.block k hk h1)⟩
theorem Mo.bel {u : Option Addr} {B : Nat} {w w' : World} (h : Mo u w w') (hB : B ≤ w.heap.size) (hu : ∀ a, u = some a → B ≤ a.block) : Below B w w' :=
  ⟨h.os, h.tape, h.output, h.size, fun k hk => h.block k (by omega) (fun a ha => by have := hu a ha; omega)⟩
theorem Row.mo {u : Option Addr} {w w' : World} {B t k n : Nat} {v : Value} {L : List Int} (h : Row w B t k v n L) (x : Mo u w w') (hu : ∀ b, v.ownBlock = some b → ∀ a, u = some a → a.block ≠ b) : Row w' B t k v n L :=
  h.kept' (fun b hb => x.block b (World.ownsRow.lt h b hb).2 (hu b hb))
set_option maxHeartbeats 1000000 in
theorem it_markR (u : Option Addr) (B n cu : Nat) (L : List Int) (c : Int) (w : World) (hn : n ≤ 1048576) (c0 : 0 ≤ c) (c1 : c ≤ 8000000) (hr : Row w B 3 1 (.slice u n cu) n L) :
    Calls Try.prog 21 #[.slice u n cu, .int .i64 c] w fun e w' => e = .returned (.int .i64 (c + (n : Int))) ∧ Row w' B 3 1 (.slice u n cu) n (marks c n) ∧ Mo u w w' := by
  by_cases hn0 : n = 0
  · subst hn0
    have hl := hr.len
    obtain rfl : L = [] := List.eq_nil_of_length_eq_zero (by omega)
    have HR := hide hr
    clear hr
    go_enter Try.func21, Try.ntmps21
    go_wp2_with fail
    go_loopw [1, 5] (fun s t W => s = .int .i64 c ∧ t = .int .i64 0 ∧ W = w) (fun _ s _ => 0)
    case atStart => exact ⟨rfl, rfl, rfl⟩
    case round =>
      obtain ⟨rfl, rfl, rfl⟩ := hrel
      go_wp2_with fail
      go_ret
      exact ⟨by simp, unhide HR, Mo.of_bel (Below.refl _ _)⟩
  have hl := hr.len
  obtain ⟨g, cap', hv, hg, hg2, _⟩ := hr.full hn0
  cases hv
  have HR := hide hr
  have HL := hide hl
  have HG := hide hg2
  clear hr hl hg2
  go_enter Try.func21, Try.ntmps21
  go_wp2_with fail
  go_loopw [1, 5] (fun s t W => ∃ i : Nat, s = .int .i64 (c + (i : Int)) ∧ t = .int .i64 (i : Int) ∧ i ≤ n ∧ Row W B 3 1 (.slice (some ⟨g, 0, none⟩) n cu) n (marks c i ++ L.drop i) ∧ Mo (some ⟨g, 0, none⟩) w W) (fun _ s _ => n - (intOf s).toNat)
  case atStart => exact ⟨0, by simp, rfl, Nat.zero_le _, by simpa [marks] using unhide HR, Mo.of_bel (Below.refl _ _)⟩
  case round =>
    obtain ⟨i, rfl, rfl, hi, hb, hw⟩ := hrel
    have HB := hide hb
    have HW := hide hw
    clear hb hw
    by_cases h : i < n
    · have i1 : (i : Int) < (n : Int) := by omega
      have i0 : (0 : Int) ≤ (i : Int) := Int.natCast_nonneg _
      have iz : decide ((i : Int) < (n : Int)) = true := decide_eq_true i1
      have j0 : i + 0 < L.length := by rw [unhide HL]; omega
      have k0 : wr.cell? ⟨g, i, none⟩ = some (.int .i64 (L[i + 0]'j0)) := (unhide HB).cellAt (marks_drop1 c L i 0 j0)
      generalize L[i + 0]'j0 = x0 at k0
      have fz : ∀ o, wr.frozen? ⟨g, o, none⟩ = false := (unhide HB).frz
      have J0 := hide j0
      clear j0
      go_wp2_with fail
      go_roundw
      case rel =>
        refine ⟨i + 1, by simp only [Value.int.injEq, true_and]; omega, by simp, h, ?_, ?_⟩
        · have h1 := (unhide HB).set i (by omega) (c + (i : Int))
          rw [marks_step c L i (unhide J0) _ (by omega)] at h1
          exact h1
        · refine (unhide HW).trans ⟨rfl, rfl, rfl, by simp [World.setCell], fun k hk ha => Below.heap_setCell _ _ _ _ (fun e => (ha _ rfl) e.symm)⟩
      case measure => simp only [intOf]; omega
    · have iz : decide ((i : Int) < (n : Int)) = false := decide_eq_false (by omega)
      have en : i = n := by omega
      subst en
      go_wp2_with fail
      go_ret
      refine ⟨rfl, ?_, unhide HW⟩
      have h1 := unhide HB
      rw [List.drop_eq_nil_of_le (by rw [unhide HL]; omega), List.append_nil] at h1
      exact h1
end Go.Proofs.Ytimkinpbimangaa
