/-
  The law's own mark on a row that may have room behind it.
-/
import Derived.Test.YtimkinpbimangaaPtRows
import Derived.Test.YtimkinpbimangaaRowX
namespace Go.Proofs.Ytimkinpbimangaa
open Go.ChangeShapes Go.WideShapes Go.ChangeAt Go.RowKit
set_option linter.unusedVariables false
set_option linter.unusedSimpArgs false

theorem Row.kept {w w' : World} {B B' t k n : Nat} {v : Value} {L : List Int} (h : Row w B t k v n L) (hb : ∀ g, v.ownBlock = some g → w'.heap[g]? = w.heap[g]?) : Row w' B t k v n L := by
  refine ⟨h.1, ?_⟩
  rcases h.2 with h1 | ⟨g, cap, cur, hv, hB, hh, r⟩
  · exact .inl h1
  · subst hv
    exact .inr ⟨g, cap, cur, rfl, hB, (hb g rfl).trans hh, r⟩
set_option maxHeartbeats 1000000 in
theorem pt_markR (B n : Nat) (v : Value) (L : List Int) (c : Int) (w : World) (hn : n ≤ 288230376151711744) (c0 : 0 ≤ c) (c1 : c ≤ 1000000) (hr : Row w B 32 2 v n L) :
    Calls Try.prog 22 #[v, .int .i64 c] w fun e w' => e = .returned (.int .i64 (c + (n : Int) * 2)) ∧ Row w' B 32 2 v n (marks c (n * 2)) ∧ Below B w w' ∧ Hid (v = .slice none 0 0 → w' = w) := by
  by_cases hz : n = 0
  · subst hz
    obtain ⟨u, cap, rfl, _⟩ := hr.form
    have iz : decide ((0 : Int) < ((0 : Nat) : Int)) = false := by decide
    have HR := hide hr
    clear hr
    go_enter Try.func22, Try.ntmps22
    go_wp2
    go_loopw [1, 5] (fun s t W => s = .int .i64 c ∧ t = .int .i64 0 ∧ W = w) (fun _ s _ => 0)
    case atStart => exact ⟨rfl, rfl, rfl⟩
    case round =>
      obtain ⟨rfl, rfl, rfl⟩ := hrel
      go_wp2_with fail
      go_ret
      refine ⟨ret_int (by simp), ?_, Below.refl _ _, hide fun _ => rfl⟩
      have h1 := unhide HR
      have : L = [] := List.eq_nil_of_length_eq_zero (by have := h1.len; omega)
      subst this
      exact h1
  · obtain ⟨g, cap, rfl, hB, hg, _, _, _⟩ := hr.full hz
    have HLen := hide hr.len
    have HR0 := hide hr
    clear hr
    go_enter Try.func22, Try.ntmps22
    go_wp2
    go_loopw [1, 5] (fun s t W => ∃ i : Nat, s = .int .i64 (c + (i : Int) * 2) ∧ t = .int .i64 (i : Int) ∧ i ≤ n ∧ Row W B 32 2 (.slice (some ⟨g, 0, none⟩) n cap) n (marks c (i * 2) ++ L.drop (i * 2)) ∧ Below B w W) (fun _ s _ => n - (intOf s).toNat)
    case atStart => exact ⟨0, by simp, rfl, Nat.zero_le _, by simpa [marks] using unhide HR0, Below.refl _ _⟩
    case round =>
      obtain ⟨i, rfl, rfl, hi, hb, hw⟩ := hrel
      have HB := hide hb
      have HW := hide hw
      clear hb hw
      by_cases h : i < n
      · have i1 : (i : Int) < (n : Int) := by omega
        have i0 : (0 : Int) ≤ (i : Int) := Int.natCast_nonneg _
        have iz : decide ((i : Int) < (n : Int)) = true := decide_eq_true i1
        have pb := unhide HB
        have j0 : i * 2 + 0 < L.length := by rw [unhide HLen]; exact mul_lt_of h (by omega)
        have k0 : wr.cell? ⟨g, i * 2, none⟩ = some (.int .i64 (L[i * 2 + 0]'j0)) := pb.cellAt (marks_drop1 c L (i * 2) 0 j0)
        generalize L[i * 2 + 0]'j0 = x0 at k0
        have j1 : i * 2 + 1 < L.length := by rw [unhide HLen]; exact mul_lt_of h (by omega)
        have k1 : wr.cell? ⟨g, i * 2 + 1, none⟩ = some (.int .i64 (L[i * 2 + 1]'j1)) := pb.cellAt (marks_drop1 c L (i * 2) 1 j1)
        generalize L[i * 2 + 1]'j1 = x1 at k1
        have fz : ∀ o, wr.frozen? ⟨g, o, none⟩ = false := pb.frz
        have J0 := hide j0; have J1 := hide j1
        clear pb j0 j1
        skip
        go_wp2_with fail
        go_roundw
        case rel =>
          refine ⟨i + 1, by simp only [Value.int.injEq, true_and]; omega, by simp, h, ?_, ?_⟩
          · have h1 := ((unhide HB).set (i * 2) (by rw [← unhide HLen]; have := unhide J0; omega) (c + (i : Int) * 2)).set (i * 2 + 1) (by rw [← unhide HLen]; have := unhide J1; omega) (c + (i : Int) * 2 + 1)
            rw [marks_step c L (i * 2) (unhide J0) _ (by omega), marks_step c L (i * 2 + 1) (unhide J1) _ (by omega)] at h1
            rw [show (i + 1) * 2 = i * 2 + 2 by omega]
            exact h1
          · exact Below.setCell (Below.setCell (unhide HW) hB _) hB _
        case measure => simp only [intOf]; omega
      · have i1 : ¬ (i : Int) < (n : Int) := by omega
        have iz : decide ((i : Int) < (n : Int)) = false := decide_eq_false i1
        have en : i = n := by omega
        subst en
        go_wp2_with fail
        go_ret
        refine ⟨rfl, ?_, unhide HW, by first | exact hide trivial | exact hide (fun h => nomatch h)⟩
        have h1 := unhide HB
        rw [List.drop_eq_nil_of_le (by rw [unhide HLen]; omega), List.append_nil] at h1
        exact h1

end Go.Proofs.Ytimkinpbimangaa
