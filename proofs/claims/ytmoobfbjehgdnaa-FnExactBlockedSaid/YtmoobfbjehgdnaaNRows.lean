/-
  What the laws ask of an answer's numbers, whatever its capacity.
-/
import Derived.Test.YtmoobfbjehgdnaaPrRows
namespace Go.Proofs.Ytmoobfbjehgdnaa
open Go.ChangeShapes Go.WideShapes Go.ChangeAt Go.RowKit
set_option linter.unusedVariables false
set_option linter.unusedSimpArgs false

/-- an answer's numbers: where they lie -/
def NAt (w : World) (u : Option Addr) (q n cap : Nat) (L : List Int) : Prop := n ≠ 0 → u = some ⟨q, 0, none⟩ ∧ Row w 0 3 1 (.slice (some ⟨q, 0, none⟩) n cap) n L
theorem NAt.bel {w w' : World} {u : Option Addr} {q n cap : Nat} {L : List Int} (h : NAt w u q n cap L) (hb : Below w.heap.size w w') : NAt w' u q n cap L := fun h0 => ⟨(h h0).1, (h h0).2.below hb⟩
theorem NAt.but {w w' : World} {u : Option Addr} {q n cap g : Nat} {L : List Int} (h : NAt w u q n cap L) (hb : But g w w') (hg : n ≠ 0 → q ≠ g) : NAt w' u q n cap L := fun h0 => ⟨(h h0).1, (h h0).2.kept' (fun y hy => by simp only [Value.ownBlock, Option.some.injEq] at hy; subst hy; exact hb.block q (hg h0))⟩
theorem NAt.lt {w : World} {u : Option Addr} {q n cap : Nat} {L : List Int} (h : NAt w u q n cap L) (h0 : n ≠ 0) : q < w.heap.size := by
  obtain ⟨_, _, e, _, e2, _⟩ := (h h0).2.sm (by simp)
  cases e
  exact e2
theorem NAt.its {w : World} {u : Option Addr} {q n cap : Nat} {L : List Int} (h : NAt w u q n cap L) (hl : L.length = n) : Its w u q 0 L := fun h0 => by
  have hn : n ≠ 0 := by intro e; rw [e] at hl; first | exact h0 hl | exact h0 (List.eq_nil_of_length_eq_zero hl)
  exact ⟨(h hn).1, h.lt hn, (h hn).2.ints⟩
/-- an answer, opened -/
theorem Row.nat {w : World} {B : Nat} {v : Value} {L : List Int} (h : Row w B 3 1 v L.length L) : ∃ u q cap, v = .slice u L.length cap ∧ NAt w u q L.length cap L ∧ (L.length ≠ 0 → B ≤ q ∧ v.ownBlock = some q) := by
  obtain ⟨u, cap, hv, hf⟩ := h.form
  by_cases h0 : L.length = 0
  · exact ⟨u, 0, cap, hv, fun h => absurd h0 h, fun h => absurd h0 h⟩
  · obtain ⟨g, rfl, hB, _, _⟩ := hf h0
    subst hv
    exact ⟨_, g, cap, rfl, fun _ => ⟨rfl, h.mono (Nat.zero_le _)⟩, fun _ => ⟨hB, rfl⟩⟩

set_option maxHeartbeats 1000000 in
theorem it_markQ (u : Option Addr) (p n cu : Nat) (L : List Int) (c : Int) (w : World) (hl : L.length = n) (hn : n ≤ 1048576) (c0 : 0 ≤ c) (c1 : c ≤ 4000000)
    (hu : NAt w u p n cu L) :
    Calls Try.prog 13 #[.slice u n cu, .int .i64 c] w fun e w' => e = .returned (.int .i64 (c + (n : Int))) ∧ NAt w' u p n cu (marks c n) ∧ (n = 0 → w' = w) ∧ (n ≠ 0 → But p w w') := by
  have HU := hide hu
  have HL := hide hl
  clear hu hl
  go_enter Try.func13, Try.ntmps13
  go_wp2
  go_loopw [1, 5] (fun s t W => ∃ i : Nat, s = .int .i64 (c + (i : Int)) ∧ t = .int .i64 (i : Int) ∧ i ≤ n ∧ NAt W u p n cu (marks c i ++ L.drop i) ∧ (n = 0 → W = w) ∧ But p w W) (fun _ s _ => n - (intOf s).toNat)
  case atStart => exact ⟨0, by simp, rfl, Nat.zero_le _, by simpa [marks] using (unhide HU), fun _ => rfl, But.refl _ _⟩
  case round =>
    obtain ⟨i, rfl, rfl, hi, hb, hz, hw⟩ := hrel
    have HB := hide hb
    have HW := hide hw
    have HZ := hide hz
    clear hb hw hz
    by_cases h : i < n
    · have i1 : (i : Int) < (n : Int) := by omega
      have i0 : (0 : Int) ≤ (i : Int) := Int.natCast_nonneg _
      have iz : decide ((i : Int) < (n : Int)) = true := decide_eq_true i1
      obtain ⟨rfl, pb⟩ := unhide HB (by omega)
      have j0 : i + 0 < L.length := by rw [unhide HL]; omega
      have k0 : wr.cell? ⟨p, i, none⟩ = some (.int .i64 (L[i + 0]'j0)) := pb.cellAt (marks_drop1 c L i 0 j0)
      generalize L[i + 0]'j0 = x0 at k0
      have fz : ∀ o, wr.frozen? ⟨p, o, none⟩ = false := pb.frz
      have PB := hide pb
      have J0 := hide j0
      clear pb j0
      go_wp2_with fail
      go_roundw
      case rel =>
        refine ⟨i + 1, by simp only [Value.int.injEq, true_and]; omega, by simp, h, fun _ => ⟨rfl, ?_⟩, fun e => by omega, ?_⟩
        · have h1 := (unhide PB).set i (by omega) (c + (i : Int))
          rw [marks_step c L i (unhide J0) _ (by omega)] at h1
          exact h1
        · exact (unhide HW).setCell _ _
      case measure => simp only [intOf]; omega
    · have i1 : ¬ (i : Int) < (n : Int) := by omega
      have iz : decide ((i : Int) < (n : Int)) = false := decide_eq_false i1
      have en : i = n := by omega
      subst en
      go_wp2_with fail
      go_ret
      refine ⟨rfl, ?_, unhide HZ, fun _ => unhide HW⟩
      have h1 := unhide HB
      rw [List.drop_eq_nil_of_le (by rw [unhide HL]; omega), List.append_nil] at h1
      exact h1
end Go.Proofs.Ytmoobfbjehgdnaa
