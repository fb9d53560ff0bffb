/-
  What the laws ask of rows of bytes of one's own: that one is written over, that it is held.
-/
import Derived.Test.YtibcgimggcdllaaFiAp
namespace Go.Proofs.Ytibcgimggcdllaa
open Go.ChangeShapes Go.WideShapes Go.ChangeAt Go.RowKit
set_option linter.unusedVariables false
set_option linter.unusedSimpArgs false

def mkB (c : Int) (n : Nat) : List Int := (List.range n).map fun j : Nat => IntKind.u8.wrap (c + (j : Int))
theorem mkB_len (c : Int) (n : Nat) : (mkB c n).length = n := by simp [mkB]
theorem mkB_at (c : Int) {n j : Nat} (h : j < n) : (mkB c n)[j]? = some (IntKind.u8.wrap (c + (j : Int))) := by simp [mkB, h]
theorem mkB_succ (c : Int) (n : Nat) : mkB c (n + 1) = mkB c n ++ [IntKind.u8.wrap (c + (n : Int))] := by simp [mkB, List.range_succ]
theorem mkB_step (c : Int) (L : List Int) (i : Nat) (h : i < L.length) : (mkB c i ++ L.drop i).set i (IntKind.u8.wrap (c + (i : Int))) = mkB c (i + 1) ++ L.drop (i + 1) := by
  rw [List.set_append, if_neg (by rw [mkB_len]; omega), mkB_len, Nat.sub_self, mkB_succ, List.append_assoc]
  congr 1
  rw [List.drop_eq_getElem_cons h]
  rfl
theorem Rb.slG {w : World} {B N cap : Nat} {u : Option Addr} {L : List Int} (h : Rb w B (.slice u N cap) N L) : ∃ p, SlG byc 1 w u p 0 L ∧ (L ≠ [] → p < w.heap.size ∧ B ≤ p) := by
  by_cases hn : N = 0
  · have : L = [] := List.eq_nil_of_length_eq_zero (by rw [h.len, hn])
    subst this
    exact ⟨0, fun h => absurd rfl h, fun h => absurd rfl h⟩
  · obtain ⟨u', c', e, _, _, hf⟩ := own_form h
    cases e
    obtain ⟨g, rfl, h1, h2, _⟩ := hf hn
    exact ⟨g, (h.bys hn).slG, fun _ => ⟨h2, h1⟩⟩
set_option maxHeartbeats 1000000 in
theorem by_mark (u : Option Addr) (N cap B : Nat) (L : List Int) (c : Int) (w : World) (hR : Rb w B (.slice u N cap) N L) (hB : B ≤ w.heap.size) (hn : N ≤ 1048576) (c0 : 0 ≤ c) (c1 : c ≤ 1000000) :
    Calls Try.prog 15 #[.slice u N cap, .int .i64 c] w fun e w' => e = .returned (.int .i64 (c + (N : Int))) ∧ Rb w' B (.slice u N cap) N (mkB c N) ∧ Below B w w' := by
  have HL := hide hR.len
  have HR := hide hR
  clear hR
  go_enter Try.func15, Try.ntmps15
  go_wp2
  go_loopw [1, 5] (fun s t W => ∃ i : Nat, s = .int .i64 (c + (i : Int)) ∧ t = .int .i64 (i : Int) ∧ i ≤ N ∧ Rb W B (.slice u N cap) N (mkB c i ++ L.drop i) ∧ Below B w W) (fun _ s _ => N - (intOf s).toNat)
  case atStart => exact ⟨0, by simp, rfl, Nat.zero_le _, by simpa [mkB] using unhide HR, Below.refl _ _⟩
  case round =>
    clear HR
    obtain ⟨i, rfl, rfl, hi, hr, hw⟩ := hrel
    have HR := hide hr
    have HW := hide hw
    have i0 : (0 : Int) ≤ (i : Int) := Int.natCast_nonneg _
    by_cases h : i < N
    · have i1 : (i : Int) < (N : Int) := by omega
      have iz : decide ((i : Int) < (N : Int)) = true := decide_eq_true i1
      obtain ⟨u', c', e, _, _, hf⟩ := own_form hr
      cases e
      obtain ⟨g, rfl, hg1, hg2, hc⟩ := hf (by omega)
      have hil : i < L.length := by rw [unhide HL]; exact h
      have k0 := hc i (.int .u8 (L[i]'hil)) (byL_at (by rw [List.getElem?_append_right (by rw [mkB_len]; omega), mkB_len, Nat.sub_self, List.getElem?_drop, Nat.add_zero]; exact List.getElem?_eq_getElem hil))
      generalize L[i]'hil = y at k0
      have fz : ∀ o, wr.frozen? ⟨g, o, none⟩ = false := own_frz hr
      clear hr hw hf hc
      obtain ⟨y', hy'⟩ : ∃ y', IntKind.u8.wrap (c + (i : Int)) = y' := ⟨_, rfl⟩
      have HY := hide hy'
      go_wp2_with fail
      go_roundw
      case rel =>
        refine ⟨i + 1, by simp only [Value.int.injEq, true_and]; omega, by simp, h, ?_, (unhide HW).setCell (p := ⟨g, i, none⟩) hg1 _⟩
        have h1 := own_set (unhide HR) i (.int .u8 y')
        have e1 : (byL (mkB c i ++ L.drop i)).set i (.int .u8 y') = byL (mkB c (i + 1) ++ L.drop (i + 1)) := by
          rw [← mkB_step c L i hil, unhide HY]
          simp [byL, List.map_set]
        rw [e1] at h1
        exact h1
      case measure => simp only [intOf]; omega
    · have i1 : ¬ (i : Int) < (N : Int) := by omega
      have iz : decide ((i : Int) < (N : Int)) = false := decide_eq_false i1
      have en : i = N := by omega
      subst en
      clear hr hw
      go_wp2_with fail
      go_ret
      refine ⟨rfl, ?_, unhide HW⟩
      have h1 := unhide HR
      rw [List.drop_eq_nil_of_le (by rw [unhide HL]; omega), List.append_nil] at h1
      exact h1
set_option maxHeartbeats 1000000 in
theorem by_held (u : Option Addr) (N cap B : Nat) (c : Int) (w : World) (hR : Rb w B (.slice u N cap) N (mkB c N)) (hn : N ≤ 1048576) (c0 : 0 ≤ c) (c1 : c ≤ 1000000) :
    Calls Try.prog 16 #[.slice u N cap, .int .i64 c] w fun e w' => e = .returned (.int .i64 (c + (N : Int))) ∧ Below w.heap.size w w' := by
  have HR := hide (fun W (hW : Below w.heap.size w W) => hR.bel hW)
  clear hR
  go_enter Try.func16, Try.ntmps16
  go_wp2
  go_loopw [1, 5] (fun s t W => ∃ i : Nat, s = .int .i64 (c + (i : Int)) ∧ t = .int .i64 (i : Int) ∧ i ≤ N ∧ Below w.heap.size w W) (fun _ s _ => N - (intOf s).toNat)
  case atStart => exact ⟨0, by simp, rfl, Nat.zero_le _, Below.refl _ _⟩
  case round =>
    obtain ⟨i, rfl, rfl, hi, hw⟩ := hrel
    have HW := hide hw
    have i0 : (0 : Int) ≤ (i : Int) := Int.natCast_nonneg _
    by_cases h : i < N
    · have i1 : (i : Int) < (N : Int) := by omega
      have iz : decide ((i : Int) < (N : Int)) = true := decide_eq_true i1
      obtain ⟨u', c', e, _, _, hf⟩ := own_form (unhide HR _ hw)
      cases e
      obtain ⟨g, rfl, hg1, hg2, hc⟩ := hf (by omega)
      have k0 := hc i _ (byL_at (mkB_at c h))
      obtain ⟨y', hy'⟩ : ∃ y', IntKind.u8.wrap (c + (i : Int)) = y' := ⟨_, rfl⟩
      rw [hy'] at k0
      have yy : (y' != y') = false := by simp
      clear hw hf hc
      go_wp2_with fail
      go_roundw
      case rel => exact ⟨i + 1, by simp only [Value.int.injEq, true_and]; omega, by simp, h, by repeat (first | exact unhide HW | refine bel_dn' ?_ _ | refine Below.drew ?_)⟩
      case measure => simp only [intOf]; omega
    · have i1 : ¬ (i : Int) < (N : Int) := by omega
      have iz : decide ((i : Int) < (N : Int)) = false := decide_eq_false i1
      have en : i = N := by omega
      subst en
      clear hw
      go_wp2_with fail
      go_ret
      exact ⟨rfl, unhide HW⟩
end Go.Proofs.Ytibcgimggcdllaa
