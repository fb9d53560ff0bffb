/-
  What the laws ask of rows of whole numbers: that two are the same, that one is written over, that it is held.
-/
import Derived.Test.YtjhldjojkaphkaaOwn
namespace Go.Proofs.Ytjhldjojkaphkaa
open Go.ChangeShapes Go.WideShapes Go.ChangeAt Go.RowKit
set_option linter.unusedVariables false
set_option linter.unusedSimpArgs false

theorem get_some {α : Type} {ls : List α} {i n : Nat} (hl : ls.length = n) (h : i < n) : ∃ l, ls[i]? = some l := ⟨ls[i]'(by omega), List.getElem?_eq_getElem _⟩
theorem bel_dn' {B : Nat} {a w : World} (h : Below B a w) (n : Nat) : Below B a (w.drewN n) := h.trans ⟨rfl, rfl, rfl, Nat.le_refl _, fun _ _ => rfl⟩
/-- where a row of whole numbers lies -/
def Its (w : World) (u : Option Addr) (p po : Nat) (L : List Int) : Prop := L ≠ [] → u = some ⟨p, po, none⟩ ∧ p < w.heap.size ∧ IntsAt w p po L
theorem Its.bel {w w' : World} {u : Option Addr} {p po : Nat} {L : List Int} (h : Its w u p po L) (hb : Below w.heap.size w w') : Its w' u p po L :=
  fun h0 => ⟨(h h0).1, Nat.lt_of_lt_of_le (h h0).2.1 hb.size, (h h0).2.2.below hb (h h0).2.1⟩
theorem Its.at {w : World} {u : Option Addr} {p po : Nat} {L : List Int} (h : Its w u p po L) {i : Nat} {x : Int} (hx : L[i]? = some x) : u = some ⟨p, po, none⟩ ∧ p < w.heap.size ∧ w.cell? ⟨p, po + i, none⟩ = some (.int .i64 x) := by
  obtain ⟨h1, h2, h3⟩ := h (by intro e; subst e; cases hx)
  exact ⟨h1, h2, h3 i x hx⟩
theorem Its.but {w w' : World} {u : Option Addr} {g p po : Nat} {L : List Int} (h : Its w u p po L) (hb : But g w w') (hg : L ≠ [] → p ≠ g) : Its w' u p po L :=
  fun h0 => ⟨(h h0).1, Nat.lt_of_lt_of_le (h h0).2.1 (Nat.le_of_eq hb.size), fun j x hj => cell_but hb (hg h0) ((h h0).2.2 j x hj)⟩

set_option maxHeartbeats 1000000 in
theorem it_same (u v : Option Addr) (p po q qo n cu cv : Nat) (L : List Int) (w : World) (hl : L.length = n) (hn : n ≤ 1048576)
    (hu : Its w u p po L) (hv : Its w v q qo L) :
    Calls Try.prog 61 #[.slice u n cu, .slice v n cv] w fun e w' => e = .returned (.bool true) ∧ Below w.heap.size w w' := by
  have HU := hide hu
  have HV := hide hv
  have HL := hide hl
  clear hu hv hl
  go_enter Try.func61, Try.ntmps61
  go_wp2
  go_loopw [5] (fun s W => ∃ i : Nat, s = .int .i64 (i : Int) ∧ i ≤ n ∧ Below w.heap.size w W) (fun s _ => n - (intOf s).toNat)
  case atStart => exact ⟨0, rfl, Nat.zero_le _, Below.refl _ _⟩
  case round =>
    obtain ⟨i, rfl, hi, hw⟩ := hrel
    have HW := hide hw
    clear hw
    by_cases h : i < n
    · have i1 : (i : Int) < (n : Int) := by omega
      have i0 : (0 : Int) ≤ (i : Int) := Int.natCast_nonneg _
      have iz : decide ((i : Int) < (n : Int)) = true := decide_eq_true i1
      obtain ⟨x, hx⟩ := get_some (unhide HL) h
      obtain ⟨rfl, pw, k0⟩ := ((unhide HU).bel (unhide HW)).at hx
      obtain ⟨rfl, qw, l0⟩ := ((unhide HV).bel (unhide HW)).at hx
      have xx : (x != x) = false := by simp
      clear pw qw hx
      go_wp2_with fail
      go_quiet (fail)
      go_wp2_with fail
      go_roundw
      case rel => exact ⟨i + 1, by simp, h, by repeat (first | exact unhide HW | refine bel_dn' ?_ _ | refine Below.drew ?_)⟩
      case measure => simp only [intOf]; omega
    · have i1 : ¬ (i : Int) < (n : Int) := by omega
      have iz : decide ((i : Int) < (n : Int)) = false := decide_eq_false i1
      go_wp2_with fail
      go_ret
      exact ⟨rfl, unhide HW⟩

set_option maxHeartbeats 1000000 in
theorem it_mark (u : Option Addr) (p n cu : Nat) (L : List Int) (c : Int) (w : World) (hl : L.length = n) (hn : n ≤ 1048576) (c0 : 0 ≤ c) (c1 : c ≤ 1000000)
    (hu : n ≠ 0 → u = some ⟨p, 0, none⟩ ∧ iblk w p 3 L) :
    Calls Try.prog 62 #[.slice u n cu, .int .i64 c] w fun e w' => e = .returned (.int .i64 (c + (n : Int))) ∧ (n ≠ 0 → iblk w' p 3 (marks c n)) ∧ (n = 0 → w' = w) ∧ But p w w' := by
  have HU := hide hu
  have HL := hide hl
  clear hu hl
  go_enter Try.func62, Try.ntmps62
  go_wp2
  go_loopw [1, 5] (fun s t W => ∃ i : Nat, s = .int .i64 (c + (i : Int)) ∧ t = .int .i64 (i : Int) ∧ i ≤ n ∧ (n ≠ 0 → iblk W p 3 (marks c i ++ L.drop i)) ∧ (n = 0 → W = w) ∧ But p w W) (fun _ s _ => n - (intOf s).toNat)
  case atStart => exact ⟨0, by simp, rfl, Nat.zero_le _, fun hn => by simpa [marks] using (unhide HU hn).2, fun _ => rfl, But.refl _ _⟩
  case round =>
    obtain ⟨i, rfl, rfl, hi, hb, hz, hw⟩ := hrel
    have HB := hide hb
    have HW := hide hw
    have HZ := hide hz
    clear hb hw hz
    by_cases h : i < n
    · have i1 : (i : Int) < (n : Int) := by omega
      have i0 : (0 : Int) ≤ (i : Int) := Int.natCast_nonneg _
      have iz : decide ((i : Int) < (n : Int)) = true := decide_eq_true i1
      obtain ⟨rfl, _⟩ := unhide HU (by omega)
      have pb := unhide HB (by omega)
      have j0 : i + 0 < L.length := by rw [unhide HL]; omega
      have k0 : wr.cell? ⟨p, i, none⟩ = some (.int .i64 (L[i + 0]'j0)) := pb.cell (marks_drop1 c L i 0 j0)
      generalize L[i + 0]'j0 = x0 at k0
      have fz : ∀ o, wr.frozen? ⟨p, o, none⟩ = false := pb.frozen
      have PB := hide pb
      have J0 := hide j0
      clear pb j0
      go_wp2_with fail
      go_roundw
      case rel =>
        refine ⟨i + 1, by simp only [Value.int.injEq, true_and]; omega, by simp, h, fun _ => ?_, fun e => by omega, ?_⟩
        · have h1 := (unhide PB).set i (c + (i : Int))
          rw [marks_step c L i (unhide J0) _ (by omega)] at h1
          exact h1
        · exact (unhide HW).setCell _ _
      case measure => simp only [intOf]; omega
    · have i1 : ¬ (i : Int) < (n : Int) := by omega
      have iz : decide ((i : Int) < (n : Int)) = false := decide_eq_false i1
      have en : i = n := by omega
      subst en
      go_wp2_with fail
      go_ret
      refine ⟨rfl, fun hn => ?_, unhide HZ, unhide HW⟩
      have h1 := unhide HB hn
      rw [List.drop_eq_nil_of_le (by rw [unhide HL]; omega), List.append_nil] at h1
      exact h1
end Go.Proofs.Ytjhldjojkaphkaa
