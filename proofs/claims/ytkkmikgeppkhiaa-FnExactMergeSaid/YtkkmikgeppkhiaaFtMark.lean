/-
  The laws' own marks on rows of features.
-/
import Derived.Test.YtkkmikgeppkhiaaCkM
import Derived.Test.YtkkmikgeppkhiaaMkText
namespace Go.Proofs.Ytkkmikgeppkhiaa
open Go.ChangeShapes Go.WideShapes Go.ChangeAt Go.RowKit
set_option linter.unusedVariables false
set_option linter.unusedSimpArgs false

/-- all that was there but one block is as it was -/
structure Mw (g : Nat) (w w' : World) : Prop where
  os : w'.os = w.os
  tape : w'.tape = w.tape
  output : w'.output = w.output
  size : w.heap.size ≤ w'.heap.size
  block : ∀ k, k < w.heap.size → k ≠ g → w'.heap[k]? = w.heap[k]?
theorem Mw.refl (g : Nat) (w : World) : Mw g w w := ⟨rfl, rfl, rfl, Nat.le_refl _, fun _ _ _ => rfl⟩
theorem Mw.bel {g : Nat} {a w w' : World} (h : Mw g a w) (hb : Below w.heap.size w w') : Mw g a w' :=
  ⟨hb.os.trans h.os, hb.tape.trans h.tape, hb.output.trans h.output, Nat.le_trans h.size hb.size, fun k hk hg => (hb.block k (Nat.lt_of_lt_of_le hk h.size)).trans (h.block k hk hg)⟩
theorem Mw.set {g : Nat} {a w : World} (h : Mw g a w) (o : Nat) (v : Value) : Mw g a (w.setCell ⟨g, o, none⟩ v) :=
  ⟨h.os, h.tape, h.output, by simpa [World.setCell] using h.size, fun k hk hg => (Below.heap_setCell _ _ _ _ hg).trans (h.block k hk hg)⟩
theorem Mw.below {g B : Nat} {w w' : World} (h : Mw g w w') (hB : B ≤ g) (hs : B ≤ w.heap.size) : Below B w w' :=
  ⟨h.os, h.tape, h.output, h.size, fun k hk => h.block k (by omega) (by omega)⟩
theorem cells15 {w : World} {p t n i : Nat} {L : List Value} (hv : vb w p t L) (hl : L.length = n * 15) (h : i < n) {j : Nat} (hj : j < 15) : ∃ v, w.cell? ⟨p, i * 15 + j, none⟩ = some v := by
  have hx : i * 15 + j < L.length := by rw [hl]; omega
  exact ⟨_, hv.cell (List.getElem?_eq_getElem hx)⟩
set_option maxRecDepth 100000 in
set_option maxHeartbeats 4000000 in
theorem ft_mark (u : Option Addr) (p n cu c : Nat) (L : List Value) (w : World) (hl : L.length = n * 15) (hn : n ≤ 1048576) (c0 : 0 < c) (c1 : c ≤ 40000000) (hu : u = some ⟨p, 0, none⟩) (hv : vb w p 57 L) :
    Calls Try.prog 12 #[.slice u n cu, .int .i64 (c : Int)] w fun e w' => e = .returned (.int .i64 ((c : Int) + 15 * (n : Int))) ∧ Mw p w w' := by
  subst hu
  have HV := hide hv
  have HL := hide hl
  clear hv hl
  go_enter Try.func12, Try.ntmps12
  go_wp2
  go_loopw [1, 5] (fun s t W => ∃ (i : Nat) (L : List Value), s = .int .i64 ((c : Int) + 15 * (i : Int)) ∧ t = .int .i64 (i : Int) ∧ i ≤ n ∧ L.length = n * 15 ∧ vb W p 57 L ∧ Mw p w W) (fun _ s _ => n - (intOf s).toNat)
  case atStart => exact ⟨0, L, by simp, rfl, Nat.zero_le _, unhide HL, unhide HV, Mw.refl _ _⟩
  case round =>
    clear HV HL L
    obtain ⟨i, L, rfl, rfl, hi, hl, hb, hw⟩ := hrel
    have HB := hide hb
    have HW := hide hw
    clear hb hw
    by_cases h : i < n
    · have i1 : (i : Int) < (n : Int) := by omega
      have i0 : (0 : Int) ≤ (i : Int) := Int.natCast_nonneg _
      have iz : decide ((i : Int) < (n : Int)) = true := decide_eq_true i1
      have K0 := hide (fun W => mkText_any (c + 15 * i) W (by omega) (by omega))
      have K1 := hide (fun W => mkText_any (c + 15 * i + 1) W (by omega) (by omega))
      have K2 := hide (fun W => mkText_any (c + 15 * i + 2) W (by omega) (by omega))
      rw [show (((c + 15 * i : Nat) : Int)) = (c : Int) + 15 * (i : Int) by omega] at K0
      rw [show (((c + 15 * i + 1 : Nat) : Int)) = (c : Int) + 15 * (i : Int) + 1 by omega] at K1
      rw [show (((c + 15 * i + 2 : Nat) : Int)) = (c : Int) + 15 * (i : Int) + 1 + 1 by omega] at K2
      generalize mkT (c + 15 * i) = s0 at *
      generalize mkT (c + 15 * i + 1) = s1 at *
      generalize mkT (c + 15 * i + 2) = s2 at *
      go_wp2_with fail
      refine (unhide K0 _).mono ?_
      rintro e W1 ⟨rfl, hb1⟩
      have pb1 := (unhide HB).bel hb1
      have HW1 := hide ((unhide HW).bel hb1)
      obtain ⟨v0, e0⟩ := cells15 pb1 hl h (j := 0) (by omega)
      rw [Nat.add_zero] at e0
      have fz1 : ∀ q, W1.frozen? ⟨p, q, none⟩ = false := pb1.frozen
      have P1 := hide (pb1.set (i * 15) (.string s0))
      clear hb1 pb1
      go_wp2_with fail
      refine (unhide K1 _).mono ?_
      rintro e W2 ⟨rfl, hb2⟩
      have pb2 := (unhide P1).bel hb2
      have HW2 := hide (((unhide HW1).set (i * 15) (.string s0)).bel hb2)
      obtain ⟨v1, e1⟩ := cells15 pb2 (n := n) (by rw [List.length_set]; exact hl) h (j := 1) (by omega)
      have fz2 : ∀ q, W2.frozen? ⟨p, q, none⟩ = false := pb2.frozen
      have P2 := hide (pb2.set (i * 15 + 1) (.string s1))
      clear hb2 pb2 e0 fz1
      go_wp2_with fail
      refine (unhide K2 _).mono ?_
      rintro e W3 ⟨rfl, hb3⟩
      have pb3 := (unhide P2).bel hb3
      have HW3 := hide (((unhide HW2).set (i * 15 + 1) (.string s1)).bel hb3)
      have hl3 : ((L.set (i * 15) (Value.string s0)).set (i * 15 + 1) (.string s1)).length = n * 15 := by rw [List.length_set, List.length_set]; exact hl
      obtain ⟨v2, e2⟩ := cells15 pb3 hl3 h (j := 2) (by omega)
      obtain ⟨v3, e3⟩ := cells15 pb3 hl3 h (j := 3) (by omega)
      obtain ⟨v4, e4⟩ := cells15 pb3 hl3 h (j := 4) (by omega)
      obtain ⟨v5, e5⟩ := cells15 pb3 hl3 h (j := 5) (by omega)
      obtain ⟨v6, e6⟩ := cells15 pb3 hl3 h (j := 6) (by omega)
      obtain ⟨v7, e7⟩ := cells15 pb3 hl3 h (j := 7) (by omega)
      obtain ⟨v8, e8⟩ := cells15 pb3 hl3 h (j := 8) (by omega)
      obtain ⟨v9, e9⟩ := cells15 pb3 hl3 h (j := 9) (by omega)
      obtain ⟨v10, e10⟩ := cells15 pb3 hl3 h (j := 10) (by omega)
      obtain ⟨v11, e11⟩ := cells15 pb3 hl3 h (j := 11) (by omega)
      obtain ⟨v12, e12⟩ := cells15 pb3 hl3 h (j := 12) (by omega)
      obtain ⟨v13, e13⟩ := cells15 pb3 hl3 h (j := 13) (by omega)
      obtain ⟨v14, e14⟩ := cells15 pb3 hl3 h (j := 14) (by omega)
      have fz3 : ∀ q, W3.frozen? ⟨p, q, none⟩ = false := pb3.frozen
      have P3 := hide pb3
      clear hb3 pb3 e1 fz2
      go_wp2_with fail
      go_roundw
      case rel =>
        refine ⟨i + 1, _, by simp only [Value.int.injEq, true_and]; omega, by simp, h, ?_, (((((((((((((unhide P3).set (i * 15 + 2) _).set (i * 15 + 3) _).set (i * 15 + 4) _).set (i * 15 + 5) _).set (i * 15 + 6) _).set (i * 15 + 7) _).set (i * 15 + 8) _).set (i * 15 + 9) _).set (i * 15 + 10) _).set (i * 15 + 11) _).set (i * 15 + 12) _).set (i * 15 + 13) _).set (i * 15 + 14) _, (((((((((((((unhide HW3).set _ _).set _ _).set _ _).set _ _).set _ _).set _ _).set _ _).set _ _).set _ _).set _ _).set _ _).set _ _).set _ _⟩
        simp only [List.length_set]
        exact hl
      case measure => simp only [intOf]; omega
    · have i1 : ¬ (i : Int) < (n : Int) := by omega
      have iz : decide ((i : Int) < (n : Int)) = false := decide_eq_false i1
      have en : i = n := by omega
      subst en
      go_wp2_with fail
      go_ret
      exact ⟨rfl, unhide HW⟩
end Go.Proofs.Ytkkmikgeppkhiaa
