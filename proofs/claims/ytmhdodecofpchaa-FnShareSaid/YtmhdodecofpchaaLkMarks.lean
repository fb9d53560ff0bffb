/-
  The laws' own marks on rows of links, and that they are held.
-/
import Derived.Test.YtmhdodecofpchaaMkText
namespace Go.Proofs.Ytmhdodecofpchaa
open Go.ChangeShapes Go.WideShapes Go.ChangeAt Go.RowKit
set_option linter.unusedVariables false
set_option linter.unusedSimpArgs false

/-- all that was there but one block is as it was -/
structure Mw (g : Nat) (w w' : World) : Prop where
  os : w'.os = w.os
  tape : w'.tape = w.tape
  output : w'.output = w.output
  size : w.heap.size ≤ w'.heap.size
  block : ∀ k, k < w.heap.size → k ≠ g → w'.heap[k]? = w.heap[k]?
theorem Mw.refl (g : Nat) (w : World) : Mw g w w := ⟨rfl, rfl, rfl, Nat.le_refl _, fun _ _ _ => rfl⟩
theorem Mw.bel {g : Nat} {a w w' : World} (h : Mw g a w) (hb : Below w.heap.size w w') : Mw g a w' :=
  ⟨hb.os.trans h.os, hb.tape.trans h.tape, hb.output.trans h.output, Nat.le_trans h.size hb.size, fun k hk hg => (hb.block k (Nat.lt_of_lt_of_le hk h.size)).trans (h.block k hk hg)⟩
theorem Mw.set {g : Nat} {a w : World} (h : Mw g a w) (o : Nat) (v : Value) : Mw g a (w.setCell ⟨g, o, none⟩ v) :=
  ⟨h.os, h.tape, h.output, by simpa [World.setCell] using h.size, fun k hk hg => (Below.heap_setCell _ _ _ _ hg).trans (h.block k hk hg)⟩
theorem Mw.below {g B : Nat} {w w' : World} (h : Mw g w w') (hB : B ≤ g) (hs : B ≤ w.heap.size) : Below B w w' :=
  ⟨h.os, h.tape, h.output, h.size, fun k hk => h.block k (by omega) (by omega)⟩
/-- the marked link i, and the first m marked links -/
def mkL (c i : Nat) : Lk := ⟨mkT (c + 5 * i), (c : Int) + 5 * (i : Int) + 1, (c : Int) + 5 * (i : Int) + 2, (c : Int) + 5 * (i : Int) + 3, (c : Int) + 5 * (i : Int) + 4⟩
def mkLs (c m : Nat) : List Lk := (List.range m).map (mkL c)
theorem mkLs_len (c m : Nat) : (mkLs c m).length = m := by simp [mkLs]
theorem mkLs_at (c m i : Nat) (h : i < m) : (mkLs c m)[i]? = some (mkL c i) := by simp [mkLs, h]
theorem mkLs_succ (c m : Nat) : mkLs c (m + 1) = mkLs c m ++ [mkL c m] := by simp [mkLs, List.range_succ]
def over (c : Nat) (ls : List Lk) (i : Nat) : List Lk := mkLs c i ++ ls.drop i
theorem over_len (c : Nat) (ls : List Lk) (i : Nat) (h : i ≤ ls.length) : (over c ls i).length = ls.length := by simp [over, mkLs_len]; omega
theorem over_at (c : Nat) (ls : List Lk) (i : Nat) (h : i < ls.length) : (over c ls i)[i]? = some ls[i] := by
  unfold over
  rw [List.getElem?_append_right (by rw [mkLs_len]; omega), mkLs_len, Nat.sub_self, List.drop_eq_getElem_cons h]
  rfl
theorem over_step (c : Nat) (ls : List Lk) (i : Nat) (h : i < ls.length) : (over c ls i).set i (mkL c i) = over c ls (i + 1) := by
  unfold over
  rw [mkLs_succ, List.append_assoc, List.set_append, if_neg (by rw [mkLs_len]; omega), mkLs_len, Nat.sub_self, List.drop_eq_getElem_cons h]
  rfl
theorem over_all (c : Nat) (ls : List Lk) : over c ls ls.length = mkLs c ls.length := by simp [over]

set_option maxHeartbeats 2000000 in
theorem lk_mark (u : Option Addr) (p n cu c : Nat) (ls : List Lk) (w : World) (hl : ls.length = n) (hn : n ≤ 1048576) (c0 : 0 < c) (c1 : c ≤ 1000000)
    (hu : n ≠ 0 → u = some ⟨p, 0, none⟩ ∧ vblk w p 29 (flat5 ls)) :
    Calls Try.prog 20 #[.slice u n cu, .int .i64 (c : Int)] w fun e w' => e = .returned (.int .i64 ((c : Int) + 5 * (n : Int))) ∧ (n ≠ 0 → vblk w' p 29 (flat5 (mkLs c n))) ∧ Mw p w w' := by
  have HU := hide hu
  have HL := hide hl
  clear hu hl
  go_enter Try.func20, Try.ntmps20
  go_wp2
  go_loopw [1, 5] (fun s t W => ∃ i : Nat, s = .int .i64 ((c : Int) + 5 * (i : Int)) ∧ t = .int .i64 (i : Int) ∧ i ≤ n ∧ (n ≠ 0 → vblk W p 29 (flat5 (over c ls i))) ∧ Mw p w W) (fun _ s _ => n - (intOf s).toNat)
  case atStart => exact ⟨0, by simp, rfl, Nat.zero_le _, fun hn => by simpa [over, mkLs] using (unhide HU hn).2, Mw.refl _ _⟩
  case round =>
    obtain ⟨i, rfl, rfl, hi, hb, hw⟩ := hrel
    have HB := hide hb
    have HW := hide hw
    clear hb hw
    by_cases h : i < n
    · have i1 : (i : Int) < (n : Int) := by omega
      have i0 : (0 : Int) ≤ (i : Int) := Int.natCast_nonneg _
      have iz : decide ((i : Int) < (n : Int)) = true := decide_eq_true i1
      obtain ⟨rfl, _⟩ := unhide HU (by omega)
      have HK := hide (fun W => mkText_any (c + 5 * i) W (by omega) (by omega))
      rw [show (((c + 5 * i : Nat) : Int)) = (c : Int) + 5 * (i : Int) by omega] at HK
      go_wp2_with fail
      refine (unhide HK _).mono ?_
      rintro e W1 ⟨rfl, hbb⟩
      have pb := (unhide HB (by omega)).bel hbb
      obtain ⟨f0, f1, f2, f3, f4⟩ := flat5_at (over_at c ls i (by rw [unhide HL]; exact h))
      have m0 := pb.cell f0
      have m1 := pb.cell f1
      have m2 := pb.cell f2
      have m3 := pb.cell f3
      have m4 := pb.cell f4
      have fz : ∀ o, W1.frozen? ⟨p, o, none⟩ = false := pb.frozen
      have PB := hide pb
      have HW1 := hide ((unhide HW).bel hbb)
      clear hbb pb f0 f1 f2 f3 f4
      have hmk : mkL c i = ⟨mkT (c + 5 * i), (c : Int) + 5 * (i : Int) + 1, (c : Int) + 5 * (i : Int) + 2, (c : Int) + 5 * (i : Int) + 3, (c : Int) + 5 * (i : Int) + 4⟩ := rfl
      have HMK := hide hmk
      clear hmk
      generalize mkT (c + 5 * i) = sT at *
      go_wp2_with fail
      go_roundw
      case rel =>
        refine ⟨i + 1, by simp only [Value.int.injEq, true_and]; omega, by simp, h, fun _ => ?_, ?_⟩
        · have hlt : i < ls.length := by rw [unhide HL]; exact h
          rw [← over_step c ls i hlt, flat5_set _ _ _ (by rw [over_len c ls i (by omega)]; exact hlt), unhide HMK]
          exact (((((unhide PB).set (i * 5) _).set (i * 5 + 1) _).set (i * 5 + 2) _).set (i * 5 + 3) _).set (i * 5 + 4) _
        · exact (((((unhide HW1).set _ _).set _ _).set _ _).set _ _).set _ _
      case measure => simp only [intOf]; omega
    · have i1 : ¬ (i : Int) < (n : Int) := by omega
      have iz : decide ((i : Int) < (n : Int)) = false := decide_eq_false i1
      have en : i = n := by omega
      subst en
      go_wp2_with fail
      go_ret
      refine ⟨rfl, fun hn => ?_, unhide HW⟩
      have h1 := unhide HB hn
      rw [← unhide HL, over_all] at h1
      rw [unhide HL] at h1
      exact h1
end Go.Proofs.Ytmhdodecofpchaa
