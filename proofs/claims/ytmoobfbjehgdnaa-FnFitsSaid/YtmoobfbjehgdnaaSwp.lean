/-
  Two stretches of a row of whole numbers exchanged, in place.
-/
import Derived.Test.YtmoobfbjehgdnaaItRows
import Derived.BigRegion
namespace Go.Proofs.Ytmoobfbjehgdnaa
open Go.ChangeShapes Go.WideShapes Go.ChangeAt Go.RowKit
set_option linter.unusedVariables false
set_option linter.unusedSimpArgs false

def at0 (L : List Int) (i : Nat) : Int := L.getD i 0
theorem at0_some {L : List Int} {i : Nat} (h : i < L.length) : L[i]? = some (at0 L i) := by
  unfold at0
  rw [List.getD_eq_getElem?_getD, List.getElem?_eq_getElem h]
  rfl
def swap1 (L : List Int) (i j : Nat) : List Int := (L.set i (at0 L j)).set j (at0 L i)
theorem swap1_len (L : List Int) (i j : Nat) : (swap1 L i j).length = L.length := by simp [swap1]
def swapR (L : List Int) (a b : Nat) : Nat → List Int
  | 0 => L
  | n + 1 => swap1 (swapR L a b n) (a + n) (b + n)
theorem swapR_len (L : List Int) (a b n : Nat) : (swapR L a b n).length = L.length := by
  induction n with
  | zero => rfl
  | succ n ih => rw [swapR, swap1_len, ih]
theorem but_dn {g : Nat} {a w : World} (h : But g a w) (n : Nat) : But g a (w.drewN n) := ⟨h.os, h.tape, h.output, h.size, h.block⟩

set_option maxHeartbeats 2000000 in
theorem swp_any (D m a b n : Nat) (f : Value) (L : List Int) (w : World) (hl : L.length = m) (hm : m ≤ 4096) (h1 : a + n ≤ b) (h2 : b + n ≤ m) (hb : iblk w D 3 L) :
    Calls Try.prog 70 #[.slice (some ⟨D, 0, none⟩) m m, .int .i64 (a : Int), .int .i64 (b : Int), .int .i64 (n : Int), f] w fun e w' => e = .returned (.tuple #[]) ∧ iblk w' D 3 (swapR L a b n) ∧ But D w w' := by
  have HI := hide hb
  have HL := hide hl
  clear hb hl
  go_enter Try.func70, Try.ntmps70
  go_wp2
  go_loopw [10] (fun z W => ∃ i : Nat, z = .int .i64 (i : Int) ∧ i ≤ n ∧ iblk W D 3 (swapR L a b i) ∧ But D w W) (fun z _ => n - (intOf z).toNat)
  case atStart => exact ⟨0, rfl, Nat.zero_le _, unhide HI, But.refl _ _⟩
  case round =>
    obtain ⟨i, rfl, hi, hk, hw⟩ := hrel
    by_cases h : i < n
    · have i1 : decide ((i : Int) < (n : Int)) = true := decide_eq_true (by omega)
      have hlen := swapR_len L a b i
      rw [unhide HL] at hlen
      have c1 := hk.cell (at0_some (L := swapR L a b i) (i := a + i) (by omega))
      have c2 := hk.cell (at0_some (L := swapR L a b i) (i := b + i) (by omega))
      have fz : ∀ o, wr.frozen? ⟨D, o, none⟩ = false := hk.frozen
      have hs : swapR L a b (i + 1) = ((swapR L a b i).set (a + i) (at0 (swapR L a b i) (b + i))).set (b + i) (at0 (swapR L a b i) (a + i)) := rfl
      have HS := hide hs
      have HK := hide hk
      have HW := hide hw
      generalize at0 (swapR L a b i) (a + i) = x at *
      generalize at0 (swapR L a b i) (b + i) = y at *
      have n1 : ((a : Int) + (i : Int)).toNat = a + i := by omega
      have n2 : ((b : Int) + (i : Int)).toNat = b + i := by omega
      have n3 : (0 : Int) ≤ (a : Int) + (i : Int) := by omega
      have n4 : (a : Int) + (i : Int) < (m : Int) := by omega
      have n5 : (0 : Int) ≤ (b : Int) + (i : Int) := by omega
      have n6 : (b : Int) + (i : Int) < (m : Int) := by omega
      have l1 : a + i < m := by omega
      have l2 : b + i < m := by omega
      have ne : a + i ≠ b + i := by omega
      clear hs hk hw hlen
      go_wp2_with fail
      go_region
      all_goals
        go_wp2_with fail
        go_roundw
        case rel =>
          refine ⟨i + 1, by simp, h, ?_, ?_⟩
          · rw [unhide HS]
            exact ((unhide HK).set (a + i) y).set (b + i) x
          · repeat (first | exact unhide HW | refine But.setCell ?_ _ _ | refine But.drew ?_ | refine but_dn ?_ _)
        case measure => simp only [intOf]; omega
    · have i1 : decide ((i : Int) < (n : Int)) = false := decide_eq_false (by omega)
      have en : i = n := by omega
      subst en
      have HK := hide hk
      have HW := hide hw
      clear hk hw
      go_wp2_with fail
      exact bodyPost_end (v := .tuple #[]) (by simp [results, Try.results70, go_sem]) rfl ⟨rfl, unhide HK, unhide HW⟩
end Go.Proofs.Ytmoobfbjehgdnaa
