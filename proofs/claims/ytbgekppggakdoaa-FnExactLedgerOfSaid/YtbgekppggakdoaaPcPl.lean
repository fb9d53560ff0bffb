/-
  How a plan is judged does not hang on where the jobs lie.
-/
import Derived.Test.YtbgekppggakdoaaHlI
namespace Go.Proofs.Ytbgekppggakdoaa
set_option linter.unusedVariables false
set_option linter.unusedSimpArgs false

theorem stOf_pl (J : List Jb) (p : Slt) : stOf (J.map pl) p = stOf J p := by
  unfold stOf
  rw [List.getElem?_map]
  split
  · rfl
  · cases J[p.jb.toNat]? <;> rfl
theorem sCd_pl (S L : Int) (J : List Jb) (h : Hl) (p : Slt) : sCd S L (J.map pl) h p = sCd S L J h p := by unfold sCd; rw [stOf_pl]
theorem sDo_pl (J : List Jb) : sDo (J.map pl) = sDo J := by funext h p; unfold sDo; rw [stOf_pl]
theorem hal_pl (N : Int) (J : List Jb) (P : List Slt) : hal N (J.map pl) P = hal N J P := by unfold hal h0; rw [sDo_pl, List.length_map]
theorem cAt_pl (N S L : Int) (J : List Jb) (P : List Slt) (i : Nat) : cAt N S L (J.map pl) P i = cAt N S L J P i := by
  unfold cAt
  cases P[i]? with
  | none => rfl
  | some p => simp only [sCd_pl, hal_pl]
theorem fstB_pl (N S L : Int) (J : List Jb) (P : List Slt) : fstB N S L (J.map pl) P = fstB N S L J P := by unfold fstB; simp only [cAt_pl]
theorem lft_pl (J : List Jb) (h : Hl) (q : Nat) : lft (J.map pl) h q = lft J h q := by
  unfold lft
  rw [List.getElem?_map]
  cases J[q]? <;> rfl
theorem anyL_pl (J : List Jb) (h : Hl) : anyL (J.map pl) h = anyL J h := by
  unfold anyL
  rw [List.length_map]
  congr 1
  funext q
  exact lft_pl J h q
theorem pcC_pl (N S L : Int) (J : List Jb) (P : List Slt) : pcC N S L (J.map pl) P = pcC N S L J P := by
  unfold pcC
  rw [shOk_pl, List.length_map, fstB_pl, hal_pl, anyL_pl]
  simp only [cAt_pl]
theorem pcN_pl (N S L : Int) (J : List Jb) (P : List Slt) : pcN N S L (J.map pl) P = pcN N S L J P := by
  unfold pcN
  rw [shOk_pl, List.length_map, fstB_pl, hal_pl, anyL_pl]
theorem Alike.pcC {J J' : List Jb} (h : Alike J J') (N S L : Int) (P : List Slt) : pcC N S L J' P = pcC N S L J P := by rw [← pcC_pl, ← pcC_pl N S L J, h]
theorem Alike.pcN {J J' : List Jb} (h : Alike J J') (N S L : Int) (P : List Slt) : pcN N S L J' P = pcN N S L J P := by rw [← pcN_pl, ← pcN_pl N S L J, h]
end Go.Proofs.Ytbgekppggakdoaa
