/-
  The model's order of features.
-/
import Derived.Test.YtkkmikgeppkhiaaCkM
namespace Go.Proofs.Ytkkmikgeppkhiaa
open Go.ChangeShapes Go.WideShapes Go.ChangeAt Go.RowKit
set_option linter.unusedVariables false
set_option linter.unusedSimpArgs false

structure Fine (fs : List Ft) : Prop where
  len : fs.length ≤ 30
  right : ∀ f ∈ fs, ftr f = true
  names : ∀ f ∈ fs, wrg fs f = none
  once : twi fs = none
  all : (ord (nms fs)).length = fs.length
  one : Oneful (nms fs)
theorem nms_len (fs : List Ft) : (nms fs).length = fs.length := by simp [nms]
theorem Chk.zero {fs : List Ft} {ab : List ByteArray} (h : Chk fs 0 ab) : Fine fs ∧ ab = [] := by
  unfold Chk at h
  split at h
  · cases h.1
  rename_i e1
  split at h
  · cases h.1
  rename_i e2
  split at h
  · cases h.1
  rename_i e3
  split at h
  · cases h.1
  rename_i e4
  split at h
  · cases h.1
  rename_i e5
  obtain ⟨b, hb, rfl, hc⟩ := h
  have hb0 : b = [] := by
    by_cases e : b = []
    · exact e
    · rw [if_neg e] at hc; cases hc
  have hr : ∀ f ∈ fs, ftr f = true := fun f hf => by simpa using find_not e3 hf
  have hw : ∀ f ∈ fs, wrg fs f = none := fun f hf => by simpa using find_not e5 hf
  have ho := nms_one hr hw
  refine ⟨⟨by omega, hr, hw, e4, ?_, ho⟩, by rw [hb0]; rfl⟩
  have := (ord_all ho (by rw [nms_len]; exact hb)).1 hb0
  rw [nms_len] at this
  exact this
def nmOf (fs : List Ft) (i : Nat) : ByteArray := (fs.getD i ft0).nm
/-- the names in the order in which features are done -/
def odN (fs : List Ft) (c : Int) : List ByteArray := if c = 0 then (ord (nms fs)).map (nmOf fs) else []
theorem strs_take {fs : List Ft} {l : List Nat} {j y : Nat} (h : l[j]? = some y) : strs ((l.take (j + 1)).map (nmOf fs)) = strs ((l.take j).map (nmOf fs)) ++ strs [nmOf fs y] := by
  rw [List.take_add_one, h]
  simp [strs]
end Go.Proofs.Ytkkmikgeppkhiaa
