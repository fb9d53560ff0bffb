/-
  Files as lists of bytes: records, their bodies, the head and the end.
-/
import Derived.Test.YtibcgimggcdllaaFtMath
import Derived.Test.YtibcgimggcdllaaByRows
namespace Go.Proofs.Ytibcgimggcdllaa
set_option linter.unusedVariables false
set_option linter.unusedSimpArgs false

/-- a text's bytes -/
def strL (s : ByteArray) : List Int := s.data.toList.map fun b => (b.toNat : Int)
theorem strL_len (s : ByteArray) : (strL s).length = s.size := by
  unfold strL
  rw [List.length_map, Array.length_toList]
  rfl
theorem strL_byt (s : ByteArray) : Byt (strL s) := by
  intro x hx
  unfold strL at hx
  obtain ⟨b, _, rfl⟩ := List.mem_map.1 hx
  have := b.toNat_lt
  omega
theorem strL_app (s t : ByteArray) : strL (s ++ t) = strL s ++ strL t := by
  unfold strL
  rw [ByteArray.data_append]
  simp
/-- a feature's twelve numbers, as they are written -/
def numL (f : Ft) : List Int := [f.kd, f.sd, f.ct, f.x0 + 100, f.y0 + 100, f.z0 + 100, f.x1 + 100, f.y1 + 100, f.z1 + 100, f.dx + 100, f.dy + 100, f.dz + 100]
def lenL (f : Ft) : List Int := [(f.nm.size : Int), (f.on.size : Int), (f.ov.size : Int)]
def bodL (f : Ft) : List Int := numL f ++ lenL f ++ (strL f.nm ++ strL f.on ++ strL f.ov)
def two (n : Int) : List Int := [n / 256, n % 256]
def recL (f : Ft) : List Int := [82] ++ two (bodL f).length ++ bodL f ++ [(sumS (bodL f)).2, (sumS (bodL f)).1]
def headL : List Int := [80, 65, 82, 84, 1]
def recs (fs : List Ft) : List Int := fs.flatMap recL
def fileL (fs : List Ft) : List Int := headL ++ recs fs ++ ([69] ++ two fs.length)
theorem recs_take {fs : List Ft} {i : Nat} {f : Ft} (h : fs[i]? = some f) : recs (fs.take (i + 1)) = recs (fs.take i) ++ recL f := by
  unfold recs
  rw [List.take_add_one, h]
  simp
/-- what is known of a right feature's numbers -/
structure Frs (f : Ft) : Prop where
  num : ∀ x ∈ numL f, 0 ≤ x ∧ x < 256
  n1 : f.nm.size ≤ 40
  n2 : f.on.size ≤ 40
  n3 : f.ov.size ≤ 40
  pl : -24 ≤ f.x0 ∧ f.x0 ≤ 24 ∧ -24 ≤ f.y0 ∧ f.y0 ≤ 24 ∧ -24 ≤ f.z0 ∧ f.z0 ≤ 24 ∧ -24 ≤ f.x1 ∧ f.x1 ≤ 24 ∧ -24 ≤ f.y1 ∧ f.y1 ≤ 24 ∧ -24 ≤ f.z1 ∧ f.z1 ≤ 24
  st : -24 ≤ f.dx ∧ f.dx ≤ 24 ∧ -24 ≤ f.dy ∧ f.dy ≤ 24 ∧ -24 ≤ f.dz ∧ f.dz ≤ 24
  ks : 0 ≤ f.kd ∧ f.kd ≤ 3 ∧ 0 ≤ f.sd ∧ f.sd ≤ 6 ∧ 0 ≤ f.ct ∧ f.ct ≤ 8
theorem name_sz {s : ByteArray} (h : (emp s || nameB s) = true) : s.size ≤ 40 := by
  rw [Bool.or_eq_true] at h
  rcases h with h | h
  · rw [emp_iff.1 h]; decide
  · unfold nameB at h
    rw [decide_eq_true_eq] at h
    exact h.2.1
theorem frs_of {f : Ft} (h : ftr f = true) : Frs f := by
  unfold ftr at h
  simp only [Bool.and_eq_true] at h
  obtain ⟨⟨⟨h1, h2⟩, h3⟩, h4⟩ := h
  have n1 : f.nm.size ≤ 40 := name_sz (by rw [h1]; simp)
  have n2 := name_sz h2
  have n3 := name_sz h3
  have key : (-24 ≤ f.x0 ∧ f.x0 ≤ 24 ∧ -24 ≤ f.y0 ∧ f.y0 ≤ 24 ∧ -24 ≤ f.z0 ∧ f.z0 ≤ 24 ∧ -24 ≤ f.x1 ∧ f.x1 ≤ 24 ∧ -24 ≤ f.y1 ∧ f.y1 ≤ 24 ∧ -24 ≤ f.z1 ∧ f.z1 ≤ 24) ∧ (-24 ≤ f.dx ∧ f.dx ≤ 24 ∧ -24 ≤ f.dy ∧ f.dy ≤ 24 ∧ -24 ≤ f.dz ∧ f.dz ≤ 24) ∧ (0 ≤ f.kd ∧ f.kd ≤ 3 ∧ 0 ≤ f.sd ∧ f.sd ≤ 6 ∧ 0 ≤ f.ct ∧ f.ct ≤ 8) := by
    split at h4
    · rename_i hk
      simp only [Bool.and_eq_true, loose, inG, decide_eq_true_eq] at h4
      have hs : 0 ≤ f.sd ∧ f.sd ≤ 6 := by
        have := h4.1.1.1
        split at this <;> rw [decide_eq_true_eq] at this <;> omega
      omega
    · split at h4
      · simp only [Bool.and_eq_true, inG, decide_eq_true_eq] at h4
        omega
      · cases h4
  refine ⟨?_, n1, n2, n3, key.1, key.2.1, key.2.2⟩
  intro x hx
  simp only [numL, List.mem_cons, List.not_mem_nil, or_false] at hx
  obtain ⟨k1, k2, k3⟩ := key
  rcases hx with rfl | rfl | rfl | rfl | rfl | rfl | rfl | rfl | rfl | rfl | rfl | rfl <;> omega
theorem Frs.len {f : Ft} (h : Frs f) : 15 ≤ (bodL f).length ∧ (bodL f).length ≤ 135 := by
  have := h.n1; have := h.n2; have := h.n3
  simp only [bodL, numL, lenL, List.length_append, strL_len, List.length_cons, List.length_nil]
  omega
theorem byt_app {A B : List Int} (h : Byt A) (k : Byt B) : Byt (A ++ B) := fun x hx => (List.mem_append.1 hx).elim (h x) (k x)
theorem Frs.byt {f : Ft} (h : Frs f) : Byt (bodL f) := by
  have := h.n1; have := h.n2; have := h.n3
  refine byt_app (byt_app h.num ?_) (byt_app (byt_app (strL_byt _) (strL_byt _)) (strL_byt _))
  intro x hx
  simp only [lenL, List.mem_cons, List.not_mem_nil, or_false] at hx
  rcases hx with rfl | rfl | rfl <;> omega
theorem recL_len {f : Ft} (h : Frs f) : (recL f).length ≤ 140 := by
  have := h.len
  simp only [recL, two, List.length_append, List.length_cons, List.length_nil]
  omega
theorem recs_len {fs : List Ft} (h : ∀ f ∈ fs, Frs f) : (recs fs).length ≤ 140 * fs.length := by
  induction fs with
  | nil => simp [recs]
  | cons f fs ih =>
    have h1 := recL_len (h f (by simp))
    have h2 := ih (fun g hg => h g (by simp [hg]))
    simp only [recs, List.flatMap_cons, List.length_append, List.length_cons] at h2 ⊢
    omega
theorem sumN_two (L : List Int) : two (sumN L) = [(sumS L).2, (sumS L).1] := by
  obtain ⟨⟨a, b⟩, c, d⟩ := sumS_ok L
  unfold two sumN
  rw [show (256 * (sumS L).2 + (sumS L).1) / 256 = (sumS L).2 by omega, show (256 * (sumS L).2 + (sumS L).1) % 256 = (sumS L).1 by omega]
end Go.Proofs.Ytibcgimggcdllaa
