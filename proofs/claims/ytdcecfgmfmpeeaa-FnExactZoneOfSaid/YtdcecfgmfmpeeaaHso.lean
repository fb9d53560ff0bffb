/-
  slices.SortFunc of points by comparePoints: a permutation, sorted.
-/
import Derived.Test.YtdcecfgmfmpeeaaHcw
import Derived.Test.YtdcecfgmfmpeeaaSrt
import Derived.Test.YtdcecfgmfmpeeaaOrder2
import Derived.Test.YtdcecfgmfmpeeaaPointsP
namespace Go.Proofs.Ytdcecfgmfmpeeaa
open Go.ChangeShapes Go.WideShapes Go.ChangeAt Go.RowKit
open Go.Sort (flatK HoldsK SWO PermIn SortedIn grow grow_grow alloc_eq_grow putRowK)
set_option linter.unusedVariables false
set_option linter.unusedSimpArgs false

theorem Row.put {w : World} {B t k g n cap : Nat} {L : List Int} (h : Row w B t k (.slice (some ⟨g, 0, none⟩) n cap) n L) (M : List Int) (hM : M.length = n * k) : Row (Sort.putRow id w g 0 (M.map (Value.int .i64)).toArray) B t k (.slice (some ⟨g, 0, none⟩) n cap) n M := by
  rcases h.2 with ⟨h1, _⟩ | ⟨g', cap', cur, hv, hB, hh, hn, hm, hs, ht⟩
  · cases h1
  · cases hv
    have hnk : n * k ≤ cur.size := by rw [hs]; exact Nat.mul_le_mul_right k hn
    refine ⟨by simpa using hM, .inr ⟨g, cap, Sort.putCells id 0 (M.map (Value.int .i64)).toArray cur, rfl, hB, ?_, hn, hm, by simp [Sort.putCells, hs], ?_⟩⟩
    · show (w.heap.modify g _)[g]? = _
      rw [Array.getElem?_modify, if_pos rfl, hh]
      rfl
    · apply List.ext_getElem?
      intro j
      rw [List.getElem?_take]
      by_cases hj : j < n * k
      · rw [if_pos hj, Array.getElem?_toList]
        have hc : cur[j]? = some cur[j] := Array.getElem?_eq_getElem (by omega)
        simp only [Sort.putCells, Array.getElem?_mapIdx, hc, Option.map_some, id]
        rw [if_pos ⟨Nat.zero_le _, by simp [hM]; omega⟩]
        rw [List.getElem?_map, List.getElem?_eq_getElem (by omega)]
        simp [hM, hj]
      · rw [if_neg hj, List.getElem?_eq_none (by simp [hM]; omega)]
theorem flatK_pts (L : List Pt) : flatK encPt 2 L.toArray = ((flat2 L).map (Value.int .i64)).toArray := by
  apply Array.ext
  · simp [flat2_len]
  · intro t h1 h2
    have ht : t < L.length * 2 := by simpa using h1
    have hi : t / 2 < L.length := by omega
    obtain ⟨p, hp⟩ : ∃ p, L[t / 2]? = some p := ⟨_, List.getElem?_eq_getElem hi⟩
    obtain ⟨f0, f1⟩ := flat2_at hp
    have ep : L.toArray[t / 2]! = p := by
      rw [getElem!_pos L.toArray (t / 2) (by simpa using hi)]
      rw [List.getElem?_eq_getElem hi] at hp
      simpa using hp
    simp only [flatK, Array.getElem_map, Array.getElem_range, List.getElem_toArray, List.getElem_map]
    rw [ep]
    rcases Nat.mod_two_eq_zero_or_one t with e | e
    · have et : t / 2 * 2 = t := by omega
      rw [et, List.getElem?_eq_getElem (by rw [flat2_len]; exact ht)] at f0
      rw [Option.some.inj f0, e]
      rfl
    · have et : t / 2 * 2 + 1 = t := by omega
      rw [et, List.getElem?_eq_getElem (by rw [flat2_len]; exact ht)] at f1
      rw [Option.some.inj f1, e]
      rfl
theorem Row.holds {w : World} {B g cap : Nat} {L : List Pt} (h : Row w B 30 2 (.slice (some ⟨g, 0, none⟩) L.length cap) L.length (flat2 L)) : HoldsK encPt 2 w g 0 L.toArray := by
  unfold HoldsK
  rw [flatK_pts]
  intro j hj
  have hj2 : j < (flat2 L).length := by simpa using hj
  obtain ⟨cur, hblk, _⟩ := h.blk2
  refine ⟨?_, by simp [World.frozen?, hblk]⟩
  rw [h.ints j _ (List.getElem?_eq_getElem hj2)]
  have e : ((flat2 L).map (Value.int .i64)).toArray[j]! = .int .i64 (flat2 L)[j] := by
    rw [getElem!_pos (((flat2 L).map (Value.int .i64)).toArray) j hj]
    simp
  rw [e]
  rfl
theorem cmpP_lt (x y : Pt) : ltOf cmpP x y = ltp x y := by
  unfold ltOf
  exact cmpP_neg x y
theorem cmpP_swo : SWO (ltOf cmpP) where
  irrefl x := by rw [cmpP_lt]; exact ltp_irrefl x
  trans x y z h1 h2 := by rw [cmpP_lt] at *; exact ltp_trans x y z h1 h2
  ntrans x y z h1 h2 := by rw [cmpP_lt] at *; exact ltp_ntrans x y z h1 h2
theorem cmp_lays (blk off size : Nat) (w : World) : CmpLays Try.prog 36 #[] encPt 2 cmpP blk off size w := by
  intro m os dk hs x y
  refine (cmp_ints x.1 x.2 y.1 y.2 _).mono ?_
  rintro e w' ⟨rfl, q, rfl⟩
  refine ⟨rfl, q, #[.cells #[.int .i64 x.1, .int .i64 x.2] 30] ++ #[.cells #[.int .i64 y.1, .int .i64 y.2] 30] ++ #[.cells #[.int .i64 (cmpI x.1 y.1), .int .i64 (cmpI x.2 y.2)] 3], ?_⟩
  rw [alloc_eq_grow, alloc_eq_grow, alloc_eq_grow, ← grow_grow, ← grow_grow]
  rfl
theorem enters54 : ∀ args w, (callFunc 36 args).run Try.prog w = .ok (.enter 36 args) w := enters_of Try.func36 (by kernel_rfl) rfl
theorem sortF_any (B g cap : Nat) (D : List Pt) (w : World) (hB : B ≤ w.heap.size) (hgB : B ≤ g) (hn : D.length ≤ 4096) (hrow : Row w B 30 2 (.slice (some ⟨g, 0, none⟩) D.length cap) D.length (flat2 D)) :
    Calls Try.prog 35 #[.slice (some ⟨g, 0, none⟩) D.length cap, .func (.func 36) #[] #[]] w fun e w' => e = .returned (.tuple #[]) ∧ ∃ M : List Pt, M.length = D.length ∧ (∀ q, q ∈ M ↔ q ∈ D) ∧ M.Pairwise (fun a b => ltp b a = false) ∧ Row w' B 30 2 (.slice (some ⟨g, 0, none⟩) D.length cap) D.length (flat2 M) ∧ Below B w w' := by
  obtain ⟨_, _, hvg, _, hg2, hc1, hc2⟩ := hrow.sm (by simp)
  cases hvg
  have hcon := AnyQ.slices_SortFunc Try.l35 2 Try.isAgg30 Try.sizeOf30 encPt (fun _ => rfl) (fun x v hv => by simp [encPt] at hv; rcases hv with rfl | rfl <;> rfl) cmpP cmpP_swo 36 #[] g 0 cap D.toArray w enters54 (cmp_lays g 0 _ w) hrow.holds hg2 (by simp; omega)
  change Calls Try.prog 35 _ _ _ at hcon
  rw [List.size_toArray] at hcon
  refine hcon.mono ?_
  rintro e w' ⟨rfl, d', n, os, hp, hs, rfl⟩
  have hsz : d'.size = D.length := by have := hp.1; simpa using this
  have hperm : d'.toList.Perm D := by
    have := hp.2.2
    rw [← hsz] at this
    simpa [Array.extract_eq_self_of_le, hsz] using this
  refine ⟨rfl, d'.toList, by simpa using hsz, fun q => hperm.mem_iff, ?_, ?_, ?_⟩
  · rw [List.pairwise_iff_getElem]
    intro i j hi hj hij
    have := hs i j (Nat.zero_le _) hij (by simpa [hsz] using hj)
    rw [cmpP_lt] at this
    rw [getElem!_pos _ _ (by simpa using hj), getElem!_pos _ _ (by simpa using hi)] at this
    simpa using this
  · have hf : flatK encPt 2 d' = ((flat2 d'.toList).map (Value.int .i64)).toArray := by have := flatK_pts d'.toList; simpa using this
    have h1 := (hrow.put (flat2 d'.toList) (by rw [flat2_len]; simp [hsz]))
    unfold sortWorldK putRowK
    rw [hf]
    refine (show Row (Sort.putRow id (Sort.ahead w n) g 0 ((flat2 d'.toList).map (Value.int .i64)).toArray) B 30 2 (.slice (some ⟨g, 0, none⟩) D.length cap) D.length (flat2 d'.toList) from h1).kept' (fun b hb => ?_)
    have hbl := (World.ownsRow.lt h1 b hb).2
    show (_ ++ os)[b]? = _
    rw [Array.getElem?_append_left (by exact hbl)]
  · refine ⟨rfl, rfl, rfl, ?_, fun i hi => ?_⟩
    · show w.heap.size ≤ (_ ++ os).size
      simp [putRowK, Sort.putRow, Sort.mapBlock, Sort.ahead]
    · show (((Sort.putRow id (Sort.ahead w n) g 0 (flatK encPt 2 d')).heap) ++ os)[i]? = _
      have hsz2 : (Sort.putRow id (Sort.ahead w n) g 0 (flatK encPt 2 d')).heap.size = w.heap.size := by simp [Sort.putRow, Sort.mapBlock, Sort.ahead]
      rw [Array.getElem?_append_left (by rw [hsz2]; omega)]
      show (w.heap.modify g _)[i]? = _
      rw [Array.getElem?_modify, if_neg (by omega)]
end Go.Proofs.Ytdcecfgmfmpeeaa
