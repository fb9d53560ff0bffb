/-
  The library's Clone and Delete at rows of numbers.
-/
import Derived.Test.YtchdmigeopmacaaCoreMath
import Derived.Test.YtchdmigeopmacaaKeeps
import Derived.Shelf.SlicesE.Delete
import Derived.Shelf.SlicesE.Clone
namespace Go.Proofs
open Go.Shelf
def Try.l49_ren : Go.Shelf.Ren := ⟨fun | 45 => 49 | n => n, fun | 22 => 28 | 23 => 3 | 3 => 3 | 0 => 0 | 4 => 4 | n => n, fun | n => n⟩
theorem Try.l49 : Go.Proofs.SlLaysE.n45 Try.prog Try.l49_ren := {
  mixed := by kernel_rfl
  f45 := ⟨Try.f49.name, by decide, Try.func49.trans (congrArg some (by kernel_rfl))⟩
  t0 := Try.underlying0
  a0 := Try.isAgg0
  z0 := Try.sizeOf0
  v0 := Try.zeroValue0
  t3 := Try.underlying3
  a3 := Try.isAgg3
  z3 := Try.sizeOf3
  v3 := Try.zeroValue3
  t4 := Try.underlying4
  a4 := Try.isAgg4
  z4 := Try.sizeOf4
  v4 := Try.zeroValue4
  t22 := Try.underlying28
  a22 := Try.isAgg28
  z22 := Try.sizeOf28
  v22 := Try.zeroValue28
  a23 := Try.isAgg3
  z23 := Try.sizeOf3 }
def Try.l50_ren : Go.Shelf.Ren := ⟨fun | 41 => 50 | n => n, fun | 22 => 28 | 23 => 3 | 4 => 4 | n => n, fun | n => n⟩
theorem Try.l50 : Go.Proofs.SlLaysE0.n41 Try.prog Try.l50_ren := {
  mixed := by kernel_rfl
  f41 := ⟨Try.f50.name, by decide, Try.func50.trans (congrArg some (by kernel_rfl))⟩
  t4 := Try.underlying4
  a4 := Try.isAgg4
  z4 := Try.sizeOf4
  v4 := Try.zeroValue4
  t22 := Try.underlying28
  a22 := Try.isAgg28
  z22 := Try.sizeOf28
  v22 := Try.zeroValue28 }
end Go.Proofs
namespace Go.Proofs.Ytchdmigeopmacaa
open Go.ChangeShapes Go.WideShapes Go.ChangeAt Go.RowKit
set_option linter.unusedVariables false
set_option linter.unusedSimpArgs false

def encI (x : Int) : Value := .int .i64 x
theorem del_any (B g n cap k : Nat) (ks : List Nat) (w : World) (hk : k < n) (HNL : ks.length = n) (h : Row w B 3 1 (.slice (some ⟨g, 0, none⟩) n cap) n (nats ks)) :
    Calls Try.prog 49 #[.slice (some ⟨g, 0, none⟩) n cap, .int .i64 (k : Int), .int .i64 ((k : Int) + 1)] w fun e w' => e = .returned (.slice (some ⟨g, 0, none⟩) (n - 1) cap) ∧ Row w' B 3 1 (.slice (some ⟨g, 0, none⟩) (n - 1) cap) (n - 1) (nats (ks.eraseIdx k)) ∧ But g w w' := by
  obtain ⟨i0, hi, hz0, hz1, hz2⟩ := info_parts info3k
  obtain ⟨hl, h2⟩ := h
  rcases h2 with ⟨h3, h4⟩ | ⟨g', cap', cur, hv, hB, hh, hnc, hcm, hcs, hct⟩
  · omega
  cases hv
  have hd : (nats ks).toArray.size = n := by simp [nats_len, HNL]
  have hcell : ∀ j, j < n → cur[j]? = some (encI (nats ks).toArray[j]!) := by
    intro j hj
    have h1 : (cur.toList.take (n * 1))[j]? = some (encI (nats ks).toArray[j]!) := by
      rw [hct, List.getElem?_map, List.getElem?_eq_getElem (by rw [nats_len, HNL]; exact hj)]
      simp only [Option.map_some, encI, Option.some.injEq, Value.int.injEq, true_and]
      rw [getElem!_pos _ j (by rw [hd]; exact hj)]
      rfl
    rw [List.getElem?_take, if_pos (by omega)] at h1
    simpa using h1
  have hH : Sort.Holds encI w g 0 (nats ks).toArray := by
    intro j hj
    rw [hd] at hj
    refine ⟨?_, ?_⟩
    · simp only [World.cell?]
      rw [hh]
      rw [Nat.zero_add]
      simpa using hcell j hj
    · simp only [World.frozen?]
      rw [hh]
      simp
  have hc := AnyE.slices_Delete Try.l49 encI (fun x => rfl) 0 Try.zeroValue3 i0 hi hz1 g 0 cap k (k + 1) (nats ks).toArray w hH (by rw [hd]; exact hnc) (by unfold maxLen at hcm; omega) (by omega) (by rw [hd]; omega)
  rw [hd] at hc
  refine Calls.mono hc ?_
  rintro e w' ⟨rfl, q, rfl⟩
  have hsz : ((nats ks).toArray.toList.take k ++ (nats ks).toArray.toList.drop (k + 1) ++ List.replicate (k + 1 - k) (0 : Int)).length = n := by simp [nats_len, HNL]; omega
  have hen : nats (ks.eraseIdx k) = (nats ks).take k ++ (nats ks).drop (k + 1) := nats_erase ks k
  have hel : (nats (ks.eraseIdx k)).length = n - 1 := by rw [nats_len, erase_len HNL hk]
  refine ⟨by rw [show k + 1 - k = 1 by omega], ⟨by simp [hel], .inr ⟨g, cap, Sort.putCells encI 0 ((nats ks).toArray.toList.take k ++ (nats ks).toArray.toList.drop (k + 1) ++ List.replicate (k + 1 - k) (0 : Int)).toArray cur, rfl, hB, ?_, by omega, hcm, ?_, ?_⟩⟩, ?_⟩
  · show (w.heap.modify g _)[g]? = _
    rw [Array.getElem?_modify, if_pos rfl, hh]
    rfl
  · simp [Sort.putCells, hcs]
  · apply List.ext_getElem?
    intro j
    rw [List.getElem?_take]
    by_cases hj : j < (n - 1) * 1
    · rw [if_pos hj]
      have hjn : j < n := by omega
      have hj2 : j < (nats (ks.eraseIdx k)).length := by rw [hel]; omega
      have e1 : cur[j]? = some (encI (nats ks).toArray[j]!) := hcell j hjn
      have e2 : (Sort.putCells encI 0 ((nats ks).toArray.toList.take k ++ (nats ks).toArray.toList.drop (k + 1) ++ List.replicate (k + 1 - k) (0 : Int)).toArray cur)[j]? = some (encI ((nats ks).take k ++ (nats ks).drop (k + 1) ++ List.replicate (k + 1 - k) (0 : Int)).toArray[j]!) := by
        simp only [Sort.putCells, Array.getElem?_mapIdx, e1, Option.map_some]
        rw [if_pos ⟨Nat.zero_le _, by rw [List.size_toArray, hsz]; omega⟩]
        rfl
      rw [Array.getElem?_toList, e2, List.getElem?_map, List.getElem?_eq_getElem hj2]
      simp only [Option.map_some, encI, Option.some.injEq, Value.int.injEq, true_and]
      rw [getElem!_pos _ j (by simp only [List.size_toArray]; have := hsz; simp only [List.toList_toArray] at this; omega)]
      simp only [List.getElem_toArray]
      have e3 : ((nats ks).take k ++ (nats ks).drop (k + 1) ++ List.replicate (k + 1 - k) (0 : Int))[j]? = (nats (ks.eraseIdx k))[j]? := by
        rw [← hen, List.getElem?_append_left hj2]
      rw [List.getElem?_eq_getElem (by have := hsz; simp only [List.toList_toArray] at this; omega), List.getElem?_eq_getElem hj2] at e3
      exact Option.some.inj e3
    · rw [if_neg hj]
      rw [List.getElem?_eq_none]
      simp only [List.length_map, hel]
      omega
  · exact ⟨rfl, rfl, rfl, by simp [Sort.putRow, Sort.mapBlock, Sort.ahead], fun i hi => by
      show (w.heap.modify g _)[i]? = _
      rw [Array.getElem?_modify, if_neg (Ne.symm hi)]⟩

theorem clone_any (g n cap : Nat) (L : List Int) (w : World) (hn : n ≤ 60) (HL : L.length = n) (HI : IntsAt w g 0 L) :
    Calls Try.prog 50 #[.slice (some ⟨g, 0, none⟩) n cap] w fun e w' => ∃ v, e = .returned v ∧ Row w' w.heap.size 3 1 v n L ∧ v ≠ .slice none 0 0 ∧ Below w.heap.size w w' := by
  obtain ⟨i0, hi, hz0, hz1, hz2⟩ := info_parts info3k
  have h := AnyE.slices_Clone Try.l50 i0 (.int .i64 0) 1 8 hi hz0 hz1 hz2 rfl (by omega) Try.sizeOf3 g 0 n cap (L.map (Value.int .i64)) w (by simp [HL]) (by unfold maxLen; omega) (by omega)
    (fun j u hj => by
      rw [List.getElem?_map] at hj
      obtain ⟨x, hx, rfl⟩ := Option.map_eq_some_iff.1 hj
      exact HI j x hx) ints_one
  exact h
end Go.Proofs.Ytchdmigeopmacaa
