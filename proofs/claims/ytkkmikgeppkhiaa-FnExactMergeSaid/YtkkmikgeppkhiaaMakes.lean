/-
  Rows of numbers that are made and filled.
-/
import Derived.Test.YtkkmikgeppkhiaaIRows
import Derived.Laws.MakeOwn
namespace Go.Proofs.Ytkkmikgeppkhiaa
open Go.ChangeShapes Go.WideShapes Go.ChangeAt Go.RowKit
set_option linter.unusedVariables false

/-- cells of whole numbers that are 0 -/
def zeros (m : Nat) : List Int := List.replicate m 0
theorem made_zeros (k m : Nat) (hk : 0 < k) : madeCells (Array.replicate k (.int .i64 0)) m = ((zeros m).map (Value.int .i64)).toArray := by
  apply Array.ext
  · simp [madeCells, zeros]
  · intro i h1 h2
    have hi : i < m := by simpa [madeCells] using h1
    have hm : i % k < k := Nat.mod_lt _ hk
    simp [madeCells, zeros, hm]
theorem make_ints {P : Program} (t e k bytes n : Nat) (ht : P.underlying t = some (.slice e)) (z : Value) (hz : z.cells = Array.replicate k (.int .i64 0)) (hk : 0 < k)
    (hi : (P.info? e).map (fun i => (i.zero, i.size, i.bytes)) = some (some z, k, bytes)) (hb : bytes * n ≤ 281474976710656) (hn : n ≤ 9223372036854775807) (W : World) :
    (Instr.makeSlice t (.int .i64 (n : Int)) (.int .i64 (n : Int))).run P W = .ok (.slice (some ⟨W.heap.size, 0, none⟩) n n) (W.alloc (.cells ((zeros (n * k)).map (Value.int .i64)).toArray e)) := by
  cases hx : P.info? e with
  | none => rw [hx] at hi; simp at hi
  | some i =>
    rw [hx] at hi
    simp only [Option.map_some, Option.some.injEq, Prod.mk.injEq] at hi
    obtain ⟨h0, h1, h2⟩ := hi
    have hb' : (i.bytes : Int) * (n : Int) ≤ 281474976710656 := by
      have h3 : ((bytes * n : Nat) : Int) ≤ 281474976710656 := by omega
      rw [h2]
      rwa [Int.natCast_mul] at h3
    have := run_make (P := P) W t e i z ht hx h0 .i64 .i64 n n (by omega) (by omega) hb' (by omega)
    rw [Int.toNat_natCast, h1, hz, made_zeros k _ hk] at this
    exact this
theorem iblk_new (W : World) (t : Nat) (L : List Int) : iblk (W.alloc (.cells (L.map (Value.int .i64)).toArray t)) W.heap.size t L := by
  show (W.heap.push _)[W.heap.size]? = _
  rw [Array.getElem?_push_size]
theorem fill_step (L : List Int) (m : Nat) (h : m < L.length) (x : Int) (hx : L[m]? = some x) : (L.take m ++ zeros (L.length - m)).set m x = L.take (m + 1) ++ zeros (L.length - (m + 1)) := by
  have hl : (L.take m).length = m := by simp; omega
  rw [List.set_append, if_neg (by omega), hl, Nat.sub_self, List.take_add_one, hx]
  have e : L.length - m = (L.length - (m + 1)) + 1 := by omega
  rw [e, zeros, List.replicate_succ]
  simp [zeros]
theorem fill_at (L : List Int) (m f : Nat) (h : m + f < L.length) : (L.take m ++ zeros (L.length - m))[m + f]? = some 0 := by
  have hl : (L.take m).length = m := by simp; omega
  rw [List.getElem?_append_right (by omega), hl, show m + f - m = f by omega, zeros, List.getElem?_replicate, if_pos (by omega)]
end Go.Proofs.Ytkkmikgeppkhiaa
