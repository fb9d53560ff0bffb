/-
  Rows of moves, as they lie in memory.
-/
import Derived.Test.YtbjljofgpbecbaaVb
import Derived.Test.YtbjljofgpbecbaaMakes
import Derived.Test.YtbjljofgpbecbaaOwnY
namespace Go.Proofs.Ytbjljofgpbecbaa
open Go.ChangeShapes Go.WideShapes Go.ChangeAt Go.RowKit
set_option linter.unusedVariables false
set_option linter.unusedSimpArgs false

/-- a move -/
structure Mve where
  f : Bool
  x : Int
  y : Int
  z : Int
def mvv (m : Mve) : Value := .agg #[.bool m.f, .int .i64 m.x, .int .i64 m.y, .int .i64 m.z]
def mv0 : Mve := ⟨false, 0, 0, 0⟩
def flat4 : List Mve → List Value
  | [] => []
  | m :: ms => .bool m.f :: .int .i64 m.x :: .int .i64 m.y :: .int .i64 m.z :: flat4 ms
theorem flat4_len (ms : List Mve) : (flat4 ms).length = ms.length * 4 := by
  induction ms with
  | nil => rfl
  | cons l ms ih => simp only [flat4, List.length_cons, ih]; omega
theorem flat4_append (a b : List Mve) : flat4 (a ++ b) = flat4 a ++ flat4 b := by
  induction a with
  | nil => rfl
  | cons l a ih => simp only [List.cons_append, flat4, ih]
theorem flat4_at {ms : List Mve} {i : Nat} {l : Mve} (h : ms[i]? = some l) :
    (flat4 ms)[i * 4]? = some (.bool l.f) ∧ (flat4 ms)[i * 4 + 1]? = some (.int .i64 l.x) ∧ (flat4 ms)[i * 4 + 2]? = some (.int .i64 l.y) ∧ (flat4 ms)[i * 4 + 3]? = some (.int .i64 l.z) := by
  induction ms generalizing i with
  | nil => cases h
  | cons x ms ih =>
    cases i with
    | zero =>
      simp only [List.getElem?_cons_zero, Option.some.injEq] at h
      subst h
      exact ⟨rfl, rfl, rfl, rfl⟩
    | succ i =>
      have := ih (i := i) (by simpa using h)
      rw [show (i + 1) * 4 = i * 4 + 4 by omega]
      exact this
theorem flat4_set (ms : List Mve) (i : Nat) (l : Mve) (h : i < ms.length) :
    flat4 (ms.set i l) = ((((flat4 ms).set (i * 4) (.bool l.f)).set (i * 4 + 1) (.int .i64 l.x)).set (i * 4 + 2) (.int .i64 l.y)).set (i * 4 + 3) (.int .i64 l.z) := by
  induction ms generalizing i with
  | nil => simp at h
  | cons x ms ih =>
    cases i with
    | zero => rfl
    | succ i =>
      have e := ih i (by simpa using h)
      rw [show (i + 1) * 4 = i * 4 + 4 by omega]
      simp only [List.set_cons_succ, flat4, e]
/-- the moves lie in the cells from off on -/
def MvAt (w : World) (b off : Nat) (ms : List Mve) : Prop := ∀ (i : Nat) (l : Mve), ms[i]? = some l →
  w.cell? ⟨b, off + i * 4, none⟩ = some (.bool l.f) ∧ w.cell? ⟨b, off + i * 4 + 1, none⟩ = some (.int .i64 l.x) ∧ w.cell? ⟨b, off + i * 4 + 2, none⟩ = some (.int .i64 l.y) ∧ w.cell? ⟨b, off + i * 4 + 3, none⟩ = some (.int .i64 l.z)
theorem MvAt.blk {w w' : World} {b off : Nat} {ms : List Mve} (h : MvAt w b off ms) (hb : w'.heap[b]? = w.heap[b]?) : MvAt w' b off ms := by
  intro i l hi
  obtain ⟨h0, h1, h2, h3⟩ := h i l hi
  exact ⟨(World.cell?_of_block (w := w) (a := ⟨b, _, none⟩) hb).trans h0, (World.cell?_of_block (w := w) (a := ⟨b, _, none⟩) hb).trans h1, (World.cell?_of_block (w := w) (a := ⟨b, _, none⟩) hb).trans h2, (World.cell?_of_block (w := w) (a := ⟨b, _, none⟩) hb).trans h3⟩
theorem MvAt.below {B : Nat} {w w' : World} {b off : Nat} {ms : List Mve} (h : MvAt w b off ms) (hb : Below B w w') (hB : b < B) : MvAt w' b off ms := h.blk (hb.block b hB)
theorem vb.moves {w : World} {g t : Nat} {ms : List Mve} (h : vb w g t (flat4 ms)) : MvAt w g 0 ms := by
  intro i l hi
  obtain ⟨h0, h1, h2, h3⟩ := flat4_at hi
  simp only [Nat.zero_add]
  exact ⟨h.cell h0, h.cell h1, h.cell h2, h.cell h3⟩
/-- a slice of moves that came in -/
def Mvs (w : World) (u : Option Addr) (p po : Nat) (ms : List Mve) : Prop := ms ≠ [] → u = some ⟨p, po, none⟩ ∧ p < w.heap.size ∧ MvAt w p po ms
theorem Mvs.bel {w w' : World} {u : Option Addr} {p po : Nat} {ms : List Mve} (h : Mvs w u p po ms) (hb : Below w.heap.size w w') : Mvs w' u p po ms :=
  fun h0 => ⟨(h h0).1, Nat.lt_of_lt_of_le (h h0).2.1 hb.size, (h h0).2.2.below hb (h h0).2.1⟩
theorem Mvs.drew {w : World} {u : Option Addr} {p po : Nat} {ms : List Mve} (h : Mvs w u p po ms) : Mvs w.drew u p po ms := h
theorem vb.mvs {w : World} {g t : Nat} {ms : List Mve} (h : vb w g t (flat4 ms)) : Mvs w (some ⟨g, 0, none⟩) g 0 ms := fun _ => ⟨rfl, h.lt, h.moves⟩
theorem Mvs.at {w : World} {u : Option Addr} {p po : Nat} {ms : List Mve} (h : Mvs w u p po ms) {i : Nat} {l : Mve} (hi : ms[i]? = some l) : u = some ⟨p, po, none⟩ ∧ p < w.heap.size ∧
    w.cell? ⟨p, po + i * 4, none⟩ = some (.bool l.f) ∧ w.cell? ⟨p, po + i * 4 + 1, none⟩ = some (.int .i64 l.x) ∧ w.cell? ⟨p, po + i * 4 + 2, none⟩ = some (.int .i64 l.y) ∧ w.cell? ⟨p, po + i * 4 + 3, none⟩ = some (.int .i64 l.z) := by
  obtain ⟨h1, h2, h3⟩ := h (by intro e; subst e; cases hi)
  exact ⟨h1, h2, h3 i l hi⟩

/-- a made row of moves -/
theorem made_moves (m : Nat) : madeCells (mvv mv0).cells (m * 4) = (flat4 (List.replicate m mv0)).toArray := by
  apply Array.ext
  · simp [madeCells, flat4_len]
  · intro i h1 h2
    have hi : i < m * 4 := by simpa [madeCells] using h1
    have hd : i / 4 < m := by omega
    have hr : (List.replicate m mv0)[i / 4]? = some mv0 := by simp [List.getElem?_replicate, hd]
    obtain ⟨f0, f1, f2, f3⟩ := flat4_at hr
    have hx : (flat4 (List.replicate m mv0))[i]? = some (flat4 (List.replicate m mv0))[i] := List.getElem?_eq_getElem _
    have hc : (mvv mv0).cells = #[.bool false, .int .i64 0, .int .i64 0, .int .i64 0] := rfl
    have h5 : i % 4 = 0 ∨ i % 4 = 1 ∨ i % 4 = 2 ∨ i % 4 = 3 := by omega
    simp only [madeCells, Array.getElem_map, Array.getElem_range, hc, List.getElem_toArray]
    show (#[Value.bool false, .int .i64 0, .int .i64 0, .int .i64 0] : Array Value)[i % 4]! = _
    rcases h5 with e | e | e | e <;> rw [e]
    · rw [show i / 4 * 4 = i by omega, hx] at f0; exact (Option.some.inj f0).symm
    · rw [show i / 4 * 4 + 1 = i by omega, hx] at f1; exact (Option.some.inj f1).symm
    · rw [show i / 4 * 4 + 2 = i by omega, hx] at f2; exact (Option.some.inj f2).symm
    · rw [show i / 4 * 4 + 3 = i by omega, hx] at f3; exact (Option.some.inj f3).symm
theorem make_moves {P : Program} (t e bytes n : Nat) (ht : P.underlying t = some (.slice e))
    (hi : (P.info? e).map (fun i => (i.zero, i.size, i.bytes)) = some (some (mvv mv0), 4, bytes)) (hb : bytes * n ≤ 281474976710656) (hn : n ≤ 9223372036854775807) (W : World) :
    (Instr.makeSlice t (.int .i64 (n : Int)) (.int .i64 (n : Int))).run P W = .ok (.slice (some ⟨W.heap.size, 0, none⟩) n n) (W.alloc (.cells (flat4 (List.replicate n mv0)).toArray e)) := by
  cases hx : P.info? e with
  | none => rw [hx] at hi; simp at hi
  | some i =>
    rw [hx] at hi
    simp only [Option.map_some, Option.some.injEq, Prod.mk.injEq] at hi
    obtain ⟨h0, h1, h2⟩ := hi
    have hb' : (i.bytes : Int) * (n : Int) ≤ 281474976710656 := by
      have h3 : ((bytes * n : Nat) : Int) ≤ 281474976710656 := by omega
      rw [h2]
      rwa [Int.natCast_mul] at h3
    have := run_make (P := P) W t e i (mvv mv0) ht hx h0 .i64 .i64 n n (by omega) (by omega) hb' (by omega)
    rw [Int.toNat_natCast, h1, made_moves] at this
    exact this
/-- a row filled up to a place -/
def fillM (ms : List Mve) (i : Nat) : List Mve := ms.take i ++ List.replicate (ms.length - i) mv0
theorem fillM_len (ms : List Mve) (i : Nat) (h : i ≤ ms.length) : (fillM ms i).length = ms.length := by simp [fillM]; omega
theorem fillM_at (ms : List Mve) (i : Nat) (h : i < ms.length) : (fillM ms i)[i]? = some mv0 := by
  unfold fillM
  rw [List.getElem?_append_right (by simp; omega), List.getElem?_replicate]
  simp
  omega
theorem fillM_step (ms : List Mve) (i : Nat) (l : Mve) (h : ms[i]? = some l) : (fillM ms i).set i l = fillM ms (i + 1) := by
  have hi : i < ms.length := (List.getElem?_eq_some_iff.1 h).1
  unfold fillM
  have hl : (ms.take i).length = i := by simp; omega
  rw [List.set_append, if_neg (by omega), hl, Nat.sub_self, List.take_add_one, h]
  have e : ms.length - i = (ms.length - (i + 1)) + 1 := by omega
  rw [e, List.replicate_succ]
  simp
theorem fillM_zero (ms : List Mve) : fillM ms 0 = List.replicate ms.length mv0 := by simp [fillM]
theorem fillM_all (ms : List Mve) : fillM ms ms.length = ms := by simp [fillM]
end Go.Proofs.Ytbjljofgpbecbaa
