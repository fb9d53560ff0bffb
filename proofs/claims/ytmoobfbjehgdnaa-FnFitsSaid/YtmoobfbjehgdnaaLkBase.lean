/-
  Links in memory: rows of structs of a text and four whole numbers.
-/
import Derived.Test.YtmoobfbjehgdnaaMakes
namespace Go.Proofs.Ytmoobfbjehgdnaa
open Go.ChangeShapes Go.WideShapes Go.ChangeAt Go.RowKit
set_option linter.unusedVariables false
set_option linter.unusedSimpArgs false

/-- the block is just these values -/
def vblk (w : World) (g t : Nat) (L : List Value) : Prop := w.heap[g]? = some (.cells L.toArray t (0, 0))
theorem vblk.cell {w : World} {g t : Nat} {L : List Value} (h : vblk w g t L) {m : Nat} {x : Value} (hx : L[m]? = some x) : w.cell? ⟨g, m, none⟩ = some x := by
  simp only [World.cell?]
  rw [h]
  simp [hx]
theorem vblk.lt {w : World} {g t : Nat} {L : List Value} (h : vblk w g t L) : g < w.heap.size := (Array.getElem?_eq_some_iff.1 h).1
theorem vblk.frozen {w : World} {g t : Nat} {L : List Value} (h : vblk w g t L) (o : Nat) : w.frozen? ⟨g, o, none⟩ = false := by
  simp only [World.frozen?]
  rw [h]
  simp
theorem vblk.below {B : Nat} {w w' : World} {g t : Nat} {L : List Value} (h : vblk w g t L) (hb : Below B w w') (hg : g < B) : vblk w' g t L := (hb.block g hg).trans h
theorem vblk.bel {w w' : World} {g t : Nat} {L : List Value} (h : vblk w g t L) (hb : Below w.heap.size w w') : vblk w' g t L := h.below hb h.lt
theorem vblk.set {w : World} {g t : Nat} {L : List Value} (h : vblk w g t L) (m : Nat) (x : Value) : vblk (w.setCell ⟨g, m, none⟩ x) g t (L.set m x) := by
  show (w.heap.modify g _)[g]? = _
  rw [Array.getElem?_modify, if_pos rfl, h]
  simp
theorem vblk.but {w w' : World} {g g' t : Nat} {L : List Value} (h : vblk w g t L) (hb : But g' w w') (hg : g ≠ g') : vblk w' g t L := (hb.block g hg).trans h
theorem vblk.same {w w' : World} {g t : Nat} {L : List Value} (h : vblk w g t L) (hb : Same w w') : vblk w' g t L := by unfold vblk; rw [hb.heap]; exact h
theorem vblk_new (W : World) (t : Nat) (L : List Value) : vblk (W.alloc (.cells L.toArray t)) W.heap.size t L := by
  show (W.heap.push _)[W.heap.size]? = _
  rw [Array.getElem?_push_size]

/-- a link -/
structure Lk where
  nm : ByteArray
  sg : Int
  sz : Int
  pl : Int
  mi : Int
def lkv (l : Lk) : Value := .agg #[.string l.nm, .int .i64 l.sg, .int .i64 l.sz, .int .i64 l.pl, .int .i64 l.mi]
def lkc (l : Lk) : List Value := [.string l.nm, .int .i64 l.sg, .int .i64 l.sz, .int .i64 l.pl, .int .i64 l.mi]
def lk0 : Lk := ⟨ByteArray.empty, 0, 0, 0, 0⟩
def flat5 : List Lk → List Value
  | [] => []
  | l :: ls => .string l.nm :: .int .i64 l.sg :: .int .i64 l.sz :: .int .i64 l.pl :: .int .i64 l.mi :: flat5 ls
theorem flat5_len (ls : List Lk) : (flat5 ls).length = ls.length * 5 := by
  induction ls with
  | nil => rfl
  | cons l ls ih => simp only [flat5, List.length_cons, ih]; omega
theorem flat5_append (a b : List Lk) : flat5 (a ++ b) = flat5 a ++ flat5 b := by
  induction a with
  | nil => rfl
  | cons l a ih => simp only [List.cons_append, flat5, ih]
theorem flat5_at {ls : List Lk} {i : Nat} {l : Lk} (h : ls[i]? = some l) :
    (flat5 ls)[i * 5]? = some (.string l.nm) ∧ (flat5 ls)[i * 5 + 1]? = some (.int .i64 l.sg) ∧ (flat5 ls)[i * 5 + 2]? = some (.int .i64 l.sz) ∧ (flat5 ls)[i * 5 + 3]? = some (.int .i64 l.pl) ∧ (flat5 ls)[i * 5 + 4]? = some (.int .i64 l.mi) := by
  induction ls generalizing i with
  | nil => cases h
  | cons x ls ih =>
    cases i with
    | zero =>
      simp only [List.getElem?_cons_zero, Option.some.injEq] at h
      subst h
      exact ⟨rfl, rfl, rfl, rfl, rfl⟩
    | succ i =>
      have := ih (i := i) (by simpa using h)
      rw [show (i + 1) * 5 = i * 5 + 5 by omega]
      exact this
theorem flat5_set (ls : List Lk) (i : Nat) (l : Lk) (h : i < ls.length) :
    flat5 (ls.set i l) = (((((flat5 ls).set (i * 5) (.string l.nm)).set (i * 5 + 1) (.int .i64 l.sg)).set (i * 5 + 2) (.int .i64 l.sz)).set (i * 5 + 3) (.int .i64 l.pl)).set (i * 5 + 4) (.int .i64 l.mi) := by
  induction ls generalizing i with
  | nil => simp at h
  | cons x ls ih =>
    cases i with
    | zero => rfl
    | succ i =>
      have e := ih i (by simpa using h)
      rw [show (i + 1) * 5 = i * 5 + 5 by omega]
      simp only [List.set_cons_succ, flat5, e]
theorem list_set_self {α : Type} {L : List α} {i : Nat} {x : α} (h : L[i]? = some x) : L.set i x = L := by
  apply List.ext_getElem?
  intro j
  rw [List.getElem?_set]
  split
  · rename_i e
    subst e
    split
    · exact h.symm
    · rename_i h1
      rw [List.getElem?_eq_none (by omega)] at h
      cases h
  · rfl
theorem flat5_pl {ls : List Lk} {i : Nat} {l : Lk} (h : ls[i]? = some l) (x : Int) : flat5 (ls.set i { l with pl := x }) = (flat5 ls).set (i * 5 + 3) (.int .i64 x) := by
  have hl : i < ls.length := (List.getElem?_eq_some_iff.1 h).1
  obtain ⟨h0, h1, h2, h3, h4⟩ := flat5_at h
  rw [flat5_set ls i _ hl, list_set_self h0, list_set_self h1, list_set_self h2, List.set_comm _ _ (by omega), list_set_self h4]
theorem flat5_mi {ls : List Lk} {i : Nat} {l : Lk} (h : ls[i]? = some l) (x : Int) : flat5 (ls.set i { l with mi := x }) = (flat5 ls).set (i * 5 + 4) (.int .i64 x) := by
  have hl : i < ls.length := (List.getElem?_eq_some_iff.1 h).1
  obtain ⟨h0, h1, h2, h3, h4⟩ := flat5_at h
  rw [flat5_set ls i _ hl, list_set_self h0, list_set_self h1, list_set_self h2, list_set_self h3]

/-- the links lie in the cells from off on -/
def LkAt (w : World) (b off : Nat) (ls : List Lk) : Prop := ∀ (i : Nat) (l : Lk), ls[i]? = some l →
  w.cell? ⟨b, off + i * 5, none⟩ = some (.string l.nm) ∧ w.cell? ⟨b, off + i * 5 + 1, none⟩ = some (.int .i64 l.sg) ∧ w.cell? ⟨b, off + i * 5 + 2, none⟩ = some (.int .i64 l.sz) ∧ w.cell? ⟨b, off + i * 5 + 3, none⟩ = some (.int .i64 l.pl) ∧ w.cell? ⟨b, off + i * 5 + 4, none⟩ = some (.int .i64 l.mi)
theorem LkAt.below {B : Nat} {w w' : World} {b off : Nat} {ls : List Lk} (h : LkAt w b off ls) (hb : Below B w w') (hB : b < B) : LkAt w' b off ls := by
  intro i l hi
  obtain ⟨h0, h1, h2, h3, h4⟩ := h i l hi
  exact ⟨(hb.cell (p := ⟨b, _, none⟩) hB).trans h0, (hb.cell (p := ⟨b, _, none⟩) hB).trans h1, (hb.cell (p := ⟨b, _, none⟩) hB).trans h2, (hb.cell (p := ⟨b, _, none⟩) hB).trans h3, (hb.cell (p := ⟨b, _, none⟩) hB).trans h4⟩
theorem LkAt.but {w w' : World} {g b off : Nat} {ls : List Lk} (h : LkAt w b off ls) (hb : But g w w') (hg : b ≠ g) : LkAt w' b off ls := by
  intro i l hi
  obtain ⟨h0, h1, h2, h3, h4⟩ := h i l hi
  exact ⟨cell_but hb hg h0, cell_but hb hg h1, cell_but hb hg h2, cell_but hb hg h3, cell_but hb hg h4⟩
theorem vblk.links {w : World} {g t : Nat} {ls : List Lk} (h : vblk w g t (flat5 ls)) : LkAt w g 0 ls := by
  intro i l hi
  obtain ⟨h0, h1, h2, h3, h4⟩ := flat5_at hi
  simp only [Nat.zero_add]
  exact ⟨h.cell h0, h.cell h1, h.cell h2, h.cell h3, h.cell h4⟩
/-- a slice of links that came in -/
def Lks (w : World) (u : Option Addr) (p po : Nat) (ls : List Lk) : Prop := ls ≠ [] → u = some ⟨p, po, none⟩ ∧ p < w.heap.size ∧ LkAt w p po ls
theorem Lks.bel {w w' : World} {u : Option Addr} {p po : Nat} {ls : List Lk} (h : Lks w u p po ls) (hb : Below w.heap.size w w') : Lks w' u p po ls :=
  fun h0 => ⟨(h h0).1, Nat.lt_of_lt_of_le (h h0).2.1 hb.size, (h h0).2.2.below hb (h h0).2.1⟩
theorem Lks.but {w w' : World} {u : Option Addr} {g p po : Nat} {ls : List Lk} (h : Lks w u p po ls) (hb : But g w w') (hg : p ≠ g) : Lks w' u p po ls :=
  fun h0 => ⟨(h h0).1, Nat.lt_of_lt_of_le (h h0).2.1 (Nat.le_of_eq hb.size), (h h0).2.2.but hb hg⟩
theorem vblk.lks {w : World} {g t : Nat} {ls : List Lk} (h : vblk w g t (flat5 ls)) : Lks w (some ⟨g, 0, none⟩) g 0 ls := fun _ => ⟨rfl, h.lt, h.links⟩
theorem Lks.at {w : World} {u : Option Addr} {p po : Nat} {ls : List Lk} (h : Lks w u p po ls) {i : Nat} {l : Lk} (hi : ls[i]? = some l) : u = some ⟨p, po, none⟩ ∧ p < w.heap.size ∧
    w.cell? ⟨p, po + i * 5, none⟩ = some (.string l.nm) ∧ w.cell? ⟨p, po + i * 5 + 1, none⟩ = some (.int .i64 l.sg) ∧ w.cell? ⟨p, po + i * 5 + 2, none⟩ = some (.int .i64 l.sz) ∧ w.cell? ⟨p, po + i * 5 + 3, none⟩ = some (.int .i64 l.pl) ∧ w.cell? ⟨p, po + i * 5 + 4, none⟩ = some (.int .i64 l.mi) := by
  obtain ⟨h1, h2, h3⟩ := h (by intro e; subst e; cases hi)
  exact ⟨h1, h2, h3 i l hi⟩
theorem get_some {α : Type} {ls : List α} {i n : Nat} (hl : ls.length = n) (h : i < n) : ∃ l, ls[i]? = some l := ⟨ls[i]'(by omega), List.getElem?_eq_getElem _⟩

/-- a made row of links -/
theorem made_links (m : Nat) : madeCells (lkv lk0).cells (m * 5) = (flat5 (List.replicate m lk0)).toArray := by
  apply Array.ext
  · simp [madeCells, flat5_len]
  · intro i h1 h2
    have hi : i < m * 5 := by simpa [madeCells] using h1
    have hd : i / 5 < m := by omega
    have hr : (List.replicate m lk0)[i / 5]? = some lk0 := by simp [List.getElem?_replicate, hd]
    obtain ⟨f0, f1, f2, f3, f4⟩ := flat5_at hr
    have hx : (flat5 (List.replicate m lk0))[i]? = some (flat5 (List.replicate m lk0))[i] := List.getElem?_eq_getElem _
    have hc : (lkv lk0).cells = #[.string ByteArray.empty, .int .i64 0, .int .i64 0, .int .i64 0, .int .i64 0] := rfl
    have h5 : i % 5 = 0 ∨ i % 5 = 1 ∨ i % 5 = 2 ∨ i % 5 = 3 ∨ i % 5 = 4 := by omega
    simp only [madeCells, Array.getElem_map, Array.getElem_range, hc, List.getElem_toArray]
    show (#[Value.string ByteArray.empty, .int .i64 0, .int .i64 0, .int .i64 0, .int .i64 0] : Array Value)[i % 5]! = _
    rcases h5 with e | e | e | e | e <;> rw [e]
    · rw [show i / 5 * 5 = i by omega, hx] at f0; exact (Option.some.inj f0).symm
    · rw [show i / 5 * 5 + 1 = i by omega, hx] at f1; exact (Option.some.inj f1).symm
    · rw [show i / 5 * 5 + 2 = i by omega, hx] at f2; exact (Option.some.inj f2).symm
    · rw [show i / 5 * 5 + 3 = i by omega, hx] at f3; exact (Option.some.inj f3).symm
    · rw [show i / 5 * 5 + 4 = i by omega, hx] at f4; exact (Option.some.inj f4).symm
theorem make_links {P : Program} (t e bytes n : Nat) (ht : P.underlying t = some (.slice e))
    (hi : (P.info? e).map (fun i => (i.zero, i.size, i.bytes)) = some (some (lkv lk0), 5, bytes)) (hb : bytes * n ≤ 281474976710656) (hn : n ≤ 9223372036854775807) (W : World) :
    (Instr.makeSlice t (.int .i64 (n : Int)) (.int .i64 (n : Int))).run P W = .ok (.slice (some ⟨W.heap.size, 0, none⟩) n n) (W.alloc (.cells (flat5 (List.replicate n lk0)).toArray e)) := by
  cases hx : P.info? e with
  | none => rw [hx] at hi; simp at hi
  | some i =>
    rw [hx] at hi
    simp only [Option.map_some, Option.some.injEq, Prod.mk.injEq] at hi
    obtain ⟨h0, h1, h2⟩ := hi
    have hb' : (i.bytes : Int) * (n : Int) ≤ 281474976710656 := by
      have h3 : ((bytes * n : Nat) : Int) ≤ 281474976710656 := by omega
      rw [h2]
      rwa [Int.natCast_mul] at h3
    have := run_make (P := P) W t e i (lkv lk0) ht hx h0 .i64 .i64 n n (by omega) (by omega) hb' (by omega)
    rw [Int.toNat_natCast, h1, made_links] at this
    exact this
/-- a row filled up to a place -/
def fillL (ls : List Lk) (i : Nat) : List Lk := ls.take i ++ List.replicate (ls.length - i) lk0
theorem fillL_len (ls : List Lk) (i : Nat) (h : i ≤ ls.length) : (fillL ls i).length = ls.length := by simp [fillL]; omega
theorem fillL_at (ls : List Lk) (i : Nat) (h : i < ls.length) : (fillL ls i)[i]? = some lk0 := by
  unfold fillL
  rw [List.getElem?_append_right (by simp; omega), List.getElem?_replicate]
  simp
  omega
theorem fillL_step (ls : List Lk) (i : Nat) (l : Lk) (h : ls[i]? = some l) : (fillL ls i).set i l = fillL ls (i + 1) := by
  have hi : i < ls.length := (List.getElem?_eq_some_iff.1 h).1
  unfold fillL
  have hl : (ls.take i).length = i := by simp; omega
  rw [List.set_append, if_neg (by omega), hl, Nat.sub_self, List.take_add_one, h]
  have e : ls.length - i = (ls.length - (i + 1)) + 1 := by omega
  rw [e, List.replicate_succ]
  simp
theorem fillL_zero (ls : List Lk) : fillL ls 0 = List.replicate ls.length lk0 := by simp [fillL]
theorem fillL_all (ls : List Lk) : fillL ls ls.length = ls := by simp [fillL]
end Go.Proofs.Ytmoobfbjehgdnaa
