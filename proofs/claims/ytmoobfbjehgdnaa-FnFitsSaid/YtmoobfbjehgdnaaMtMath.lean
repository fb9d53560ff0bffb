/-
  Holes and shafts paired: each hole in the order of sizes with the first shaft that is free and fits.
-/
import Derived.Test.YtmoobfbjehgdnaaOrMath
import Derived.Test.YtmoobfbjehgdnaaSizes
namespace Go.Proofs.Ytmoobfbjehgdnaa
open Go.ChangeShapes Go.WideShapes Go.ChangeAt Go.RowKit
set_option linter.unusedVariables false
set_option linter.unusedSimpArgs false

def bt (u : List Bool) (i : Nat) : Bool := u.getD i false
theorem bt_some {u : List Bool} {i : Nat} (h : i < u.length) : u[i]? = some (bt u i) := by
  unfold bt
  rw [List.getD_eq_getElem?_getD, List.getElem?_eq_getElem h]
  rfl
def fitB (H S : List Int) (lo hi : Int) (a b : Int) : Bool := decide (lo ≤ gt H a.toNat - gt S b.toNat ∧ gt H a.toNat - gt S b.toNat ≤ hi)
def flat2 : List (Int × Int) → List Int
  | [] => []
  | p :: ps => p.1 :: p.2 :: flat2 ps
theorem flat2_len (ps : List (Int × Int)) : (flat2 ps).length = ps.length * 2 := by
  induction ps with
  | nil => rfl
  | cons p ps ih => simp only [flat2, List.length_cons, ih]; omega
theorem flat2_app (a b : List (Int × Int)) : flat2 (a ++ b) = flat2 a ++ flat2 b := by
  induction a with
  | nil => rfl
  | cons p a ih => simp only [List.cons_append, flat2, ih]
theorem flat2_at {ps : List (Int × Int)} {i : Nat} {p : Int × Int} (h : ps[i]? = some p) : (flat2 ps)[i * 2]? = some p.1 ∧ (flat2 ps)[i * 2 + 1]? = some p.2 := by
  induction ps generalizing i with
  | nil => cases h
  | cons x ps ih =>
    cases i with
    | zero =>
      simp only [List.getElem?_cons_zero, Option.some.injEq] at h
      subst h
      exact ⟨rfl, rfl⟩
    | succ i =>
      have := ih (i := i) (by simpa using h)
      rw [show (i + 1) * 2 = i * 2 + 2 by omega]
      exact this
structure PS where
  used : List Bool
  ps : List (Int × Int)
  al : List Int
def okP (H S : List Int) (lo hi : Int) (u : List Bool) (a b : Int) : Bool := !(bt u b.toNat) && fitB H S lo hi a b
def pstep (H S : List Int) (lo hi : Int) (B : List Int) (s : PS) (a : Int) : PS :=
  match B.find? (fun b => okP H S lo hi s.used a b) with
  | some b => ⟨s.used.set b.toNat true, s.ps ++ [(a, b)], s.al⟩
  | none => ⟨s.used, s.ps, s.al ++ [a]⟩
def pst0 (n : Nat) : PS := ⟨List.replicate n false, [], []⟩
def pgo (H S : List Int) (lo hi : Int) (A B : List Int) : PS := A.foldl (pstep H S lo hi B) (pst0 S.length)
theorem pgo_succ {H S : List Int} {lo hi : Int} {A B : List Int} {i : Nat} {a : Int} (h : A[i]? = some a) : pgo H S lo hi (A.take (i + 1)) B = pstep H S lo hi B (pgo H S lo hi (A.take i) B) a := by
  unfold pgo
  rw [List.take_add_one, h, List.foldl_append]
  rfl
theorem pstep_len (H S : List Int) (lo hi : Int) (B : List Int) (s : PS) (a : Int) : (pstep H S lo hi B s a).used.length = s.used.length ∧ (pstep H S lo hi B s a).ps.length + (pstep H S lo hi B s a).al.length = s.ps.length + s.al.length + 1 := by
  unfold pstep
  split
  · simp; omega
  · simp; omega
theorem pfold_len (H S : List Int) (lo hi : Int) (B : List Int) : ∀ (A : List Int) (s : PS), (A.foldl (pstep H S lo hi B) s).used.length = s.used.length ∧ (A.foldl (pstep H S lo hi B) s).ps.length + (A.foldl (pstep H S lo hi B) s).al.length = s.ps.length + s.al.length + A.length := by
  intro A
  induction A with
  | nil => intro s; simp
  | cons a A ih =>
    intro s
    rw [List.foldl_cons]
    have h1 := ih (pstep H S lo hi B s a)
    have h2 := pstep_len H S lo hi B s a
    rw [List.length_cons]
    omega
theorem pgo_len (H S : List Int) (lo hi : Int) (A B : List Int) : (pgo H S lo hi A B).used.length = S.length ∧ (pgo H S lo hi A B).ps.length + (pgo H S lo hi A B).al.length = A.length := by
  have := pfold_len H S lo hi B A (pst0 S.length)
  simp [pst0] at this
  exact this
theorem find_none_take {B : List Int} {p : Int → Bool} (h : ∀ b ∈ B.take B.length, p b = false) : B.find? p = none := by
  rw [List.take_length] at h
  rw [List.find?_eq_none]
  intro x hx
  rw [h x hx]
  simp
theorem find_some_at {B : List Int} {p : Int → Bool} {k : Nat} {b : Int} (h : ∀ x ∈ B.take k, p x = false) (hb : B[k]? = some b) (hp : p b = true) : B.find? p = some b := by
  have hk : k < B.length := (List.getElem?_eq_some_iff.1 hb).1
  have e : B = B.take k ++ (b :: B.drop (k + 1)) := by
    have e1 : B.drop k = b :: B.drop (k + 1) := by rw [List.drop_eq_getElem_cons hk]; rw [List.getElem?_eq_getElem hk] at hb; rw [Option.some.inj hb]
    rw [← e1, List.take_append_drop]
  rw [e, List.find?_append]
  have e2 : (B.take k).find? p = none := by
    rw [List.find?_eq_none]
    intro x hx
    rw [h x hx]
    simp
  rw [e2]
  simp [List.find?, hp]
/-- the code -/
def mtC (H S : List Int) (lo hi : Int) : Int := if 4096 < H.length ∨ 4096 < S.length then 2 else if H.length ≤ 200 ∧ S.length ≤ 200 ∧ badS H = false ∧ badS S = false ∧ -100000 ≤ lo ∧ lo ≤ hi ∧ hi ≤ 100000 then 0 else 1
theorem mtC_ok {H S : List Int} {lo hi : Int} (h : mtC H S lo hi = 0) : H.length ≤ 200 ∧ S.length ≤ 200 ∧ (∀ x ∈ H, 0 ≤ x ∧ x ≤ 100000) ∧ (∀ x ∈ S, 0 ≤ x ∧ x ≤ 100000) ∧ -100000 ≤ lo ∧ lo ≤ hi ∧ hi ≤ 100000 := by
  unfold mtC at h
  split at h
  · omega
  · split at h
    · rename_i h1
      obtain ⟨a, b, c, d, e⟩ := h1
      have hb : ∀ L : List Int, badS L = false → ∀ x ∈ L, 0 ≤ x ∧ x ≤ 100000 := by
        intro L hL x hx
        unfold badS at hL
        rw [List.any_eq_false] at hL
        have := hL x hx
        simp [szB, btw] at this
        exact this
      exact ⟨a, b, hb H c, hb S d, e⟩
    · omega
/-- the answer's pairs -/
def mtP (H S : List Int) (lo hi : Int) : List (Int × Int) := if mtC H S lo hi = 0 then (pgo H S lo hi (ordL H H.length) (ordL S S.length)).ps else []

/-- a block of bools -/
def bblk (w : World) (g : Nat) (u : List Bool) : Prop := vblk w g 4 (u.map Value.bool)
theorem bblk.cell {w : World} {g : Nat} {u : List Bool} (h : bblk w g u) {i : Nat} {x : Bool} (hx : u[i]? = some x) : w.cell? ⟨g, i, none⟩ = some (.bool x) := vblk.cell h (by rw [List.getElem?_map, hx]; rfl)
theorem bblk.set {w : World} {g : Nat} {u : List Bool} (h : bblk w g u) (i : Nat) (x : Bool) : bblk (w.setCell ⟨g, i, none⟩ (.bool x)) g (u.set i x) := by
  unfold bblk
  rw [List.map_set]
  exact vblk.set h i _
theorem make_bools {P : Program} (t e : Nat) (n : Nat) (ht : P.underlying t = some (.slice e))
    (hi : (P.info? e).map (fun i => (i.zero, i.size, i.bytes)) = some (some (.bool false), 1, 1)) (hn : n ≤ 281474976710656) (W : World) :
    (Instr.makeSlice t (.int .i64 (n : Int)) (.int .i64 (n : Int))).run P W = .ok (.slice (some ⟨W.heap.size, 0, none⟩) n n) (W.alloc (.cells ((List.replicate n false).map Value.bool).toArray e)) := by
  cases hx : P.info? e with
  | none => rw [hx] at hi; simp at hi
  | some i =>
    rw [hx] at hi
    simp only [Option.map_some, Option.some.injEq, Prod.mk.injEq] at hi
    obtain ⟨h0, h1, h2⟩ := hi
    have := run_make (P := P) W t e i (.bool false) ht hx h0 .i64 .i64 n n (by omega) (by omega) (by rw [h2]; omega) (by omega)
    rw [Int.toNat_natCast, h1, Nat.mul_one] at this
    have e1 : madeCells (Value.bool false).cells n = ((List.replicate n false).map Value.bool).toArray := by
      apply Array.ext
      · simp [madeCells]
      · intro i h1 h2
        simp [madeCells, Value.cells, Nat.mod_one]
    rw [e1] at this
    exact this
/-- all that was there is as it was, but for one block -/
structure Mx (g : Nat) (w w' : World) : Prop where
  os : w'.os = w.os
  tape : w'.tape = w.tape
  output : w'.output = w.output
  size : w.heap.size ≤ w'.heap.size
  block : ∀ k, k < w.heap.size → k ≠ g → w'.heap[k]? = w.heap[k]?
theorem Mx.refl (g : Nat) (w : World) : Mx g w w := ⟨rfl, rfl, rfl, Nat.le_refl _, fun _ _ _ => rfl⟩
theorem Mx.trans {g : Nat} {a b c : World} (x : Mx g a b) (y : Mx g b c) : Mx g a c :=
  ⟨y.os.trans x.os, y.tape.trans x.tape, y.output.trans x.output, Nat.le_trans x.size y.size, fun k hk h1 => (y.block k (Nat.lt_of_lt_of_le hk x.size) h1).trans (x.block k hk h1)⟩
theorem Mx.bel {g B : Nat} {a w : World} (h : Mx g a w) (hB : B ≤ g) (hs : B ≤ a.heap.size) : Below B a w := ⟨h.os, h.tape, h.output, h.size, fun k hk => h.block k (by omega) (by omega)⟩
theorem Mx.set {g : Nat} {a w : World} (h : Mx g a w) (o : Nat) (v : Value) : Mx g a (w.setCell ⟨g, o, none⟩ v) :=
  ⟨h.os, h.tape, h.output, by simpa [World.setCell] using h.size, fun k hk hg => (Below.heap_setCell _ _ _ _ hg).trans (h.block k hk hg)⟩
/-- what comes later writes above B alone -/
theorem Mx.low {g B : Nat} {a w w' : World} (h : Mx g a w) (hb : Below B w w') (hB : a.heap.size ≤ B) : Mx g a w' :=
  ⟨hb.os.trans h.os, hb.tape.trans h.tape, hb.output.trans h.output, Nat.le_trans h.size hb.size, fun k hk hg => (hb.block k (by omega)).trans (h.block k hk hg)⟩
theorem Mx.cell {g b o : Nat} {a w : World} {v : Value} (h : Mx g a w) (hb : b ≠ g) (hc : a.cell? ⟨b, o, none⟩ = some v) : w.cell? ⟨b, o, none⟩ = some v :=
  (World.cell?_of_block (w := a) (a := ⟨b, o, none⟩) (h.block b (cell_lt hc) hb)).trans hc
end Go.Proofs.Ytmoobfbjehgdnaa
