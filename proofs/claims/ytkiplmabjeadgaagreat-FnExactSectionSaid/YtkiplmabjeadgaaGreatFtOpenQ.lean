/- Told squares are small; what is around small boxes is small; whose is a name. -/
import Derived.Test.YtkiplmabjeadgaaGreatCkMQ
import Derived.Deep.Slices
import Derived.ChangeSame
import Derived.Test.YtkiplmabjeadgaaGreatBaseQ
import Derived.Deep.WholeRow
import Derived.Test.YtkiplmabjeadgaaGreatMkTextQ
import Derived.Test.YtkiplmabjeadgaaGreatBdF9Q
import Derived.Test.YtkiplmabjeadgaaGreatBdFiQ
import Derived.Test.YtkiplmabjeadgaaGreatPcMathQ
import Derived.Test.YtkiplmabjeadgaaGreatOrMQ
namespace Go.Proofs.YtkiplmabjeadgaaGreat
set_option maxRecDepth 100000
set_option maxHeartbeats 16000000
open Go.ChangeShapes Go.WideShapes Go.ChangeAt Go.RowKit Go.Deep
set_option linter.unusedVariables false
set_option linter.unusedSimpArgs false
theorem addr_add_none (p po j : Nat) : (⟨p, po, none⟩ : Addr).add j = ⟨p, po + j, none⟩ := by
 unfold Addr.add
 split <;> simp_all
theorem one_at {cs : List Value} {o : Nat} {v : Value} (h : (cs.drop o).take 1 = [v]) : cs[o]? = some v := by
 have h5 : ((cs.drop o).take 1)[0]? = some v := by rw [h]; rfl
 simpa [List.getElem?_take, List.getElem?_drop] using h5
theorem cells3 : Tryz.prog.cellsOf 3 = 1 := by kernel_rfl
theorem cells9 : Tryz.prog.cellsOf 9 = 1 := by kernel_rfl
theorem cells39 : Tryz.prog.cellsOf 67 = 6 := by kernel_rfl
theorem cells41 : Tryz.prog.cellsOf 69 = 15 := by kernel_rfl
theorem open_fts {H : Type} {enc : TypeId × Value → H} {w : World} {base : Nat} {spare : Nat → Bool} {held : Bool} {fuel : Nat} {cs : List Value} {x : DataW H × List MemPlace}
  (h : DataW.trod enc Tryz.prog w base spare held fuel 22 cs = some x) :
  ∃ (u : Option Addr) (n cap p po : Nat) (fs : List Ft), cs = [.slice u n cap] ∧ n ≤ 9223372036854775807 ∧ fs.length = n ∧ (∀ f ∈ fs, f.nm.size ≤ maxLen ∧ f.on.size ≤ maxLen ∧ f.ov.size ≤ maxLen) ∧ SlG ftc 15 w u p po fs := by
 rcases open_slice Tryz.underlying22 h with ⟨rfl, _⟩ | ⟨a, len, cap, m, n, D, Pl, rfl, hb, hl, hm, hmm, _, hx⟩
 ·exact ⟨none, 0, 0, 0, 0, [], rfl, by omega, rfl, by simp, fun h => absurd rfl h⟩
 have hlm : len ≤ m := by rw [hmm]; split <;> omega
 have each : ∀ i, i < len → ∃ f : Ft, (f.nm.size ≤ maxLen ∧ f.on.size ≤ maxLen ∧ f.ov.size ≤ maxLen) ∧ ∀ (j : Nat) (v : Value), (ftc f)[j]? = some v → w.cell? (a.add (i * 15 + j)) = some v := by
  intro i hi;obtain ⟨cs', h1, h2⟩ := hx i (by omega);rw [cells41] at h1;obtain ⟨_, hlen, hcell⟩ := World.cells?_some h1;obtain ⟨xs, q, _, _, _, hxl, hff⟩ := DataW.trod_struct Tryz.underlying69 h2;have hxl' : xs.length = 10 := by simpa using hxl
  have g : ∀ j, j < 10 → ∃ y, xs[j]? = some y := fun j hj => ⟨xs[j]'(by omega), List.getElem?_eq_getElem _⟩
  obtain ⟨q0, e0⟩ := g 0 (by omega);have t0 : DataW.trod enc Tryz.prog w base spare held q 9 ((cs'.drop 0).take (Tryz.prog.cellsOf 9)) = xs[0]? := hff 0 _ rfl;rw [e0] at t0;obtain ⟨a0, hy0, _, hs0⟩ := DataW.trod_string Tryz.underlying9 t0;rw [cells9] at hy0;have c0 := one_at hy0;obtain ⟨q1, e1⟩ := g 1 (by omega);have t1 : DataW.trod enc Tryz.prog w base spare held q 9 ((cs'.drop 1).take (Tryz.prog.cellsOf 9)) = xs[1]? := hff 1 _ rfl;rw [e1] at t1;obtain ⟨a1, hy1, _, hs1⟩ := DataW.trod_string Tryz.underlying9 t1;rw [cells9] at hy1;have c1 := one_at hy1;obtain ⟨q2, e2⟩ := g 2 (by omega)
  have t2 : DataW.trod enc Tryz.prog w base spare held q 9 ((cs'.drop 2).take (Tryz.prog.cellsOf 9)) = xs[2]? := hff 2 _ rfl;rw [e2] at t2;obtain ⟨a2, hy2, _, hs2⟩ := DataW.trod_string Tryz.underlying9 t2;rw [cells9] at hy2;have c2 := one_at hy2;obtain ⟨q3, e3⟩ := g 3 (by omega);have t3 : DataW.trod enc Tryz.prog w base spare held q 3 ((cs'.drop 3).take (Tryz.prog.cellsOf 3)) = xs[3]? := hff 3 _ rfl;rw [e3] at t3;obtain ⟨b3, hy3, _, _⟩ := DataW.trod_int Tryz.underlying3 t3;rw [cells3] at hy3;have c3 := one_at hy3;obtain ⟨q4, e4⟩ := g 4 (by omega)
  have t4 : DataW.trod enc Tryz.prog w base spare held q 3 ((cs'.drop 4).take (Tryz.prog.cellsOf 3)) = xs[4]? := hff 4 _ rfl;rw [e4] at t4;obtain ⟨b4, hy4, _, _⟩ := DataW.trod_int Tryz.underlying3 t4;rw [cells3] at hy4;have c4 := one_at hy4;obtain ⟨q6, e6⟩ := g 6 (by omega);have t6 : DataW.trod enc Tryz.prog w base spare held q 3 ((cs'.drop 11).take (Tryz.prog.cellsOf 3)) = xs[6]? := hff 6 _ rfl;rw [e6] at t6;obtain ⟨b11, hy6, _, _⟩ := DataW.trod_int Tryz.underlying3 t6;rw [cells3] at hy6;have c11 := one_at hy6;obtain ⟨q7, e7⟩ := g 7 (by omega)
  have t7 : DataW.trod enc Tryz.prog w base spare held q 3 ((cs'.drop 12).take (Tryz.prog.cellsOf 3)) = xs[7]? := hff 7 _ rfl;rw [e7] at t7;obtain ⟨b12, hy7, _, _⟩ := DataW.trod_int Tryz.underlying3 t7;rw [cells3] at hy7;have c12 := one_at hy7;obtain ⟨q8, e8⟩ := g 8 (by omega);have t8 : DataW.trod enc Tryz.prog w base spare held q 3 ((cs'.drop 13).take (Tryz.prog.cellsOf 3)) = xs[8]? := hff 8 _ rfl;rw [e8] at t8;obtain ⟨b13, hy8, _, _⟩ := DataW.trod_int Tryz.underlying3 t8;rw [cells3] at hy8;have c13 := one_at hy8;obtain ⟨q9, e9⟩ := g 9 (by omega)
  have t9 : DataW.trod enc Tryz.prog w base spare held q 3 ((cs'.drop 14).take (Tryz.prog.cellsOf 3)) = xs[9]? := hff 9 _ rfl;rw [e9] at t9;obtain ⟨b14, hy9, _, _⟩ := DataW.trod_int Tryz.underlying3 t9;rw [cells3] at hy9;have c14 := one_at hy9;obtain ⟨q5, e5⟩ := g 5 (by omega);have t5 : DataW.trod enc Tryz.prog w base spare held q 67 ((cs'.drop 5).take (Tryz.prog.cellsOf 67)) = xs[5]? := hff 5 _ rfl;rw [e5] at t5;obtain ⟨ys, r, _, _, _, hyl, hgg⟩ := DataW.trod_struct Tryz.underlying67 t5;have hyl' : ys.length = 6 := by simpa using hyl
  have g6 : ∀ j, j < 6 → ∃ y, ys[j]? = some y := fun j hj => ⟨ys[j]'(by omega), List.getElem?_eq_getElem _⟩
  obtain ⟨p0, f0⟩ := g6 0 (by omega);have s0 : DataW.trod enc Tryz.prog w base spare held r 3 ((((cs'.drop 5).take (Tryz.prog.cellsOf 67)).drop 0).take (Tryz.prog.cellsOf 3)) = ys[0]? := hgg 0 _ rfl;rw [f0] at s0;obtain ⟨d0, hz0, _, _⟩ := DataW.trod_int Tryz.underlying3 s0;rw [cells3, cells39] at hz0
  have c5 : cs'[5]? = some (.int .i64 d0) := by
   have h7 := one_at hz0;rw [List.getElem?_take, if_pos (by omega), List.getElem?_drop] at h7;exact h7
  obtain ⟨p1, f1⟩ := g6 1 (by omega);have s1 : DataW.trod enc Tryz.prog w base spare held r 3 ((((cs'.drop 5).take (Tryz.prog.cellsOf 67)).drop 1).take (Tryz.prog.cellsOf 3)) = ys[1]? := hgg 1 _ rfl;rw [f1] at s1;obtain ⟨d1, hz1, _, _⟩ := DataW.trod_int Tryz.underlying3 s1;rw [cells3, cells39] at hz1
  have c6 : cs'[6]? = some (.int .i64 d1) := by
   have h7 := one_at hz1;rw [List.getElem?_take, if_pos (by omega), List.getElem?_drop] at h7;exact h7
  obtain ⟨p2, f2⟩ := g6 2 (by omega);have s2 : DataW.trod enc Tryz.prog w base spare held r 3 ((((cs'.drop 5).take (Tryz.prog.cellsOf 67)).drop 2).take (Tryz.prog.cellsOf 3)) = ys[2]? := hgg 2 _ rfl;rw [f2] at s2;obtain ⟨d2, hz2, _, _⟩ := DataW.trod_int Tryz.underlying3 s2;rw [cells3, cells39] at hz2
  have c7 : cs'[7]? = some (.int .i64 d2) := by
   have h7 := one_at hz2;rw [List.getElem?_take, if_pos (by omega), List.getElem?_drop] at h7;exact h7
  obtain ⟨p3, f3⟩ := g6 3 (by omega);have s3 : DataW.trod enc Tryz.prog w base spare held r 3 ((((cs'.drop 5).take (Tryz.prog.cellsOf 67)).drop 3).take (Tryz.prog.cellsOf 3)) = ys[3]? := hgg 3 _ rfl;rw [f3] at s3;obtain ⟨d3, hz3, _, _⟩ := DataW.trod_int Tryz.underlying3 s3;rw [cells3, cells39] at hz3
  have c8 : cs'[8]? = some (.int .i64 d3) := by
   have h7 := one_at hz3;rw [List.getElem?_take, if_pos (by omega), List.getElem?_drop] at h7;exact h7
  obtain ⟨p4, f4⟩ := g6 4 (by omega);have s4 : DataW.trod enc Tryz.prog w base spare held r 3 ((((cs'.drop 5).take (Tryz.prog.cellsOf 67)).drop 4).take (Tryz.prog.cellsOf 3)) = ys[4]? := hgg 4 _ rfl;rw [f4] at s4;obtain ⟨d4, hz4, _, _⟩ := DataW.trod_int Tryz.underlying3 s4;rw [cells3, cells39] at hz4
  have c9 : cs'[9]? = some (.int .i64 d4) := by
   have h7 := one_at hz4;rw [List.getElem?_take, if_pos (by omega), List.getElem?_drop] at h7;exact h7
  obtain ⟨p5, f5⟩ := g6 5 (by omega);have s5 : DataW.trod enc Tryz.prog w base spare held r 3 ((((cs'.drop 5).take (Tryz.prog.cellsOf 67)).drop 5).take (Tryz.prog.cellsOf 3)) = ys[5]? := hgg 5 _ rfl;rw [f5] at s5;obtain ⟨d5, hz5, _, _⟩ := DataW.trod_int Tryz.underlying3 s5;rw [cells3, cells39] at hz5
  have c10 : cs'[10]? = some (.int .i64 d5) := by
   have h7 := one_at hz5;rw [List.getElem?_take, if_pos (by omega), List.getElem?_drop] at h7;exact h7
  refine ⟨⟨a0, a1, a2, b3, b4, d0, d1, d2, d3, d4, d5, b11, b12, b13, b14⟩, ⟨hs0, hs1, hs2⟩, fun j v hj => ?_⟩;have hjl : j < 15 := by have := (List.getElem?_eq_some_iff.1 hj).1; rw [ftc_len] at this; exact this
  have hcs : cs'[j]? = some v := by
   rw [← hj]
   match j, hjl with
   | 0, _ => exact c0
   | 1, _ => exact c1
   | 2, _ => exact c2
   | 3, _ => exact c3
   | 4, _ => exact c4
   | 5, _ => exact c5
   | 6, _ => exact c6
   | 7, _ => exact c7
   | 8, _ => exact c8
   | 9, _ => exact c9
   | 10, _ => exact c10
   | 11, _ => exact c11
   | 12, _ => exact c12
   | 13, _ => exact c13
   | 14, _ => exact c14
  rw [← hcs, ← hcell j hjl, add_add]
 have hmx : len ≤ 9223372036854775807 := by unfold maxLen at hm; omega
 by_cases hn : len = 0
 ·subst hn
  exact ⟨some a, 0, cap, 0, 0, [], rfl, by omega, rfl, by simp, fun h => absurd rfl h⟩
 obtain ⟨p, po, sp⟩ := a
 have hsp : sp = none := by
  obtain ⟨f, _, hy⟩ := each 0 (by omega);have hy := hy 0 _ rfl
  cases sp with
  | none => rfl
  | some s =>
   simp only [Addr.add, World.cell?] at hy
   split at hy <;> simp at hy
 subst hsp
 have hex : ∃ fs : List Ft, fs.length = len ∧ (∀ f ∈ fs, f.nm.size ≤ maxLen ∧ f.on.size ≤ maxLen ∧ f.ov.size ≤ maxLen) ∧ ∀ (i : Nat) (f : Ft), fs[i]? = some f → ∀ (j : Nat) (v : Value), (ftc f)[j]? = some v → w.cell? ((⟨p, po, none⟩ : Addr).add (i * 15 + j)) = some v := by
  have : ∀ k, k ≤ len → ∃ fs : List Ft, fs.length = k ∧ (∀ f ∈ fs, f.nm.size ≤ maxLen ∧ f.on.size ≤ maxLen ∧ f.ov.size ≤ maxLen) ∧ ∀ (i : Nat) (f : Ft), fs[i]? = some f → ∀ (j : Nat) (v : Value), (ftc f)[j]? = some v → w.cell? ((⟨p, po, none⟩ : Addr).add (i * 15 + j)) = some v := by
   intro k
   induction k with
   | zero => intro _; exact ⟨[], rfl, by simp, by simp⟩
   | succ k ih =>
    intro hk;obtain ⟨fs, h1, h2, h3⟩ := ih (by omega);obtain ⟨f, h4, h5⟩ := each k (by omega);refine ⟨fs ++ [f], by simp [h1], ?_, ?_⟩
    ·intro x hx
     rcases List.mem_append.1 hx with e | e
     ·exact h2 x e
     ·simp only [List.mem_singleton] at e; subst e; exact h4
    ·intro i x hi j v hj
     by_cases e : i < k
     ·rw [List.getElem?_append_left (by omega)] at hi
      exact h3 i x hi j v hj
     ·rw [List.getElem?_append_right (by omega)] at hi
      have e0 : i - fs.length = 0 := by
       rcases Nat.eq_zero_or_pos (i - fs.length) with e | e
       ·exact e
       ·rw [List.getElem?_eq_none (by simp; omega)] at hi; cases hi
      rw [e0] at hi
      cases hi
      have ei : i = k := by omega
      subst ei;exact h5 j v hj
  exact this len (Nat.le_refl _)
 obtain ⟨fs, h1, h2, h3⟩ := hex;refine ⟨_, len, cap, p, po, fs, rfl, hmx, h1, h2, fun _ => ⟨rfl, ?_, ?_⟩⟩
 ·obtain ⟨f, _, h0⟩ := each 0 (by omega)
  have h0 := h0 0 _ rfl;rw [addr_add_none] at h0;exact cell_lt h0
 ·intro i f hi j v hj
  have := h3 i f hi j v hj;rw [addr_add_none, ← Nat.add_assoc] at this;exact this
open Go.ChangeShapes Go.WideShapes Go.ChangeAt Go.RowKit
theorem wpl_storeRow {P : Program} {ops : Array Oper} {rest : List Oper} {o : Oper} {a : Act} {w : World} {Q : Exit → Act → World → Prop} (hgd : o.guard = none) (ty : TypeId) (x y : Operand) (ho : o.op = .store ty x y)
  (g : Nat) (cells : List Value) (hx : a.eval x = .pointer (some ⟨g, 0, none⟩)) (hy : a.eval y = .agg cells.toArray)
  (t : TypeId) (old : List Value) (hg : vb w g t old) (hi : (P.info? ty).map (·.size) = some cells.length)
  (hold : old.length = cells.length) (h1 : ∀ v ∈ cells, v.oneCell' = true)
  (h : wpList P ops Q rest (a.put o.dst undef) (w.setRow g cells.toArray)) : wpList P ops Q (o :: rest) a w :=
 wpList_plain hgd fun _ hK => wp_store_row ty x y ho g cells.toArray hx hy t old.toArray hg (by simpa using hi) (by simpa using hold) (by simpa using h1) (hK _ _ h)
theorem wpl_storeRowA {P : Program} {ops : Array Oper} {rest : List Oper} {o : Oper} {a : Act} {w : World} {Q : Exit → Act → World → Prop} (hgd : o.guard = none) (ty : TypeId) (x y : Operand) (ho : o.op = .store ty x y)
  (g : Nat) (cells : Array Value) (hx : a.eval x = .pointer (some ⟨g, 0, none⟩)) (hy : a.eval y = .agg cells)
  (t : TypeId) (old : Array Value) (hg : w.heap[g]? = some (.cells old t (0, 0))) (hi : (P.info? ty).map (·.size) = some cells.size)
  (hold : old.size = cells.size) (h1 : cells.all (·.oneCell') = true)
  (h : wpList P ops Q rest (a.put o.dst undef) (w.setRow g cells)) : wpList P ops Q (o :: rest) a w :=
 wpList_plain hgd fun _ hK => wp_store_row ty x y ho g cells hx hy t old hg hi hold h1 (hK _ _ h)
theorem vb_row {w : World} {g t : Nat} {vs : List Value} (h : vb w g t vs) (cs : List Value) : vb (w.setRow g cs.toArray) g t cs := by
 show (w.heap.modify g _)[g]? = _
 rw [Array.getElem?_modify, if_pos rfl, h];rfl
theorem bel_row {B : Nat} {a w : World} (h : Below B a w) {g : Nat} (hg : B ≤ g) (cs : Array Value) : Below B a (w.setRow g cs) :=
 h.trans ⟨rfl, rfl, rfl, by simp [World.setRow], fun k hk => by
  show (w.heap.modify g _)[k]? = _
  rw [Array.getElem?_modify, if_neg (by omega)]⟩
theorem ld_any (W : World) (g o n : Nat) (L : List Value) (hl : L.length = n) (h : ∀ (j : Nat) (v : Value), L[j]? = some v → W.cell? ⟨g, o + j, none⟩ = some v) : (loadCellsFrom ⟨g, o, none⟩ 0 n #[]).run Tryz.prog W = .ok L.toArray W := by
 subst hl;have := run_loadCells_list (P := Tryz.prog) W ⟨g, o, none⟩ L (fun j v hv => by rw [add_none]; exact h j v hv)
 simpa [loadCells] using this
structure Fl (F : Array Value) (f : Ft) : Prop where
 v : ftv f = .agg F
 l : F.toList = ftc f
theorem fl_ex (f : Ft) : ∃ F, Fl F f := ⟨(ftc f).toArray, rfl, rfl⟩
theorem Fl.size {F : Array Value} {f : Ft} (h : Fl F f) : F.size = 15 := by rw [← Array.length_toList, h.l]; rfl
def ab (W : World) (g t : Nat) (A : Array Value) : Prop := W.heap[g]? = some (.cells A t (0, 0))
theorem ab.lt {W : World} {g t : Nat} {A : Array Value} (h : ab W g t A) : g < W.heap.size := (Array.getElem?_eq_some_iff.1 h).1
theorem ab.bel {w W : World} {g t : Nat} {A : Array Value} (h : ab w g t A) (hb : Below w.heap.size w W) : ab W g t A := (hb.block g h.lt).trans h
theorem ab_new (W : World) (t : Nat) (A : Array Value) (g : Nat) (hg : g = W.heap.size) : ab (W.alloc (.cells A t)) g t A := by
 subst hg;exact heap_alloc_last W _
theorem ab.cell {W : World} {g t : Nat} {A : Array Value} (h : ab W g t A) {j : Nat} {v : Value} (hv : A.toList[j]? = some v) : W.cell? ⟨g, j, none⟩ = some v := by
 simp only [World.cell?];rw [h]
 simpa using hv
theorem Fl.load {F : Array Value} {f : Ft} (h : Fl F f) {W : World} {g o : Nat} (hc : ∀ (j : Nat) (v : Value), (ftc f)[j]? = some v → W.cell? ⟨g, o + j, none⟩ = some v) : (loadVar 75 ⟨g, o, none⟩).run Tryz.prog W = .ok (.agg F) W := by
 have := ld_any W g o 15 (ftc f) rfl hc;rw [← h.l] at this;simp only [loadVar, loadCells, Tryz.isAgg75, Tryz.sizeOf75, Sem.run_bind, Sem.run_pure, Result.andThen, if_true, this]
theorem Fl.load0 {F : Array Value} {f : Ft} (h : Fl F f) {W : World} {g t : Nat} (hb : ab W g t F) : (loadVar 75 ⟨g, 0, none⟩).run Tryz.prog W = .ok (.agg F) W :=
 h.load fun j v hv => by rw [Nat.zero_add]; exact hb.cell (by rw [h.l]; exact hv)
theorem wpl_loadAt {P : Program} {ops : Array Oper} {rest : List Oper} {o : Oper} {a : Act} {w : World} {Q : Exit → Act → World → Prop} (hgd : o.guard = none) (ty : TypeId) (x : Operand) (ho : o.op = .load ty x)
  (ad : Addr) (hx : a.eval x = .pointer (some ad)) (v : Value) (hrun : (loadVar ty ad).run P w = .ok v w) (h : wpList P ops Q rest (a.put o.dst v) w) : wpList P ops Q (o :: rest) a w := by
 refine wpList_plain hgd fun K hK => ?_
 unfold Oper.wp;simp only [execOp, ho, Instr.loadAt, Instr.sureAddr, hx, Sem.run_bind, Sem.run_pure, Result.andThen_ok, hrun];exact hK _ _ h
theorem wpl_putNew {P : Program} {ops : Array Oper} {rest : List Oper} {o : Oper} {a : Act} {Q : Exit → Act → World → Prop} (hgd : o.guard = none) (ty : TypeId) (x y : Operand) (ho : o.op = .store ty x y)
  (W : World) (old A : Array Value) (t : TypeId) (hx : a.eval x = .pointer (some ⟨W.heap.size, 0, none⟩)) (hy : a.eval y = .agg A) (hi : (P.info? ty).map (·.size) = some A.size) (hold : old.size = A.size) (h1 : A.all (·.oneCell') = true)
  (h : wpList P ops Q rest (a.put o.dst undef) (W.alloc (.cells A t))) : wpList P ops Q (o :: rest) a (W.alloc (.cells old t)) := by
 refine wpl_storeRowA hgd ty x y ho W.heap.size A hx hy t old (heap_alloc_last W _) hi hold h1 ?_;rw [World.setRow_alloc_new];exact h
theorem ftc_one (f : Ft) : ∀ v ∈ ftc f, v.oneCell' = true := by
 intro v hv;unfold ftc at hv;simp only [List.mem_cons, List.not_mem_nil, or_false] at hv
 rcases hv with rfl | rfl | rfl | rfl | rfl | rfl | rfl | rfl | rfl | rfl | rfl | rfl | rfl | rfl | rfl <;> rfl
theorem Fl.one {F : Array Value} {f : Ft} (h : Fl F f) : F.all (·.oneCell') = true := by
 rw [← Array.all_toList, List.all_eq_true, h.l];exact ftc_one f
theorem size75 : (Tryz.prog.info? 75).map (·.size) = some 15 := by kernel_rfl
theorem Fl.info {F : Array Value} {f : Ft} (h : Fl F f) : (Tryz.prog.info? 75).map (·.size) = some F.size := by rw [h.size]; exact size75
structure Fb (f : Ft) : Prop where
 kd : f.kd = 1 ∨ f.kd = 2 ∨ f.kd = 3
 bx : bxS 24 (ftB f)
 row : f.kd = 3 → emp f.on = true ∧ emp f.ov = false ∧ 1 ≤ f.ct ∧ f.ct ≤ 8
 on : emp f.on = false → f.kd ≠ 3 ∧ 1 ≤ f.sd ∧ f.sd ≤ 6
 far : (-24 ≤ f.dx ∧ f.dx ≤ 24) ∧ (-24 ≤ f.dy ∧ f.dy ≤ 24) ∧ (-24 ≤ f.dz ∧ f.dz ≤ 24)
 ct : 0 ≤ f.ct ∧ f.ct ≤ 8
theorem ftr_fb {f : Ft} (h : ftr f = true) : Fb f := by
 unfold ftr at h
 by_cases h1 : f.kd = 1 ∨ f.kd = 2
 ·rw [if_pos h1] at h
  simp only [Bool.and_eq_true, decide_eq_true_eq, loose, inG] at h;obtain ⟨⟨⟨h2, h3⟩, h4⟩, ⟨⟨h5, h6⟩, h7⟩, h8⟩ := h;refine ⟨by omega, ?_, fun e => by omega, fun e => ?_, by omega, by omega⟩
  ·show bxS 24 ⟨_, _, _, _, _, _⟩
   unfold bxS
   dsimp only
   omega
  ·rw [e] at h5
   simp only [Bool.false_eq_true, if_false, decide_eq_true_eq] at h5;omega
 ·rw [if_neg h1] at h
  by_cases h3 : f.kd = 3
  ·rw [if_pos h3] at h
   simp only [Bool.and_eq_true, decide_eq_true_eq, inG, Bool.not_eq_true'] at h;obtain ⟨_, ⟨⟨⟨⟨⟨⟨a1, a2⟩, a3⟩, a4⟩, a5⟩, a6⟩, a7⟩, a8⟩ := h;refine ⟨by omega, ?_, fun _ => ⟨a2, a1, by omega, by omega⟩, fun e => ?_, by omega, by omega⟩
   ·show bxS 24 ⟨_, _, _, _, _, _⟩
    unfold bxS
    dsimp only
    omega
   ·rw [a2] at e; cases e
  ·rw [if_neg h3] at h
   simp at h
theorem Fine.of_ {fs : List Ft} (h : Fine fs) {f : Ft} (hf : f ∈ fs) (h3 : f.kd = 3) : ∃ k g, findN fs f.ov = some k ∧ fs[k]? = some g ∧ ofF fs f = g ∧ g.kd ≠ 3 ∧ emp g.on = true ∧ Fb g := by
 have hb := ftr_fb (h.right f hf);obtain ⟨e1, e2, _⟩ := hb.row h3;have hw := h.names f hf;unfold wrg at hw;rw [if_neg (by rw [e1]; simp), if_pos e2] at hw
 cases hk : findN fs f.ov with
 | none => rw [hk] at hw; cases hw
 | some k =>
  rw [hk] at hw;obtain ⟨g, hg, _⟩ := findN_at hk;have hd : fs.getD k ft0 = g := by rw [List.getD_eq_getElem?_getD, hg]; rfl
  simp only [hd] at hw
  by_cases hc : g.kd = 3 ∨ emp g.on = false
  ·rw [if_pos hc] at hw; cases hw
  ·refine ⟨k, g, rfl, hg, ?_, fun e => hc (.inl e), by cases e : emp g.on with | true => rfl | false => exact (hc (.inr e)).elim, ftr_fb (h.right g (List.mem_of_getElem? hg))⟩
   unfold ofF;rw [hk];exact hd
theorem Fine.kd {fs : List Ft} (h : Fine fs) {f : Ft} (hf : f ∈ fs) : kdF fs f = 1 ∨ kdF fs f = 2 := by
 unfold kdF
 by_cases h3 : f.kd = 3
 ·rw [if_pos h3]
  obtain ⟨k, g, _, _, e, g3, _, gb⟩ := h.of_ hf h3;rw [e];have := gb.kd;omega
 ·rw [if_neg h3]
  have := (ftr_fb (h.right f hf)).kd;omega
theorem bxS_mono {a b : Int} {q : Bx} (h : bxS a q) (hab : a ≤ b) : bxS b q := by
 unfold bxS at *;omega
theorem mvB_S {a b x y z : Int} {q : Bx} (h : bxS a q) (hx : -b ≤ x ∧ x ≤ b) (hy : -b ≤ y ∧ y ≤ b) (hz : -b ≤ z ∧ z ≤ b) : bxS (a + b) (mvB q x y z) := by
 unfold bxS at *;simp only [mvB];omega
theorem mul_bnd {a b : Int} (ha : 0 ≤ a ∧ a ≤ 9) (hb : -24 ≤ b ∧ b ≤ 24) : -216 ≤ a * b ∧ a * b ≤ 216 := by
 have : a = 0 ∨ a = 1 ∨ a = 2 ∨ a = 3 ∨ a = 4 ∨ a = 5 ∨ a = 6 ∨ a = 7 ∨ a = 8 ∨ a = 9 := by omega
 rcases this with rfl | rfl | rfl | rfl | rfl | rfl | rfl | rfl | rfl | rfl <;> omega
structure Okd (fs : List Ft) (D : Bd) : Prop where
 lt : ∀ d ∈ D.done, d < fs.length
 iv : Ivt (pkt fs D.done) D.done.length D.cs
theorem Okd.zero (fs : List Ft) : Okd fs bd0 := ⟨fun _ h => (List.not_mem_nil h).elim, Ivt.start _⟩
theorem pkt_old {fs : List Ft} {l : List Nat} {i n : Nat} (h1 : 1 ≤ n) (hn : n ≤ l.length) : pkt fs (l ++ [i]) n = pkt fs l n := by
 unfold pkt
 have : (l ++ [i]).getD (n - 1) 0 = l.getD (n - 1) 0 := by
  rw [List.getD_eq_getElem?_getD, List.getD_eq_getElem?_getD, List.getElem?_append_left (by omega)]
 rw [this]
theorem pkt_new (fs : List Ft) (l : List Nat) (i : Nat) : pkt fs (l ++ [i]) (l.length + 1) = decide (kdF fs (fs.getD i ft0) = 2) := by
 unfold pkt;rw [Nat.add_sub_cancel, List.getD_eq_getElem?_getD (l := l ++ [i]), List.getElem?_append_right (Nat.le_refl _), Nat.sub_self];simp
theorem fils_iv {pk : Nat → Bool} {m : Nat} {v : Bool} (hm : 1 ≤ m) (hv : pk m = !v) : ∀ (l : List Bx) (c : Cs), Ivt pk m c → Ivt pk m (l.foldl (fun c b => fil b v m c) c)
 | [], c, h => h
 | b :: l, c, h => fils_iv hm hv l _ (h.put b v hm hv)
theorem Okd.step {fs : List Ft} {D : Bd} (hF : Fine fs) (h : Okd fs D) {i : Nat} (hi : i < fs.length) (l : List Bx) :
  Okd fs ⟨D.done ++ [i], l.foldl (fun c b => fil b (decide (kdF fs (fs.getD i ft0) = 1)) (D.done.length + 1) c) D.cs⟩ := by
 refine ⟨fun d hd => ?_, ?_⟩
 ·rcases List.mem_append.1 hd with hd | hd
  ·exact h.lt d hd
  ·rw [List.mem_singleton.1 hd]; exact hi
 ·show Ivt (pkt fs (D.done ++ [i])) (D.done ++ [i]).length _
  rw [List.length_append, List.length_singleton];refine fils_iv (by omega) ?_ _ _ (h.iv.grow fun n h1 h2 => pkt_old h1 h2);rw [pkt_new];have hk := hF.kd (f := fs.getD i ft0) (by rw [List.getD_eq_getElem?_getD, List.getElem?_eq_getElem hi]; exact List.getElem_mem hi)
  rcases hk with hk | hk <;> rw [hk] <;> rfl
theorem Okd.do_ {fs : List Ft} {D D' : Bd} (hF : Fine fs) (h : Okd fs D) {i : Nat} (hi : i < fs.length) (hd : doF fs D i = .inr D') : Okd fs D' := by
 unfold doF at hd
 cases hs : stood fs D (fs.getD i ft0) with
 | inl x => rw [hs] at hd; cases hd
 | inr l =>
  rw [hs] at hd;simp only at hd
  split at hd
  ·cases hd
  ·cases hd
   exact h.step hF hi l
def onm (fs : List Ft) (l : List Nat) : List ByteArray := l.map fun d => (fs.getD d ft0).nm
theorem onm_len (fs : List Ft) (l : List Nat) : (onm fs l).length = l.length := by simp [onm]
theorem onm_at {fs : List Ft} {l : List Nat} {k d : Nat} (h : l[k]? = some d) : (strs (onm fs l))[k]? = some (.string (fs.getD d ft0).nm) := by
 simp [strs, onm, h]
structure Mdm (w : World) (B : Nat) (u : Option Addr) (n cu : Nat) (fs : List Ft) (g gf gb : Nat) (ud : Option Addr) (cd : Nat) (uo : Option Addr) (co : Nat) (D : Bd) : Prop where
 blk : vb w g 97 [.slice u n cu, .slice ud D.done.length cd, .slice (some ⟨gf, 0, none⟩) 13824 13824, .slice (some ⟨gb, 0, none⟩) 13824 13824, .slice uo D.done.length co]
 cs : CsM w gf gb D.cs
 dn : w.ownsRow B 3 1 (.slice ud D.done.length cd) D.done.length (flatG natc D.done)
 od : w.ownsRow B 9 1 (.slice uo D.done.length co) D.done.length (strs (onm fs D.done))
theorem Mdm.bel {w w' : World} {B : Nat} {u : Option Addr} {n cu : Nat} {fs : List Ft} {g gf gb : Nat} {ud : Option Addr} {cd : Nat} {uo : Option Addr} {co : Nat} {D : Bd} (h : Mdm w B u n cu fs g gf gb ud cd uo co D) (hb : Below w.heap.size w w') : Mdm w' B u n cu fs g gf gb ud cd uo co D :=
  ⟨h.blk.bel hb, h.cs.bel hb, own_bel h.dn hb, own_bel h.od hb⟩
structure Th (g gf gb B : Nat) (w w' : World) : Prop where
 os : w'.os = w.os
 tape : w'.tape = w.tape
 output : w'.output = w.output
 size : w.heap.size ≤ w'.heap.size
 block : ∀ k, k < B → k ≠ g → k ≠ gf → k ≠ gb → w'.heap[k]? = w.heap[k]?
theorem Th.refl (g gf gb B : Nat) (w : World) : Th g gf gb B w w := ⟨rfl, rfl, rfl, Nat.le_refl _, fun _ _ _ _ _ => rfl⟩
theorem Th.trans {g gf gb B : Nat} {a b c : World} (x : Th g gf gb B a b) (y : Th g gf gb B b c) : Th g gf gb B a c :=
  ⟨y.os.trans x.os, y.tape.trans x.tape, y.output.trans x.output, Nat.le_trans x.size y.size, fun k hk h1 h2 h3 => (y.block k hk h1 h2 h3).trans (x.block k hk h1 h2 h3)⟩
theorem Th.of_bel {g gf gb B : Nat} {w w' : World} (hb : Below B w w') : Th g gf gb B w w' := ⟨hb.os, hb.tape, hb.output, hb.size, fun k hk _ _ _ => hb.block k hk⟩
theorem Th.of_tw {g gf gb B : Nat} {w w' : World} (hb : Tw gf gb w w') (hB : B ≤ w.heap.size) : Th g gf gb B w w' := ⟨hb.os, hb.tape, hb.output, hb.size, fun k hk _ h2 h3 => hb.block k (by omega) h2 h3⟩
theorem Th.set {g gf gb B : Nat} (w : World) (o : Nat) (v : Value) : Th g gf gb B w (w.setCell ⟨g, o, none⟩ v) :=
  ⟨rfl, rfl, rfl, by simp, fun k _ h1 _ _ => Below.heap_setCell _ _ _ _ h1⟩
theorem Th.below {g gf gb B C : Nat} {w w' : World} (x : Th g gf gb B w w') (h1 : C ≤ g) (h2 : C ≤ gf) (h3 : C ≤ gb) (hC : C ≤ B) : Below C w w' := ⟨x.os, x.tape, x.output, x.size, fun k hk => x.block k (by omega) (by omega) (by omega) (by omega)⟩
theorem vb.ownsK {w : World} {B g t k : Nat} {L : List Value} (h : vb w g t L) (hB : B ≤ g) (hl : L.length = k) : w.ownsRow B t k (.slice (some ⟨g, 0, none⟩) 1 1) 1 L :=
  ⟨by omega, .inr ⟨g, 1, L.toArray, rfl, hB, h, Nat.le_refl _, by unfold maxLen; omega, by simp [hl], by simp [← hl]⟩⟩
theorem flt_S {k s : Nat} (hk : k < 13824) : bxS 1000 (flt k s) := by
 have h1 := cx_lt k;have h2 := cy_lt k;have h3 := cz_lt hk;unfold bxS flt
 split <;> (dsimp only; omega)
theorem tld_bx (pk : Nat → Bool) (q : Sq) : (tld pk q).bx = q.bx := by unfold tld; split <;> rfl
theorem tlds_S (fs : List Ft) (D : Bd) : ∀ q ∈ tlds fs D, bxS 1000 q.bx := by
 intro q hq;unfold tlds at hq;obtain ⟨q0, h0, rfl⟩ := List.mem_map.1 hq;rw [tld_bx];obtain ⟨k, s, hk, _, _, _, ha⟩ := mem_sqs h0;rw [(sqA_bx ha).2];exact flt_S hk
theorem tlds_len (fs : List Ft) (D : Bd) : (tlds fs D).length ≤ 100000 := by
 unfold tlds;rw [List.length_map];have := sqs_len D.cs 13824;omega
theorem arn_S {m : Int} {a b : Bx} (h : bxS m a) (k : bxS m b) : bxS m (arn a b) := by
 unfold bxS arn at *
 dsimp only
 omega
theorem fold_S {m : Int} : ∀ (l : List Bx) (b : Bx), bxS m b → (∀ c ∈ l, bxS m c) → bxS m (l.foldl arn b)
 | [], b, h, _ => h
 | c :: l, b, h, hl => fold_S l (arn b c) (arn_S h (hl c (List.mem_cons_self ..))) (fun d hd => hl d (List.mem_cons_of_mem _ hd))
theorem hul_S {m : Int} {l : List Bx} (h0 : l ≠ []) (h : ∀ b ∈ l, bxS m b) : bxS m (hul l) := by
 cases l with
 | nil => exact (h0 rfl).elim
 | cons b l => exact fold_S l b (h b (List.mem_cons_self ..)) (fun c hc => h c (List.mem_cons_of_mem _ hc))
theorem ofO_S {fs : List Ft} {D : Bd} {n s : Nat} : ∀ b ∈ ofO (tlds fs D) n s, bxS 1000 b := by
 intro b hb;obtain ⟨q, hq, rfl⟩ := ofO_mem hb;exact tlds_S fs D q hq
theorem byL_le (fs : List Ft) (l : List Nat) (s : ByteArray) : ∀ n, byL fs l s n ≤ n
 | 0 => Nat.le_refl _
 | n + 1 => by
  have := byL_le fs l s n;unfold byL
  split <;> omega
theorem byL_yes {fs : List Ft} {l : List Nat} {s : ByteArray} {k d : Nat} (hd : l[k]? = some d) (h : ((fs.getD d ft0).nm.toList == s.toList) = true) : byL fs l s (k + 1) = k + 1 := by
 show (if _ then _ else _) = _
 rw [show l.getD k 0 = d by rw [List.getD_eq_getElem?_getD, hd]; rfl, if_pos (show sEq _ _ = true from h)]
theorem byL_no {fs : List Ft} {l : List Nat} {s : ByteArray} {k d : Nat} (hd : l[k]? = some d) (h : ((fs.getD d ft0).nm.toList == s.toList) = false) : byL fs l s (k + 1) = byL fs l s k := by
 show (if _ then _ else _) = _
 rw [show l.getD k 0 = d by rw [List.getD_eq_getElem?_getD, hd]; rfl, if_neg (by unfold sEq; rw [h]; simp)]
def Tls (L : List Sq) (W : World) (r : Value) : Prop := ∃ X : World, X.ownsRow 0 183 8 r L.length (flatG sqc L) ∧ Below X.heap.size X W
theorem Tls.keep {L : List Sq} {W W' : World} {r : Value} (h : Tls L W r) (hb : Below W.heap.size W W') : Tls L W' r := by
 obtain ⟨X, h1, h2⟩ := h;exact ⟨X, h1, h2.trans (hb.mono h2.size)⟩
theorem Tls.slice {L : List Sq} {W : World} {r : Value} (h : Tls L W r) : ∃ u c p, r = .slice u L.length c ∧ SlG sqc 8 W u p 0 L := by
 obtain ⟨X, h1, h2⟩ := h;obtain ⟨u, c, rfl, _⟩ := own_form h1;obtain ⟨p, hp⟩ := own_slG sqc_len h1 rfl;exact ⟨u, c, p, rfl, hp.bel h2⟩
theorem face_tls {L : List Sq} {W : World} {r : Value} (h : Tls L W r) (nb sd : Nat) (hn : L.length ≤ 100000) (hbx : ∀ q ∈ L, bxS 1000 q.bx) :
  Calls Tryz.prog 81 #[r, .int .i64 (nb : Int), .int .i64 (sd : Int)] W fun e w' => e = .returned (fcV sd ((ofO L nb sd).length : Int) ((pcsL (ofO L nb sd) : Nat) : Int) (hul (ofO L nb sd))) ∧ Below W.heap.size W w' := by
 obtain ⟨u, c, p, rfl, hs⟩ := h.slice;exact faceM_any u p 0 L.length c L nb sd W rfl hn hbx hs
theorem told_tls {w : World} {B : Nat} {u : Option Addr} {p po n cu : Nat} {fs : List Ft} {g gf gb : Nat} {ud : Option Addr} {cd : Nat} {uo : Option Addr} {co : Nat} {D : Bd} (hF : Fine fs) (hl : fs.length = n) (hu : SlG ftc 15 w u p po fs) (hok : Okd fs D) (hnd : D.done.length ≤ 900) (hm : Mdm w B u n cu fs g gf gb ud cd uo co D) :
  Calls Tryz.prog 79 #[.pointer (some ⟨g, 0, none⟩)] w fun e w' => (∃ r, e = .returned r ∧ Tls (tlds fs D) w' r) ∧ Below w.heap.size w w' := by
 obtain ⟨pd, hpd⟩ := own_slG natc_len hm.dn rfl;refine (toldM_any g gf gb u p po n cu fs ud pd 0 _ cd D.done (.slice uo D.done.length co) 13824 13824 D.cs w hm.blk hm.cs hl (by have := hF.len; omega) hu (fun f hf h3 => ?_) rfl hpd (fun d hd => by have := hok.lt d hd; omega) (by omega) hok.iv.le (fun k hk hf => (hok.iv.on k hk hf).1)).mono ?_
 ·obtain ⟨k, _, hk, _⟩ := hF.of_ hf h3
  exact ⟨k, hk⟩
 ·rintro e w' ⟨⟨v, rfl, hv⟩, hb⟩
  refine ⟨⟨v, rfl, ⟨w', ?_, bfl _ _⟩⟩, hb⟩;have := own_mono hv (Nat.zero_le _);unfold tlds;rw [List.length_map] at this ⊢;exact this
end Go.Proofs.YtkiplmabjeadgaaGreat
