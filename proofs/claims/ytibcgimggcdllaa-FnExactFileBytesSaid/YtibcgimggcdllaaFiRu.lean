/-
  The rules of a feature's numbers.
-/
import Derived.Test.YtibcgimggcdllaaFiLv
import Derived.Deep.WholeRow
namespace Go.Proofs.Ytibcgimggcdllaa
open Go.ChangeShapes Go.WideShapes Go.ChangeAt Go.RowKit
set_option linter.unusedVariables false
set_option linter.unusedSimpArgs false

theorem wpl_build {P : Program} {ops : Array Oper} {rest : List Oper} {o : Oper} {a : Act} {w : World} {Q : Exit → Act → World → Prop} (hg : o.guard = none) (t : TypeId) (parts : Array (Nat × Operand)) (ho : o.op = .build t parts) (cells : Array Value)
    (hf : P.built t (parts.map fun (i, x) => (i, a.eval x)).toList = some cells)
    (h : wpList P ops Q rest (a.put o.dst (.agg cells)) w) : wpList P ops Q (o :: rest) a w := by
  refine wpList_build hg t parts ho (by rw [hf]; rfl) ?_
  rw [hf]
  exact h
theorem wpl_storeRow {P : Program} {ops : Array Oper} {rest : List Oper} {o : Oper} {a : Act} {w : World} {Q : Exit → Act → World → Prop} (hgd : o.guard = none) (ty : TypeId) (x y : Operand) (ho : o.op = .store ty x y)
    (g : Nat) (cells : List Value) (hx : a.eval x = .pointer (some ⟨g, 0, none⟩)) (hy : a.eval y = .agg cells.toArray)
    (t : TypeId) (old : List Value) (hg : vb w g t old) (hi : (P.info? ty).map (·.size) = some cells.length)
    (hold : old.length = cells.length) (h1 : ∀ v ∈ cells, v.oneCell' = true)
    (h : wpList P ops Q rest (a.put o.dst undef) (w.setRow g cells.toArray)) : wpList P ops Q (o :: rest) a w :=
  wpList_plain hgd fun _ hK => wp_store_row ty x y ho g cells.toArray hx hy t old.toArray hg (by simpa using hi) (by simpa using hold) (by simpa using h1) (hK _ _ h)
theorem wpl_storeRowA {P : Program} {ops : Array Oper} {rest : List Oper} {o : Oper} {a : Act} {w : World} {Q : Exit → Act → World → Prop} (hgd : o.guard = none) (ty : TypeId) (x y : Operand) (ho : o.op = .store ty x y)
    (g : Nat) (cells : Array Value) (hx : a.eval x = .pointer (some ⟨g, 0, none⟩)) (hy : a.eval y = .agg cells)
    (t : TypeId) (old : Array Value) (hg : w.heap[g]? = some (.cells old t (0, 0))) (hi : (P.info? ty).map (·.size) = some cells.size)
    (hold : old.size = cells.size) (h1 : cells.all (·.oneCell') = true)
    (h : wpList P ops Q rest (a.put o.dst undef) (w.setRow g cells)) : wpList P ops Q (o :: rest) a w :=
  wpList_plain hgd fun _ hK => wp_store_row ty x y ho g cells hx hy t old hg hi hold h1 (hK _ _ h)
theorem wpl_loadRow {P : Program} {ops : Array Oper} {rest : List Oper} {o : Oper} {a : Act} {w : World} {Q : Exit → Act → World → Prop} (hgd : o.guard = none) (ty : TypeId) (x : Operand) (ho : o.op = .load ty x)
    (g : Nat) (hx : a.eval x = .pointer (some ⟨g, 0, none⟩)) (t : TypeId) (cells : List Value) (n e : Nat) (hg : vb w g t cells) (hu : P.underlying ty = some (.array n e)) (hi : (P.info? ty).map (·.size) = some cells.length)
    (h : wpList P ops Q rest (a.put o.dst (.agg cells.toArray)) w) : wpList P ops Q (o :: rest) a w :=
  wpList_load_row hgd ty x ho g hx t cells.toArray (0, 0) _ hg hu rfl (by simpa using hi) h
theorem stopOp {P : Program} {ops : Array Oper} {rest : List Oper} {o : Oper} {a : Act} {w : World} {Q : Exit → Act → World → Prop} {p : Op} (ho : o.op = p) (h : Hid (wpList P ops Q (o :: rest) a w)) : wpList P ops Q (o :: rest) a w := unhide h
theorem vb_row {w : World} {g t : Nat} {vs : List Value} (h : vb w g t vs) (cs : List Value) : vb (w.setRow g cs.toArray) g t cs := by
  show (w.heap.modify g _)[g]? = _
  rw [Array.getElem?_modify, if_pos rfl, h]
  rfl
theorem vb_row_ne {w : World} {g g' t : Nat} {vs : List Value} (h : vb w g t vs) (hg : g ≠ g') (cs : Array Value) : vb (w.setRow g' cs) g t vs := by
  show (w.heap.modify g' _)[g]? = _
  rw [Array.getElem?_modify, if_neg (fun e => hg e.symm)]
  exact h
theorem bel_row {B : Nat} {a w : World} (h : Below B a w) {g : Nat} (hg : B ≤ g) (cs : Array Value) : Below B a (w.setRow g cs) :=
  h.trans ⟨rfl, rfl, rfl, by simp [World.setRow], fun k hk => by
    show (w.heap.modify g _)[k]? = _
    rw [Array.getElem?_modify, if_neg (by omega)]⟩
theorem take_set3 {L F : List Value} {i : Nat} {a b c : Value} (hl : L.length = 36) (hf : F.length = 36) (hi : i < 12) (ht : L.take (i * 3) = F.take (i * 3)) (h0 : F[i * 3]? = some a) (h1 : F[i * 3 + 1]? = some b) (h2 : F[i * 3 + 2]? = some c) :
    (((L.set (i * 3) a).set (i * 3 + 1) b).set (i * 3 + 2) c).take ((i + 1) * 3) = F.take ((i + 1) * 3) := by
  apply List.ext_getElem?
  intro k
  rw [List.getElem?_take, List.getElem?_take]
  split
  · rename_i hk
    by_cases e2 : k = i * 3 + 2
    · subst e2; rw [List.getElem?_set_self (by simp; omega), h2]
    rw [List.getElem?_set_ne (by omega)]
    by_cases e1 : k = i * 3 + 1
    · subst e1; rw [List.getElem?_set_self (by simp; omega), h1]
    rw [List.getElem?_set_ne (by omega)]
    by_cases e0 : k = i * 3
    · subst e0; rw [List.getElem?_set_self (by omega), h0]
    rw [List.getElem?_set_ne (by omega)]
    have : (L.take (i * 3))[k]? = (F.take (i * 3))[k]? := by rw [ht]
    rw [List.getElem?_take, List.getElem?_take, if_pos (by omega), if_pos (by omega)] at this
    exact this
  · rfl
def zroL : List Value := [.int .i64 0, .int .i64 0, .int .i64 0, .int .i64 0, .int .i64 0, .int .i64 0, .int .i64 0, .int .i64 0, .int .i64 0, .int .i64 0, .int .i64 0, .int .i64 0, .int .i64 0, .int .i64 0, .int .i64 0, .int .i64 0, .int .i64 0, .int .i64 0, .int .i64 0, .int .i64 0, .int .i64 0, .int .i64 0, .int .i64 0, .int .i64 0, .int .i64 0, .int .i64 0, .int .i64 0, .int .i64 0, .int .i64 0, .int .i64 0, .int .i64 0, .int .i64 0, .int .i64 0, .int .i64 0, .int .i64 0, .int .i64 0]
def begL : List Value := [.int .i64 0, .int .i64 3, .int .i64 0, .int .i64 0, .int .i64 6, .int .i64 0, .int .i64 0, .int .i64 8, .int .i64 0, .int .i64 0, .int .i64 0, .int .i64 0, .int .i64 0, .int .i64 0, .int .i64 0, .int .i64 0, .int .i64 0, .int .i64 0, .int .i64 0, .int .i64 0, .int .i64 0, .int .i64 0, .int .i64 0, .int .i64 0, .int .i64 0, .int .i64 0, .int .i64 0, .int .i64 0, .int .i64 0, .int .i64 0, .int .i64 0, .int .i64 0, .int .i64 0, .int .i64 0, .int .i64 0, .int .i64 0]
def rulL : List Value := [.int .i64 0, .int .i64 3, .int .i64 0, .int .i64 0, .int .i64 6, .int .i64 0, .int .i64 0, .int .i64 8, .int .i64 0, .int .i64 (-24), .int .i64 24, .int .i64 100, .int .i64 (-24), .int .i64 24, .int .i64 100, .int .i64 (-24), .int .i64 24, .int .i64 100, .int .i64 (-24), .int .i64 24, .int .i64 100, .int .i64 (-24), .int .i64 24, .int .i64 100, .int .i64 (-24), .int .i64 24, .int .i64 100, .int .i64 (-24), .int .i64 24, .int .i64 100, .int .i64 (-24), .int .i64 24, .int .i64 100, .int .i64 (-24), .int .i64 24, .int .i64 100]
theorem rul_at : ∀ i, 3 ≤ i → i < 12 → rulL[i * 3]? = some (.int .i64 (-24)) ∧ rulL[i * 3 + 1]? = some (.int .i64 24) ∧ rulL[i * 3 + 2]? = some (.int .i64 100) := by
  intro i h3 h12
  have hi : i = 3 ∨ i = 4 ∨ i = 5 ∨ i = 6 ∨ i = 7 ∨ i = 8 ∨ i = 9 ∨ i = 10 ∨ i = 11 := by omega
  rcases hi with rfl | rfl | rfl | rfl | rfl | rfl | rfl | rfl | rfl <;> exact ⟨rfl, rfl, rfl⟩
/-- how much more the byte of a number is -/
def shf (i : Nat) : Int := if i < 3 then 0 else 100
theorem rul_shf : ∀ i, i < 12 → ∃ a b, rulL[i * 3]? = some (.int .i64 a) ∧ rulL[i * 3 + 1]? = some (.int .i64 b) ∧ rulL[i * 3 + 2]? = some (.int .i64 (shf i)) := by
  intro i h12
  have hi : i = 0 ∨ i = 1 ∨ i = 2 ∨ i = 3 ∨ i = 4 ∨ i = 5 ∨ i = 6 ∨ i = 7 ∨ i = 8 ∨ i = 9 ∨ i = 10 ∨ i = 11 := by omega
  rcases hi with rfl | rfl | rfl | rfl | rfl | rfl | rfl | rfl | rfl | rfl | rfl | rfl <;> exact ⟨_, _, rfl, rfl, rfl⟩
theorem rul_one : ∀ v ∈ rulL, v.oneCell' = true := by
  intro v hv
  simp only [rulL, List.mem_cons, List.not_mem_nil, or_false] at hv
  rcases hv with h | h | h | h | h | h | h | h | h | h | h | h | h | h | h | h | h | h | h | h | h | h | h | h | h | h | h | h | h | h | h | h | h | h | h | h <;> (subst h; rfl)
theorem beg_one : ∀ v ∈ begL, v.oneCell' = true := by
  intro v hv
  simp only [begL, List.mem_cons, List.not_mem_nil, or_false] at hv
  rcases hv with h | h | h | h | h | h | h | h | h | h | h | h | h | h | h | h | h | h | h | h | h | h | h | h | h | h | h | h | h | h | h | h | h | h | h | h <;> (subst h; rfl)
theorem start_two (w : World) (t : Nat) (z c : List Value) : vb (((w.alloc (.cells z.toArray t)).alloc (.cells z.toArray t)).setRow (w.heap.size + 1) c.toArray) (w.heap.size + 1) t c ∧ vb (((w.alloc (.cells z.toArray t)).alloc (.cells z.toArray t)).setRow (w.heap.size + 1) c.toArray) w.heap.size t z ∧ Below w.heap.size w (((w.alloc (.cells z.toArray t)).alloc (.cells z.toArray t)).setRow (w.heap.size + 1) c.toArray) :=
  ⟨vb_row (vb_new (w.alloc (.cells z.toArray t)) t z (w.heap.size + 1) (by simp)) c, vb_row_ne ((vb_new w t z w.heap.size rfl).bel (ba (Below.refl _ _) _)) (by omega) _, bel_row (ba (ba (Below.refl w.heap.size w) _) _) (Nat.le_succ _) _⟩
theorem new_zro (W W' : World) (h : W' = W.alloc (.cells (zroL).toArray 80)) : vb W' W.heap.size 80 zroL ∧ Below W.heap.size W W' ∧ W'.heap.size = W.heap.size + 1 := by
  subst h
  exact ⟨vb_new W 80 zroL W.heap.size rfl, ba (Below.refl _ _) _, by simp⟩
set_option maxRecDepth 100000 in
set_option maxHeartbeats 4000000 in
theorem rules_any (w : World) : Calls Try.prog 40 #[] w fun e w' => e = .returned (.agg rulL.toArray) ∧ Below w.heap.size w w' := by
  go_enter Try.func40, Try.ntmps40
  go_wp2_with (first | (refine wpl_build rfl 80 _ rfl #[.int .i64 0, .int .i64 3, .int .i64 0, .int .i64 0, .int .i64 6, .int .i64 0, .int .i64 0, .int .i64 8, .int .i64 0, .int .i64 0, .int .i64 0, .int .i64 0, .int .i64 0, .int .i64 0, .int .i64 0, .int .i64 0, .int .i64 0, .int .i64 0, .int .i64 0, .int .i64 0, .int .i64 0, .int .i64 0, .int .i64 0, .int .i64 0, .int .i64 0, .int .i64 0, .int .i64 0, .int .i64 0, .int .i64 0, .int .i64 0, .int .i64 0, .int .i64 0, .int .i64 0, .int .i64 0, .int .i64 0, .int .i64 0] (by kernel_rfl) ?_) | (refine wpl_storeRowA rfl 80 _ _ rfl (w.heap.size + 1) #[.int .i64 0, .int .i64 3, .int .i64 0, .int .i64 0, .int .i64 6, .int .i64 0, .int .i64 0, .int .i64 8, .int .i64 0, .int .i64 0, .int .i64 0, .int .i64 0, .int .i64 0, .int .i64 0, .int .i64 0, .int .i64 0, .int .i64 0, .int .i64 0, .int .i64 0, .int .i64 0, .int .i64 0, .int .i64 0, .int .i64 0, .int .i64 0, .int .i64 0, .int .i64 0, .int .i64 0, .int .i64 0, .int .i64 0, .int .i64 0, .int .i64 0, .int .i64 0, .int .i64 0, .int .i64 0, .int .i64 0, .int .i64 0] (by kernel_rfl) (by kernel_rfl) 80 #[.int .i64 0, .int .i64 0, .int .i64 0, .int .i64 0, .int .i64 0, .int .i64 0, .int .i64 0, .int .i64 0, .int .i64 0, .int .i64 0, .int .i64 0, .int .i64 0, .int .i64 0, .int .i64 0, .int .i64 0, .int .i64 0, .int .i64 0, .int .i64 0, .int .i64 0, .int .i64 0, .int .i64 0, .int .i64 0, .int .i64 0, .int .i64 0, .int .i64 0, .int .i64 0, .int .i64 0, .int .i64 0, .int .i64 0, .int .i64 0, .int .i64 0, .int .i64 0, .int .i64 0, .int .i64 0, .int .i64 0, .int .i64 0] (vb_new (w.alloc (.cells #[.int .i64 0, .int .i64 0, .int .i64 0, .int .i64 0, .int .i64 0, .int .i64 0, .int .i64 0, .int .i64 0, .int .i64 0, .int .i64 0, .int .i64 0, .int .i64 0, .int .i64 0, .int .i64 0, .int .i64 0, .int .i64 0, .int .i64 0, .int .i64 0, .int .i64 0, .int .i64 0, .int .i64 0, .int .i64 0, .int .i64 0, .int .i64 0, .int .i64 0, .int .i64 0, .int .i64 0, .int .i64 0, .int .i64 0, .int .i64 0, .int .i64 0, .int .i64 0, .int .i64 0, .int .i64 0, .int .i64 0, .int .i64 0] 80)) 80 [.int .i64 0, .int .i64 0, .int .i64 0, .int .i64 0, .int .i64 0, .int .i64 0, .int .i64 0, .int .i64 0, .int .i64 0, .int .i64 0, .int .i64 0, .int .i64 0, .int .i64 0, .int .i64 0, .int .i64 0, .int .i64 0, .int .i64 0, .int .i64 0, .int .i64 0, .int .i64 0, .int .i64 0, .int .i64 0, .int .i64 0, .int .i64 0, .int .i64 0, .int .i64 0, .int .i64 0, .int .i64 0, .int .i64 0, .int .i64 0, .int .i64 0, .int .i64 0, .int .i64 0, .int .i64 0, .int .i64 0, .int .i64 0] (w.heap.size + 1) (by simp)) (by kernel_rfl) rfl (by kernel_rfl) ?_))
  have st := start_two w 80 zroL begL
  have eZ : (#[.int .i64 0, .int .i64 0, .int .i64 0, .int .i64 0, .int .i64 0, .int .i64 0, .int .i64 0, .int .i64 0, .int .i64 0, .int .i64 0, .int .i64 0, .int .i64 0, .int .i64 0, .int .i64 0, .int .i64 0, .int .i64 0, .int .i64 0, .int .i64 0, .int .i64 0, .int .i64 0, .int .i64 0, .int .i64 0, .int .i64 0, .int .i64 0, .int .i64 0, .int .i64 0, .int .i64 0, .int .i64 0, .int .i64 0, .int .i64 0, .int .i64 0, .int .i64 0, .int .i64 0, .int .i64 0, .int .i64 0, .int .i64 0] : Array Value) = zroL.toArray := rfl
  have eB : (#[.int .i64 0, .int .i64 3, .int .i64 0, .int .i64 0, .int .i64 6, .int .i64 0, .int .i64 0, .int .i64 8, .int .i64 0, .int .i64 0, .int .i64 0, .int .i64 0, .int .i64 0, .int .i64 0, .int .i64 0, .int .i64 0, .int .i64 0, .int .i64 0, .int .i64 0, .int .i64 0, .int .i64 0, .int .i64 0, .int .i64 0, .int .i64 0, .int .i64 0, .int .i64 0, .int .i64 0, .int .i64 0, .int .i64 0, .int .i64 0, .int .i64 0, .int .i64 0, .int .i64 0, .int .i64 0, .int .i64 0, .int .i64 0] : Array Value) = begL.toArray := rfl
  rw [eZ, eB]
  clear eZ eB
  generalize ((w.alloc (.cells zroL.toArray 80)).alloc (.cells zroL.toArray 80)).setRow (w.heap.size + 1) begL.toArray = W3 at *
  have HV2 := hide st.1
  have HZ2 := hide st.2.1
  have HB2 := hide st.2.2
  have HGG : Hid (w.heap.size < w.heap.size + 1) := hide (by omega)
  clear st
  generalize Value.agg begL.toArray = vb6
  generalize w.heap.size + 1 = g1 at *
  have HF : Hid (begL.take (3 * 3) = rulL.take (3 * 3)) := hide rfl
  have HFL : Hid (begL.length = 36) := hide rfl
  generalize begL = L0 at *
  have HRA := hide rul_at
  have HRL : Hid (rulL.length = 36) := hide rfl
  have HRO := hide rul_one
  have HRI : Hid ((Try.prog.info? 80).map (·.size) = some rulL.length) := hide (by kernel_rfl)
  have HZL : Hid (zroL.length = rulL.length) := hide rfl
  generalize hF : rulL = F at *
  have HFE := hide hF
  clear hF
  generalize zroL = Zl at *
  go_loopw [2] (fun s W => ∃ (i : Nat) (L : List Value), s = .int .i64 (i : Int) ∧ 3 ≤ i ∧ i ≤ 12 ∧ L.length = 36 ∧ L.take (i * 3) = F.take (i * 3) ∧ vb W g1 80 L ∧ vb W w.heap.size 80 Zl ∧ Below w.heap.size w W) (fun s _ => 12 - (intOf s).toNat)
  case atStart => exact ⟨3, L0, rfl, by omega, by omega, unhide HFL, unhide HF, unhide HV2, unhide HZ2, unhide HB2⟩
  case round =>
    clear HV2 HZ2 HB2 HF HFL
    obtain ⟨i, L, rfl, h3, h12, hl, ht, hv, hv0, hb⟩ := hrel
    have HV := hide hv
    have HV0 := hide hv0
    have HB := hide hb
    have HT := hide ht
    have HL := hide hl
    have hgg := unhide HGG
    clear hb ht
    by_cases h : i < 12
    · have i1 : (i : Int) < 12 := by omega
      have iz : decide ((i : Int) < 12) = true := decide_eq_true i1
      have i0 : (0 : Int) ≤ (i : Int) := Int.natCast_nonneg _
      have c0 : wr.cell? ⟨g1, i * 3, none⟩ = some (L[i * 3]'(by omega)) := hv.cell (List.getElem?_eq_getElem _)
      have c1 : wr.cell? ⟨g1, i * 3 + 1, none⟩ = some (L[i * 3 + 1]'(by omega)) := hv.cell (List.getElem?_eq_getElem _)
      have c2 : wr.cell? ⟨g1, i * 3 + 2, none⟩ = some (L[i * 3 + 2]'(by omega)) := hv.cell (List.getElem?_eq_getElem _)
      generalize L[i * 3]'(by omega) = y0 at c0
      generalize L[i * 3 + 1]'(by omega) = y1 at c1
      generalize L[i * 3 + 2]'(by omega) = y2 at c2
      have fz : ∀ o, wr.frozen? ⟨g1, o, none⟩ = false := hv.frozen
      clear hv hv0 hl
      go_wp2_with fail
      go_roundw
      case rel =>
        obtain ⟨f0, f1, f2⟩ := unhide HRA i h3 h
        exact ⟨i + 1, _, by simp, by omega, by omega, by simp [unhide HL], take_set3 (unhide HL) (unhide HRL) h (unhide HT) f0 f1 f2, (((unhide HV).set (i * 3) _).set (i * 3 + 1) _).set (i * 3 + 2) _, (((unhide HV0).ne (by omega)).ne (by omega)).ne (by omega), (((unhide HB).setCell (p := ⟨g1, i * 3, none⟩) (Nat.le_of_lt hgg) _).setCell (p := ⟨g1, i * 3 + 1, none⟩) (Nat.le_of_lt hgg) _).setCell (p := ⟨g1, i * 3 + 2, none⟩) (Nat.le_of_lt hgg) _⟩
      case measure => simp only [intOf]; omega
    · have i1 : ¬ (i : Int) < 12 := by omega
      have iz : decide ((i : Int) < 12) = false := decide_eq_false i1
      have e12 : i = 12 := by omega
      subst e12
      have eL : L = F := by
        have := unhide HT
        rwa [List.take_of_length_le (by rw [hl]; omega), List.take_of_length_le (by rw [unhide HRL]; omega)] at this
      have HFL2 := hide eL
      rw [← eL] at HRI HZL HRO
      clear eL
      clear hv hv0 hl
      go_wp2_with (first | (refine wpl_loadRow rfl 80 _ rfl g1 (by kernel_rfl) 80 L 12 79 (unhide HV) Try.underlying80 (unhide HRI) ?_) | (refine wpl_storeRow rfl 80 _ _ rfl w.heap.size L (by kernel_rfl) (by kernel_rfl) 80 Zl (unhide HV0) (unhide HRI) (unhide HZL) (unhide HRO) ?_))
      have hx := vb_row (unhide HV0) L
      have HX := hide hx
      have HBX := hide (bel_row (unhide HB) (Nat.le_refl w.heap.size) L.toArray)
      clear hx
      generalize wr.setRow w.heap.size L.toArray = W9 at *
      refine bodyPost_ret (v := .agg L.toArray) ?_ rfl ⟨by rw [unhide HFL2, ← unhide HFE], unhide HBX⟩
      have hrs := run_loadVar_row (P := Try.prog) W9 w.heap.size 80 80 L.toArray (0, 0) _ (unhide HX) Try.underlying80 rfl (by simpa using unhide HRI)
      simp [results, Try.results40, asAddr, hrs]
end Go.Proofs.Ytibcgimggcdllaa
