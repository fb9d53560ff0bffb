/-
  Bytes that lie in memory, and bytes appended to them: to a row of one's own, or to a full slice.
-/
import Derived.Test.YtibcgimggcdllaaFiCo
import Derived.Lib.SlBytesConst
namespace Go.Proofs.Ytibcgimggcdllaa
open Go.ChangeShapes Go.WideShapes Go.ChangeAt Go.RowKit
set_option linter.unusedVariables false
set_option linter.unusedSimpArgs false

/-- these bytes lie there -/
def Bys (w : World) (p po : Nat) (L : List Int) : Prop := p < w.heap.size ∧ ∀ (j : Nat) (x : Int), L[j]? = some x → w.cell? ⟨p, po + j, none⟩ = some (.int .u8 x)
theorem Bys.bel {w w' : World} {p po : Nat} {L : List Int} (h : Bys w p po L) (hb : Below w.heap.size w w') : Bys w' p po L := ⟨Nat.lt_of_lt_of_le h.1 hb.size, fun j x hj => keep1 hb (h.2 j x hj)⟩
theorem Bys.slG {w : World} {p po : Nat} {L : List Int} (h : Bys w p po L) : SlG byc 1 w (some ⟨p, po, none⟩) p po L := by
  intro _
  refine ⟨rfl, h.1, ?_⟩
  intro i a hi j v hj
  have hj0 : j = 0 ∧ v = .int .u8 a := by
    cases j with
    | zero => simp [byc] at hj; exact ⟨rfl, hj.symm⟩
    | succ j => simp [byc] at hj
  obtain ⟨rfl, rfl⟩ := hj0
  simpa using h.2 i a hi
theorem Rb.bys {w : World} {B n g cap : Nat} {L : List Int} (h : Rb w B (.slice (some ⟨g, 0, none⟩) n cap) n L) (hn : n ≠ 0) : Bys w g 0 L := by
  obtain ⟨u, c, e, _, _, hf⟩ := own_form h
  obtain ⟨g', e', _, hlt, hc⟩ := hf hn
  cases e
  cases e'
  exact ⟨hlt, fun j x hj => by rw [Nat.zero_add]; exact hc j _ (byL_at hj)⟩
theorem vb.bys {w : World} {g t : Nat} {L : List Int} (h : vb w g t (byL L)) : Bys w g 0 L := ⟨h.lt, fun j x hj => by rw [Nat.zero_add]; exact h.cell (byL_at hj)⟩
theorem Bys.src {w : World} {p po : Nat} {L : List Int} (h : Bys w p po L) : ∀ (j : Nat) (u : Value), (byL L)[j]? = some u → w.cell? ((⟨p, po, none⟩ : Addr).add j) = some u := by
  intro j u hj
  rw [add_none]
  unfold byL at hj
  rw [List.getElem?_map] at hj
  cases hx : L[j]? with
  | none => rw [hx] at hj; cases hj
  | some x => rw [hx] at hj; cases hj; exact h.2 j x hx
/-- bytes on the way: a row of one's own, or a full slice -/
def Fb (w : World) (B : Nat) (v : Value) (N : Nat) (L : List Int) : Prop := Rb w B v N L ∨ ∃ g, v = .slice (some ⟨g, 0, none⟩) N N ∧ Bys w g 0 L ∧ L.length = N
theorem Fb.bel {w w' : World} {B N : Nat} {v : Value} {L : List Int} (h : Fb w B v N L) (hb : Below w.heap.size w w') : Fb w' B v N L := by
  rcases h with h | ⟨g, h1, h2, h3⟩
  · exact .inl (h.bel hb)
  · exact .inr ⟨g, h1, h2.bel hb, h3⟩
theorem Fb.len {w : World} {B N : Nat} {v : Value} {L : List Int} (h : Fb w B v N L) : L.length = N := by
  rcases h with h | ⟨g, h1, h2, h3⟩
  · exact h.len
  · exact h3
theorem Fb.form {w : World} {B N : Nat} {v : Value} {L : List Int} (h : Fb w B v N L) (hn : N ≠ 0) : ∃ g cap, v = .slice (some ⟨g, 0, none⟩) N cap ∧ Bys w g 0 L := by
  rcases h with h | ⟨g, h1, h2, h3⟩
  · obtain ⟨u, c, rfl, _, _, hf⟩ := own_form h
    obtain ⟨g, rfl, _, _, _⟩ := hf hn
    exact ⟨g, c, rfl, h.bys hn⟩
  · exact ⟨g, N, h1, h2⟩
theorem wpl_append_fb (w : World) {ops : Array Oper} {rest : List Oper} {o : Oper} {a : Act} {Q : Exit → Act → World → Prop} (hgd : o.guard = none) (s x : Operand)
    (ho : o.op = .call { callee := .builtin .append, args := #[s, x], argTypes := #[22, 22] }) (B : Nat) (v : Value) (N : Nat) (L : List Int) (hs : a.eval s = v) (hf : Fb w B v N L) (hN : N ≠ 0)
    (p po m c : Nat) (news : List Int) (hx : a.eval x = .slice (some ⟨p, po, none⟩) m c) (hl : news.length = m) (hm : 0 < m) (hnews : Bys w p po news) (hbd : N + m ≤ 100000) (hB : B ≤ w.heap.size)
    (K : ∀ v' w', Rb w' B v' (N + m) (L ++ news) → Below B w w' → wpList Try.prog ops Q rest (a.put o.dst v') w') : wpList Try.prog ops Q (o :: rest) a w := by
  obtain ⟨iP, hi1, hy0, hy1, hy2⟩ := info_parts info5
  rcases hf with h | ⟨g, rfl, h2, h3⟩
  · refine wpList_append_own w hgd s x 22 ho B 5 iP _ 1 1 Try.underlying22 hi1 hy0 hy1 hy2 rfl (by decide) v N (byL L) hs h ⟨p, po, none⟩ m c (byL news) hx (by rw [byL_len]; omega) hnews.src (byL_one _) (by unfold maxLen; omega) (by omega) hB ?_
    intro v' w' hown' hgrow _
    have R := rb_more (wr := w) (news := news) (Below.refl _ _) hB h hown' hgrow
    exact K v' w' R.1 R.2
  · refine wpList_plain hgd fun K' hK => ?_
    have hr := run_append_grow (P := Try.prog) w 22 o.type 5 iP _ Try.underlying22 hi1 hy0 ⟨g, 0, none⟩ N N (byL L) (by rw [byL_len, hy1]; omega) h2.src ⟨p, po, none⟩ m c (byL news) (by rw [byL_len, hy1]; omega) hnews.src (by omega) (by omega) (growslice_fits (by omega) (by rw [hy2]; omega))
    unfold Oper.wp execOp
    simp only [ho, resolve, invoke, builtin, Sem.run_bind, Sem.run_pure, Result.andThen_ok, List.map_toArray, List.map_cons, List.map_nil, hs, hx, hr]
    refine hK _ _ (K _ _ ?_ ?_)
    · have hge := grownCap_ge w (N + m) N 5
      have hle := grownCap_le_maxLen w (N + m) N 5 (by unfold maxLen; omega)
      refine ⟨by rw [byL_len, List.length_append]; omega, Or.inr ⟨w.heap.size, grownCap w (N + m) N 5, _, rfl, hB, heap_alloc_new w.drew _, hge, hle, ?_, ?_⟩⟩
      · simp [size_zeroCells, Value.cells, byL_len]
        omega
      · rw [byL_app]
        simp only [Array.toList_append, List.append_assoc]
        rw [← List.append_assoc, List.take_append_of_le_length (by simp [byL_len]; omega)]
        exact List.take_of_length_le (by simp [byL_len]; omega)
    · exact (ba (Below.drew (Below.refl _ _)) _).mono hB
theorem head_new (W : World) : Bys (W.alloc (.cells #[.int .u8 80, .int .u8 65, .int .u8 82, .int .u8 84, .int .u8 1] 5 (5, 6))) W.heap.size 0 headL := by
  refine ⟨by simp, ?_⟩
  intro j x hj
  rw [Nat.zero_add]
  have hb : (W.alloc (.cells #[.int .u8 80, .int .u8 65, .int .u8 82, .int .u8 84, .int .u8 1] 5 (5, 6))).heap[W.heap.size]? = some (.cells #[.int .u8 80, .int .u8 65, .int .u8 82, .int .u8 84, .int .u8 1] 5 (5, 6)) := by
    show (W.heap.push _)[W.heap.size]? = _
    rw [Array.getElem?_push_size]
  simp only [World.cell?]
  rw [hb]
  rcases j with _ | _ | _ | _ | _ | j <;> simp [headL] at hj <;> subst hj <;> rfl
end Go.Proofs.Ytibcgimggcdllaa
