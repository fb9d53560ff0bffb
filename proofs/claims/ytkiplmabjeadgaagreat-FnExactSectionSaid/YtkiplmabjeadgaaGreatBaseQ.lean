/- Rows of structs in memory: any cells, k to an element. -/
import Derived.Test.YtkiplmabjeadgaaGreatProg
import Derived.WalkKit
import Derived.ProofKit
import Derived.OpenShut
import Derived.Deep.QuietTactic
import Derived.BigQuiet
import Derived.Below
import Derived.Deep.RegionHeld3
import Derived.Deep.DeepCutAuto
import Derived.Laws.MakeOwn
import Derived.Laws.AppendOwn
import Derived.OwnWalk
namespace Go.Proofs.YtkiplmabjeadgaaGreat
set_option maxRecDepth 100000
set_option maxHeartbeats 16000000
open Go.ChangeShapes Go.WideShapes Go.ChangeAt Go.RowKit
set_option linter.unusedVariables false
theorem zu {p : Prop} (h : Hid p) : p := h
theorem dt {p : Prop} [Decidable p] (h : p) : decide p = true := decide_eq_true h
theorem df {p : Prop} [Decidable p] (h : ¬ p) : decide p = false := decide_eq_false h
theorem bfl (n : Nat) (w : World) : Below n w w := Below.refl n w
theorem hide {p : Prop} (h : p) : Hid p := h
theorem ret_int {k : IntKind} {a b : Int} (h : a = b) : Ending.returned (.int k a) = .returned (.int k b) := by rw [h]
theorem ret_bool {a b : Bool} (h : a = b) : Ending.returned (.bool a) = .returned (.bool b) := by rw [h]
theorem cell_lt {W : World} {b o : Nat} {v : Value} (h : W.cell? ⟨b, o, none⟩ = some v) : b < W.heap.size := by
 by_cases hb : b < W.heap.size
 ·exact hb
 ·have : W.heap[b]? = none := by simp; omega
  simp [World.cell?, this] at h
theorem keep1 {W w1 : World} (hb : Below W.heap.size W w1) {b o : Nat} {v : Value} (h : W.cell? ⟨b, o, none⟩ = some v) : w1.cell? ⟨b, o, none⟩ = some v :=
 (hb.cell (p := ⟨b, o, none⟩) (cell_lt h)).trans h
theorem keepz {W w1 : World} (hb : Below W.heap.size W w1) {b o : Nat} (h : b < W.heap.size) (hf : W.frozen? ⟨b, o, none⟩ = false) : w1.frozen? ⟨b, o, none⟩ = false :=
 (hb.frozen (p := ⟨b, o, none⟩) h).trans hf
theorem ka {W : World} {o : Obj} {b f : Nat} {v : Value} (h : W.cell? ⟨b, f, none⟩ = some v) : (W.alloc o).cell? ⟨b, f, none⟩ = some v := by
 rw [World.cell?_alloc_past _ _ _ (cell_lt h)]; exact h
theorem bc {w W w1 : World} (h : Below w.heap.size w W) (hb : Below W.heap.size W w1) : Below w.heap.size w w1 := h.trans (hb.mono h.size)
theorem ba {w W : World} (h : Below w.heap.size w W) (o : Obj) : Below w.heap.size w (W.alloc o) := h.alloc h.size o
theorem le1 {b n k : Nat} (h : b ≤ n) : b ≤ n + k := Nat.le_trans h (Nat.le_add_right n k)
theorem lt1 {b n k : Nat} (h : b < n) : b < n + k := Nat.lt_of_lt_of_le h (Nat.le_add_right n k)
def IntsAt (w : World) (b off : Nat) (L : List Int) : Prop := ∀ (j : Nat) (x : Int), L[j]? = some x → w.cell? ⟨b, off + j, none⟩ = some (.int .i64 x)
def iblk (w : World) (g t : Nat) (L : List Int) : Prop := w.heap[g]? = some (.cells (L.map (Value.int .i64)).toArray t (0, 0))
theorem iblk.cell {w : World} {g t : Nat} {L : List Int} (h : iblk w g t L) {m : Nat} {x : Int} (hx : L[m]? = some x) : w.cell? ⟨g, m, none⟩ = some (.int .i64 x) := by
 simp only [World.cell?];rw [h];simp [hx]
theorem iblk.lt {w : World} {g t : Nat} {L : List Int} (h : iblk w g t L) : g < w.heap.size := (Array.getElem?_eq_some_iff.1 h).1
theorem iblk.frozen {w : World} {g t : Nat} {L : List Int} (h : iblk w g t L) (o : Nat) : w.frozen? ⟨g, o, none⟩ = false := by
 simp only [World.frozen?];rw [h];simp
theorem iblk.below {B : Nat} {w w' : World} {g t : Nat} {L : List Int} (h : iblk w g t L) (hb : Below B w w') (hg : g < B) : iblk w' g t L := (hb.block g hg).trans h
theorem iblk.bel {w w' : World} {g t : Nat} {L : List Int} (h : iblk w g t L) (hb : Below w.heap.size w w') : iblk w' g t L := h.below hb h.lt
theorem iblk.set {w : World} {g t : Nat} {L : List Int} (h : iblk w g t L) (m : Nat) (x : Int) : iblk (w.setCell ⟨g, m, none⟩ (.int .i64 x)) g t (L.set m x) := by
 show (w.heap.modify g _)[g]? = _
 rw [Array.getElem?_modify, if_pos rfl, h];simp [List.map_set]
theorem IntsAt.below {B : Nat} {w w' : World} {b off : Nat} {L : List Int} (h : IntsAt w b off L) (hb : Below B w w') (hB : b < B) : IntsAt w' b off L :=
  fun j x hj => (hb.cell (p := ⟨b, _, none⟩) hB).trans (h j x hj)
theorem IntsAt.at {w : World} {b off : Nat} {L : List Int} (h : IntsAt w b off L) {k i f : Nat} {x : Int} (hj : L[i * k + f]? = some x) : w.cell? ⟨b, off + i * k + f, none⟩ = some (.int .i64 x) := by
 have := h (i * k + f) x hj;rw [← Nat.add_assoc] at this;exact this
structure Same (w w' : World) : Prop where
 os : w'.os = w.os
 tape : w'.tape = w.tape
 output : w'.output = w.output
 heap : w'.heap = w.heap
theorem Same.refl (w : World) : Same w w := ⟨rfl, rfl, rfl, rfl⟩
theorem Same.drew {a w : World} (h : Same a w) : Same a w.drew := ⟨h.os, h.tape, h.output, h.heap⟩
theorem Same.trans {a b c : World} (h : Same a b) (k : Same b c) : Same a c := ⟨k.os.trans h.os, k.tape.trans h.tape, k.output.trans h.output, k.heap.trans h.heap⟩
theorem Same.bel {B : Nat} {w w' : World} (h : Same w w') : Below B w w' := ⟨h.os, h.tape, h.output, Nat.le_of_eq (by rw [h.heap]), fun k _ => by rw [h.heap]⟩
theorem Same.cell {w w' : World} (h : Same w w') (a : Addr) : w'.cell? a = w.cell? a := by simp only [World.cell?, h.heap]
theorem Same.iblk {w w' : World} (h : Same w w') {g t : Nat} {L : List Int} (k : iblk w g t L) : iblk w' g t L := by unfold Go.Proofs.YtkiplmabjeadgaaGreat.iblk; rw [h.heap]; exact k
structure But (g : Nat) (w w' : World) : Prop where
 os : w'.os = w.os
 tape : w'.tape = w.tape
 output : w'.output = w.output
 size : w.heap.size = w'.heap.size
 block : ∀ k, k ≠ g → w'.heap[k]? = w.heap[k]?
theorem But.refl (g : Nat) (w : World) : But g w w := ⟨rfl, rfl, rfl, rfl, fun _ _ => rfl⟩
theorem But.trans {g : Nat} {a b c : World} (h : But g a b) (k : But g b c) : But g a c :=
  ⟨k.os.trans h.os, k.tape.trans h.tape, k.output.trans h.output, h.size.trans k.size, fun i hi => (k.block i hi).trans (h.block i hi)⟩
theorem But.drew {g : Nat} {a w : World} (h : But g a w) : But g a w.drew := ⟨h.os, h.tape, h.output, h.size, h.block⟩
theorem But.setCell {g : Nat} {a w : World} (h : But g a w) (o : Nat) (u : Value) : But g a (w.setCell ⟨g, o, none⟩ u) :=
 h.trans ⟨rfl, rfl, rfl, by simp [World.setCell], fun k hk => Below.heap_setCell _ _ _ _ hk⟩
theorem But.bel {g B : Nat} {w w' : World} (h : But g w w') (hB : B ≤ g) : Below B w w' :=
  ⟨h.os, h.tape, h.output, Nat.le_of_eq h.size, fun k hk => h.block k (by omega)⟩
set_option linter.unusedSimpArgs false
theorem add_none (p po j : Nat) : (⟨p, po, none⟩ : Addr).add j = ⟨p, po + j, none⟩ := by
 unfold Addr.add
 split <;> simp_all
def Row (w : World) (B t k : Nat) (v : Value) (n : Nat) (L : List Int) : Prop := w.ownsRow B t k v n (L.map (Value.int .i64))
theorem Row.len {w : World} {B t k : Nat} {v : Value} {n : Nat} {L : List Int} (h : Row w B t k v n L) : L.length = n * k := by have := h.1; simpa using this
theorem Row.form {w : World} {B t k : Nat} {v : Value} {n : Nat} {L : List Int} (h : Row w B t k v n L) :
  ∃ (u : Option Addr) (cap : Nat), v = .slice u n cap ∧ (n ≠ 0 → ∃ g, u = some ⟨g, 0, none⟩ ∧ B ≤ g ∧ g < w.heap.size ∧ IntsAt w g 0 L) := by
 rcases h.2 with ⟨rfl, rfl⟩ | ⟨g, cap, cur, rfl, hb, hh, hn, hm, hs, ht⟩
 ·exact ⟨none, 0, rfl, fun h => absurd rfl h⟩
 ·refine ⟨_, cap, rfl, fun _ => ⟨g, rfl, hb, (Array.getElem?_eq_some_iff.1 hh).1, ?_⟩⟩
  intro j x hj;have h1 : (cur.toList.take (n * k))[j]? = some (Value.int .i64 x) := by rw [ht, List.getElem?_map, hj]; rfl
  simp only [World.cell?];rw [hh];rw [List.getElem?_take] at h1
  split at h1
  ·rw [Nat.zero_add]; simpa using h1
  ·cases h1
theorem Row.below {w w' : World} {B t k : Nat} {v : Value} {n : Nat} {L : List Int} (h : Row w B t k v n L) (hb : Below w.heap.size w w') : Row w' B t k v n L := by
 refine ⟨h.1, ?_⟩
 rcases h.2 with h1 | ⟨g, cap, cur, hv, hB, hh, r⟩
 ·exact .inl h1
 ·exact .inr ⟨g, cap, cur, hv, hB, (hb.block g (Array.getElem?_eq_some_iff.1 hh).1).trans hh, r⟩
theorem Row.mono {w : World} {B B' t k : Nat} {v : Value} {n : Nat} {L : List Int} (h : Row w B t k v n L) (hb : B' ≤ B) : Row w B' t k v n L := by
 refine ⟨h.1, ?_⟩
 rcases h.2 with h1 | ⟨g, cap, cur, hv, hB, r⟩
 ·exact .inl h1
 ·exact .inr ⟨g, cap, cur, hv, Nat.le_trans hb hB, r⟩
theorem row_made (w : World) (t B k : Nat) (hb : B ≤ w.heap.size) (g : Nat) (hg : g = w.heap.size) : Row (w.alloc (.cells #[] t)) B t k (.slice (some ⟨g, 0, none⟩) 0 0) 0 [] := by
 subst hg;exact World.ownsRow_made w #[] 0 hb (by decide) (by simp)
theorem own_more {B t k n m : Nat} {wr W2 w1 : World} {v v' : Value} {L news : List Int} (hbel : Below B wr W2) (hB : B ≤ W2.heap.size) (hown : Row wr B t k v n L)
  (hown' : w1.ownsRow B t k v' (n + m) (L.map (Value.int .i64) ++ news.map (Value.int .i64))) (hgrow : W2.grownBy w1 v.ownBlock) :
  Row w1 B t k v' (n + m) (L ++ news) ∧ Below B wr w1 :=
  ⟨by unfold Row; rw [List.map_append]; exact hown', hbel.grown hgrow hB (fun j hj => (hown.lt j hj).1)⟩
theorem news_cells {W : World} {e : TypeId} (news : List Value) (g : Nat) (hg : g = W.heap.size) : ∀ (j : Nat) (u : Value), news[j]? = some u → (W.alloc (.cells news.toArray e)).cell? ((⟨g, 0, none⟩ : Addr).add j) = some u := by
 subst hg;intro j u hj;rw [add_none, Nat.zero_add];simp only [World.cell?];rw [heap_alloc_new];simp [hj]
theorem news_drew {W : World} {e : TypeId} (news : List Value) (g : Nat) (hg : g = W.heap.size) : ∀ (j : Nat) (u : Value), news[j]? = some u → (W.alloc (.cells news.toArray e)).drew.cell? ((⟨g, 0, none⟩ : Addr).add j) = some u := news_cells news g hg
theorem ints_one {L : List Int} : ∀ u ∈ L.map (Value.int .i64), u.oneCell' = true := by
 intro u hu;obtain ⟨x, _, rfl⟩ := List.mem_map.1 hu;rfl
theorem Row.full {w : World} {B t k : Nat} {v : Value} {n : Nat} {L : List Int} (h : Row w B t k v n L) (hn : n ≠ 0) :
  ∃ g cap, v = .slice (some ⟨g, 0, none⟩) n cap ∧ B ≤ g ∧ g < w.heap.size ∧ IntsAt w g 0 L ∧ n ≤ cap ∧ cap ≤ 9223372036854775807 := by
 obtain ⟨u, cap, hv, hf⟩ := h.form;obtain ⟨g, rfl, h1, h2, h3⟩ := hf hn;refine ⟨g, cap, hv, h1, h2, h3, ?_⟩
 rcases h.2 with ⟨h4, h5⟩ | ⟨g', cap', cur, h4, _, _, h7, h8, _⟩
 ·exact absurd h5 hn
 ·rw [h4] at hv
  cases hv
  exact ⟨h7, by unfold maxLen at h8; omega⟩
theorem Row.kept' {w w' : World} {B t k n : Nat} {v : Value} {L : List Int} (h : Row w B t k v n L) (hb : ∀ g, v.ownBlock = some g → w'.heap[g]? = w.heap[g]?) : Row w' B t k v n L := by
 refine ⟨h.1, ?_⟩
 rcases h.2 with h1 | ⟨g, cap, cur, hv, hB, hh, r⟩
 ·exact .inl h1
 ·exact .inr ⟨g, cap, cur, hv, hB, (hb g (by rw [hv]; rfl)).trans hh, r⟩
theorem wrap_i {x : Int} (h1 : -9223372036854775808 ≤ x) (h2 : x ≤ 9223372036854775807) : IntKind.i64.wrap x = x := by
 simp only [IntKind.wrap, IntKind.bits, IntKind.signed];simp;omega
def Only (K : Act → World → Prop) : Exit → Act → World → Prop := fun e a w => match e with | .normal => K a w | _ => False
theorem Only.to {K : Act → World → Prop} {Q : Exit → Act → World → Prop} (h : ∀ a w, K a w → Q .normal a w) : ∀ e a w, Only K e a w → Q e a w := by
 intro e a w hq
 cases e <;> first | exact h _ _ hq | exact hq.elim
theorem get_some {α : Type} {ls : List α} {i n : Nat} (hl : ls.length = n) (h : i < n) : ∃ l, ls[i]? = some l := ⟨ls[i]'(by omega), List.getElem?_eq_getElem _⟩
def Its (w : World) (u : Option Addr) (p po : Nat) (L : List Int) : Prop := L ≠ [] → u = some ⟨p, po, none⟩ ∧ p < w.heap.size ∧ IntsAt w p po L
theorem Its.bel {w w' : World} {u : Option Addr} {p po : Nat} {L : List Int} (h : Its w u p po L) (hb : Below w.heap.size w w') : Its w' u p po L :=
  fun h0 => ⟨(h h0).1, Nat.lt_of_lt_of_le (h h0).2.1 hb.size, (h h0).2.2.below hb (h h0).2.1⟩
theorem Its.at {w : World} {u : Option Addr} {p po : Nat} {L : List Int} (h : Its w u p po L) {i : Nat} {x : Int} (hx : L[i]? = some x) : u = some ⟨p, po, none⟩ ∧ p < w.heap.size ∧ w.cell? ⟨p, po + i, none⟩ = some (.int .i64 x) := by
 obtain ⟨h1, h2, h3⟩ := h (by intro e; subst e; cases hx);exact ⟨h1, h2, h3 i x hx⟩
def vb (w : World) (g t : Nat) (vs : List Value) : Prop := w.heap[g]? = some (.cells vs.toArray t (0, 0))
theorem vb.cell {w : World} {g t : Nat} {vs : List Value} (h : vb w g t vs) {m : Nat} {x : Value} (hx : vs[m]? = some x) : w.cell? ⟨g, m, none⟩ = some x := by
 simp only [World.cell?];rw [h];simp [hx]
theorem vb.lt {w : World} {g t : Nat} {vs : List Value} (h : vb w g t vs) : g < w.heap.size := (Array.getElem?_eq_some_iff.1 h).1
theorem vb.frozen {w : World} {g t : Nat} {vs : List Value} (h : vb w g t vs) (o : Nat) : w.frozen? ⟨g, o, none⟩ = false := by
 simp only [World.frozen?];rw [h];simp
theorem vb.below {B : Nat} {w w' : World} {g t : Nat} {vs : List Value} (h : vb w g t vs) (hb : Below B w w') (hg : g < B) : vb w' g t vs := (hb.block g hg).trans h
theorem vb.bel {w w' : World} {g t : Nat} {vs : List Value} (h : vb w g t vs) (hb : Below w.heap.size w w') : vb w' g t vs := h.below hb h.lt
theorem vb.set {w : World} {g t : Nat} {vs : List Value} (h : vb w g t vs) (m : Nat) (x : Value) : vb (w.setCell ⟨g, m, none⟩ x) g t (vs.set m x) := by
 show (w.heap.modify g _)[g]? = _
 rw [Array.getElem?_modify, if_pos rfl, h];simp
theorem vb.ne {w : World} {g g' o t : Nat} {vs : List Value} {x : Value} (h : vb w g t vs) (hg : g ≠ g') : vb (w.setCell ⟨g', o, none⟩ x) g t vs := (Below.heap_setCell _ _ _ _ hg).trans h
theorem vb_new (W : World) (t : Nat) (vs : List Value) (g : Nat) (hg : g = W.heap.size) : vb (W.alloc (.cells vs.toArray t)) g t vs := by
 subst hg
 show (W.heap.push _)[W.heap.size]? = _
 rw [Array.getElem?_push_size]
theorem iblk.ne {w : World} {g g' o t : Nat} {L : List Int} {x : Value} (h : iblk w g t L) (hg : g ≠ g') : iblk (w.setCell ⟨g', o, none⟩ x) g t L := (Below.heap_setCell _ _ _ _ hg).trans h
theorem vb_new1 (W : World) (t : Nat) (vs : List Value) (o : Obj) : vb ((W.alloc (.cells vs.toArray t)).alloc o) W.heap.size t vs := (vb_new W t vs _ rfl).bel (ba (bfl _ _) _)
theorem vb_new2 (W : World) (t : Nat) (vs : List Value) (o : Obj) : vb ((W.alloc o).alloc (.cells vs.toArray t)) (W.heap.size + 1) t vs := vb_new _ t vs _ (by simp)
theorem step_own {P : Program} {w : World} {ops : Array Oper} {o : Oper} {a : Act} {K : Act → World → Prop} {Q : Exit → Act → World → Prop} {E : Prop} (hgd : o.guard = none) (s x : Operand) (t : TypeId)
  (ho : o.op = .call { callee := .builtin .append, args := #[s, x], argTypes := #[t, t] })
  (base : Nat) (e : TypeId) (i : TypeInfo) (z : Value) (size bytes : Nat) (ht : P.underlying t = .some (.slice e)) (hi : P.info? e = .some i) (hz : i.zero = .some z)
  (hsize : i.size = size) (hby : i.bytes = bytes) (hzs : z.cells.size = size) (hsz : 0 < size)
  (v : Value) (n : Nat) (xs : List Value) (hs : a.eval s = v) (hown : w.ownsRow base e size v n xs)
  (ad : Addr) (m c : Nat) (news : List Value) (hx : a.eval x = .slice (.some ad) m c) (hl : news.length = m * size) (hnews : ∀ j u, news[j]? = .some u → w.cell? (ad.add j) = .some u) (h1 : ∀ u ∈ news, u.oneCell' = true)
  (h63 : n + m ≤ maxLen) (hbytes : (n + m) * bytes ≤ 140737488355328) (hbase : base ≤ w.heap.size)
  (h : ∀ v' w', w'.ownsRow base e size v' (n + m) (xs ++ news) → w.grownBy w' v.ownBlock → (v' = .slice none 0 0 ↔ v = .slice none 0 0 ∧ m = 0) → K (a.put o.dst v') w') :
  if Region.wanted o (yielded ops a.tmps) = true then Oper.wp P o a w K Q else E := by
 rw [if_pos (by unfold Region.wanted; rw [hgd])];exact wp_append_own w s x t ho base e i z size bytes ht hi hz hsize hby hzs hsz v n xs hs hown ad m c news hx hl hnews h1 h63 hbytes hbase h
theorem IntsAt.blk {w w' : World} {b : Nat} {L : List Int} (h : IntsAt w b 0 L) (e : w'.heap[b]? = w.heap[b]?) : IntsAt w' b 0 L := fun j x hj => (World.cell?_of_block (w := w) (a := ⟨b, 0 + j, none⟩) e).trans (h j x hj)
theorem Row.set {w : World} {B t k g n cap : Nat} {L : List Int} (h : Row w B t k (.slice (some ⟨g, 0, none⟩) n cap) n L) (j : Nat) (hj : j < n * k) (x : Int) :
  Row (w.setCell ⟨g, j, none⟩ (.int .i64 x)) B t k (.slice (some ⟨g, 0, none⟩) n cap) n (L.set j x) := by
 refine ⟨by have := h.1; simpa using this, ?_⟩
 rcases h.2 with ⟨h1, h2⟩ | ⟨g', cap', cur, hv, hB, hh, hn, hm, hs, ht⟩
 ·cases h1
 ·cases hv
  refine .inr ⟨g, cap, cur.setIfInBounds j (.int .i64 x), rfl, hB, ?_, hn, hm, by simp [hs], ?_⟩
  ·show (w.heap.modify g _)[g]? = _
   rw [Array.getElem?_modify, if_pos rfl, hh];simp
  ·rw [Array.toList_setIfInBounds, List.take_set, ht, List.map_set]
theorem Row.ge {w : World} {B t k g n cap : Nat} {L : List Int} (h : Row w B t k (.slice (some ⟨g, 0, none⟩) n cap) n L) : B ≤ g := by
 rcases h.2 with ⟨h1, h2⟩ | ⟨g', cap', cur, hv, hB, r⟩
 ·cases h1
 ·cases hv; exact hB
theorem info_parts {P : Program} {t : Nat} {z : Value} {k b : Nat} (h : (P.info? t).map (fun i => (i.zero, i.size, i.bytes)) = some (some z, k, b)) : ∃ i, P.info? t = some i ∧ i.zero = some z ∧ i.size = k ∧ i.bytes = b := by
 cases hx : P.info? t with
 | none => rw [hx] at h; simp at h
 | some i =>
  rw [hx] at h;simp only [Option.map_some, Option.some.injEq, Prod.mk.injEq] at h;exact ⟨i, rfl, h.1, h.2.1, h.2.2⟩
def NewBlk (w : World) (v v' : Value) : Prop := ∀ g, v'.ownBlock = some g → v.ownBlock = some g ∨ w.heap.size ≤ g
theorem append_new {P : Program} (w : World) (base : Nat) (t ty e : TypeId) (i : TypeInfo) (z : Value) (size bytes : Nat) (ht : P.underlying t = some (.slice e)) (hi : P.info? e = some i) (hz : i.zero = some z)
  (hsize : i.size = size) (hby : i.bytes = bytes) (hzs : z.cells.size = size) (hsz : 0 < size)
  (v : Value) (n : Nat) (xs : List Value) (hown : w.ownsRow base e size v n xs)
  (a : Addr) (m c : Nat) (news : List Value) (hl : news.length = m * size) (hnews : ∀ j u, news[j]? = some u → w.cell? (a.add j) = some u) (h1 : ∀ u ∈ news, u.oneCell' = true)
  (h63 : n + m ≤ maxLen) (hbytes : (n + m) * bytes ≤ 140737488355328) (v' : Value) (w' : World)
  (hr : (Builtin.append_ #[t, t] ty #[v, .slice (some a) m c]).run P w = .ok v' w') : NewBlk w v v' := by
 have hsmall : n + m ≤ 9223372036854775807 := by simp only [maxLen] at h63; omega
 subst hsize
 subst hby
 intro g' hg'
 rcases hown.2 with ⟨rfl, rfl⟩ | ⟨g, cap, cur, rfl, hbg, hg, hnc, hcm, hcs, htake⟩
 ·have hx : xs = [] := List.eq_nil_of_length_eq_zero (by simpa using hown.1)
  subst hx
  by_cases hm : m = 0
  ·subst hm
   have hn : news = [] := List.eq_nil_of_length_eq_zero (by simpa using hl);subst hn
   have hr2 : (Builtin.append_ #[t, t] ty #[.slice none 0 0, .slice (some a) 0 c]).run P w = .ok (.slice none 0 0) w := by
    simp [Builtin.append_, run_underlying ht, sizeOf, typeInfo, hi, Builtin.lenOf, Builtin.firstCells, loadCells, loadCellsFrom]
   rw [hr2] at hr
   cases hr
   cases hg'
  ·have hr2 := run_append_nil (P := P) w t ty e i z ht hi hz a m c news hl hnews (by omega) (by omega) (by have hb := hbytes; simp only [Nat.zero_add] at hb; omega)
   rw [hr2] at hr
   cases hr
   right
   simp only [Value.ownBlock, Option.some.injEq] at hg';omega
 ·by_cases hroom : n + m ≤ cap
  ·have hfit : n * i.size + news.length ≤ cur.size := by rw [hl, hcs, ← Nat.add_mul]; exact Nat.mul_le_mul_right _ hroom
   have hr2 := run_append_room (P := P) w t ty e i ht hi g n cap cur hg a m c news hl hnews h1 hroom hfit;rw [hr2] at hr
   cases hr
   exact .inl hg'
  ·have holds : ∀ j u, xs[j]? = some u → w.cell? ((⟨g, 0, none⟩ : Addr).add j) = some u := hown.cells (g := g) rfl
   have hr2 := run_append_grow (P := P) w t ty e i z ht hi hz ⟨g, 0, none⟩ n cap xs hown.1 holds a m c news hl hnews (by omega) (by omega) (growslice_fits (by omega) hbytes);rw [hr2] at hr
   cases hr
   right
   simp only [Value.ownBlock, Option.some.injEq] at hg';omega
theorem wpList_append_new {P : Program} (w : World) {ops : Array Oper} {rest : List Oper} {o : Oper} {a : Act} {Q : Exit → Act → World → Prop} (hgd : o.guard = none) (s x : Operand) (t : TypeId)
  (ho : o.op = .call { callee := .builtin .append, args := #[s, x], argTypes := #[t, t] })
  (base : Nat) (e : TypeId) (i : TypeInfo) (z : Value) (size bytes : Nat) (ht : P.underlying t = some (.slice e)) (hi : P.info? e = some i) (hz : i.zero = some z)
  (hsize : i.size = size) (hby : i.bytes = bytes) (hzs : z.cells.size = size) (hsz : 0 < size)
  (v : Value) (n : Nat) (xs : List Value) (hs : a.eval s = v) (hown : w.ownsRow base e size v n xs)
  (ad : Addr) (m c : Nat) (news : List Value) (hx : a.eval x = .slice (some ad) m c) (hl : news.length = m * size) (hnews : ∀ j u, news[j]? = some u → w.cell? (ad.add j) = some u) (h1 : ∀ u ∈ news, u.oneCell' = true)
  (h63 : n + m ≤ maxLen) (hbytes : (n + m) * bytes ≤ 140737488355328) (hbase : base ≤ w.heap.size)
  (h : ∀ v' w', w'.ownsRow base e size v' (n + m) (xs ++ news) → w.grownBy w' v.ownBlock → (v' = .slice none 0 0 ↔ v = .slice none 0 0 ∧ m = 0) → NewBlk w v v' → wpList P ops Q rest (a.put o.dst v') w') : wpList P ops Q (o :: rest) a w := by
 refine wpList_plain hgd fun K hK => ?_
 obtain ⟨v', w', hr, h2, h3, h4⟩ := run_append_own (P := P) w base t o.type e i z size bytes ht hi hz hsize hby hzs hsz v n xs hown ad m c news hl hnews h1 h63 hbytes hbase;have h5 := append_new (P := P) w base t o.type e i z size bytes ht hi hz hsize hby hzs hsz v n xs hown ad m c news hl hnews h1 h63 hbytes v' w' hr;unfold Oper.wp execOp;simp only [ho, resolve, invoke, builtin, Sem.run_bind, Sem.run_pure, Result.andThen_ok, List.map_toArray, List.map_cons, List.map_nil, hs, hx, hr];exact hK _ _ (h v' w' h2 h3 h4 h5)
def flatG {α : Type} (c : α → List Value) : List α → List Value
 | [] => []
 | a :: l => c a ++ flatG c l
theorem flatG_len {α : Type} {c : α → List Value} {k : Nat} (hc : ∀ a, (c a).length = k) (l : List α) : (flatG c l).length = l.length * k := by
 induction l with
 | nil => simp [flatG]
 | cons a l ih => simp only [flatG, List.length_append, hc, ih, List.length_cons, Nat.add_mul]; omega
theorem flatG_append {α : Type} (c : α → List Value) (a b : List α) : flatG c (a ++ b) = flatG c a ++ flatG c b := by
 induction a with
 | nil => rfl
 | cons x a ih => simp [flatG, ih]
theorem flatG_at {α : Type} {c : α → List Value} {k : Nat} (hc : ∀ a, (c a).length = k) {l : List α} {i : Nat} {a : α} (h : l[i]? = some a) {j : Nat} {v : Value} (hj : (c a)[j]? = some v) : (flatG c l)[i * k + j]? = some v := by
 induction l generalizing i with
 | nil => cases h
 | cons x l ih =>
  have hjk : j < k := by have := (List.getElem?_eq_some_iff.1 hj).1; rw [hc] at this; exact this
  cases i with
  | zero =>
   simp only [List.getElem?_cons_zero, Option.some.injEq] at h;subst h;simp only [Nat.zero_mul, Nat.zero_add, flatG];rw [List.getElem?_append_left (by rw [hc]; exact hjk)];exact hj
  | succ i =>
   have := ih (i := i) (by simpa using h);simp only [flatG];rw [List.getElem?_append_right (by rw [hc, Nat.add_mul]; omega), hc, show (i + 1) * k + j - k = i * k + j by rw [Nat.add_mul]; omega];exact this
def setAll : List Value → Nat → List Value → List Value
 | L, _, [] => L
 | L, o, v :: vs => setAll (L.set o v) (o + 1) vs
theorem setAll_right (A L : List Value) (o : Nat) (vs : List Value) : setAll (A ++ L) (A.length + o) vs = A ++ setAll L o vs := by
 induction vs generalizing L o with
 | nil => rfl
 | cons v vs ih =>
  simp only [setAll];rw [List.set_append, if_neg (by omega), show A.length + o - A.length = o by omega, show A.length + o + 1 = A.length + (o + 1) by omega, ih]
theorem setAll_over (A L vs : List Value) (h : vs.length = A.length) : setAll (A ++ L) 0 vs = vs ++ L := by
 induction vs generalizing A with
 | nil => have : A = [] := List.eq_nil_of_length_eq_zero (by simpa using h.symm); subst this; rfl
 | cons v vs ih =>
  cases A with
  | nil => simp at h
  | cons x A =>
   have h2 := setAll_right [v] (A ++ L) 0 vs;simp only [List.length_singleton, Nat.add_zero, List.singleton_append] at h2;simp only [setAll, List.cons_append, List.set_cons_zero, Nat.zero_add];rw [h2, ih A (by simpa using h)]
theorem flatG_set {α : Type} {c : α → List Value} {k : Nat} (hc : ∀ a, (c a).length = k) (l : List α) (i : Nat) (a : α) (h : i < l.length) : flatG c (l.set i a) = setAll (flatG c l) (i * k) (c a) := by
 induction l generalizing i with
 | nil => simp at h
 | cons x l ih =>
  cases i with
  | zero =>
   simp only [List.set_cons_zero, flatG, Nat.zero_mul];rw [setAll_over _ _ _ (by rw [hc, hc])]
  | succ i =>
   have e := ih i (by simpa using h);simp only [List.set_cons_succ, flatG, e];rw [show (i + 1) * k = (c x).length + i * k by rw [hc, Nat.add_mul]; omega, setAll_right]
def AtG {α : Type} (c : α → List Value) (k : Nat) (w : World) (b off : Nat) (l : List α) : Prop := ∀ (i : Nat) (a : α), l[i]? = some a → ∀ (j : Nat) (v : Value), (c a)[j]? = some v → w.cell? ⟨b, off + i * k + j, none⟩ = some v
theorem AtG.below {α : Type} {c : α → List Value} {k B : Nat} {w w' : World} {b off : Nat} {l : List α} (h : AtG c k w b off l) (hb : Below B w w') (hB : b < B) : AtG c k w' b off l :=
  fun i a hi j v hj => (hb.cell (p := ⟨b, _, none⟩) hB).trans (h i a hi j v hj)
theorem AtG.blk {α : Type} {c : α → List Value} {k : Nat} {w w' : World} {b off : Nat} {l : List α} (h : AtG c k w b off l) (e : w'.heap[b]? = w.heap[b]?) : AtG c k w' b off l :=
  fun i a hi j v hj => (World.cell?_of_block (w := w) (a := ⟨b, _, none⟩) e).trans (h i a hi j v hj)
def SlG {α : Type} (c : α → List Value) (k : Nat) (w : World) (u : Option Addr) (p po : Nat) (l : List α) : Prop := l ≠ [] → u = some ⟨p, po, none⟩ ∧ p < w.heap.size ∧ AtG c k w p po l
theorem SlG.bel {α : Type} {c : α → List Value} {k : Nat} {w w' : World} {u : Option Addr} {p po : Nat} {l : List α} (h : SlG c k w u p po l) (hb : Below w.heap.size w w') : SlG c k w' u p po l :=
  fun h0 => ⟨(h h0).1, Nat.lt_of_lt_of_le (h h0).2.1 hb.size, (h h0).2.2.below hb (h h0).2.1⟩
theorem SlG.at {α : Type} {c : α → List Value} {k : Nat} {w : World} {u : Option Addr} {p po : Nat} {l : List α} (h : SlG c k w u p po l) {i : Nat} {a : α} (hi : l[i]? = some a) : u = some ⟨p, po, none⟩ ∧ p < w.heap.size ∧ ∀ (j : Nat) (v : Value), (c a)[j]? = some v → w.cell? ⟨p, po + i * k + j, none⟩ = some v := by
 obtain ⟨h1, h2, h3⟩ := h (by intro e; subst e; cases hi);exact ⟨h1, h2, h3 i a hi⟩
theorem vb.atG {α : Type} {c : α → List Value} {k : Nat} (hc : ∀ a, (c a).length = k) {w : World} {g t : Nat} {l : List α} (h : vb w g t (flatG c l)) : AtG c k w g 0 l := by
 intro i a hi j v hj;rw [Nat.zero_add];exact h.cell (flatG_at hc hi hj)
theorem vb.slG {α : Type} {c : α → List Value} {k : Nat} (hc : ∀ a, (c a).length = k) {w : World} {g t : Nat} {l : List α} (h : vb w g t (flatG c l)) : SlG c k w (some ⟨g, 0, none⟩) g 0 l := fun _ => ⟨rfl, h.lt, h.atG hc⟩
theorem own_form {w : World} {B t k : Nat} {v : Value} {n : Nat} {L : List Value} (h : w.ownsRow B t k v n L) :
  ∃ (u : Option Addr) (cap : Nat), v = .slice u n cap ∧ n ≤ cap ∧ cap ≤ maxLen ∧ (n ≠ 0 → ∃ g, u = some ⟨g, 0, none⟩ ∧ B ≤ g ∧ g < w.heap.size ∧ ∀ j x, L[j]? = some x → w.cell? ⟨g, j, none⟩ = some x) := by
 rcases h.2 with ⟨rfl, rfl⟩ | ⟨g, cap, cur, rfl, hb, hh, hn, hm, hs, ht⟩
 ·exact ⟨none, 0, rfl, Nat.le_refl _, by simp, fun h => absurd rfl h⟩
 ·refine ⟨_, cap, rfl, hn, hm, fun _ => ⟨g, rfl, hb, (Array.getElem?_eq_some_iff.1 hh).1, ?_⟩⟩
  intro j x hj;have h1 : (cur.toList.take (n * k))[j]? = some x := by rw [ht]; exact hj
  simp only [World.cell?];rw [hh];rw [List.getElem?_take] at h1
  split at h1
  ·simpa using h1
  ·cases h1
theorem own_bel {w w' : World} {B t k : Nat} {v : Value} {n : Nat} {L : List Value} (h : w.ownsRow B t k v n L) (hb : Below w.heap.size w w') : w'.ownsRow B t k v n L := by
 refine ⟨h.1, ?_⟩
 rcases h.2 with h1 | ⟨g, cap, cur, hv, hB, hh, r⟩
 ·exact .inl h1
 ·exact .inr ⟨g, cap, cur, hv, hB, (hb.block g (Array.getElem?_eq_some_iff.1 hh).1).trans hh, r⟩
theorem own_kept {w w' : World} {B t k n : Nat} {v : Value} {L : List Value} (h : w.ownsRow B t k v n L) (hb : ∀ g, v.ownBlock = some g → w'.heap[g]? = w.heap[g]?) : w'.ownsRow B t k v n L := by
 refine ⟨h.1, ?_⟩
 rcases h.2 with h1 | ⟨g, cap, cur, hv, hB, hh, r⟩
 ·exact .inl h1
 ·exact .inr ⟨g, cap, cur, hv, hB, (hb g (by rw [hv]; rfl)).trans hh, r⟩
theorem own_mono {w : World} {B B' t k : Nat} {v : Value} {n : Nat} {L : List Value} (h : w.ownsRow B t k v n L) (hb : B' ≤ B) : w.ownsRow B' t k v n L := by
 refine ⟨h.1, ?_⟩
 rcases h.2 with h1 | ⟨g, cap, cur, hv, hB, r⟩
 ·exact .inl h1
 ·exact .inr ⟨g, cap, cur, hv, Nat.le_trans hb hB, r⟩
theorem own_made (w : World) (t B k : Nat) (hb : B ≤ w.heap.size) (g : Nat) (hg : g = w.heap.size) : (w.alloc (.cells #[] t)).ownsRow B t k (.slice (some ⟨g, 0, none⟩) 0 0) 0 [] := by
 subst hg;exact World.ownsRow_made w #[] 0 hb (by decide) (by simp)
theorem own_nil (w : World) (t B k : Nat) : w.ownsRow B t k (.slice none 0 0) 0 [] := ⟨by simp, .inl ⟨rfl, rfl⟩⟩
theorem own_ge {w : World} {B t k : Nat} {v : Value} {n : Nat} {L : List Value} (h : w.ownsRow B t k v n L) : ∀ g, v.ownBlock = some g → B ≤ g ∧ g < w.heap.size := by
 intro g hg
 rcases h.2 with ⟨rfl, _⟩ | ⟨g', cap, cur, rfl, hB, hh, r⟩
 ·cases hg
 ·simp only [Value.ownBlock, Option.some.injEq] at hg
  subst hg;exact ⟨hB, (Array.getElem?_eq_some_iff.1 hh).1⟩
theorem vb.owns {w : World} {B g t n : Nat} {L : List Value} (h : vb w g t L) (hB : B ≤ g) (hl : L.length = n) (hn : n ≤ maxLen) : w.ownsRow B t 1 (.slice (some ⟨g, 0, none⟩) n n) n L :=
  ⟨by omega, .inr ⟨g, n, L.toArray, rfl, hB, h, Nat.le_refl _, hn, by simp [hl], by simp [← hl]⟩⟩
theorem own_set {w : World} {B t k g n cap : Nat} {L : List Value} (h : w.ownsRow B t k (.slice (some ⟨g, 0, none⟩) n cap) n L) (j : Nat) (x : Value) :
  (w.setCell ⟨g, j, none⟩ x).ownsRow B t k (.slice (some ⟨g, 0, none⟩) n cap) n (L.set j x) := by
 refine ⟨by have := h.1; simpa using this, ?_⟩
 rcases h.2 with ⟨h1, h2⟩ | ⟨g', cap', cur, hv, hB, hh, hn, hm, hs, ht⟩
 ·cases h1
 ·cases hv
  refine .inr ⟨g, cap, cur.setIfInBounds j x, rfl, hB, ?_, hn, hm, by simp [hs], ?_⟩
  ·show (w.heap.modify g _)[g]? = _
   rw [Array.getElem?_modify, if_pos rfl, hh];simp
  ·rw [Array.toList_setIfInBounds, List.take_set, ht]
theorem own_frz {w : World} {B t k g n cap : Nat} {L : List Value} (h : w.ownsRow B t k (.slice (some ⟨g, 0, none⟩) n cap) n L) (o : Nat) : w.frozen? ⟨g, o, none⟩ = false := by
 rcases h.2 with ⟨h1, h2⟩ | ⟨g', cap', cur, hv, hB, hh, r⟩
 ·cases h1
 ·cases hv
  simp only [World.frozen?];rw [hh];simp
end Go.Proofs.YtkiplmabjeadgaaGreat
