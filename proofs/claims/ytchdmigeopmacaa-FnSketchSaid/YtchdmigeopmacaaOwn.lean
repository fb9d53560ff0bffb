/-
  Rows of numbers that a call makes by append.
-/
import Derived.Test.YtchdmigeopmacaaSkRows
import Derived.Test.YtchdmigeopmacaaBfMath
import Derived.Test.YtchdmigeopmacaaOpenRows
import Derived.Laws.AppendOwn
import Derived.OwnWalk
namespace Go.Proofs.Ytchdmigeopmacaa
open Go.ChangeShapes Go.WideShapes Go.ChangeAt Go.RowKit
set_option linter.unusedVariables false

/-- the slice is the call's own: n elements of k numbers each -/
def Row (w : World) (B t k : Nat) (v : Value) (n : Nat) (L : List Int) : Prop := w.ownsRow B t k v n (L.map (Value.int .i64))
theorem Row.len {w : World} {B t k : Nat} {v : Value} {n : Nat} {L : List Int} (h : Row w B t k v n L) : L.length = n * k := by have := h.1; simpa using this
theorem Row.form {w : World} {B t k : Nat} {v : Value} {n : Nat} {L : List Int} (h : Row w B t k v n L) :
    ∃ (u : Option Addr) (cap : Nat), v = .slice u n cap ∧ (n ≠ 0 → ∃ g, u = some ⟨g, 0, none⟩ ∧ B ≤ g ∧ g < w.heap.size ∧ IntsAt w g 0 L) := by
  rcases h.2 with ⟨rfl, rfl⟩ | ⟨g, cap, cur, rfl, hb, hh, hn, hm, hs, ht⟩
  · exact ⟨none, 0, rfl, fun h => absurd rfl h⟩
  · refine ⟨_, cap, rfl, fun _ => ⟨g, rfl, hb, (Array.getElem?_eq_some_iff.1 hh).1, ?_⟩⟩
    intro j x hj
    have h1 : (cur.toList.take (n * k))[j]? = some (Value.int .i64 x) := by rw [ht, List.getElem?_map, hj]; rfl
    simp only [World.cell?]
    rw [hh]
    rw [List.getElem?_take] at h1
    split at h1
    · rw [Nat.zero_add]; simpa using h1
    · cases h1
theorem Row.below {w w' : World} {B t k : Nat} {v : Value} {n : Nat} {L : List Int} (h : Row w B t k v n L) (hb : Below w.heap.size w w') : Row w' B t k v n L := by
  refine ⟨h.1, ?_⟩
  rcases h.2 with h1 | ⟨g, cap, cur, hv, hB, hh, r⟩
  · exact .inl h1
  · exact .inr ⟨g, cap, cur, hv, hB, (hb.block g (Array.getElem?_eq_some_iff.1 hh).1).trans hh, r⟩
theorem Row.mono {w : World} {B B' t k : Nat} {v : Value} {n : Nat} {L : List Int} (h : Row w B t k v n L) (hb : B' ≤ B) : Row w B' t k v n L := by
  refine ⟨h.1, ?_⟩
  rcases h.2 with h1 | ⟨g, cap, cur, hv, hB, r⟩
  · exact .inl h1
  · exact .inr ⟨g, cap, cur, hv, Nat.le_trans hb hB, r⟩
theorem row_made (w : World) (t B k : Nat) (hb : B ≤ w.heap.size) (g : Nat) (hg : g = w.heap.size) : Row (w.alloc (.cells #[] t)) B t k (.slice (some ⟨g, 0, none⟩) 0 0) 0 [] := by
  subst hg
  exact World.ownsRow_made w #[] 0 hb (by decide) (by simp)
/-- behind an append -/
theorem own_more {B t k n m : Nat} {wr W2 w1 : World} {v v' : Value} {L news : List Int} (hbel : Below B wr W2) (hB : B ≤ W2.heap.size) (hown : Row wr B t k v n L)
    (hown' : w1.ownsRow B t k v' (n + m) (L.map (Value.int .i64) ++ news.map (Value.int .i64))) (hgrow : W2.grownBy w1 v.ownBlock) :
    Row w1 B t k v' (n + m) (L ++ news) ∧ Below B wr w1 :=
  ⟨by unfold Row; rw [List.map_append]; exact hown', hbel.grown hgrow hB (fun j hj => (hown.lt j hj).1)⟩
theorem news_cells {W : World} {e : TypeId} (news : List Value) (g : Nat) (hg : g = W.heap.size) : ∀ (j : Nat) (u : Value), news[j]? = some u → (W.alloc (.cells news.toArray e)).cell? ((⟨g, 0, none⟩ : Addr).add j) = some u := by
  subst hg
  intro j u hj
  rw [add_none, Nat.zero_add]
  simp only [World.cell?]
  rw [heap_alloc_new]
  simp [hj]
theorem news_drew {W : World} {e : TypeId} (news : List Value) (g : Nat) (hg : g = W.heap.size) : ∀ (j : Nat) (u : Value), news[j]? = some u → (W.alloc (.cells news.toArray e)).drew.cell? ((⟨g, 0, none⟩ : Addr).add j) = some u := news_cells news g hg
theorem ints_one {L : List Int} : ∀ u ∈ L.map (Value.int .i64), u.oneCell' = true := by
  intro u hu
  obtain ⟨x, _, rfl⟩ := List.mem_map.1 hu
  rfl
/-- the edges' numbers one behind another -/
def flat (es : List Edge) : List Int := es.flatMap fun e => [(e.1 : Int), (e.2.1 : Int), e.2.2]
theorem flat_len (es : List Edge) : (flat es).length = es.length * 3 := by
  induction es with
  | nil => rfl
  | cons e es ih => show (flat es).length + 3 = (es.length + 1) * 3; omega
theorem flat_append (a b : List Edge) : flat (a ++ b) = flat a ++ flat b := by simp [flat]
theorem flat_at {es : List Edge} {i : Nat} {e : Edge} (h : es[i]? = some e) : (flat es)[i * 3]? = some (e.1 : Int) ∧ (flat es)[i * 3 + 1]? = some (e.2.1 : Int) ∧ (flat es)[i * 3 + 2]? = some e.2.2 := by
  induction es generalizing i with
  | nil => cases h
  | cons x es ih =>
    cases i with
    | zero =>
      simp only [List.getElem?_cons_zero, Option.some.injEq] at h
      subst h
      exact ⟨rfl, rfl, rfl⟩
    | succ i =>
      have := ih (i := i) (by simpa using h)
      show ((x.1 : Int) :: (x.2.1 : Int) :: x.2.2 :: flat es)[(i + 1) * 3]? = _ ∧ ((x.1 : Int) :: (x.2.1 : Int) :: x.2.2 :: flat es)[(i + 1) * 3 + 1]? = _ ∧ ((x.1 : Int) :: (x.2.1 : Int) :: x.2.2 :: flat es)[(i + 1) * 3 + 2]? = _
      rw [show (i + 1) * 3 = i * 3 + 3 by omega]
      exact this

/-- what one axis is told ahead of all rules -/
def preS (N i : Nat) : List Edge := (List.range i).flatMap fun j => [(N, j, 0), (j, N, -100000)]
theorem preS_succ (N i : Nat) : preS N (i + 1) = preS N i ++ [(N, i, 0), (i, N, -100000)] := by simp [preS, List.range_succ]
theorem preS_len (N i : Nat) : (preS N i).length = 2 * i := by
  induction i with
  | zero => rfl
  | succ i ih => rw [preS_succ]; simp [ih]; omega
/-- what a rule says of one axis -/
def ruS (N : Nat) (axis : Int) (r : Ru) : List Edge :=
  if r.1 = 1 + axis then [(N, r.2.1.toNat, r.2.2.2), (r.2.1.toNat, N, -r.2.2.2)]
  else if r.1 = 3 + axis then [(r.2.1.toNat, r.2.2.1.toNat, r.2.2.2), (r.2.2.1.toNat, r.2.1.toNat, -r.2.2.2)]
  else if r.1 = 5 + axis then [(r.2.1.toNat, r.2.2.1.toNat, r.2.2.2)]
  else if r.1 = 7 + axis ∨ r.1 = 9 then [(r.2.1.toNat, r.2.2.1.toNat, 0), (r.2.2.1.toNat, r.2.1.toNat, 0)]
  else []
def stepsM (N : Nat) (axis : Int) (rk : List Ru) : List Edge := preS N N ++ rk.flatMap (ruS N axis)
/-- the rules that the numbers name -/
def pick (rs : List Ru) (ks : List Nat) : List Ru := ks.map fun j => rs.getD j (0, 0, 0, 0)
def nats (ks : List Nat) : List Int := ks.map (fun j : Nat => (j : Int))
theorem nats_at {ks : List Nat} {i j : Nat} (h : ks[i]? = some j) : (nats ks)[i]? = some (j : Int) := by simp [nats, h]
theorem pick_take (rs : List Ru) (ks : List Nat) (i j : Nat) (r : Ru) (N : Nat) (axis : Int) (h : ks[i]? = some j) (hr : rs[j]? = some r) :
    ((pick rs ks).take (i + 1)).flatMap (ruS N axis) = ((pick rs ks).take i).flatMap (ruS N axis) ++ ruS N axis r := by
  have h1 : (pick rs ks)[i]? = some r := by simp [pick, h, List.getD_eq_getElem?_getD, hr]
  rw [List.take_add_one, h1]
  simp
theorem pick_len (rs : List Ru) (ks : List Nat) : (pick rs ks).length = ks.length := by simp [pick]
end Go.Proofs.Ytchdmigeopmacaa
