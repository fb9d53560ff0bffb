/-
  The places that take something, one by one: what they are, and what is left.
-/
import Derived.Test.YtjhldjojkaphkaaTk5
namespace Go.Proofs.Ytjhldjojkaphkaa
open Go.ChangeShapes Go.WideShapes Go.ChangeAt Go.RowKit Go.Shelf
set_option linter.unusedVariables false
set_option linter.unusedSimpArgs false

/-- whether a tool at a place would take something -/
def tkb (W H r : Nat) (s : Ml) (p : Nat × Nat × Int) : Bool := !decide (hi s.T (cols W H r p.1 p.2.1) ≤ p.2.2)
def tkn (W H r : Nat) (s : Ml) (p : Nat × Nat × Int) : Ml := if tkb W H r s p then takeC p.2.2 s (cols W H r p.1 p.2.1) else s
/-- what is left behind the first places -/
def lfS (W H r : Nat) (s : Ml) (ps : List (Nat × Nat × Int)) (c : Nat) : Ml := (ps.take c).foldl (tkn W H r) s
def tkd (W H r : Nat) (s : Ml) (ps : List (Nat × Nat × Int)) (c : Nat) : Option (Nat × Nat × Int) := match ps[c]? with | none => none | some p => if tkb W H r (lfS W H r s ps c) p then some p else none
theorem lfS_succ {W H r : Nat} {s : Ml} {ps : List (Nat × Nat × Int)} {c : Nat} {p : Nat × Nat × Int} (h : ps[c]? = some p) : lfS W H r s ps (c + 1) = tkn W H r (lfS W H r s ps c) p := by
  unfold lfS
  rw [List.take_add_one, h]
  simp
theorem tkd_yes {W H r : Nat} {s : Ml} {ps : List (Nat × Nat × Int)} {c : Nat} {p : Nat × Nat × Int} (h : ps[c]? = some p) (hb : tkb W H r (lfS W H r s ps c) p = true) : tkd W H r s ps c = some p ∧ lfS W H r s ps (c + 1) = takeC p.2.2 (lfS W H r s ps c) (cols W H r p.1 p.2.1) := by
  rw [lfS_succ h]
  unfold tkd tkn
  rw [h]
  simp only [hb]
  exact ⟨rfl, rfl⟩
theorem tkd_no {W H r : Nat} {s : Ml} {ps : List (Nat × Nat × Int)} {c : Nat} {p : Nat × Nat × Int} (h : ps[c]? = some p) (hb : tkb W H r (lfS W H r s ps c) p = false) : tkd W H r s ps c = none ∧ lfS W H r s ps (c + 1) = lfS W H r s ps c := by
  rw [lfS_succ h]
  unfold tkd tkn
  rw [h]
  simp only [hb]
  exact ⟨rfl, rfl⟩
theorem tkn_ok {W H r n : Nat} {s : Ml} {p : Nat × Nat × Int} (hn : n = W * H) (hr : r ≤ 3) (h : MOk n s) (hH : 0 < H) (hz : 0 ≤ p.2.2) : MOk n (tkn W H r s p) := by
  unfold tkn
  split
  · exact (takeC_ok hz _ s h (fun i hi => by rw [hn]; exact cols_lt hr hH hi)).1
  · exact h
theorem lfS_ok {W H r n : Nat} {s : Ml} {ps : List (Nat × Nat × Int)} (hn : n = W * H) (hr : r ≤ 3) (h : MOk n s) (hH : 0 < H) (hp : ∀ p ∈ ps, 0 ≤ p.2.2) : ∀ c, c ≤ ps.length → MOk n (lfS W H r s ps c)
  | 0, _ => by unfold lfS; exact h
  | c + 1, hc => by
    have h1 : ps[c]? = some ps[c] := List.getElem?_eq_getElem (by omega)
    rw [lfS_succ h1]
    have h2 := hp _ (List.mem_of_getElem? h1)
    exact tkn_ok hn hr (lfS_ok hn hr h hH hp c (by omega)) hH h2
/-- all blocks that are the iterator's -/
def exT (O : Nat → Prop) (by_ b5 q : Nat) : Nat → Prop := fun b => O b ∨ b = by_ ∨ b = b5 ∨ b = q
def exU (O : Nat → Prop) (by_ b5 q b6 bu : Nat) : Nat → Prop := fun b => exT O by_ b5 q b ∨ b = b6 ∨ b = bu
/-- between two places -/
structure Lt (J : (Nat → Prop) → Nat → World → Prop) (by_ b5 q T Br B l W H r n cap : Nat) (s : Ml) (ps : List (Nat × Nat × Int)) (O : Nat → Prop) (c : Nat) (X : World) : Prop where
  j : J (exT O by_ b5 q) (cnq (tkd W H r s ps) c) X
  vy : vb X by_ 106 [.func (.yield l) #[] #[]]
  vr : vb X Br 3 [.int .i64 (r : Int)]
  pn : Pn X B b5 0 0 (W : Int) (H : Int) q n cap (lfS W H r s ps c)
  far : ∀ b, O b → T ≤ b
  big : T ≤ X.heap.size
end Go.Proofs.Ytjhldjojkaphkaa
