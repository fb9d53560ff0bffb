/-
  The places where a tool may stand, as an iterator: level by level.
-/
import Derived.Test.YtjhldjojkaphkaaSt5
namespace Go.Proofs.Ytjhldjojkaphkaa
open Go.ChangeShapes Go.WideShapes Go.ChangeAt Go.RowKit Go.Shelf
attribute [local go_sem] Oper.semAt_some
set_option linter.unusedVariables false
set_option linter.unusedSimpArgs false

theorem stdM (W H n c g po : Nat) (s : Int) (w : World) :
    Calls Try.prog 40 #[fldV (W : Int) (H : Int) (some ⟨g, po, none⟩) n c, .int .i64 s] w fun e w' => e = .returned (.func (.func 74) #[] #[.pointer (some ⟨w.heap.size + 1, 0, none⟩), .pointer (some ⟨w.heap.size, 0, none⟩)]) ∧ w' = (w.alloc (.cells #[.int .i64 (W : Int), .int .i64 (H : Int), .slice (some ⟨g, po, none⟩) n c] 25)).alloc (.cells #[.int .i64 s] 3) := by
  unfold fldV
  go_enter Try.func40, Try.ntmps40
  go_wp2_with fail
  go_ret
  exact ⟨rfl, rfl⟩
/-- what the iterator over places reads -/
structure Sh (by_ Bs Bf l s W H n c g po : Nat) (L : List Int) (X : World) : Prop where
  vy : vb X by_ 106 [.func (.yield l) #[] #[]]
  vs : vb X Bs 3 [.int .i64 (s : Int)]
  vf : vb X Bf 25 [.int .i64 (W : Int), .int .i64 (H : Int), .slice (some ⟨g, po, none⟩) n c]
  fd : Fd X g po n c L
theorem Fd.blk {X Y : World} {g po n c : Nat} {L : List Int} (h : Fd X g po n c L) (hb : Y.heap[g]? = X.heap[g]?) : Fd Y g po n c L := by
  refine ⟨?_, fun j x hj => (World.cell?_of_block (w := X) (a := ⟨g, po + j, none⟩) hb).trans (h.ints j x hj), h.len, h.cap, h.top⟩
  have h1 := Array.getElem?_eq_getElem h.lt
  rw [← hb] at h1
  exact (Array.getElem?_eq_some_iff.1 h1).1
theorem Sh.bel {by_ Bs Bf l s W H n c g po : Nat} {L : List Int} {X Y : World} (h : Sh by_ Bs Bf l s W H n c g po L X) (hb : Below X.heap.size X Y) : Sh by_ Bs Bf l s W H n c g po L Y := ⟨h.vy.bel hb, h.vs.bel hb, h.vf.bel hb, h.fd.bel hb⟩
theorem Sh.kp {by_ Bs Bf l s W H n c g po : Nat} {L : List Int} {X Y : World} {R O : Nat → Prop} (h : Sh by_ Bs Bf l s W H n c g po L X) (hk : Kpx R O X Y) (hy : O by_) (hs : R Bs) (hf : R Bf) (hg : R g) : Sh by_ Bs Bf l s W H n c g po L Y := ⟨hk.vb h.vy (.inr hy), hk.vb h.vs (.inl hs), hk.vb h.vf (.inl hf), h.fd.blk (hk.keep g (.inl hg) h.fd.lt)⟩
theorem Sh.grw {by_ Bs Bf l s W H n c g po : Nat} {L : List Int} {X Y : World} {O : Nat → Prop} {T : Nat} (h : Sh by_ Bs Bf l s W H n c g po L X) (hg : Grw O X Y) (hT : T ≤ X.heap.size) (hO : ∀ b, O b → T ≤ b) (h1 : by_ < T) (h2 : Bs < T) (h3 : Bf < T) (h4 : g < T) : Sh by_ Bs Bf l s W H n c g po L Y := by
  have hb : Below T X Y := hg.bel hT hO
  exact ⟨h.vy.below hb h1, h.vs.below hb h2, h.vf.below hb h3, h.fd.blk (hb.block g h4)⟩
/-- between two levels -/
structure L1 (J : (Nat → Prop) → Nat → World → Prop) (by_ bl T Bs Bf l s W H n c g po : Nat) (L : List Int) (O : Nat → Prop) (a : Nat) (X : World) : Prop where
  j : J (ex2 O by_ bl) (cnq (cnd W H s L) (a * (W * H))) X
  sh : Sh by_ Bs Bf l s W H n c g po L X
  vl : vb X bl 3 [.int .i64 (s : Int)]
  far : ∀ b, O b → T ≤ b
  big : T ≤ X.heap.size
/-- all blocks that are the iterator's within a level -/
def exA (O2 O : Nat → Prop) (by_ bl b4 b13 : Nat) : Nat → Prop := fun q => O2 q ∨ O q ∨ q = by_ ∨ q = bl ∨ q = b4 ∨ q = b13
def exB (O2 O : Nat → Prop) (by_ bl b4 b13 b5 : Nat) : Nat → Prop := fun q => exA O2 O by_ bl b4 b13 q ∨ q = b5
/-- between two points of a level -/
structure L2 (J : (Nat → Prop) → Nat → World → Prop) (X : World) (O : Nat → Prop) (by_ bl b4 b13 T2 Bs Bf l s W H n c g po a : Nat) (z : Int) (L : List Int) (O2 : Nat → Prop) (b : Nat) (Y : World) : Prop where
  j : J (exA O2 O by_ bl b4 b13) (cnq (cnd W H s L) (a * (W * H) + b)) Y
  sh : Sh by_ Bs Bf l s W H n c g po L Y
  v4 : vb Y b4 3 [.int .i64 z]
  v13 : vb Y b13 25 [.int .i64 (W : Int), .int .i64 (H : Int), .slice (some ⟨g, po, none⟩) n c]
  kp : Kpx (fun q => q = bl) O X Y
  far : ∀ q, O2 q → T2 ≤ q
  big : T2 ≤ Y.heap.size
end Go.Proofs.Ytjhldjojkaphkaa
