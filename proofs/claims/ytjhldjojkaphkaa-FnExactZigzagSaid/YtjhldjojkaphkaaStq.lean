/-
  The places where a tool may stand: the levels as a row, and the points that lie on none.
-/
import Derived.Test.YtjhldjojkaphkaaStd
import Derived.Test.YtjhldjojkaphkaaCti
namespace Go.Proofs.Ytjhldjojkaphkaa
open Go.ChangeShapes Go.WideShapes Go.ChangeAt Go.RowKit Go.Shelf
set_option linter.unusedVariables false
set_option linter.unusedSimpArgs false

theorem SeqX.cong {P : Program} {g : Nat} {lb : Array Value} {enc enc' : Nat → Array Value} {N : Nat} {R : Nat → Prop} {w : World} (h : SeqX P g lb enc N R w) (he : ∀ k, k < N → enc k = enc' k) : SeqX P g lb enc' N R w :=
  fun l J Jx W hW h1 h2 h3 h4 => h l J Jx W hW h1 h2 (fun O k W1 hk hO hj => by rw [he k hk]; exact h3 O k W1 hk hO hj) h4
def lvls (s : Nat) : List Int := (List.range (lvn s)).map (lvl s)
theorem lvls_len (s : Nat) : (lvls s).length = lvn s := by simp [lvls]
theorem lvls_at {s k : Nat} (h : k < lvn s) : lvc s k = ite (lvls s) k := by
  unfold lvc ite gt lvls
  simp [h]
theorem lvls_any (s : Nat) (z : Int) : (lvls s).any (fun x => x == z) = islv s z := by
  unfold lvls islv
  rw [List.any_map]
  rfl
theorem clL (s b : Nat) (X : World) (hs1 : 1 ≤ s) (hs : s ≤ 24) (hv : vb X b 3 [.int .i64 (s : Int)]) :
    Calls Try.prog 77 #[.func (.func 93) #[] #[.pointer (some ⟨b, 0, none⟩)]] X fun e w' => ∃ q cap, e = .returned (.slice (some ⟨q, 0, none⟩) (lvn s) cap) ∧ X.heap.size ≤ q ∧ Fd w' q 0 (lvn s) cap (lvls s) ∧ Below X.heap.size X w' := by
  have hl := hv.lt
  refine (clI 93 _ (lvls s) (lvn s) (fun q => q = b) X (by have := lvn_le hs1; omega) (lvls_len s) (fun q hq => by omega) (enters_of Try.func93 (by kernel_rfl) rfl) ((lvX s b (fun q => q = b) X hs1 hs rfl hv).cong (fun k hk => lvls_at hk))).mono ?_
  rintro e w' ⟨v, rfl, hr, hb⟩
  obtain ⟨q, cap, rfl, h1, h2, h3, h4, h5⟩ := hr.full (by have := (lvn_iff (k := 0) hs1).2 (by omega); omega)
  exact ⟨q, cap, rfl, h1, ⟨h2, h3, lvls_len s, h4, h5⟩, hb⟩
/-- all blocks that are the iterator's behind the levels -/
def exC (O3 O1 : Nat → Prop) (by_ bl b6 bq br : Nat) : Nat → Prop := fun q => O3 q ∨ O1 q ∨ q = by_ ∨ q = bl ∨ q = b6 ∨ q = bq ∨ q = br
def exD (O3 O1 : Nat → Prop) (by_ bl b6 bq br b7 : Nat) : Nat → Prop := fun q => exC O3 O1 by_ bl b6 bq br q ∨ q = b7
/-- between two points that lie on no level -/
structure L3 (J : (Nat → Prop) → Nat → World → Prop) (O1 : Nat → Prop) (by_ bl b6 bq br T3 D Bs Bf l s W H n c g po cap : Nat) (L : List Int) (O3 : Nat → Prop) (b : Nat) (Y : World) : Prop where
  j : J (exC O3 O1 by_ bl b6 bq br) (cnq (cnd W H s L) (lvn s * (W * H) + b)) Y
  sh : Sh by_ Bs Bf l s W H n c g po L Y
  v6 : vb Y b6 23 [.slice (some ⟨bq, 0, none⟩) (lvn s) cap]
  fq : Fd Y bq 0 (lvn s) cap (lvls s)
  vr : vb Y br 25 [.int .i64 (W : Int), .int .i64 (H : Int), .slice (some ⟨g, po, none⟩) n c]
  dm : Y.heap[D]? = some (.deferred (some []))
  far : ∀ q, O3 q → T3 ≤ q
  big : T3 ≤ Y.heap.size
end Go.Proofs.Ytjhldjojkaphkaa
