/-
  The places of Zigzag, as an iterator.
-/
import Derived.Test.YtjhldjojkaphkaaTkX
import Derived.Test.YtjhldjojkaphkaaStX
namespace Go.Proofs.Ytjhldjojkaphkaa
open Go.ChangeShapes Go.WideShapes Go.ChangeAt Go.RowKit Go.Shelf
attribute [local go_sem] Oper.semAt_some
set_option linter.unusedVariables false
set_option linter.unusedSimpArgs false

theorem takM (W H n c g po gf : Nat) (lb : Array Value) (r : Int) (w : World) :
    Calls Try.prog 39 #[fldV (W : Int) (H : Int) (some ⟨g, po, none⟩) n c, .int .i64 r, .func (.func gf) #[] lb] w fun e w' => e = .returned (.func (.func 72) #[] #[.pointer (some ⟨w.heap.size, 0, none⟩), .pointer (some ⟨w.heap.size + 2, 0, none⟩), .pointer (some ⟨w.heap.size + 1, 0, none⟩)]) ∧ w' = ((w.alloc (.cells #[.int .i64 (W : Int), .int .i64 (H : Int), .slice (some ⟨g, po, none⟩) n c] 25)).alloc (.cells #[.int .i64 r] 3)).alloc (.cells #[.func (.func gf) #[] lb] 69) := by
  unfold fldV
  go_enter Try.func39, Try.ntmps39
  go_wp2_with fail
  go_ret
  exact ⟨rfl, rfl⟩
/-- the places where a tool may stand, and those of them that take something -/
def plcs (W H s : Nat) (L : List Int) : List (Nat × Nat × Int) := lsq (cnd W H s L) (cnC W H s)
def zzL (W H r s : Nat) (T L : List Int) : List (Nat × Nat × Int) := lsq (tkd W H r ⟨T, 0, 0, 0⟩ (plcs W H s L)) (plcs W H s L).length
theorem plcs_ok {W H s : Nat} {L : List Int} (hW : 0 < W) (hL : ∀ i, 0 ≤ tp L i ∧ tp L i ≤ 24) : ∀ p ∈ plcs W H s L, p.1 < W ∧ p.2.1 < H ∧ 0 ≤ p.2.2 ∧ p.2.2 ≤ 24 := by
  intro p hp
  unfold plcs lsq at hp
  obtain ⟨c, hc, he⟩ := List.mem_filterMap.1 hp
  rw [List.mem_range] at hc
  unfold cnd at he
  by_cases h : c < lvn s * (W * H)
  · rw [if_pos h] at he
    have hWH : 0 < W * H := Nat.pos_of_ne_zero (fun e => by rw [e, Nat.mul_zero] at h; omega)
    unfold cn1 at he
    split at he
    · simp only [Option.some.injEq] at he
      subst he
      have := lvl_bd s (c / (W * H))
      exact ⟨tfx_lt hW, Nat.div_lt_of_lt_mul (Nat.mod_lt _ hWH), this.1, this.2⟩
    · cases he
  · rw [if_neg h] at he
    unfold cn2 at he
    unfold cnC at hc
    split at he
    · cases he
    · simp only [Option.some.injEq] at he
      subst he
      have := hL (c - lvn s * (W * H))
      exact ⟨Nat.mod_lt _ hW, Nat.div_lt_of_lt_mul (by omega), this.1, this.2⟩
theorem zgX (W H n c g po r s g2 c2 : Nat) (T L : List Int) (w : World) (hW1 : 1 ≤ W) (hW : W ≤ 24) (hH1 : 1 ≤ H) (hH : H ≤ 24) (hr : r ≤ 3) (hs1 : 1 ≤ s) (hs : s ≤ 24) (hn : n = W * H)
    (hF : Fd w g po n c T) (hO : MOk n ⟨T, 0, 0, 0⟩) (hF2 : Fd w g2 0 n c2 L) (hL : ∀ i, 0 ≤ tp L i ∧ tp L i ≤ 24) :
    SeqX Try.prog 72 #[.pointer (some ⟨w.heap.size + 2, 0, none⟩), .pointer (some ⟨w.heap.size + 4, 0, none⟩), .pointer (some ⟨w.heap.size + 3, 0, none⟩)] (plc (zzL W H r s T L)) (zzL W H r s T L).length (fun q => (q = w.heap.size ∨ q = w.heap.size + 1 ∨ q = g2) ∨ q = w.heap.size + 3)
      (((((w.alloc (.cells #[.int .i64 (W : Int), .int .i64 (H : Int), .slice (some ⟨g2, 0, none⟩) n c2] 25)).alloc (.cells #[.int .i64 (s : Int)] 3)).alloc (.cells #[.int .i64 (W : Int), .int .i64 (H : Int), .slice (some ⟨g, po, none⟩) n c] 25)).alloc (.cells #[.int .i64 (r : Int)] 3)).alloc (.cells #[.func (.func 74) #[] #[.pointer (some ⟨w.heap.size + 1, 0, none⟩), .pointer (some ⟨w.heap.size, 0, none⟩)]] 69)) := by
  have hg2 := hF2.lt
  have b1 : Below w.heap.size w (w.alloc (.cells #[.int .i64 (W : Int), .int .i64 (H : Int), .slice (some ⟨g2, 0, none⟩) n c2] 25)) := ba (Below.refl _ _) _
  have v1 := vb_new w 25 [.int .i64 (W : Int), .int .i64 (H : Int), .slice (some ⟨g2, 0, none⟩) n c2] w.heap.size rfl
  have z1 : (w.alloc (.cells #[.int .i64 (W : Int), .int .i64 (H : Int), .slice (some ⟨g2, 0, none⟩) n c2] 25)).heap.size = w.heap.size + 1 := by simp
  generalize w.alloc (.cells #[.int .i64 (W : Int), .int .i64 (H : Int), .slice (some ⟨g2, 0, none⟩) n c2] 25) = w1 at *
  have b2 : Below w1.heap.size w1 (w1.alloc (.cells #[.int .i64 (s : Int)] 3)) := ba (Below.refl _ _) _
  have v2 := vb_new w1 3 [.int .i64 (s : Int)] (w.heap.size + 1) z1.symm
  have z2 : (w1.alloc (.cells #[.int .i64 (s : Int)] 3)).heap.size = w.heap.size + 2 := by simp [z1]
  generalize w1.alloc (.cells #[.int .i64 (s : Int)] 3) = w2 at *
  have b3 : Below w2.heap.size w2 (w2.alloc (.cells #[.int .i64 (W : Int), .int .i64 (H : Int), .slice (some ⟨g, po, none⟩) n c] 25)) := ba (Below.refl _ _) _
  have v3 := vb_new w2 25 [.int .i64 (W : Int), .int .i64 (H : Int), .slice (some ⟨g, po, none⟩) n c] (w.heap.size + 2) z2.symm
  have z3 : (w2.alloc (.cells #[.int .i64 (W : Int), .int .i64 (H : Int), .slice (some ⟨g, po, none⟩) n c] 25)).heap.size = w.heap.size + 3 := by simp [z2]
  generalize w2.alloc (.cells #[.int .i64 (W : Int), .int .i64 (H : Int), .slice (some ⟨g, po, none⟩) n c] 25) = w3 at *
  have b4 : Below w3.heap.size w3 (w3.alloc (.cells #[.int .i64 (r : Int)] 3)) := ba (Below.refl _ _) _
  have v4 := vb_new w3 3 [.int .i64 (r : Int)] (w.heap.size + 3) z3.symm
  have z4 : (w3.alloc (.cells #[.int .i64 (r : Int)] 3)).heap.size = w.heap.size + 4 := by simp [z3]
  generalize w3.alloc (.cells #[.int .i64 (r : Int)] 3) = w4 at *
  have b5 : Below w4.heap.size w4 (w4.alloc (.cells #[.func (.func 74) #[] #[.pointer (some ⟨w.heap.size + 1, 0, none⟩), .pointer (some ⟨w.heap.size, 0, none⟩)]] 69)) := ba (Below.refl _ _) _
  have v5 := vb_new w4 69 [.func (.func 74) #[] #[.pointer (some ⟨w.heap.size + 1, 0, none⟩), .pointer (some ⟨w.heap.size, 0, none⟩)]] (w.heap.size + 4) z4.symm
  have z5 : (w4.alloc (.cells #[.func (.func 74) #[] #[.pointer (some ⟨w.heap.size + 1, 0, none⟩), .pointer (some ⟨w.heap.size, 0, none⟩)]] 69)).heap.size = w.heap.size + 5 := by simp [z4]
  generalize w4.alloc (.cells #[.func (.func 74) #[] #[.pointer (some ⟨w.heap.size + 1, 0, none⟩), .pointer (some ⟨w.heap.size, 0, none⟩)]] 69) = w5 at *
  have c5 := b5
  have c4 := bc b4 b5
  have c3 := bc b3 c4
  have c2' := bc b2 c3
  have c1 := bc b1 c2'
  exact tkX W H n c g po (w.heap.size + 2) (w.heap.size + 4) (w.heap.size + 3) r 74 _ T (plcs W H s L) (fun q => q = w.heap.size ∨ q = w.heap.size + 1 ∨ q = g2) _ w5 hW1 hW hH1 hH hr hn (fun b hb => .inl hb) (.inr rfl) (fun b hb => by omega)
    (v3.bel c4) v5 (v4.bel b5) (hF.bel c1) hO (plcs_ok hW1 hL) (enters_of Try.func74 (by kernel_rfl) rfl)
    (stdX W H n c2 g2 0 (w.heap.size + 1) w.heap.size s L _ w5 hW1 hW hH1 hH hn hs1 hs (.inr (.inl rfl)) (.inl rfl) (.inr (.inr rfl)) (v2.bel c3) (v1.bel c2') (hF2.bel c1))
end Go.Proofs.Ytjhldjojkaphkaa
