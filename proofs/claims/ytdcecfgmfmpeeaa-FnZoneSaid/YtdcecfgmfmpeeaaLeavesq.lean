/-
  What the small functions of the plane answer: sides, ways, signs, right points. More of the small functions of the plane: ways, signs, turns, orders, right points. Rows of whole numbers in memory: where they lie, what is written over, and that all else stays. The source of choices: what a byte, a choice, a chance and an odd number are, whatever the code. Rows of numbers that a call makes by append. A law for a statement that draws the order of its operations: an invariant over which of them have come up. Each operation is looked at once, whatever came ahead of it. A drawn point is a right one, whatever the code. The drawn points: four at least, all right, whatever the code.
-/
import Derived.Test.YtdcecfgmfmpeeaaProg
import Derived.WalkKit
import Derived.ProofKit
import Derived.OpenShut
import Derived.Deep.QuietTactic
import Derived.BigQuiet
import Derived.Below
import Derived.Test.YtdcecfgmfmpeeaaPlaneq
import Derived.Deep.RegionHeld3
import Derived.Deep.DeepCutAuto
import Derived.Laws.AppendOwn
import Derived.OwnWalk
import Derived.Deep.DrawnRows
namespace Go.Proofs.Ytdcecfgmfmpeeaa
open Go.ChangeShapes Go.WideShapes Go.ChangeAt Go.RowKit
set_option linter.unusedVariables false
theorem zu {p : Prop} (h : Hid p) : p := h
theorem hide {p : Prop} (h : p) : Hid p := h
theorem ret_int {k : IntKind} {a b : Int} (h : a = b) : Ending.returned (.int k a) = .returned (.int k b) := by rw [h]
theorem ret_bool {a b : Bool} (h : a = b) : Ending.returned (.bool a) = .returned (.bool b) := by rw [h]
abbrev ptv (p : Pt) : Value := .agg #[.int .i64 p.1, .int .i64 p.2]
theorem mul_bd (x y A B : Int) (hx1 : -A ≤ x) (hx2 : x ≤ A) (hy1 : -B ≤ y) (hy2 : y ≤ B) : -(A * B) ≤ x * y ∧ x * y ≤ A * B := by
 have h : (x * y).natAbs ≤ (A * B).natAbs := by
  rw [Int.natAbs_mul, Int.natAbs_mul]
  exact Nat.mul_le_mul (by omega) (by omega)
 have hp : 0 ≤ A * B := Int.mul_nonneg (by omega) (by omega)
 omega
theorem ok_bd {p : Pt} (h : ptOk p = true) : -100000 ≤ p.1 ∧ p.1 ≤ 100000 ∧ -100000 ≤ p.2 ∧ p.2 ≤ 100000 := of_decide_eq_true h
set_option maxHeartbeats 1000000 in
theorem side_any (a b c : Pt) (w : World) (ha : ptOk a = true) (hb : ptOk b = true) (hc : ptOk c = true) :
  Calls Try.prog 31 #[ptv a, ptv b, ptv c] w fun e w' => e = .returned (.int .i64 (side a b c)) ∧ Below w.heap.size w w' := by
 obtain ⟨a1, a2⟩ := a
 obtain ⟨b1, b2⟩ := b
 obtain ⟨c1, c2⟩ := c
 obtain ⟨p1, p2, p3, p4⟩ := ok_bd ha
 obtain ⟨q1, q2, q3, q4⟩ := ok_bd hb
 obtain ⟨r1, r2, r3, r4⟩ := ok_bd hc
 clear ha hb hc
 simp only at p1 p2 p3 p4 q1 q2 q3 q4 r1 r2 r3 r4
 have m1 := mul_bd (b1 - a1) (c2 - a2) 200000 200000 (by omega) (by omega) (by omega) (by omega)
 have m2 := mul_bd (b2 - a2) (c1 - a1) 200000 200000 (by omega) (by omega) (by omega) (by omega)
 obtain ⟨m1, m1'⟩ := m1
 obtain ⟨m2, m2'⟩ := m2
 go_enter Try.func31, Try.ntmps31
 go_wp2
 go_ret
 exact ⟨rfl, (((Below.refl _ _).alloc (Nat.le_refl _) _).alloc (by simp) _).alloc (by simp; omega) _⟩
set_option linter.unusedSimpArgs false
theorem cell_lt {W : World} {b o : Nat} {v : Value} (h : W.cell? ⟨b, o, none⟩ = some v) : b < W.heap.size := by
 by_cases hb : b < W.heap.size
 ·exact hb
 ·have : W.heap[b]? = none := by simp; omega
  simp [World.cell?, this] at h
theorem keep1 {W w1 : World} (hb : Below W.heap.size W w1) {b o : Nat} {v : Value} (h : W.cell? ⟨b, o, none⟩ = some v) : w1.cell? ⟨b, o, none⟩ = some v :=
 (hb.cell (p := ⟨b, o, none⟩) (cell_lt h)).trans h
theorem keepz {W w1 : World} (hb : Below W.heap.size W w1) {b o : Nat} (h : b < W.heap.size) (hf : W.frozen? ⟨b, o, none⟩ = false) : w1.frozen? ⟨b, o, none⟩ = false :=
 (hb.frozen (p := ⟨b, o, none⟩) h).trans hf
theorem ka {W : World} {o : Obj} {b f : Nat} {v : Value} (h : W.cell? ⟨b, f, none⟩ = some v) : (W.alloc o).cell? ⟨b, f, none⟩ = some v := by
 rw [World.cell?_alloc_past _ _ _ (cell_lt h)]; exact h
theorem bc {w W w1 : World} (h : Below w.heap.size w W) (hb : Below W.heap.size W w1) : Below w.heap.size w w1 := h.trans (hb.mono h.size)
theorem ba {w W : World} (h : Below w.heap.size w W) (o : Obj) : Below w.heap.size w (W.alloc o) := h.alloc h.size o
theorem le1 {b n k : Nat} (h : b ≤ n) : b ≤ n + k := Nat.le_trans h (Nat.le_add_right n k)
theorem lt1 {b n k : Nat} (h : b < n) : b < n + k := Nat.lt_of_lt_of_le h (Nat.le_add_right n k)
theorem acr_exact (a1 a2 b1 b2 : Int) (w : World) (ha : (-200000 ≤ a1 ∧ a1 ≤ 200000) ∧ -200000 ≤ a2 ∧ a2 ≤ 200000) (hb : (-200000 ≤ b1 ∧ b1 ≤ 200000) ∧ -200000 ≤ b2 ∧ b2 ≤ 200000) :
  Calls Try.prog 55 #[.agg #[.int .i64 a1, .int .i64 a2], .agg #[.int .i64 b1, .int .i64 b2]] w fun e w' => e = .returned (.int .i64 (a1 * b2 - a2 * b1)) ∧ w' = (w.alloc (.cells #[.int .i64 a1, .int .i64 a2] 30)).alloc (.cells #[.int .i64 b1, .int .i64 b2] 30) := by
 obtain ⟨⟨p1, p2⟩, p3, p4⟩ := ha
 obtain ⟨⟨q1, q2⟩, q3, q4⟩ := hb
 obtain ⟨m1, m1'⟩ := mul_bd a1 b2 200000 200000 (by omega) (by omega) (by omega) (by omega)
 obtain ⟨m2, m2'⟩ := mul_bd a2 b1 200000 200000 (by omega) (by omega) (by omega) (by omega)
 go_enter Try.func55, Try.ntmps55
 go_wp2
 go_ret
 exact ⟨rfl, rfl⟩
theorem sub_exact (a1 a2 b1 b2 : Int) (w : World) (ha : ptOk (a1, a2) = true) (hb : ptOk (b1, b2) = true) :
  Calls Try.prog 52 #[.agg #[.int .i64 a1, .int .i64 a2], .agg #[.int .i64 b1, .int .i64 b2]] w fun e w' => e = .returned (.agg #[.int .i64 (a1 - b1), .int .i64 (a2 - b2)]) ∧ w' = ((w.alloc (.cells #[.int .i64 a1, .int .i64 a2] 30)).alloc (.cells #[.int .i64 b1, .int .i64 b2] 30)).alloc (.cells #[.int .i64 (a1 - b1), .int .i64 (a2 - b2)] 30) := by
 obtain ⟨p1, p2, p3, p4⟩ := ok_bd ha
 obtain ⟨q1, q2, q3, q4⟩ := ok_bd hb
 simp only at p1 p2 p3 p4 q1 q2 q3 q4
 clear ha hb
 go_enter Try.func52, Try.ntmps52
 go_wp2
 exact bodyPost_ret (v := .agg #[.int .i64 (a1 - b1), .int .i64 (a2 - b2)]) (by simp [results, Try.results52, go_sem]) rfl ⟨rfl, by simp [go_sem]⟩
theorem sign_any (n : Int) (w : World) : Calls Try.prog 87 #[.int .i64 n] w fun e w' => e = .returned (.int .i64 (sgn n)) ∧ w' = w := by
 by_cases h1 : 0 < n
 ·have b1 : decide (0 < n) = true := decide_eq_true h1
  go_enter Try.func87, Try.ntmps87
  go_wp2
  go_ret
  exact ⟨ret_int (by rw [sgn_pos h1]), rfl⟩
 ·by_cases h2 : n < 0
  ·have b1 : decide (0 < n) = false := decide_eq_false h1
   have b2 : decide (n < 0) = true := decide_eq_true h2
   go_enter Try.func87, Try.ntmps87
   go_wp2
   go_ret
   exact ⟨ret_int (by rw [sgn_neg h2]), rfl⟩
  ·have b1 : decide (0 < n) = false := decide_eq_false h1
   have b2 : decide (n < 0) = false := decide_eq_false h2
   go_enter Try.func87, Try.ntmps87
   go_wp2
   go_ret
   exact ⟨ret_int (by have : n = 0 := by omega
                      subst this; rfl), rfl⟩
theorem dif_bd {a1 a2 b1 b2 : Int} (ha : ptOk (a1, a2) = true) (hb : ptOk (b1, b2) = true) : (-200000 ≤ a1 - b1 ∧ a1 - b1 ≤ 200000) ∧ -200000 ≤ a2 - b2 ∧ a2 - b2 ≤ 200000 := by
 obtain ⟨p1, p2, p3, p4⟩ := ok_bd ha
 obtain ⟨q1, q2, q3, q4⟩ := ok_bd hb
 simp only at p1 p2 p3 p4 q1 q2 q3 q4
 omega
set_option maxRecDepth 100000 in
set_option maxHeartbeats 400000 in
theorem turn_ints (a1 a2 b1 b2 c1 c2 : Int) (w : World) (ha : ptOk (a1, a2) = true) (hb : ptOk (b1, b2) = true) (hc : ptOk (c1, c2) = true) :
  Calls Try.prog 64 #[.agg #[.int .i64 a1, .int .i64 a2], .agg #[.int .i64 b1, .int .i64 b2], .agg #[.int .i64 c1, .int .i64 c2]] w fun e w' => e = .returned (.int .i64 (sgn ((b1 - a1) * (c2 - a2) - (b2 - a2) * (c1 - a1)))) ∧ Below w.heap.size w w' := by
 have HA := hide ha
 have HB := hide hb
 have HC := hide hc
 clear ha hb hc
 go_enter Try.func64, Try.ntmps64
 go_wp2_with fail
 go_region_held3 (fun wx => wx.cell? ⟨w.heap.size, 0, none⟩ = some (.int .i64 a1) ∧ wx.cell? ⟨w.heap.size, 1, none⟩ = some (.int .i64 a2) ∧ wx.cell? ⟨w.heap.size + 1, 0, none⟩ = some (.int .i64 b1) ∧ wx.cell? ⟨w.heap.size + 1, 1, none⟩ = some (.int .i64 b2) ∧ wx.cell? ⟨w.heap.size + 1 + 1, 0, none⟩ = some (.int .i64 c1) ∧ wx.cell? ⟨w.heap.size + 1 + 1, 1, none⟩ = some (.int .i64 c2))
  (simp (maxDischargeDepth := 12) [go_sem, le1, lt1, *])
  (first
  | (go_at_call 52; refine (sub_exact _ _ _ _ _ ?_ ?_).mono ?_; (first | exact zu HB | exact zu HC); exact zu HA; rintro e w' ⟨rfl, rfl⟩)
  | (go_at_call 55; refine (acr_exact _ _ _ _ _ (dif_bd (zu HB) (zu HA)) (dif_bd (zu HC) (zu HA))).mono ?_; rintro e w' ⟨rfl, rfl⟩)
  | (go_at_call 87; refine (sign_any _ _).mono ?_; rintro e w' ⟨rfl, rfl⟩))
 all_goals
  go_wp2_with fail
  go_ret
  refine ⟨rfl, ?_⟩
  repeat (first | exact Below.refl _ _ | refine ba ?_ _ | refine Below.drew ?_)
def IntsAt (w : World) (b off : Nat) (L : List Int) : Prop := ∀ (j : Nat) (x : Int), L[j]? = some x → w.cell? ⟨b, off + j, none⟩ = some (.int .i64 x)
def iblk (w : World) (g t : Nat) (L : List Int) : Prop := w.heap[g]? = some (.cells (L.map (Value.int .i64)).toArray t (0, 0))
theorem iblk.ints {w : World} {g t : Nat} {L : List Int} (h : iblk w g t L) : IntsAt w g 0 L := by
 intro j x hj
 simp only [World.cell?]
 rw [h]
 simp [hj]
theorem iblk.cell {w : World} {g t : Nat} {L : List Int} (h : iblk w g t L) {m : Nat} {x : Int} (hx : L[m]? = some x) : w.cell? ⟨g, m, none⟩ = some (.int .i64 x) := by
 simp only [World.cell?]
 rw [h]
 simp [hx]
theorem iblk.lt {w : World} {g t : Nat} {L : List Int} (h : iblk w g t L) : g < w.heap.size := (Array.getElem?_eq_some_iff.1 h).1
theorem iblk.frozen {w : World} {g t : Nat} {L : List Int} (h : iblk w g t L) (o : Nat) : w.frozen? ⟨g, o, none⟩ = false := by
 simp only [World.frozen?]
 rw [h]
 simp
theorem iblk.below {B : Nat} {w w' : World} {g t : Nat} {L : List Int} (h : iblk w g t L) (hb : Below B w w') (hg : g < B) : iblk w' g t L := (hb.block g hg).trans h
theorem iblk.bel {w w' : World} {g t : Nat} {L : List Int} (h : iblk w g t L) (hb : Below w.heap.size w w') : iblk w' g t L := h.below hb h.lt
theorem iblk.set {w : World} {g t : Nat} {L : List Int} (h : iblk w g t L) (m : Nat) (x : Int) : iblk (w.setCell ⟨g, m, none⟩ (.int .i64 x)) g t (L.set m x) := by
 show (w.heap.modify g _)[g]? = _
 rw [Array.getElem?_modify, if_pos rfl, h]
 simp [List.map_set]
theorem IntsAt.below {B : Nat} {w w' : World} {b off : Nat} {L : List Int} (h : IntsAt w b off L) (hb : Below B w w') (hB : b < B) : IntsAt w' b off L :=
  fun j x hj => (hb.cell (p := ⟨b, _, none⟩) hB).trans (h j x hj)
theorem IntsAt.at {w : World} {b off : Nat} {L : List Int} (h : IntsAt w b off L) {k i f : Nat} {x : Int} (hj : L[i * k + f]? = some x) : w.cell? ⟨b, off + i * k + f, none⟩ = some (.int .i64 x) := by
 have := h (i * k + f) x hj
 rw [← Nat.add_assoc] at this
 exact this
structure Same (w w' : World) : Prop where
 os : w'.os = w.os
 tape : w'.tape = w.tape
 output : w'.output = w.output
 heap : w'.heap = w.heap
theorem Same.refl (w : World) : Same w w := ⟨rfl, rfl, rfl, rfl⟩
theorem Same.drew {a w : World} (h : Same a w) : Same a w.drew := ⟨h.os, h.tape, h.output, h.heap⟩
theorem Same.trans {a b c : World} (h : Same a b) (k : Same b c) : Same a c := ⟨k.os.trans h.os, k.tape.trans h.tape, k.output.trans h.output, k.heap.trans h.heap⟩
theorem Same.bel {B : Nat} {w w' : World} (h : Same w w') : Below B w w' := ⟨h.os, h.tape, h.output, Nat.le_of_eq (by rw [h.heap]), fun k _ => by rw [h.heap]⟩
theorem Same.cell {w w' : World} (h : Same w w') (a : Addr) : w'.cell? a = w.cell? a := by simp only [World.cell?, h.heap]
theorem Same.iblk {w w' : World} (h : Same w w') {g t : Nat} {L : List Int} (k : iblk w g t L) : iblk w' g t L := by unfold Go.Proofs.Ytdcecfgmfmpeeaa.iblk; rw [h.heap]; exact k
structure But (g : Nat) (w w' : World) : Prop where
 os : w'.os = w.os
 tape : w'.tape = w.tape
 output : w'.output = w.output
 size : w.heap.size = w'.heap.size
 block : ∀ k, k ≠ g → w'.heap[k]? = w.heap[k]?
theorem But.refl (g : Nat) (w : World) : But g w w := ⟨rfl, rfl, rfl, rfl, fun _ _ => rfl⟩
theorem But.trans {g : Nat} {a b c : World} (h : But g a b) (k : But g b c) : But g a c :=
  ⟨k.os.trans h.os, k.tape.trans h.tape, k.output.trans h.output, h.size.trans k.size, fun i hi => (k.block i hi).trans (h.block i hi)⟩
theorem But.drew {g : Nat} {a w : World} (h : But g a w) : But g a w.drew := ⟨h.os, h.tape, h.output, h.size, h.block⟩
theorem But.setCell {g : Nat} {a w : World} (h : But g a w) (o : Nat) (u : Value) : But g a (w.setCell ⟨g, o, none⟩ u) :=
 h.trans ⟨rfl, rfl, rfl, by simp [World.setCell], fun k hk => Below.heap_setCell _ _ _ _ hk⟩
theorem But.bel {g B : Nat} {w w' : World} (h : But g w w') (hB : B ≤ g) : Below B w w' :=
  ⟨h.os, h.tape, h.output, Nat.le_of_eq h.size, fun k hk => h.block k (by omega)⟩
theorem But.same {g : Nat} {a b c : World} (h : But g a b) (k : Same b c) : But g a c := h.trans ⟨k.os, k.tape, k.output, by rw [k.heap], fun i _ => by rw [k.heap]⟩
structure Mv (g : Nat) (w w' : World) : Prop where
 os : w'.os = w.os
 tape : w'.tape = w.tape
 output : w'.output = w.output
 size : w.heap.size ≤ w'.heap.size
 block : ∀ k, k < w.heap.size → k ≠ g → w'.heap[k]? = w.heap[k]?
theorem Mv.refl (g : Nat) (w : World) : Mv g w w := ⟨rfl, rfl, rfl, Nat.le_refl _, fun _ _ _ => rfl⟩
theorem Mv.trans {g : Nat} {a b c : World} (x : Mv g a b) (y : Mv g b c) : Mv g a c :=
  ⟨y.os.trans x.os, y.tape.trans x.tape, y.output.trans x.output, Nat.le_trans x.size y.size, fun k hk h1 => (y.block k (Nat.lt_of_lt_of_le hk x.size) h1).trans (x.block k hk h1)⟩
theorem Mv.of_bel {g : Nat} {w w' : World} (hb : Below w.heap.size w w') : Mv g w w' := ⟨hb.os, hb.tape, hb.output, hb.size, fun k hk _ => hb.block k hk⟩
theorem Mv.call {g : Nat} {w W w' : World} (x : Mv g w W) (hb : Below W.heap.size W w') : Mv g w w' := x.trans (Mv.of_bel hb)
theorem Mv.alloc {g : Nat} {w w' : World} (x : Mv g w w') (o : Obj) : Mv g w (w'.alloc o) := x.call (ba (Below.refl _ _) o)
theorem Mv.drew {g : Nat} {w w' : World} (x : Mv g w w') : Mv g w w'.drew := ⟨x.os, x.tape, x.output, x.size, x.block⟩
theorem Mv.dn {g : Nat} {w w' : World} (x : Mv g w w') (q : Nat) : Mv g w (w'.drewN q) := ⟨x.os, x.tape, x.output, x.size, x.block⟩
theorem Mv.set {g : Nat} {w w' : World} (x : Mv g w w') (o : Nat) (v : Value) : Mv g w (w'.setCell ⟨g, o, none⟩ v) :=
 x.trans ⟨rfl, rfl, rfl, by simp [World.setCell], fun k _ h1 => Below.heap_setCell _ _ _ _ h1⟩
theorem Mv.new {g T : Nat} {w w' : World} (x : Mv g w w') (hT : w.heap.size ≤ T) (o : Nat) (v : Value) : Mv g w (w'.setCell ⟨T, o, none⟩ v) :=
  ⟨x.os, x.tape, x.output, by simpa [World.setCell] using x.size, fun k hk h1 => (Below.heap_setCell _ _ _ _ (show k ≠ T by omega)).trans (x.block k hk h1)⟩
theorem Mv.cell {g : Nat} {w w' : World} (x : Mv g w w') {b o : Nat} {v : Value} (h1 : b ≠ g) (hc : w.cell? ⟨b, o, none⟩ = some v) : w'.cell? ⟨b, o, none⟩ = some v :=
 (World.cell?_of_block (w := w) (a := ⟨b, o, none⟩) (x.block b (cell_lt hc) h1)).trans hc
theorem frozen_of_block {w w' : World} {b o : Nat} (h : w'.heap[b]? = w.heap[b]?) : w'.frozen? ⟨b, o, none⟩ = w.frozen? ⟨b, o, none⟩ := by simp only [World.frozen?, h]
theorem Mv.bel {g B : Nat} {a w w' : World} (hb : Below B a w) (x : Mv g w w') (h1 : B ≤ g) (hB : B ≤ w.heap.size) : Below B a w' :=
 hb.trans ⟨x.os, x.tape, x.output, x.size, fun k hk => x.block k (by omega) (by omega)⟩
def Code (B : Nat) (w : World) (a : Option Addr) (len cap : Nat) (zs : List Int) : Prop :=
 len = 0 ∨
 ∃ b off : Nat, a = some ⟨b, off, none⟩ ∧ b < B ∧ b < w.heap.size ∧ len ≤ cap ∧ cap ≤ maxLen ∧ zs.length = cap ∧ (∀ i, i < zs.length → w.cell? ⟨b, off + i, none⟩ = some (.int .u8 (zs.getD i 0))) ∧ ∀ i, 0 ≤ zs.getD i 0 ∧ zs.getD i 0 ≤ 255
structure Src (B : Nat) (a : Option Addr) (len cap : Nat) (zs : List Int) (g : Nat) (n s : Int) (w : World) : Prop where
 above : B ≤ g
 code : Code B w a len cap zs
 c0 : w.cell? ⟨g, 0, none⟩ = some (.slice a len cap)
 c1 : w.cell? ⟨g, 1, none⟩ = some (.int .i64 n)
 c2 : w.cell? ⟨g, 2, none⟩ = some (.int .i64 s)
 f1 : w.frozen? ⟨g, 1, none⟩ = false
 f2 : w.frozen? ⟨g, 2, none⟩ = false
 n0 : 0 ≤ n
 s0 : 0 ≤ s
 s1 : s < 2147483648
 l1 : len ≤ 9223372036854775807
theorem setCell_drewN (W : World) (q : Nat) (p : Addr) (v : Value) : (W.drewN q).setCell p v = (W.setCell p v).drewN q := rfl
set_option maxHeartbeats 1000000 in
theorem byte_in (B b off len cap : Nat) (g : Nat) (n s z : Int) (w : World) (hg : B ≤ g) (hb : b < B)
  (c0 : w.cell? ⟨g, 0, none⟩ = some (.slice (some ⟨b, off, none⟩) len cap)) (c1 : w.cell? ⟨g, 1, none⟩ = some (.int .i64 n)) (c2 : w.cell? ⟨g, 2, none⟩ = some (.int .i64 s))
  (f1 : w.frozen? ⟨g, 1, none⟩ = false) (f2 : w.frozen? ⟨g, 2, none⟩ = false) (n0 : 0 ≤ n) (s0 : 0 ≤ s) (s1 : s < 2147483648)
  (hn : n < (len : Int)) (hl : len ≤ 9223372036854775807) (hc : w.cell? ⟨b, off + n.toNat, none⟩ = some (.int .u8 z)) (z0 : 0 ≤ z) (z1 : z ≤ 255) :
  Calls Try.prog 72 #[.pointer (some ⟨g, 0, none⟩)] w fun e w' => e = .returned (.int .i64 z) ∧ ∃ q, w' = ((w.setCell ⟨g, 1, none⟩ (.int .i64 (n + 1))).setCell ⟨g, 2, none⟩ (.int .i64 ((s * 31 + z + 7) % 2147483648))).drewN q := by
 have hne : b ≠ g := by omega
 obtain ⟨k, rfl⟩ := Int.eq_ofNat_of_zero_le n0
 simp only [Int.toNat_natCast] at hc
 go_enter Try.func72, Try.ntmps72
 go_wp2
 go_quiet (fail)
 go_wp2_with fail
 go_region
 go_wp2_with fail
 go_quiet (fail)
 go_wp2
 go_ret
 exact ⟨rfl, _, by rw [setCell_drewN, World.drewN_drewN]⟩
set_option maxHeartbeats 1000000 in
theorem byte_far (len cap : Nat) (a : Option Addr) (g : Nat) (n : Int) (w : World)
  (c0 : w.cell? ⟨g, 0, none⟩ = some (.slice a len cap)) (c1 : w.cell? ⟨g, 1, none⟩ = some (.int .i64 n))
  (f1 : w.frozen? ⟨g, 1, none⟩ = false) (n0 : 0 ≤ n) (n1 : n ≤ 1000000000000) (hn : (len : Int) ≤ n) (hb : 3000 < n + 1) :
  Calls Try.prog 72 #[.pointer (some ⟨g, 0, none⟩)] w fun e w' => e = .returned (.int .i64 0) ∧ ∃ q, w' = (w.setCell ⟨g, 1, none⟩ (.int .i64 (n + 1))).drewN q := by
 go_enter Try.func72, Try.ntmps72
 go_wp2
 go_quiet (fail)
 go_wp2
 go_ret
 exact ⟨rfl, _, rfl⟩
set_option maxHeartbeats 1000000 in
theorem byte_mid (len cap : Nat) (a : Option Addr) (g : Nat) (n s : Int) (w : World)
  (c0 : w.cell? ⟨g, 0, none⟩ = some (.slice a len cap)) (c1 : w.cell? ⟨g, 1, none⟩ = some (.int .i64 n)) (c2 : w.cell? ⟨g, 2, none⟩ = some (.int .i64 s))
  (f1 : w.frozen? ⟨g, 1, none⟩ = false) (f2 : w.frozen? ⟨g, 2, none⟩ = false) (n0 : 0 ≤ n) (s0 : 0 ≤ s) (s1 : s < 2147483648)
  (hn : (len : Int) ≤ n) (hb : ¬ 3000 < n + 1) :
  Calls Try.prog 72 #[.pointer (some ⟨g, 0, none⟩)] w fun e w' => ∃ r s' q, e = .returned (.int .i64 r) ∧ 0 ≤ r ∧ r ≤ 255 ∧ 0 ≤ s' ∧ s' < 2147483648 ∧ w' = ((w.setCell ⟨g, 1, none⟩ (.int .i64 (n + 1))).setCell ⟨g, 2, none⟩ (.int .i64 s')).drewN q := by
 go_enter Try.func72, Try.ntmps72
 go_wp2
 go_quiet (fail)
 go_wp2
 go_ret
 refine ⟨_, _, _, rfl, ?_, ?_, ?_, ?_, rfl⟩
 all_goals omega
theorem Code.mv {B g : Nat} {w w1 : World} {a : Option Addr} {len cap : Nat} {zs : List Int} (h : Code B w a len cap zs) (hb : Mv g w w1) (hg : B ≤ g) : Code B w1 a len cap zs := by
 rcases h with h | ⟨b, off, rfl, h1, h0, h2, h3, h4, h5, h6⟩
 ·exact .inl h
 ·exact .inr ⟨b, off, rfl, h1, Nat.lt_of_lt_of_le h0 hb.size, h2, h3, h4, fun i hi => hb.cell (by omega) (h5 i hi), h6⟩
theorem Src.lt {B : Nat} {a : Option Addr} {len cap : Nat} {zs : List Int} {g : Nat} {n s : Int} {w : World} (h : Src B a len cap zs g n s w) : g < w.heap.size := cell_lt h.c0
theorem src_set1 {B : Nat} {a : Option Addr} {len cap : Nat} {zs : List Int} {g : Nat} {n s : Int} {w : World} (h : Src B a len cap zs g n s w) (q : Nat) :
  Src B a len cap zs g (n + 1) s ((w.setCell ⟨g, 1, none⟩ (.int .i64 (n + 1))).drewN q) := by
 have hb : Mv g w ((w.setCell ⟨g, 1, none⟩ (.int .i64 (n + 1))).drewN q) := ((Mv.refl g w).set _ _).dn q
 have h0 := h.c0
 have h1 := h.c1
 have h2 := h.c2
 have g1 := h.f1
 have g2 := h.f2
 have hn := h.n0
 exact ⟨h.above, h.code.mv hb h.above, by simp [go_sem, h0], by simp [go_sem, h1], by simp [go_sem, h2], by simp [go_sem, g1], by simp [go_sem, g2], by omega, h.s0, h.s1, h.l1⟩
theorem src_set2 {B : Nat} {a : Option Addr} {len cap : Nat} {zs : List Int} {g : Nat} {n s s' : Int} {w : World} (h : Src B a len cap zs g n s w) (q : Nat) (h0' : 0 ≤ s') (h1' : s' < 2147483648) :
  Src B a len cap zs g (n + 1) s' (((w.setCell ⟨g, 1, none⟩ (.int .i64 (n + 1))).setCell ⟨g, 2, none⟩ (.int .i64 s')).drewN q) := by
 have hb : Mv g w (((w.setCell ⟨g, 1, none⟩ (.int .i64 (n + 1))).setCell ⟨g, 2, none⟩ (.int .i64 s')).drewN q) := (((Mv.refl g w).set _ _).set _ _).dn q
 have h0 := h.c0
 have h1 := h.c1
 have h2 := h.c2
 have g1 := h.f1
 have g2 := h.f2
 have hn := h.n0
 exact ⟨h.above, h.code.mv hb h.above, by simp [go_sem, h0], by simp [go_sem, h1], by simp [go_sem, h2], by simp [go_sem, g1], by simp [go_sem, g2], by omega, h0', h1', h.l1⟩
def So (B g : Nat) (k : Int) (w : World) : Prop := ∃ a len cap zs n s, Src B a len cap zs g n s w ∧ n ≤ k
theorem So.up {B g : Nat} {k k' : Int} {w : World} (h : So B g k w) (hk : k ≤ k') : So B g k' w := by
 obtain ⟨a, len, cap, zs, n, s, h1, h2⟩ := h
 exact ⟨a, len, cap, zs, n, s, h1, Int.le_trans h2 hk⟩
theorem So.lt {B g : Nat} {k : Int} {w : World} (h : So B g k w) : g < w.heap.size := by
 obtain ⟨a, len, cap, zs, n, s, h1, h2⟩ := h
 exact h1.lt
theorem So.above {B g : Nat} {k : Int} {w : World} (h : So B g k w) : B ≤ g := by
 obtain ⟨a, len, cap, zs, n, s, h1, h2⟩ := h
 exact h1.above
theorem So.kept {B g : Nat} {k : Int} {w w' : World} (h : So B g k w) (hh : ∀ b, b < w.heap.size → (b < B ∨ b = g) → w'.heap[b]? = w.heap[b]?) (hs : w.heap.size ≤ w'.heap.size) : So B g k w' := by
 obtain ⟨a, len, cap, zs, n, s, h1, h2⟩ := h
 have hg := hh g h1.lt (.inr rfl)
 have hc : ∀ o, w'.cell? ⟨g, o, none⟩ = w.cell? ⟨g, o, none⟩ := fun o => World.cell?_of_block (w := w) (a := ⟨g, o, none⟩) hg
 refine ⟨a, len, cap, zs, n, s, ⟨h1.above, ?_, (hc 0).trans h1.c0, (hc 1).trans h1.c1, (hc 2).trans h1.c2, (frozen_of_block hg).trans h1.f1, (frozen_of_block hg).trans h1.f2, h1.n0, h1.s0, h1.s1, h1.l1⟩, h2⟩
 rcases h1.code with h | ⟨b, off, rfl, h3, h0, h4, h5, h6, h7, h8⟩
 ·exact .inl h
 ·exact .inr ⟨b, off, rfl, h3, Nat.lt_of_lt_of_le h0 hs, h4, h5, h6, fun i hi => (World.cell?_of_block (w := w) (a := ⟨b, off + i, none⟩) (hh b h0 (.inl h3))).trans (h7 i hi), h8⟩
theorem So.bel {B g : Nat} {k : Int} {w w' : World} (h : So B g k w) (hb : Below w.heap.size w w') : So B g k w' := h.kept (fun b h1 _ => hb.block b h1) hb.size
theorem So.alloc {B g : Nat} {k : Int} {w : World} (h : So B g k w) (o : Obj) : So B g k (w.alloc o) := h.bel (ba (Below.refl _ _) o)
theorem So.drew {B g : Nat} {k : Int} {w : World} (h : So B g k w) : So B g k w.drew := h.bel (Below.drew (Below.refl _ _))
theorem So.set {B g T : Nat} {k : Int} {w : World} (h : So B g k w) (hT : B ≤ T) (hg : T ≠ g) (o : Nat) (v : Value) : So B g k (w.setCell ⟨T, o, none⟩ v) :=
 h.kept (fun b _ h2 => Below.heap_setCell _ _ _ _ (show b ≠ T by have := h.above; omega)) (by simp [World.setCell])
theorem byte_any {B g : Nat} {k : Int} {w : World} (h : So B g k w) (n1 : k ≤ 1000000000000) :
  Calls Try.prog 72 #[.pointer (some ⟨g, 0, none⟩)] w fun e w' => ∃ r : Int, e = .returned (.int .i64 r) ∧ 0 ≤ r ∧ r ≤ 255 ∧ So B g (k + 1) w' ∧ Mv g w w' := by
 obtain ⟨a, len, cap, zs, n, s, h, hk⟩ := h
 by_cases hn : n < (len : Int)
 ·rcases h.code with h0 | ⟨b, off, rfl, hb, hw, h2, h3, h4, h5, h6⟩
  ·have := h.n0; omega
  ·have hn0 := h.n0
   unfold maxLen at h3
   have hc := h5 n.toNat (by omega)
   have hz := h6 n.toNat
   refine (byte_in B b off len cap g n s _ w h.above hb h.c0 h.c1 h.c2 h.f1 h.f2 h.n0 h.s0 h.s1 hn (by omega) hc hz.1 hz.2).mono ?_
   rintro e w' ⟨rfl, q, rfl⟩
   exact ⟨_, rfl, hz.1, hz.2, ⟨_, _, _, _, _, _, src_set2 h q (by omega) (by omega), by omega⟩, (((Mv.refl g w).set _ _).set _ _).dn q⟩
 ·by_cases hb : 3000 < n + 1
  ·refine (byte_far len cap a g n w h.c0 h.c1 h.f1 h.n0 (by omega) (by omega) hb).mono ?_
   rintro e w' ⟨rfl, q, rfl⟩
   exact ⟨0, rfl, by omega, by omega, ⟨_, _, _, _, _, _, src_set1 h q, by omega⟩, ((Mv.refl g w).set _ _).dn q⟩
  ·refine (byte_mid len cap a g n s w h.c0 h.c1 h.c2 h.f1 h.f2 h.n0 h.s0 h.s1 (by omega) hb).mono ?_
   rintro e w' ⟨r, s', q, rfl, hr0, hr1, hs0, hs1, rfl⟩
   exact ⟨r, rfl, hr0, hr1, ⟨_, _, _, _, _, _, src_set2 h q hs0 hs1, by omega⟩, (((Mv.refl g w).set _ _).set _ _).dn q⟩
set_option maxHeartbeats 400000 in
theorem next_small {B g : Nat} {k : Int} {w : World} (m : Int) (h : So B g k w) (n1 : k ≤ 1000000000000) (m0 : 2 ≤ m) (m1 : m ≤ 256) :
  Calls Try.prog 48 #[.pointer (some ⟨g, 0, none⟩), .int .i64 m] w fun e w' => ∃ r : Int, e = .returned (.int .i64 r) ∧ 0 ≤ r ∧ r < m ∧ So B g (k + 3) w' ∧ Mv g w w' := by
 have HB := hide (byte_any h n1)
 have hz : (m == 0) = false := by rw [beq_eq_false_iff_ne]; omega
 clear h
 go_enter Try.func48, Try.ntmps48
 go_wp2_with fail
 refine (zu HB).mono ?_
 rintro e w1 ⟨r, rfl, r0, r1, hs, hb⟩
 have HS := hide hs
 have HW := hide hb
 have hr := Int.emod_nonneg r (b := m) (by omega)
 have hr2 := Int.emod_lt_of_pos r (b := m) (by omega)
 clear hs hb
 go_wp2
 go_ret
 exact ⟨r % m, rfl, hr, hr2, (zu HS).up (by omega), zu HW⟩
set_option maxHeartbeats 400000 in
theorem next_big {B g : Nat} {k : Int} {w : World} (m : Int) (h : So B g k w) (n1 : k ≤ 1000000000) (m0 : 256 < m) (m1 : m ≤ 9223372036854775807) :
  Calls Try.prog 48 #[.pointer (some ⟨g, 0, none⟩), .int .i64 m] w fun e w' => ∃ r : Int, e = .returned (.int .i64 r) ∧ 0 ≤ r ∧ r < m ∧ So B g (k + 3) w' ∧ Mv g w w' := by
 have HB := hide (byte_any h (by omega))
 have hz : (m == 0) = false := by rw [beq_eq_false_iff_ne]; omega
 clear h
 go_enter Try.func48, Try.ntmps48
 go_wp2_with fail
 refine (zu HB).mono ?_
 rintro e w1 ⟨r, rfl, r0, r1, hs, hb⟩
 have H2 := hide (byte_any hs (by omega))
 have W1 := hide hb
 clear hs hb
 go_wp2_with fail
 refine (zu H2).mono ?_
 rintro e w2 ⟨t, rfl, t0, t1, hs, hb⟩
 have H3 := hide (byte_any hs (by omega))
 have W2 := hide hb
 clear hs hb
 go_wp2_with fail
 refine (zu H3).mono ?_
 rintro e w3 ⟨u, rfl, u0, u1, hs, hb⟩
 have HS := hide hs
 have W3 := hide hb
 have hr := Int.emod_nonneg (r * 65536 + t * 256 + u) (b := m) (by omega)
 have hr2 := Int.emod_lt_of_pos (r * 65536 + t * 256 + u) (b := m) (by omega)
 clear hs hb
 go_wp2
 go_ret
 exact ⟨(r * 65536 + t * 256 + u) % m, rfl, hr, hr2, (zu HS).up (by omega), ((zu W1).trans (zu W2)).trans (zu W3)⟩
set_option maxHeartbeats 400000 in
theorem next_none {B g : Nat} {k : Int} {w : World} (m : Int) (h : So B g k w) (m1 : m ≤ 1) :
  Calls Try.prog 48 #[.pointer (some ⟨g, 0, none⟩), .int .i64 m] w fun e w' => e = .returned (.int .i64 0) ∧ So B g (k + 3) w' ∧ Mv g w w' := by
 have HB := hide h
 clear h
 go_enter Try.func48, Try.ntmps48
 go_wp2
 go_ret
 exact ⟨rfl, (zu HB).up (by omega), Mv.refl _ _⟩
theorem next_all {B g : Nat} {k : Int} {w : World} (m : Int) (h : So B g k w) (n1 : k ≤ 1000000000) (m1 : m ≤ 9223372036854775807) :
  Calls Try.prog 48 #[.pointer (some ⟨g, 0, none⟩), .int .i64 m] w fun e w' => ∃ r : Int, e = .returned (.int .i64 r) ∧ 0 ≤ r ∧ (r = 0 ∨ r < m) ∧ r ≤ 9223372036854775806 ∧ So B g (k + 3) w' ∧ Mv g w w' := by
 by_cases h1 : m ≤ 1
 ·refine (next_none m h h1).mono ?_
  rintro e w' ⟨rfl, h2, h3⟩
  exact ⟨0, rfl, by omega, .inl rfl, by omega, h2, h3⟩
 ·by_cases hm : m ≤ 256
  ·refine (next_small m h (by omega) (by omega) hm).mono ?_
   rintro e w' ⟨r, rfl, h4, h5, h2, h3⟩
   exact ⟨r, rfl, h4, .inr h5, by omega, h2, h3⟩
  ·refine (next_big m h n1 (by omega) m1).mono ?_
   rintro e w' ⟨r, rfl, h4, h5, h2, h3⟩
   exact ⟨r, rfl, h4, .inr h5, by omega, h2, h3⟩
theorem next_any {B g : Nat} {k : Int} {w : World} (m : Int) (h : So B g k w) (n1 : k ≤ 1000000000) (m0 : 1 ≤ m) (m1 : m ≤ 9223372036854775807) :
  Calls Try.prog 48 #[.pointer (some ⟨g, 0, none⟩), .int .i64 m] w fun e w' => ∃ r : Int, e = .returned (.int .i64 r) ∧ 0 ≤ r ∧ r < m ∧ So B g (k + 3) w' ∧ Mv g w w' := by
 refine (next_all m h n1 m1).mono ?_
 rintro e w' ⟨r, rfl, h4, h5, _, h2, h3⟩
 exact ⟨r, rfl, h4, by omega, h2, h3⟩
set_option maxHeartbeats 400000 in
theorem size_any {B g : Nat} {k : Int} {w : World} (m : Int) (h : So B g k w) (m0 : 1 ≤ m) (m1 : m ≤ 1000000) :
  Calls Try.prog 49 #[.pointer (some ⟨g, 0, none⟩), .int .i64 m] w fun e w' => ∃ r : Int, e = .returned (.int .i64 r) ∧ 1 ≤ r ∧ r ≤ m ∧ w' = w := by
 obtain ⟨a, len, cap, zs, n, s, h, hk⟩ := h
 have c0 := h.c0
 have l1 := h.l1
 clear h
 go_enter Try.func49, Try.ntmps49
 go_wp2
 all_goals
  go_ret
  refine ⟨_, rfl, ?_, ?_, rfl⟩
  all_goals omega
set_option maxHeartbeats 400000 in
theorem source_any (a : Option Addr) (len cap : Nat) (zs : List Int) (w : World) (hc : Code w.heap.size w a len cap zs) (hl : len ≤ 9223372036854775807) :
  Calls Try.prog 19 #[.slice a len cap] w fun e w' => e = .returned (.pointer (some ⟨w.heap.size, 0, none⟩)) ∧ Below w.heap.size w w' ∧ So w.heap.size w.heap.size 0 w' := by
 have HC := hide hc
 clear hc
 go_enter Try.func19, Try.ntmps19
 go_wp2
 go_ret
 have hb : Below w.heap.size w (w.alloc (.cells #[.slice a len cap, .int .i64 0, .int .i64 ((len : Int) % 1000)] 85)) := ba (Below.refl _ _) _
 exact ⟨rfl, hb, ⟨a, len, cap, zs, 0, (len : Int) % 1000, ⟨Nat.le_refl _, (zu HC).mv (Mv.of_bel hb) (Nat.le_refl _), by simp [go_sem], by simp [go_sem], by simp [go_sem], by simp [go_sem], by simp [go_sem], by omega, by omega, by omega, hl⟩, by omega⟩⟩
theorem add_none (p po j : Nat) : (⟨p, po, none⟩ : Addr).add j = ⟨p, po + j, none⟩ := by
 unfold Addr.add
 split <;> simp_all
def Row (w : World) (B t k : Nat) (v : Value) (n : Nat) (L : List Int) : Prop := w.ownsRow B t k v n (L.map (Value.int .i64))
theorem Row.len {w : World} {B t k : Nat} {v : Value} {n : Nat} {L : List Int} (h : Row w B t k v n L) : L.length = n * k := by have := h.1; simpa using this
theorem Row.form {w : World} {B t k : Nat} {v : Value} {n : Nat} {L : List Int} (h : Row w B t k v n L) :
  ∃ (u : Option Addr) (cap : Nat), v = .slice u n cap ∧ (n ≠ 0 → ∃ g, u = some ⟨g, 0, none⟩ ∧ B ≤ g ∧ g < w.heap.size ∧ IntsAt w g 0 L) := by
 rcases h.2 with ⟨rfl, rfl⟩ | ⟨g, cap, cur, rfl, hb, hh, hn, hm, hs, ht⟩
 ·exact ⟨none, 0, rfl, fun h => absurd rfl h⟩
 ·refine ⟨_, cap, rfl, fun _ => ⟨g, rfl, hb, (Array.getElem?_eq_some_iff.1 hh).1, ?_⟩⟩
  intro j x hj
  have h1 : (cur.toList.take (n * k))[j]? = some (Value.int .i64 x) := by rw [ht, List.getElem?_map, hj]; rfl
  simp only [World.cell?]
  rw [hh]
  rw [List.getElem?_take] at h1
  split at h1
  ·rw [Nat.zero_add]; simpa using h1
  ·cases h1
theorem Row.below {w w' : World} {B t k : Nat} {v : Value} {n : Nat} {L : List Int} (h : Row w B t k v n L) (hb : Below w.heap.size w w') : Row w' B t k v n L := by
 refine ⟨h.1, ?_⟩
 rcases h.2 with h1 | ⟨g, cap, cur, hv, hB, hh, r⟩
 ·exact .inl h1
 ·exact .inr ⟨g, cap, cur, hv, hB, (hb.block g (Array.getElem?_eq_some_iff.1 hh).1).trans hh, r⟩
theorem Row.mono {w : World} {B B' t k : Nat} {v : Value} {n : Nat} {L : List Int} (h : Row w B t k v n L) (hb : B' ≤ B) : Row w B' t k v n L := by
 refine ⟨h.1, ?_⟩
 rcases h.2 with h1 | ⟨g, cap, cur, hv, hB, r⟩
 ·exact .inl h1
 ·exact .inr ⟨g, cap, cur, hv, Nat.le_trans hb hB, r⟩
theorem row_made (w : World) (t B k : Nat) (hb : B ≤ w.heap.size) (g : Nat) (hg : g = w.heap.size) : Row (w.alloc (.cells #[] t)) B t k (.slice (some ⟨g, 0, none⟩) 0 0) 0 [] := by
 subst hg
 exact World.ownsRow_made w #[] 0 hb (by decide) (by simp)
theorem own_more {B t k n m : Nat} {wr W2 w1 : World} {v v' : Value} {L news : List Int} (hbel : Below B wr W2) (hB : B ≤ W2.heap.size) (hown : Row wr B t k v n L)
  (hown' : w1.ownsRow B t k v' (n + m) (L.map (Value.int .i64) ++ news.map (Value.int .i64))) (hgrow : W2.grownBy w1 v.ownBlock) :
  Row w1 B t k v' (n + m) (L ++ news) ∧ Below B wr w1 :=
  ⟨by unfold Row; rw [List.map_append]; exact hown', hbel.grown hgrow hB (fun j hj => (hown.lt j hj).1)⟩
theorem news_cells {W : World} {e : TypeId} (news : List Value) (g : Nat) (hg : g = W.heap.size) : ∀ (j : Nat) (u : Value), news[j]? = some u → (W.alloc (.cells news.toArray e)).cell? ((⟨g, 0, none⟩ : Addr).add j) = some u := by
 subst hg
 intro j u hj
 rw [add_none, Nat.zero_add]
 simp only [World.cell?]
 rw [heap_alloc_new]
 simp [hj]
theorem news_drew {W : World} {e : TypeId} (news : List Value) (g : Nat) (hg : g = W.heap.size) : ∀ (j : Nat) (u : Value), news[j]? = some u → (W.alloc (.cells news.toArray e)).drew.cell? ((⟨g, 0, none⟩ : Addr).add j) = some u := news_cells news g hg
theorem ints_one {L : List Int} : ∀ u ∈ L.map (Value.int .i64), u.oneCell' = true := by
 intro u hu
 obtain ⟨x, _, rfl⟩ := List.mem_map.1 hu
 rfl
theorem Row.full {w : World} {B t k : Nat} {v : Value} {n : Nat} {L : List Int} (h : Row w B t k v n L) (hn : n ≠ 0) :
  ∃ g cap, v = .slice (some ⟨g, 0, none⟩) n cap ∧ B ≤ g ∧ g < w.heap.size ∧ IntsAt w g 0 L ∧ n ≤ cap ∧ cap ≤ 9223372036854775807 := by
 obtain ⟨u, cap, hv, hf⟩ := h.form
 obtain ⟨g, rfl, h1, h2, h3⟩ := hf hn
 refine ⟨g, cap, hv, h1, h2, h3, ?_⟩
 rcases h.2 with ⟨h4, h5⟩ | ⟨g', cap', cur, h4, _, _, h7, h8, _⟩
 ·exact absurd h5 hn
 ·rw [h4] at hv
  cases hv
  exact ⟨h7, by unfold maxLen at h8; omega⟩
theorem Row.kept' {w w' : World} {B t k n : Nat} {v : Value} {L : List Int} (h : Row w B t k v n L) (hb : ∀ g, v.ownBlock = some g → w'.heap[g]? = w.heap[g]?) : Row w' B t k v n L := by
 refine ⟨h.1, ?_⟩
 rcases h.2 with h1 | ⟨g, cap, cur, hv, hB, hh, r⟩
 ·exact .inl h1
 ·exact .inr ⟨g, cap, cur, hv, hB, (hb g (by rw [hv]; rfl)).trans hh, r⟩
theorem Row.mv {w w' : World} {B t k n g : Nat} {v : Value} {L : List Int} (h : Row w B t k v n L) (hb : Mv g w w') (hg : g < B) : Row w' B t k v n L :=
 h.kept' (fun b hb' => by have := World.ownsRow.lt h b hb'; exact hb.block b this.2 (by omega))
theorem So.belB {B g C : Nat} {k : Int} {w w' : World} (h : So B g k w) (hb : Below C w w') (hg : g < C) : So B g k w' := by
 have := h.above
 exact h.kept (fun b _ h2 => hb.block b (by omega)) hb.size
theorem Mv.belB {g C : Nat} {w W w' : World} (x : Mv g w W) (hb : Below C W w') (hC : w.heap.size ≤ C) : Mv g w w' :=
  ⟨hb.os.trans x.os, hb.tape.trans x.tape, hb.output.trans x.output, Nat.le_trans x.size hb.size, fun k hk h1 => (hb.block k (by omega)).trans (x.block k hk h1)⟩
def gt (a : List Int) (i : Nat) : Int := a.getD i 0
theorem gtk_some {a : List Int} {i : Nat} (h : i < a.length) : a[i]? = some (gt a i) := by
 unfold gt
 rw [List.getD_eq_getElem?_getD, List.getElem?_eq_getElem h]
 rfl
theorem wrap_i {x : Int} (h1 : -9223372036854775808 ≤ x) (h2 : x ≤ 9223372036854775807) : IntKind.i64.wrap x = x := by
 simp only [IntKind.wrap, IntKind.bits, IntKind.signed]
 simp
 omega
def Only (K : Act → World → Prop) : Exit → Act → World → Prop := fun e a w => match e with | .normal => K a w | _ => False
theorem Only.to {K : Act → World → Prop} {Q : Exit → Act → World → Prop} (h : ∀ a w, K a w → Q .normal a w) : ∀ e a w, Only K e a w → Q e a w := by
 intro e a w hq
 cases e <;> first | exact h _ _ hq | exact hq.elim
theorem pair_set0 {W : World} {q t : Nat} {a b x : Value} (h : W.heap[q]? = some (.cells #[a, b] t)) : (W.setCell ⟨q, 0, none⟩ x).heap[q]? = some (.cells #[x, b] t) := by
 show (W.heap.modify q _)[q]? = _
 rw [Array.getElem?_modify, if_pos rfl, h]
 simp
theorem pair_set1 {W : World} {q t : Nat} {a b x : Value} (h : W.heap[q]? = some (.cells #[a, b] t)) : (W.setCell ⟨q, 1, none⟩ x).heap[q]? = some (.cells #[a, x] t) := by
 show (W.heap.modify q _)[q]? = _
 rw [Array.getElem?_modify, if_pos rfl, h]
 simp
theorem pair_set {W : World} {q t : Nat} {a b x y : Value} (h : W.heap[q]? = some (.cells #[a, b] t)) : ((W.setCell ⟨q, 0, none⟩ x).setCell ⟨q, 1, none⟩ y).heap[q]? = some (.cells #[x, y] t) := pair_set1 (pair_set0 h)
def forward (ops : Array Oper) : Bool := (List.range ops.size).all fun i => ((ops[i]?).map (·.after.all fun e => decide (e.on < i))).getD true
def RSteps (P : Program) (ops : Array Oper) (Q : Exit → Act → World → Prop) (I : Array Bool → Act → World → Prop) (listed : Array Bool) (a : Act) (w : World) : Nat → List Oper → Prop
 | _, [] => True
 | i, o :: rest => (listed.getD i true = false → (o.after.all fun e => !Region.binds .any e || listed.getD e.on false) = true →
   ∀ K' : Act → World → Prop, Hid (∀ a' w', I (listed.setIfInBounds i true) a' w' → K' a' w') → if Region.wanted o (yielded ops a.tmps) = true then Oper.wp P o a w K' Q else K' (a.put o.dst undef) w) ∧ RSteps P ops Q I listed a w (i + 1) rest
section
variable {P : Program} {ops : Array Oper} {Q : Exit → Act → World → Prop} {I : Array Bool → Act → World → Prop}
theorem RSteps.at {listed : Array Bool} {a : Act} {w : World} : ∀ (l : List Oper) (k i : Nat) (o : Oper), RSteps P ops Q I listed a w k l → l[i]? = some o → listed.getD (k + i) true = false →
  (o.after.all fun e => !Region.binds .any e || listed.getD e.on false) = true →
  ∀ K' : Act → World → Prop, Hid (∀ a' w', I (listed.setIfInBounds (k + i) true) a' w' → K' a' w') → if Region.wanted o (yielded ops a.tmps) = true then Oper.wp P o a w K' Q else K' (a.put o.dst undef) w := by
 intro l
 induction l with
 | nil => intro k i o _ h; simp at h
 | cons x l ih =>
  intro k i o h hi
  cases i with
  | zero => simp at hi; subst hi; exact h.1
  | succ i =>
   have := ih (k + 1) i o h.2 (by simpa using hi)
   rw [show k + 1 + i = k + (i + 1) by omega] at this
   exact this
theorem count_set : ∀ (l : List Bool) (i : Nat), l[i]? = some false → (l.set i true).count false + 1 = l.count false
 | [], i, h => by simp at h
 | x :: l, 0, h => by simp at h; subst h; simp
 | x :: l, i + 1, h => by
  have := count_set l i (by simpa using h)
  simp only [List.set_cons_succ, List.count_cons]
  omega
theorem count_none {l : List Bool} (h : l.count false = 0) {i : Nat} (hi : i < l.length) : l[i]? = some true := by
 rw [List.count_eq_zero] at h
 rw [List.getElem?_eq_getElem hi]
 cases hx : l[i] with
 | true => rfl
 | false => exact absurd (hx ▸ List.getElem_mem hi) h
theorem wpAny_inv (hfw : forward ops = true)
  (hstep : ∀ listed a w, I listed a w → RSteps P ops Q I listed a w 0 ops.toList)
  (hend : ∀ listed a w, I listed a w → listed = Array.replicate ops.size true → Q .normal a w) :
  ∀ (n : Nat) (listed : Array Bool) (a : Act) (w : World), listed.size = ops.size → listed.toList.count false ≤ n → I listed a w → wpAny P .any ops Q n listed a w := by
 have alltrue : ∀ listed : Array Bool, listed.size = ops.size → (∀ i, i < ops.size → listed.getD i true = true) → listed = Array.replicate ops.size true := by
  intro listed hs h
  apply Array.ext
  ·simp [hs]
  ·intro i h1 h2
   have := h i (by omega)
   simp [h1] at this
   simp [this]
 have fin : ∀ listed : Array Bool, listed.size = ops.size → Region.ready .any ops listed = [] → listed = Array.replicate ops.size true := by
  intro listed hs hr
  refine alltrue listed hs ?_
  intro i
  induction i using Nat.strongRecOn with
  | _ i ih =>
   intro hi
   cases hl : listed.getD i true with
   | true => rfl
   | false =>
    have : i ∈ Region.ready .any ops listed := by
     rw [mem_ready]
     refine ⟨hl, ops[i], Array.getElem?_eq_getElem hi, fun e he hb => ?_⟩
     have hlt : e.on < i := by
      have h1 := hfw
      unfold forward at h1
      rw [List.all_eq_true] at h1
      have h2 := h1 i (by simpa using hi)
      rw [Array.getElem?_eq_getElem hi] at h2
      simp only [Option.map_some, Option.getD_some, Array.all_eq_true_iff_forall_mem] at h2
      simpa using h2 e he
     have h3 := ih e.on hlt (by omega)
     have : e.on < listed.size := by omega
     simp [this] at h3 ⊢
     exact h3
    rw [hr] at this
    cases this
 intro n
 induction n with
 | zero =>
  intro listed a w hs hc hI
  have e : listed = Array.replicate ops.size true := by
   refine alltrue listed hs fun i hi => ?_
   have := count_none (l := listed.toList) (by omega) (i := i) (by simp; omega)
   rw [Array.getElem?_toList] at this
   simp [this]
  refine ⟨?_, hend _ _ _ hI e⟩
  rw [e]
  apply List.eq_nil_iff_forall_not_mem.2
  intro i hi
  rw [mem_ready] at hi
  obtain ⟨h0, o, ho, _⟩ := hi
  have : i < ops.size := (Array.getElem?_eq_some_iff.1 ho).1
  simp [this] at h0
 | succ n ih =>
  intro listed a w hs hc hI
  refine ⟨fun hr => hend _ _ _ hI (fin listed hs hr), fun i hi => ?_⟩
  obtain ⟨h0, o, ho, hall⟩ := mem_ready.1 hi
  have hlt : i < listed.size := by
   have := (Array.getElem?_eq_some_iff.1 ho).1
   omega
  have hst := RSteps.at ops.toList 0 i o (hstep _ _ _ hI) (by rw [Array.getElem?_toList]; exact ho) (by rw [Nat.zero_add]; exact h0) (by
   rw [Array.all_eq_true_iff_forall_mem]
   intro e he
   cases hb : Region.binds .any e
   ·rfl
   ·rw [hall e he hb]; rfl)
  rw [Nat.zero_add] at hst
  refine wpOp_step ho (fun K' hK => hst K' (fun a' w' h => hK a' w' (ih _ a' w' (by simpa using hs) ?_ h)))
  rw [Array.toList_setIfInBounds]
  have := count_set listed.toList i (by
   rw [Array.getElem?_toList]
   simp [hlt] at h0 ⊢
   exact h0)
  omega
theorem wp_region_inv {id : Nat} {a : Act} {w : World} (I : Array Bool → Act → World → Prop) (hm : P.follows .mixedOrders = true) (hfw : forward ops = true)
  (h0 : I (Array.replicate ops.size false) a w.drew)
  (hstep : ∀ listed a w, I listed a w → RSteps P ops Q I listed a w 0 ops.toList)
  (hend : ∀ listed a w, I listed a w → listed = Array.replicate ops.size true → Q .normal a w) : (Code.region id ops true).wp P Q a w := by
 refine wp_region_any hm (wpAny_inv hfw hstep hend _ _ _ _ (by simp) ?_ h0)
 simp
end
/-! ### Blocks of one's own that come one after another, in whatever order -/
abbrev Box := Bool × Nat × Array Value × TypeId
def boxIs (W : World) (B : Nat) (x : Box) : Prop := x.1 = true → B ≤ x.2.1 ∧ W.heap[x.2.1]? = some (.cells x.2.2.1 x.2.2.2 (0, 0))
def Boxes (W : World) (B : Nat) (l : List Box) : Prop :=
 (∀ (i : Nat) (x : Box), l[i]? = some x → boxIs W B x) ∧ ∀ (i j : Nat) (x y : Box), l[i]? = some x → l[j]? = some y → x.1 = true → y.1 = true → x.2.1 = y.2.1 → i = j
theorem Boxes.below {W W' : World} {B : Nat} {l : List Box} (h : Boxes W B l) (hb : Below W.heap.size W W') : Boxes W' B l := by
 refine ⟨fun i x hx ht => ⟨(h.1 i x hx ht).1, ?_⟩, h.2⟩
 have := (h.1 i x hx ht).2
 exact (hb.block _ (Array.getElem?_eq_some_iff.1 this).1).trans this
theorem Boxes.drew {W : World} {B : Nat} {l : List Box} (h : Boxes W B l) : Boxes W.drew B l := h
theorem Boxes.alloc {W : World} {B : Nat} {l : List Box} (h : Boxes W B l) (o : Obj) : Boxes (W.alloc o) B l := by
 refine ⟨fun i x hx ht => ⟨(h.1 i x hx ht).1, ?_⟩, h.2⟩
 have h1 := (h.1 i x hx ht).2
 have h2 := (Array.getElem?_eq_some_iff.1 h1).1
 show (W.heap.push o)[x.2.1]? = _
 rw [Array.getElem?_push_lt h2, ← h1, Array.getElem?_eq_getElem h2]
theorem Boxes.more {W : World} {B : Nat} {l : List Box} (i : Nat) (h : Boxes W B l) {p : Nat} {cs : Array Value} {t : TypeId} (hi : l[i]? = some (false, p, cs, t)) (hB : B ≤ W.heap.size) :
  Boxes (W.alloc (.cells cs t)) B (l.set i (true, W.heap.size, cs, t)) := by
 have hlt : i < l.length := (List.getElem?_eq_some_iff.1 hi).1
 constructor
 ·intro j x hx
  by_cases hj : i = j
  ·subst hj
   rw [List.getElem?_set_self hlt] at hx
   cases hx
   intro _
   refine ⟨hB, ?_⟩
   show (W.heap.push _)[W.heap.size]? = _
   rw [Array.getElem?_push_size]
  ·rw [List.getElem?_set_ne hj] at hx
   exact (h.alloc _).1 j x hx
 ·have old : ∀ (j : Nat) (x : Box), l[j]? = some x → x.1 = true → x.2.1 < W.heap.size := fun j x hx ht => (Array.getElem?_eq_some_iff.1 (h.1 j x hx ht).2).1
  intro j k x y hx hy tx ty he
  by_cases hj : i = j <;> by_cases hk : i = k
  ·omega
  ·subst hj
   rw [List.getElem?_set_self hlt] at hx
   rw [List.getElem?_set_ne hk] at hy
   cases hx
   have := old k y hy ty
   simp at he
   omega
  ·subst hk
   rw [List.getElem?_set_self hlt] at hy
   rw [List.getElem?_set_ne hj] at hx
   cases hy
   have := old j x hx tx
   simp at he
   omega
  ·rw [List.getElem?_set_ne hj] at hx
   rw [List.getElem?_set_ne hk] at hy
   exact h.2 j k x y hx hy tx ty he
theorem Boxes.put {W : World} {B : Nat} {l : List Box} (i : Nat) (h : Boxes W B l) {p : Nat} {cs : Array Value} {t : TypeId} (hi : l[i]? = some (true, p, cs, t)) (o : Nat) (v : Value) :
  Boxes (W.setCell ⟨p, o, none⟩ v) B (l.set i (true, p, cs.setIfInBounds o v, t)) := by
 have hlt : i < l.length := (List.getElem?_eq_some_iff.1 hi).1
 have hs := h.1 i _ hi rfl
 have hp := (Array.getElem?_eq_some_iff.1 hs.2).1
 constructor
 ·intro j x hx
  by_cases hj : i = j
  ·subst hj
   rw [List.getElem?_set_self hlt] at hx
   cases hx
   intro _
   refine ⟨hs.1, ?_⟩
   show (W.heap.modify p _)[p]? = _
   rw [Array.getElem?_modify, if_pos rfl, hs.2]
   rfl
  ·rw [List.getElem?_set_ne hj] at hx
   intro ht
   refine ⟨(h.1 j x hx ht).1, ?_⟩
   have hne : p ≠ x.2.1 := fun e => hj (h.2 i j _ x hi hx rfl ht e)
   show (W.heap.modify p _)[x.2.1]? = _
   rw [Array.getElem?_modify, if_neg hne]
   exact (h.1 j x hx ht).2
 ·intro j k x y hx hy tx ty he
  have back : ∀ (j : Nat) (x : Box), (l.set i (true, p, cs.setIfInBounds o v, t))[j]? = some x → ∃ x', l[j]? = some x' ∧ x'.1 = x.1 ∧ x'.2.1 = x.2.1 := by
   intro j x hx
   by_cases hj : i = j
   ·subst hj
    rw [List.getElem?_set_self hlt] at hx
    cases hx
    exact ⟨_, hi, rfl, rfl⟩
   ·rw [List.getElem?_set_ne hj] at hx
    exact ⟨x, hx, rfl, rfl⟩
  obtain ⟨x', hx', a1, a2⟩ := back j x hx
  obtain ⟨y', hy', c1, c2⟩ := back k y hy
  exact h.2 j k x' y' hx' hy' (a1.trans tx) (c1.trans ty) (a2.trans (he.trans c2.symm))
theorem Boxes.cell {W : World} {B : Nat} {l : List Box} (i : Nat) (h : Boxes W B l) {p : Nat} {cs : Array Value} {t : TypeId} (hi : l[i]? = some (true, p, cs, t)) (o : Nat) {v : Value} (hv : cs[o]? = some v) : W.cell? ⟨p, o, none⟩ = some v := by
 have hs := (h.1 i _ hi rfl).2
 simp only [World.cell?]
 rw [hs]
 exact hv
theorem Boxes.frozen {W : World} {B : Nat} {l : List Box} (i : Nat) (h : Boxes W B l) {p : Nat} {cs : Array Value} {t : TypeId} (hi : l[i]? = some (true, p, cs, t)) (o : Nat) : W.frozen? ⟨p, o, none⟩ = false := by
 have hs := (h.1 i _ hi rfl).2
 simp only [World.frozen?]
 rw [hs]
 simp
structure Ps (B g T : Nat) (k : Int) (w : World) (x y : Int) (W : World) : Prop where
 so : So B g k W
 mv : Mv g w W
 tb : W.heap[T]? = some (.cells #[.int .i64 x, .int .i64 y] 30)
 hT : w.heap.size ≤ T
 hg : g < w.heap.size
theorem Ps.lt {B g T : Nat} {k : Int} {w W : World} {x y : Int} (h : Ps B g T k w x y W) : T < W.heap.size := (Array.getElem?_eq_some_iff.1 h.tb).1
theorem Ps.up {B g T : Nat} {k k' : Int} {w W : World} {x y : Int} (h : Ps B g T k w x y W) (hk : k ≤ k') : Ps B g T k' w x y W := ⟨h.so.up hk, h.mv, h.tb, h.hT, h.hg⟩
theorem Ps.step {B g T : Nat} {k k' : Int} {w W W' : World} {x y : Int} (h : Ps B g T k w x y W) (hs : So B g k' W') (mv : Mv g W W') : Ps B g T k' w x y W' :=
  ⟨hs, h.mv.trans mv, (mv.block _ h.lt (by have := h.hT; have := h.hg; omega)).trans h.tb, h.hT, h.hg⟩
theorem Ps.bel {B g T : Nat} {k : Int} {w W W' : World} {x y : Int} (h : Ps B g T k w x y W) (hb : Below W.heap.size W W') : Ps B g T k w x y W' := h.step (h.so.bel hb) (Mv.of_bel hb)
theorem Ps.alloc {B g T : Nat} {k : Int} {w W : World} {x y : Int} (h : Ps B g T k w x y W) (o : Obj) : Ps B g T k w x y (W.alloc o) := h.bel (ba (Below.refl _ _) o)
theorem Ps.drew {B g T : Nat} {k : Int} {w W : World} {x y : Int} (h : Ps B g T k w x y W) : Ps B g T k w x y W.drew := h.bel (Below.drew (Below.refl _ _))
theorem Ps.put {B g T : Nat} {k k' : Int} {w W : World} {x y : Int} (h : Ps B g T k w x y W) (X Y : Int) (hk : k ≤ k') : Ps B g T k' w X Y ((W.setCell ⟨T, 0, none⟩ (.int .i64 X)).setCell ⟨T, 1, none⟩ (.int .i64 Y)) := by
 have h1 := h.hT
 have h2 := h.hg
 have h3 := h.so.above
 exact ⟨((h.so.set (by omega) (by omega) _ _).set (by omega) (by omega) _ _).up hk, (h.mv.new h1 _ _).new h1 _ _, pair_set h.tb, h1, h2⟩
theorem info26 : (Try.prog.info? 30).map (fun i => (i.zero, i.size, i.bytes)) = some (some (.agg #[.int .i64 0, .int .i64 0]), 2, 16) := by kernel_rfl
def flat2 (L : List Pt) : List Int := L.flatMap fun p => [p.1, p.2]
theorem flat2_len (L : List Pt) : (flat2 L).length = L.length * 2 := by
 induction L with
 | nil => rfl
 | cons e L ih => show (flat2 L).length + 2 = (L.length + 1) * 2; omega
theorem flat2_app (a b : List Pt) : flat2 (a ++ b) = flat2 a ++ flat2 b := by simp [flat2]
theorem flat2_at {L : List Pt} {i : Nat} {p : Pt} (h : L[i]? = some p) : (flat2 L)[i * 2]? = some p.1 ∧ (flat2 L)[i * 2 + 1]? = some p.2 := by
 induction L generalizing i with
 | nil => cases h
 | cons x L ih =>
  cases i with
  | zero =>
   simp only [List.getElem?_cons_zero, Option.some.injEq] at h
   subst h
   exact ⟨rfl, rfl⟩
  | succ i =>
   rw [List.getElem?_cons_succ] at h
   have := ih h
   rw [show (i + 1) * 2 = i * 2 + 1 + 1 by omega]
   exact this
theorem Mv.bel' {g : Nat} {w W w' : World} (h : Below w.heap.size w W) (m : Mv g W w') (hg : w.heap.size ≤ g) : Below w.heap.size w w' :=
  ⟨m.os.trans h.os, m.tape.trans h.tape, m.output.trans h.output, Nat.le_trans h.size m.size, fun k hk => (m.block k (Nat.lt_of_lt_of_le hk h.size) (by omega)).trans (h.block k hk)⟩
end Go.Proofs.Ytdcecfgmfmpeeaa
