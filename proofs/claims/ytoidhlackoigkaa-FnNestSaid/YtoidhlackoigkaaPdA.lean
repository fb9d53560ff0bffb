/-
  The source of choices; drawn plates that are right, whatever the code.
-/
import Derived.Test.YtoidhlackoigkaaIRows
import Derived.Test.YtoidhlackoigkaaRowX
import Derived.Test.YtoidhlackoigkaaNsDj
import Derived.Lib.MinMax
import Derived.Test.YtoidhlackoigkaaNsCm
namespace Go.Proofs.Ytoidhlackoigkaa
open Go.ChangeShapes Go.WideShapes Go.ChangeAt Go.RowKit
set_option linter.unusedVariables false
set_option linter.unusedSimpArgs false


/-- all that was there is as it was, but for one block -/
structure Mv (g : Nat) (w w' : World) : Prop where
  os : w'.os = w.os
  tape : w'.tape = w.tape
  output : w'.output = w.output
  size : w.heap.size ≤ w'.heap.size
  block : ∀ k, k < w.heap.size → k ≠ g → w'.heap[k]? = w.heap[k]?
theorem Mv.refl (g : Nat) (w : World) : Mv g w w := ⟨rfl, rfl, rfl, Nat.le_refl _, fun _ _ _ => rfl⟩
theorem Mv.trans {g : Nat} {a b c : World} (x : Mv g a b) (y : Mv g b c) : Mv g a c :=
  ⟨y.os.trans x.os, y.tape.trans x.tape, y.output.trans x.output, Nat.le_trans x.size y.size, fun k hk h1 => (y.block k (Nat.lt_of_lt_of_le hk x.size) h1).trans (x.block k hk h1)⟩
theorem Mv.of_bel {g : Nat} {w w' : World} (hb : Below w.heap.size w w') : Mv g w w' := ⟨hb.os, hb.tape, hb.output, hb.size, fun k hk _ => hb.block k hk⟩
theorem Mv.call {g : Nat} {w W w' : World} (x : Mv g w W) (hb : Below W.heap.size W w') : Mv g w w' := x.trans (Mv.of_bel hb)
theorem Mv.alloc {g : Nat} {w w' : World} (x : Mv g w w') (o : Obj) : Mv g w (w'.alloc o) := x.call (ba (Below.refl _ _) o)
theorem Mv.drew {g : Nat} {w w' : World} (x : Mv g w w') : Mv g w w'.drew := ⟨x.os, x.tape, x.output, x.size, x.block⟩
theorem Mv.dn {g : Nat} {w w' : World} (x : Mv g w w') (q : Nat) : Mv g w (w'.drewN q) := ⟨x.os, x.tape, x.output, x.size, x.block⟩
theorem Mv.set {g : Nat} {w w' : World} (x : Mv g w w') (o : Nat) (v : Value) : Mv g w (w'.setCell ⟨g, o, none⟩ v) :=
  x.trans ⟨rfl, rfl, rfl, by simp [World.setCell], fun k _ h1 => Below.heap_setCell _ _ _ _ h1⟩
/-- a store into a block that came later -/
theorem Mv.new {g T : Nat} {w w' : World} (x : Mv g w w') (hT : w.heap.size ≤ T) (o : Nat) (v : Value) : Mv g w (w'.setCell ⟨T, o, none⟩ v) :=
  ⟨x.os, x.tape, x.output, by simpa [World.setCell] using x.size, fun k hk h1 => (Below.heap_setCell _ _ _ _ (show k ≠ T by omega)).trans (x.block k hk h1)⟩
theorem Mv.cell {g : Nat} {w w' : World} (x : Mv g w w') {b o : Nat} {v : Value} (h1 : b ≠ g) (hc : w.cell? ⟨b, o, none⟩ = some v) : w'.cell? ⟨b, o, none⟩ = some v :=
  (World.cell?_of_block (w := w) (a := ⟨b, o, none⟩) (x.block b (cell_lt hc) h1)).trans hc
theorem frozen_of_block {w w' : World} {b o : Nat} (h : w'.heap[b]? = w.heap[b]?) : w'.frozen? ⟨b, o, none⟩ = w.frozen? ⟨b, o, none⟩ := by simp only [World.frozen?, h]
theorem Mv.frz {g : Nat} {w w' : World} (x : Mv g w w') {b o : Nat} (h1 : b ≠ g) (hb : b < w.heap.size) (hc : w.frozen? ⟨b, o, none⟩ = false) : w'.frozen? ⟨b, o, none⟩ = false :=
  (frozen_of_block (x.block b hb h1)).trans hc
theorem Mv.bel {g B : Nat} {a w w' : World} (hb : Below B a w) (x : Mv g w w') (h1 : B ≤ g) (hB : B ≤ w.heap.size) : Below B a w' :=
  hb.trans ⟨x.os, x.tape, x.output, x.size, fun k hk => x.block k (by omega) (by omega)⟩

/-- a code that came in: empty, or a row of bytes that lies below B -/
def Code (B : Nat) (w : World) (a : Option Addr) (len cap : Nat) (zs : List Int) : Prop :=
  len = 0 ∨
  ∃ b off : Nat, a = some ⟨b, off, none⟩ ∧ b < B ∧ b < w.heap.size ∧ len ≤ cap ∧ cap ≤ maxLen ∧ zs.length = cap ∧ (∀ i, i < zs.length → w.cell? ⟨b, off + i, none⟩ = some (.int .u8 (zs.getD i 0))) ∧ ∀ i, 0 ≤ zs.getD i 0 ∧ zs.getD i 0 ≤ 255

/-- a source in block g: its code, its place n, its seed s -/
structure Src (B : Nat) (a : Option Addr) (len cap : Nat) (zs : List Int) (g : Nat) (n s : Int) (w : World) : Prop where
  above : B ≤ g
  code : Code B w a len cap zs
  c0 : w.cell? ⟨g, 0, none⟩ = some (.slice a len cap)
  c1 : w.cell? ⟨g, 1, none⟩ = some (.int .i64 n)
  c2 : w.cell? ⟨g, 2, none⟩ = some (.int .i64 s)
  f1 : w.frozen? ⟨g, 1, none⟩ = false
  f2 : w.frozen? ⟨g, 2, none⟩ = false
  n0 : 0 ≤ n
  s0 : 0 ≤ s
  s1 : s < 2147483648
  l1 : len ≤ 9223372036854775807

theorem setCell_drewN (W : World) (q : Nat) (p : Addr) (v : Value) : (W.drewN q).setCell p v = (W.setCell p v).drewN q := rfl

set_option maxHeartbeats 1000000 in
theorem byte_in (B b off len cap : Nat) (g : Nat) (n s z : Int) (w : World) (hg : B ≤ g) (hb : b < B)
    (c0 : w.cell? ⟨g, 0, none⟩ = some (.slice (some ⟨b, off, none⟩) len cap)) (c1 : w.cell? ⟨g, 1, none⟩ = some (.int .i64 n)) (c2 : w.cell? ⟨g, 2, none⟩ = some (.int .i64 s))
    (f1 : w.frozen? ⟨g, 1, none⟩ = false) (f2 : w.frozen? ⟨g, 2, none⟩ = false) (n0 : 0 ≤ n) (s0 : 0 ≤ s) (s1 : s < 2147483648)
    (hn : n < (len : Int)) (hl : len ≤ 9223372036854775807) (hc : w.cell? ⟨b, off + n.toNat, none⟩ = some (.int .u8 z)) (z0 : 0 ≤ z) (z1 : z ≤ 255) :
    Calls Try.prog 52 #[.pointer (some ⟨g, 0, none⟩)] w fun e w' => e = .returned (.int .i64 z) ∧ ∃ q, w' = ((w.setCell ⟨g, 1, none⟩ (.int .i64 (n + 1))).setCell ⟨g, 2, none⟩ (.int .i64 ((s * 31 + z + 7) % 2147483648))).drewN q := by
  have hne : b ≠ g := by omega
  obtain ⟨k, rfl⟩ := Int.eq_ofNat_of_zero_le n0
  simp only [Int.toNat_natCast] at hc
  go_enter Try.func52, Try.ntmps52
  go_wp2
  go_quiet (fail)
  go_wp2_with fail
  go_region
  go_wp2_with fail
  go_quiet (fail)
  go_wp2
  go_ret
  exact ⟨rfl, _, by rw [setCell_drewN, World.drewN_drewN]⟩

set_option maxHeartbeats 1000000 in
theorem byte_far (len cap : Nat) (a : Option Addr) (g : Nat) (n : Int) (w : World)
    (c0 : w.cell? ⟨g, 0, none⟩ = some (.slice a len cap)) (c1 : w.cell? ⟨g, 1, none⟩ = some (.int .i64 n))
    (f1 : w.frozen? ⟨g, 1, none⟩ = false) (n0 : 0 ≤ n) (n1 : n ≤ 1000000000000) (hn : (len : Int) ≤ n) (hb : 3000 < n + 1) :
    Calls Try.prog 52 #[.pointer (some ⟨g, 0, none⟩)] w fun e w' => e = .returned (.int .i64 0) ∧ ∃ q, w' = (w.setCell ⟨g, 1, none⟩ (.int .i64 (n + 1))).drewN q := by
  go_enter Try.func52, Try.ntmps52
  go_wp2
  go_quiet (fail)
  go_wp2
  go_ret
  exact ⟨rfl, _, rfl⟩

set_option maxHeartbeats 1000000 in
theorem byte_mid (len cap : Nat) (a : Option Addr) (g : Nat) (n s : Int) (w : World)
    (c0 : w.cell? ⟨g, 0, none⟩ = some (.slice a len cap)) (c1 : w.cell? ⟨g, 1, none⟩ = some (.int .i64 n)) (c2 : w.cell? ⟨g, 2, none⟩ = some (.int .i64 s))
    (f1 : w.frozen? ⟨g, 1, none⟩ = false) (f2 : w.frozen? ⟨g, 2, none⟩ = false) (n0 : 0 ≤ n) (s0 : 0 ≤ s) (s1 : s < 2147483648)
    (hn : (len : Int) ≤ n) (hb : ¬ 3000 < n + 1) :
    Calls Try.prog 52 #[.pointer (some ⟨g, 0, none⟩)] w fun e w' => ∃ r s' q, e = .returned (.int .i64 r) ∧ 0 ≤ r ∧ r ≤ 255 ∧ 0 ≤ s' ∧ s' < 2147483648 ∧ w' = ((w.setCell ⟨g, 1, none⟩ (.int .i64 (n + 1))).setCell ⟨g, 2, none⟩ (.int .i64 s')).drewN q := by
  go_enter Try.func52, Try.ntmps52
  go_wp2
  go_quiet (fail)
  go_wp2
  go_ret
  refine ⟨_, _, _, rfl, ?_, ?_, ?_, ?_, rfl⟩
  all_goals omega

theorem Code.mv {B g : Nat} {w w1 : World} {a : Option Addr} {len cap : Nat} {zs : List Int} (h : Code B w a len cap zs) (hb : Mv g w w1) (hg : B ≤ g) : Code B w1 a len cap zs := by
  rcases h with h | ⟨b, off, rfl, h1, h0, h2, h3, h4, h5, h6⟩
  · exact .inl h
  · exact .inr ⟨b, off, rfl, h1, Nat.lt_of_lt_of_le h0 hb.size, h2, h3, h4, fun i hi => hb.cell (by omega) (h5 i hi), h6⟩
theorem Src.lt {B : Nat} {a : Option Addr} {len cap : Nat} {zs : List Int} {g : Nat} {n s : Int} {w : World} (h : Src B a len cap zs g n s w) : g < w.heap.size := cell_lt h.c0
theorem src_set1 {B : Nat} {a : Option Addr} {len cap : Nat} {zs : List Int} {g : Nat} {n s : Int} {w : World} (h : Src B a len cap zs g n s w) (q : Nat) :
    Src B a len cap zs g (n + 1) s ((w.setCell ⟨g, 1, none⟩ (.int .i64 (n + 1))).drewN q) := by
  have hb : Mv g w ((w.setCell ⟨g, 1, none⟩ (.int .i64 (n + 1))).drewN q) := ((Mv.refl g w).set _ _).dn q
  have h0 := h.c0
  have h1 := h.c1
  have h2 := h.c2
  have g1 := h.f1
  have g2 := h.f2
  have hn := h.n0
  exact ⟨h.above, h.code.mv hb h.above, by simp [go_sem, h0], by simp [go_sem, h1], by simp [go_sem, h2], by simp [go_sem, g1], by simp [go_sem, g2], by omega, h.s0, h.s1, h.l1⟩
theorem src_set2 {B : Nat} {a : Option Addr} {len cap : Nat} {zs : List Int} {g : Nat} {n s s' : Int} {w : World} (h : Src B a len cap zs g n s w) (q : Nat) (h0' : 0 ≤ s') (h1' : s' < 2147483648) :
    Src B a len cap zs g (n + 1) s' (((w.setCell ⟨g, 1, none⟩ (.int .i64 (n + 1))).setCell ⟨g, 2, none⟩ (.int .i64 s')).drewN q) := by
  have hb : Mv g w (((w.setCell ⟨g, 1, none⟩ (.int .i64 (n + 1))).setCell ⟨g, 2, none⟩ (.int .i64 s')).drewN q) := (((Mv.refl g w).set _ _).set _ _).dn q
  have h0 := h.c0
  have h1 := h.c1
  have h2 := h.c2
  have g1 := h.f1
  have g2 := h.f2
  have hn := h.n0
  exact ⟨h.above, h.code.mv hb h.above, by simp [go_sem, h0], by simp [go_sem, h1], by simp [go_sem, h2], by simp [go_sem, g1], by simp [go_sem, g2], by omega, h0', h1', h.l1⟩

/-- a source that has come at most k places far -/
def So (B g : Nat) (k : Int) (w : World) : Prop := ∃ a len cap zs n s, Src B a len cap zs g n s w ∧ n ≤ k
theorem So.up {B g : Nat} {k k' : Int} {w : World} (h : So B g k w) (hk : k ≤ k') : So B g k' w := by
  obtain ⟨a, len, cap, zs, n, s, h1, h2⟩ := h
  exact ⟨a, len, cap, zs, n, s, h1, Int.le_trans h2 hk⟩
theorem So.lt {B g : Nat} {k : Int} {w : World} (h : So B g k w) : g < w.heap.size := by
  obtain ⟨a, len, cap, zs, n, s, h1, h2⟩ := h
  exact h1.lt
theorem So.above {B g : Nat} {k : Int} {w : World} (h : So B g k w) : B ≤ g := by
  obtain ⟨a, len, cap, zs, n, s, h1, h2⟩ := h
  exact h1.above
/-- what leaves the source's block and all below it leaves the source -/
theorem So.kept {B g : Nat} {k : Int} {w w' : World} (h : So B g k w) (hh : ∀ b, b < w.heap.size → (b < B ∨ b = g) → w'.heap[b]? = w.heap[b]?) (hs : w.heap.size ≤ w'.heap.size) : So B g k w' := by
  obtain ⟨a, len, cap, zs, n, s, h1, h2⟩ := h
  have hg := hh g h1.lt (.inr rfl)
  have hc : ∀ o, w'.cell? ⟨g, o, none⟩ = w.cell? ⟨g, o, none⟩ := fun o => World.cell?_of_block (w := w) (a := ⟨g, o, none⟩) hg
  refine ⟨a, len, cap, zs, n, s, ⟨h1.above, ?_, (hc 0).trans h1.c0, (hc 1).trans h1.c1, (hc 2).trans h1.c2, (frozen_of_block hg).trans h1.f1, (frozen_of_block hg).trans h1.f2, h1.n0, h1.s0, h1.s1, h1.l1⟩, h2⟩
  rcases h1.code with h | ⟨b, off, rfl, h3, h0, h4, h5, h6, h7, h8⟩
  · exact .inl h
  · exact .inr ⟨b, off, rfl, h3, Nat.lt_of_lt_of_le h0 hs, h4, h5, h6, fun i hi => (World.cell?_of_block (w := w) (a := ⟨b, off + i, none⟩) (hh b h0 (.inl h3))).trans (h7 i hi), h8⟩
theorem So.bel {B g : Nat} {k : Int} {w w' : World} (h : So B g k w) (hb : Below w.heap.size w w') : So B g k w' := h.kept (fun b h1 _ => hb.block b h1) hb.size
theorem So.alloc {B g : Nat} {k : Int} {w : World} (h : So B g k w) (o : Obj) : So B g k (w.alloc o) := h.bel (ba (Below.refl _ _) o)
theorem So.drew {B g : Nat} {k : Int} {w : World} (h : So B g k w) : So B g k w.drew := h.bel (Below.drew (Below.refl _ _))
theorem So.set {B g T : Nat} {k : Int} {w : World} (h : So B g k w) (hT : B ≤ T) (hg : T ≠ g) (o : Nat) (v : Value) : So B g k (w.setCell ⟨T, o, none⟩ v) :=
  h.kept (fun b _ h2 => Below.heap_setCell _ _ _ _ (show b ≠ T by have := h.above; omega)) (by simp [World.setCell])

/-- a byte: a number from 0 to 255; the source stands one place on -/
theorem byte_any {B g : Nat} {k : Int} {w : World} (h : So B g k w) (n1 : k ≤ 1000000000000) :
    Calls Try.prog 52 #[.pointer (some ⟨g, 0, none⟩)] w fun e w' => ∃ r : Int, e = .returned (.int .i64 r) ∧ 0 ≤ r ∧ r ≤ 255 ∧ So B g (k + 1) w' ∧ Mv g w w' := by
  obtain ⟨a, len, cap, zs, n, s, h, hk⟩ := h
  by_cases hn : n < (len : Int)
  · rcases h.code with h0 | ⟨b, off, rfl, hb, hw, h2, h3, h4, h5, h6⟩
    · have := h.n0; omega
    · have hn0 := h.n0
      unfold maxLen at h3
      have hc := h5 n.toNat (by omega)
      have hz := h6 n.toNat
      refine (byte_in B b off len cap g n s _ w h.above hb h.c0 h.c1 h.c2 h.f1 h.f2 h.n0 h.s0 h.s1 hn (by omega) hc hz.1 hz.2).mono ?_
      rintro e w' ⟨rfl, q, rfl⟩
      exact ⟨_, rfl, hz.1, hz.2, ⟨_, _, _, _, _, _, src_set2 h q (by omega) (by omega), by omega⟩, (((Mv.refl g w).set _ _).set _ _).dn q⟩
  · by_cases hb : 3000 < n + 1
    · refine (byte_far len cap a g n w h.c0 h.c1 h.f1 h.n0 (by omega) (by omega) hb).mono ?_
      rintro e w' ⟨rfl, q, rfl⟩
      exact ⟨0, rfl, by omega, by omega, ⟨_, _, _, _, _, _, src_set1 h q, by omega⟩, ((Mv.refl g w).set _ _).dn q⟩
    · refine (byte_mid len cap a g n s w h.c0 h.c1 h.c2 h.f1 h.f2 h.n0 h.s0 h.s1 (by omega) hb).mono ?_
      rintro e w' ⟨r, s', q, rfl, hr0, hr1, hs0, hs1, rfl⟩
      exact ⟨r, rfl, hr0, hr1, ⟨_, _, _, _, _, _, src_set2 h q hs0 hs1, by omega⟩, (((Mv.refl g w).set _ _).set _ _).dn q⟩

set_option maxHeartbeats 400000 in
theorem next_small {B g : Nat} {k : Int} {w : World} (m : Int) (h : So B g k w) (n1 : k ≤ 1000000000000) (m0 : 2 ≤ m) (m1 : m ≤ 256) :
    Calls Try.prog 32 #[.pointer (some ⟨g, 0, none⟩), .int .i64 m] w fun e w' => ∃ r : Int, e = .returned (.int .i64 r) ∧ 0 ≤ r ∧ r < m ∧ So B g (k + 3) w' ∧ Mv g w w' := by
  have HB := hide (byte_any h n1)
  have hz : (m == 0) = false := by rw [beq_eq_false_iff_ne]; omega
  clear h
  go_enter Try.func32, Try.ntmps32
  go_wp2_with fail
  refine (unhide HB).mono ?_
  rintro e w1 ⟨r, rfl, r0, r1, hs, hb⟩
  have HS := hide hs
  have HW := hide hb
  have hr := Int.emod_nonneg r (b := m) (by omega)
  have hr2 := Int.emod_lt_of_pos r (b := m) (by omega)
  clear hs hb
  go_wp2
  go_ret
  exact ⟨r % m, rfl, hr, hr2, (unhide HS).up (by omega), unhide HW⟩

set_option maxHeartbeats 400000 in
theorem next_big {B g : Nat} {k : Int} {w : World} (m : Int) (h : So B g k w) (n1 : k ≤ 1000000000) (m0 : 256 < m) (m1 : m ≤ 9223372036854775807) :
    Calls Try.prog 32 #[.pointer (some ⟨g, 0, none⟩), .int .i64 m] w fun e w' => ∃ r : Int, e = .returned (.int .i64 r) ∧ 0 ≤ r ∧ r < m ∧ So B g (k + 3) w' ∧ Mv g w w' := by
  have HB := hide (byte_any h (by omega))
  have hz : (m == 0) = false := by rw [beq_eq_false_iff_ne]; omega
  clear h
  go_enter Try.func32, Try.ntmps32
  go_wp2_with fail
  refine (unhide HB).mono ?_
  rintro e w1 ⟨r, rfl, r0, r1, hs, hb⟩
  have H2 := hide (byte_any hs (by omega))
  have W1 := hide hb
  clear hs hb
  go_wp2_with fail
  refine (unhide H2).mono ?_
  rintro e w2 ⟨t, rfl, t0, t1, hs, hb⟩
  have H3 := hide (byte_any hs (by omega))
  have W2 := hide hb
  clear hs hb
  go_wp2_with fail
  refine (unhide H3).mono ?_
  rintro e w3 ⟨u, rfl, u0, u1, hs, hb⟩
  have HS := hide hs
  have W3 := hide hb
  have hr := Int.emod_nonneg (r * 65536 + t * 256 + u) (b := m) (by omega)
  have hr2 := Int.emod_lt_of_pos (r * 65536 + t * 256 + u) (b := m) (by omega)
  clear hs hb
  go_wp2
  go_ret
  exact ⟨(r * 65536 + t * 256 + u) % m, rfl, hr, hr2, (unhide HS).up (by omega), ((unhide W1).trans (unhide W2)).trans (unhide W3)⟩

set_option maxHeartbeats 400000 in
theorem next_none {B g : Nat} {k : Int} {w : World} (m : Int) (h : So B g k w) (m1 : m ≤ 1) :
    Calls Try.prog 32 #[.pointer (some ⟨g, 0, none⟩), .int .i64 m] w fun e w' => e = .returned (.int .i64 0) ∧ So B g (k + 3) w' ∧ Mv g w w' := by
  have HB := hide h
  clear h
  go_enter Try.func32, Try.ntmps32
  go_wp2
  go_ret
  exact ⟨rfl, (unhide HB).up (by omega), Mv.refl _ _⟩

/-- one of 0 to m - 1, or 0 -/
theorem next_all {B g : Nat} {k : Int} {w : World} (m : Int) (h : So B g k w) (n1 : k ≤ 1000000000) (m1 : m ≤ 9223372036854775807) :
    Calls Try.prog 32 #[.pointer (some ⟨g, 0, none⟩), .int .i64 m] w fun e w' => ∃ r : Int, e = .returned (.int .i64 r) ∧ 0 ≤ r ∧ (r = 0 ∨ r < m) ∧ r ≤ 9223372036854775806 ∧ So B g (k + 3) w' ∧ Mv g w w' := by
  by_cases h1 : m ≤ 1
  · refine (next_none m h h1).mono ?_
    rintro e w' ⟨rfl, h2, h3⟩
    exact ⟨0, rfl, by omega, .inl rfl, by omega, h2, h3⟩
  · by_cases hm : m ≤ 256
    · refine (next_small m h (by omega) (by omega) hm).mono ?_
      rintro e w' ⟨r, rfl, h4, h5, h2, h3⟩
      exact ⟨r, rfl, h4, .inr h5, by omega, h2, h3⟩
    · refine (next_big m h n1 (by omega) m1).mono ?_
      rintro e w' ⟨r, rfl, h4, h5, h2, h3⟩
      exact ⟨r, rfl, h4, .inr h5, by omega, h2, h3⟩
theorem next_any {B g : Nat} {k : Int} {w : World} (m : Int) (h : So B g k w) (n1 : k ≤ 1000000000) (m0 : 1 ≤ m) (m1 : m ≤ 9223372036854775807) :
    Calls Try.prog 32 #[.pointer (some ⟨g, 0, none⟩), .int .i64 m] w fun e w' => ∃ r : Int, e = .returned (.int .i64 r) ∧ 0 ≤ r ∧ r < m ∧ So B g (k + 3) w' ∧ Mv g w w' := by
  refine (next_all m h n1 m1).mono ?_
  rintro e w' ⟨r, rfl, h4, h5, _, h2, h3⟩
  exact ⟨r, rfl, h4, by omega, h2, h3⟩

set_option maxHeartbeats 400000 in
theorem size_any {B g : Nat} {k : Int} {w : World} (m : Int) (h : So B g k w) (m0 : 1 ≤ m) (m1 : m ≤ 1000000) :
    Calls Try.prog 33 #[.pointer (some ⟨g, 0, none⟩), .int .i64 m] w fun e w' => ∃ r : Int, e = .returned (.int .i64 r) ∧ 1 ≤ r ∧ r ≤ m ∧ w' = w := by
  obtain ⟨a, len, cap, zs, n, s, h, hk⟩ := h
  have c0 := h.c0
  have l1 := h.l1
  clear h
  go_enter Try.func33, Try.ntmps33
  go_wp2
  all_goals
    go_ret
    refine ⟨_, rfl, ?_, ?_, rfl⟩
    all_goals omega

set_option maxHeartbeats 400000 in
theorem source_any (a : Option Addr) (len cap : Nat) (zs : List Int) (w : World) (hc : Code w.heap.size w a len cap zs) (hl : len ≤ 9223372036854775807) :
    Calls Try.prog 19 #[.slice a len cap] w fun e w' => e = .returned (.pointer (some ⟨w.heap.size, 0, none⟩)) ∧ Below w.heap.size w w' ∧ So w.heap.size w.heap.size 0 w' := by
  have HC := hide hc
  clear hc
  go_enter Try.func19, Try.ntmps19
  go_wp2
  go_ret
  have hb : Below w.heap.size w (w.alloc (.cells #[.slice a len cap, .int .i64 0, .int .i64 ((len : Int) % 1000)] 69)) := ba (Below.refl _ _) _
  exact ⟨rfl, hb, ⟨a, len, cap, zs, 0, (len : Int) % 1000, ⟨Nat.le_refl _, (unhide HC).mv (Mv.of_bel hb) (Nat.le_refl _), by simp [go_sem], by simp [go_sem], by simp [go_sem], by simp [go_sem], by simp [go_sem], by omega, by omega, by omega, hl⟩, by omega⟩⟩


theorem Row.mv {w w' : World} {B t k n g : Nat} {v : Value} {L : List Int} (h : Row w B t k v n L) (hb : Mv g w w') (hg : g < B) : Row w' B t k v n L :=
  h.kept' (fun b hb' => by have := World.ownsRow.lt h b hb'; exact hb.block b this.2 (by omega))
theorem So.belB {B g C : Nat} {k : Int} {w w' : World} (h : So B g k w) (hb : Below C w w') (hg : g < C) : So B g k w' := by
  have := h.above
  exact h.kept (fun b _ h2 => hb.block b (by omega)) hb.size
theorem Mv.belB {g C : Nat} {w W w' : World} (x : Mv g w W) (hb : Below C W w') (hC : w.heap.size ≤ C) : Mv g w w' :=
  ⟨hb.os.trans x.os, hb.tape.trans x.tape, hb.output.trans x.output, Nat.le_trans x.size hb.size, fun k hk h1 => (hb.block k (by omega)).trans (x.block k hk h1)⟩


theorem pl_info' : (Try.prog.info? 31).map (fun i => (i.zero, i.size, i.bytes)) = some (some (.agg #[.int .i64 0, .int .i64 0]), 2, 16) := by kernel_rfl
theorem vb.mvb {w w' : World} {g b t : Nat} {vs : List Value} (h : vb w b t vs) (x : Mv g w w') (hb : b ≠ g) : vb w' b t vs := (x.block b h.lt hb).trans h
def odds : List Int := [0, -1, 1, 2, 63, 64, 65, 4096, 4097, 9223372036854775807, -9223372036854775808, 30]
set_option maxHeartbeats 1000000 in
theorem oddS_any {B g : Nat} {k : Int} {w : World} (h : So B g k w) (n1 : k ≤ 1000000) :
    Calls Try.prog 34 #[.pointer (some ⟨g, 0, none⟩)] w fun e w' => ∃ r : Int, e = .returned (.int .i64 r) ∧ So B g (k + 3) w' ∧ Mv g w w' := by
  have HN := hide (next_any 12 (h.alloc (.cells (odds.map (Value.int .i64)).toArray 3)) (by omega) (by omega) (by omega))
  have hgl : g < w.heap.size := h.lt
  have HV := hide (vb_new w 3 (odds.map (Value.int .i64)) _ rfl)
  clear h
  go_enter Try.func34, Try.ntmps34
  go_wp2_with fail
  refine (unhide HN).mono ?_
  rintro e W ⟨r, rfl, r0, r1, hso, hmv⟩
  obtain ⟨q, rfl⟩ := Int.eq_ofNat_of_zero_le r0
  have hv := (unhide HV).mvb hmv (show w.heap.size ≠ g by omega)
  obtain ⟨x, hx⟩ : ∃ x, odds[q]? = some x := get_some (n := 12) rfl (by omega)
  have c0 := hv.cell (m := q) (x := .int .i64 x) (by rw [List.getElem?_map, hx]; rfl)
  have q1 : (q : Int) < 12 := r1
  have q2 : q < 12 := by omega
  have HSO := hide hso
  have HMV := hide hmv
  clear hv hx hso hmv HN HV r1
  go_wp2_with fail
  go_ret
  exact ⟨x, rfl, unhide HSO, (Mv.alloc (Mv.refl g w) _).trans (unhide HMV)⟩
theorem mv_grown {g : Nat} {w W W' : World} {o : Option Nat} (x : Mv g w W) (hg : W.grownBy W' o) (ho : ∀ q, o = some q → w.heap.size ≤ q) : Mv g w W' :=
  ⟨hg.os.trans x.os, hg.tape.trans x.tape, hg.output.trans x.output, Nat.le_trans x.size hg.size, fun k hk h1 => (hg.block k (Nat.lt_of_lt_of_le hk x.size) (fun e => by have := ho k e.symm; omega)).trans (x.block k hk h1)⟩
theorem so_grown {B g : Nat} {k : Int} {w W W' : World} {o : Option Nat} (h : So B g k W) (hgw : g < w.heap.size) (hg : W.grownBy W' o) (ho : ∀ q, o = some q → w.heap.size ≤ q) : So B g k W' := by
  have ha := h.above
  exact h.kept (fun b hb hor => hg.block b hb (fun e => by have := ho b e.symm; omega)) hg.size
/-- a row of one's own, and the source -/
structure Sq (B g : Nat) (k : Int) (w W : World) (r : Value) (n : Nat) (L : List Int) : Prop where
  so : So B g k W
  mv : Mv g w W
  p : Row W w.heap.size 31 2 r n L
theorem Sq.bl {B g : Nat} {k : Int} {w W W' : World} {r : Value} {n : Nat} {L : List Int} (h : Sq B g k w W r n L) (hb : Below W.heap.size W W') : Sq B g k w W' r n L :=
  ⟨h.so.bel hb, h.mv.call hb, h.p.below hb⟩
theorem Sq.nx {B g : Nat} {k k' : Int} {w W W' : World} {r : Value} {n : Nat} {L : List Int} (h : Sq B g k w W r n L) (hg : g < w.heap.size) (hm : Mv g W W') (hs : So B g k' W') : Sq B g k' w W' r n L :=
  ⟨hs, h.mv.trans hm, h.p.mv hm hg⟩
theorem Sq.up {B g : Nat} {k k' : Int} {w W : World} {r : Value} {n : Nat} {L : List Int} (h : Sq B g k w W r n L) (hk : k ≤ k') : Sq B g k' w W r n L := ⟨h.so.up hk, h.mv, h.p⟩
theorem Sq.ap {B g : Nat} {k : Int} {w W W' : World} {r r' : Value} {n : Nat} {L : List Int} {x y : Int} (h : Sq B g k w W r n L) (hg : g < w.heap.size) (hown : W'.ownsRow w.heap.size 31 2 r' (n + 1) (L.map (Value.int .i64) ++ [x, y].map (Value.int .i64))) (hgr : W.grownBy W' r.ownBlock) : Sq B g k w W' r' (n + 1) (L ++ [x, y]) :=
  ⟨so_grown h.so hg hgr (fun q e => (h.p.lt q e).1), mv_grown h.mv hgr (fun q e => (h.p.lt q e).1), by unfold Row; rw [List.map_append]; exact hown⟩
theorem Sq.set {B g b cap : Nat} {k : Int} {w W : World} {n : Nat} {L : List Int} (h : Sq B g k w W (.slice (some ⟨b, 0, none⟩) n cap) n L) (hg : g < w.heap.size) (j : Nat) (hj : j < n * 2) (x : Int) : Sq B g k w (W.setCell ⟨b, j, none⟩ (.int .i64 x)) (.slice (some ⟨b, 0, none⟩) n cap) n (L.set j x) := by
  have hb := (h.p.lt b rfl).1
  have ha := h.so.above
  exact ⟨h.so.set (by omega) (by omega) _ _, h.mv.new hb _ _, h.p.set j hj x⟩
set_option maxHeartbeats 8000000 in
set_option maxRecDepth 100000 in
theorem plates_any {B g : Nat} {k : Int} {w : World} (h : So B g k w) (k1 : k ≤ 100000) :
    Calls Try.prog 20 #[.pointer (some ⟨g, 0, none⟩), .int .i64 4] w fun e w' => ∃ (Wd : Int) (r : Value) (n : Nat) (L : List Int), e = .returned (.tuple #[.int .i64 Wd, r]) ∧ Sq B g (k + 1000) w w' r n L ∧ n ≤ 1000 := by
  have hgl : g < w.heap.size := h.lt
  obtain ⟨iP, hi1, hp0, hp1, hp2⟩ := info_parts pl_info'
  have HS00 := hide h
  have HNX := hide (fun (m : Int) (m0 : 1 ≤ m) (m1 : m ≤ 1000000) (K : Int) (W : World) (hs : So B g K W) (hk : K ≤ 1000000) => next_any m hs (by omega) m0 (by omega))
  have HSZ := hide (fun (W : World) (K : Int) (hs : So B g K W) => size_any 4 hs (by omega) (by omega))
  have HOD := hide (fun (W : World) (K : Int) (hs : So B g K W) (hk : K ≤ 1000000) => oddS_any hs hk)
  clear h
  go_enter Try.func20, Try.ntmps20
  go_wp2_with fail
  refine (unhide HNX 16 (by omega) (by omega) _ _ (unhide HS00) (by omega)).mono ?_
  rintro e V ⟨v, rfl, v0, v1, hso0, hmv0⟩
  obtain ⟨wd, hwd⟩ : ∃ wd : Int, IntKind.i64.wrap (4 + v) = wd := ⟨_, rfl⟩
  have HS0 : Hid (Sq B g (k + 3) w (V.alloc (.cells #[] 31)) (.slice (some ⟨V.heap.size, 0, none⟩) 0 0) 0 []) := hide ⟨(hso0.alloc _).up (by omega), hmv0.alloc _, row_made V 31 w.heap.size 2 hmv0.size _ rfl⟩
  clear HS00 hso0 hmv0 v0 v1
  go_wp2_with fail
  refine (unhide HSZ _ _ (unhide HS0).so).mono ?_
  rintro e W0 ⟨z, rfl, z0, z1, hq⟩
  rw [hq]
  clear hq W0
  have wz : IntKind.i64.wrap (z + 2) = z + 2 := wrap_i (by omega) (by omega)
  obtain ⟨mn, hmn⟩ : ∃ mn : Int, min 4 (z + 2) = mn := ⟨_, rfl⟩
  have mn1 : 1 ≤ mn := by omega
  have mn2 : mn ≤ 4 := by omega
  go_wp2_with fail
  refine (unhide HNX mn (by omega) (by omega) _ _ (unhide HS0).so (by omega)).mono ?_
  rintro e W1 ⟨y, rfl, y0, y1, hso, hmv⟩
  have HS := hide ((unhide HS0).nx hgl hmv hso)
  obtain ⟨t, ht⟩ : ∃ t : Nat, y + 1 = (t : Int) := ⟨(y + 1).toNat, by omega⟩
  have wt : IntKind.i64.wrap (y + 1) = (t : Int) := by rw [ht]; exact wrap_i (by omega) (by omega)
  have t1 : 1 ≤ t := by omega
  have t2 : t ≤ 4 := by omega
  clear hso hmv HS0 ht z0 z1 wz y0 y1
  go_wp2_with fail
  go_loopw [7, 8] (fun r s W => ∃ (j n : Nat) (L : List Int), s = .int .i64 (j : Int) ∧ n + j = t ∧ Sq B g (k + 6 + 6 * (n : Int)) w W r n L) (fun _ s _ => (intOf s).toNat)
  case atStart => exact ⟨t, 0, [], rfl, by omega, (unhide HS).up (by omega)⟩
  case round =>
    obtain ⟨j, n, L, rfl, hj, hst⟩ := hrel
    have HS := hide hst
    clear hst
    obtain ⟨ua, ca, hua, _⟩ := (unhide HS).p.form
    subst hua
    have n0 : (0 : Int) ≤ (n : Int) := Int.natCast_nonneg _
    by_cases hj0 : 0 < j
    · have j1 : (0 : Int) < (j : Int) := by omega
      have jz : decide ((0 : Int) < (j : Int)) = true := decide_eq_true j1
      have wj : IntKind.i64.wrap ((j : Int) - 1) = ((j - 1 : Nat) : Int) := by rw [wrap_i (by omega) (by omega)]; omega
      go_wp2_with fail
      refine (unhide HNX 9 (by omega) (by omega) _ _ (unhide HS).so (by omega)).mono ?_
      rintro e W2 ⟨a, rfl, a0, a1, hso, hmv⟩
      have HS := hide ((unhide HS).nx hgl hmv hso)
      clear hso hmv
      have wa : IntKind.i64.wrap (1 + a) = 1 + a := wrap_i (by omega) (by omega)
      go_wp2_with fail
      refine (unhide HNX 9 (by omega) (by omega) _ _ (unhide HS).so (by omega)).mono ?_
      rintro e W3 ⟨b, rfl, b0, b1, hso, hmv⟩
      have HS := hide ((unhide HS).nx hgl hmv hso)
      clear hso hmv
      have wb : IntKind.i64.wrap (1 + b) = 1 + b := wrap_i (by omega) (by omega)
      go_wp2_with (at_builtin; refine unhide ?_)
      refine hide ?_
      refine wpList_append_new _ rfl _ _ 23 rfl w.heap.size 31 iP _ 2 16 Try.underlying23 hi1 hp0 hp1 hp2 rfl (by decide) _ _ _ rfl ((unhide HS).p.below (ba (Below.refl _ _) _)) _ 1 1 ([1 + a, 1 + b].map (Value.int .i64)) rfl rfl (by first | exact news_cells _ _ rfl | exact news_cells _ _ (by simp)) ints_one (by unfold maxLen; omega) (by omega) (by have := (unhide HS).mv.size; first | omega | (simp; omega)) ?_
      intro ra' wza hown' hgrow _ _
      have HS := hide (((unhide HS).bl (ba (Below.refl _ _) (Obj.cells #[Value.int .i64 (1 + a), Value.int .i64 (1 + b)] 31))).ap hgl hown' hgrow)
      clear hown' hgrow
      go_wp2_with fail
      go_roundw
      case rel => first | exact ⟨j - 1, n + 1, _, by simp, by omega, (unhide HS).up (by push_cast; omega)⟩ | ((repeat apply Exists.intro); refine ⟨?_, rfl⟩; exact ⟨j - 1, n + 1, _, by simp, by omega, (unhide HS).up (by push_cast; omega)⟩)
      case measure => first | (simp only [intOf]; omega) | (simp [intOf]; omega)
    · have j1 : ¬ (0 : Int) < (j : Int) := by omega
      have jz : decide ((0 : Int) < (j : Int)) = false := decide_eq_false j1
      have n1p : 1 ≤ n := by omega
      have HJ0 : Hid (j = 0) := hide (by omega)
      obtain ⟨b, ca', hb', hbg, hbl, _, _⟩ := (unhide HS).p.sm (by
        intro e
        have := (unhide HS).p.2
        rw [e] at this
        rcases this with ⟨_, h0⟩ | ⟨_, _, _, h0, _⟩
        · omega
        · cases h0)
      cases hb'
      go_wp2_with fail
      refine (unhide HNX 24 (by omega) (by omega) _ _ (unhide HS).so (by omega)).mono ?_
      rintro e W2 ⟨x, rfl, x0, x1, hso, hmv⟩
      have HS := hide ((unhide HS).nx hgl hmv hso)
      clear hso hmv
      have HS := hide ((unhide HS).up (k' := k + 100) (by omega))
      by_cases hx0 : x = 0
      · subst hx0
        go_wp2_with fail
        refine (unhide HOD _ _ (unhide HS).so (by omega)).mono ?_
        rintro e W4 ⟨o, rfl, hso, hmv⟩
        have HS := hide (((unhide HS).nx hgl hmv hso).bl (ba (Below.refl _ _) (Obj.cells (([0, 1, 1000, 1001, o] : List Int).map (Value.int .i64)).toArray 3)))
        have HV := hide (vb_new W4 3 (([0, 1, 1000, 1001, o] : List Int).map (Value.int .i64)) _ rfl)
        have hw4 : g < W4.heap.size := hso.lt
        clear hso hmv
        go_wp2_with fail
        refine (unhide HNX 5 (by omega) (by omega) _ _ (unhide HS).so (by omega)).mono ?_
        rintro e W5 ⟨p, rfl, p0, p1, hso, hmv⟩
        obtain ⟨p, rfl⟩ := Int.eq_ofNat_of_zero_le p0
        have hv := (unhide HV).mvb hmv (show W4.heap.size ≠ g by omega)
        obtain ⟨y, hy⟩ : ∃ y, ([0, 1, 1000, 1001, o] : List Int)[p]? = some y := get_some (n := 5) rfl (by omega)
        have c0 := hv.cell (m := p) (x := .int .i64 y) (by rw [List.getElem?_map, hy]; rfl)
        have HS := hide ((unhide HS).nx hgl hmv hso)
        have p2 : p < 5 := by omega
        clear hv hy hso hmv HV
        go_wp2_with fail
        exact bodyPost_ret (v := .tuple #[.int .i64 y, .slice (some ⟨b, 0, none⟩) n ca]) (by simp [results, Try.results20, go_sem]) rfl ⟨_, _, _, _, rfl, (unhide HS).up (by omega), by omega⟩
      by_cases hx1 : x = 1
      · subst hx1
        go_wp2_with fail
        refine (unhide HNX (n : Int) (by omega) (by omega) _ _ (unhide HS).so (by omega)).mono ?_
        rintro e W3 ⟨q, rfl, q0, q1, hso, hmv⟩
        obtain ⟨q, rfl⟩ := Int.eq_ofNat_of_zero_le q0
        have HS := hide ((unhide HS).nx hgl hmv hso)
        clear hso hmv
        go_wp2_with fail
        refine (unhide HOD _ _ (unhide HS).so (by omega)).mono ?_
        rintro e W4 ⟨o, rfl, hso, hmv⟩
        have HS := hide (((unhide HS).nx hgl hmv hso).bl (ba (Below.refl _ _) (Obj.cells (([0, 1000, 1001, o] : List Int).map (Value.int .i64)).toArray 3)))
        have HV := hide (vb_new W4 3 (([0, 1000, 1001, o] : List Int).map (Value.int .i64)) _ rfl)
        have hw4 : g < W4.heap.size := hso.lt
        clear hso hmv
        go_wp2_with fail
        refine (unhide HNX 4 (by omega) (by omega) _ _ (unhide HS).so (by omega)).mono ?_
        rintro e W5 ⟨p, rfl, p0, p1, hso, hmv⟩
        obtain ⟨p, rfl⟩ := Int.eq_ofNat_of_zero_le p0
        have hv := (unhide HV).mvb hmv (show W4.heap.size ≠ g by omega)
        obtain ⟨y, hy⟩ : ∃ y, ([0, 1000, 1001, o] : List Int)[p]? = some y := get_some (n := 4) rfl (by omega)
        have c0 := hv.cell (m := p) (x := .int .i64 y) (by rw [List.getElem?_map, hy]; rfl)
        have HS := hide ((unhide HS).nx hgl hmv hso)
        have p2 : p < 4 := by omega
        have q2 : q < n := by omega
        have fz := (unhide HS).p.frz
        obtain ⟨old, hold⟩ : ∃ old, L[q * 2]? = some old := get_some (n := n * 2) (unhide HS).p.len (by omega)
        have co := (unhide HS).p.cellAt hold
        clear hv hy hso hmv HV hold
        go_wp2_with fail
        have HS := hide ((unhide HS).set hgl (q * 2) (by omega) y)
        exact bodyPost_ret (v := .tuple #[.int .i64 wd, .slice (some ⟨b, 0, none⟩) n ca]) (by simp [results, Try.results20, go_sem]) rfl ⟨_, _, _, _, rfl, (unhide HS).up (by omega), by omega⟩
      by_cases hx2 : x = 2
      · subst hx2
        go_wp2_with fail
        refine (unhide HNX (n : Int) (by omega) (by omega) _ _ (unhide HS).so (by omega)).mono ?_
        rintro e W3 ⟨q, rfl, q0, q1, hso, hmv⟩
        obtain ⟨q, rfl⟩ := Int.eq_ofNat_of_zero_le q0
        have HS := hide ((unhide HS).nx hgl hmv hso)
        clear hso hmv
        go_wp2_with fail
        refine (unhide HOD _ _ (unhide HS).so (by omega)).mono ?_
        rintro e W4 ⟨o, rfl, hso, hmv⟩
        have HS := hide ((unhide HS).nx hgl hmv hso)
        have q2 : q < n := by omega
        have fz := (unhide HS).p.frz
        obtain ⟨old, hold⟩ : ∃ old, L[q * 2 + 1]? = some old := get_some (n := n * 2) (unhide HS).p.len (by omega)
        have co := (unhide HS).p.cellAt hold
        clear hso hmv hold
        go_wp2_with fail
        have HS := hide ((unhide HS).set hgl (q * 2 + 1) (by omega) o)
        exact bodyPost_ret (v := .tuple #[.int .i64 wd, .slice (some ⟨b, 0, none⟩) n ca]) (by simp [results, Try.results20, go_sem]) rfl ⟨_, _, _, _, rfl, (unhide HS).up (by omega), by omega⟩
      by_cases hx3 : x = 3
      · subst hx3
        go_wp2_with (at_builtin; refine unhide ?_)
        refine hide ?_
        refine wpList_append_new _ rfl _ _ 23 rfl w.heap.size 31 iP _ 2 16 Try.underlying23 hi1 hp0 hp1 hp2 rfl (by decide) _ _ _ rfl ((unhide HS).p.below (ba (Below.refl _ _) _)) _ 1 1 ([30, 2].map (Value.int .i64)) rfl rfl (by first | exact news_cells _ _ rfl | exact news_cells _ _ (by simp)) ints_one (by unfold maxLen; omega) (by omega) (by have := (unhide HS).mv.size; first | omega | (simp; omega)) ?_
        intro ra' wza hown' hgrow _ _
        have HS := hide (((unhide HS).bl (ba (Below.refl _ _) (Obj.cells #[Value.int .i64 (30), Value.int .i64 (2)] 31))).ap hgl hown' hgrow)
        clear hown' hgrow
        go_wp2_with fail
        exact bodyPost_ret (v := .tuple #[.int .i64 wd, ra']) (by simp [results, Try.results20, go_sem]) rfl ⟨_, _, _, _, rfl, (unhide HS).up (by omega), by omega⟩
      have e0 : (x == 0) = false := by simp [hx0]
      have e1 : (x == 1) = false := by simp [hx1]
      have e2 : (x == 2) = false := by simp [hx2]
      have e3 : (x == 3) = false := by simp [hx3]
      go_wp2_with fail
      exact bodyPost_ret (v := .tuple #[.int .i64 wd, .slice (some ⟨b, 0, none⟩) n ca]) (by simp [results, Try.results20, go_sem]) rfl ⟨_, _, _, _, rfl, (unhide HS).up (by omega), by omega⟩


theorem Row.pls {X : World} {B m cc : Nat} {u : Option Addr} {P : List Pl} (h : Row X B 31 2 (.slice u m cc) m (flatP P)) : ∃ p, Pls X u p 0 P := by
  by_cases he : P = []
  · exact ⟨0, fun h0 => absurd he h0⟩
  · have hm : P.length ≠ 0 := fun e => he (List.eq_nil_of_length_eq_zero e)
    have hl := h.len
    rw [flatP_len] at hl
    have hm' : m ≠ 0 := by omega
    obtain ⟨g, cap, e, _⟩ := h.sm (by intro e; cases e; exact hm' rfl)
    cases e
    exact ⟨g, fun _ => ⟨rfl, (h.lt g rfl).2, h.ints⟩⟩
set_option maxHeartbeats 4000000 in
set_option maxRecDepth 100000 in
theorem platesOf_any (a : Option Addr) (len cap : Nat) (zs : List Int) (w : World) (hc : Code w.heap.size w a len cap zs) (hl : len ≤ 9223372036854775807) :
    Calls Try.prog 6 #[.slice a len cap, .int .i64 4] w fun e w' => ∃ (Wd : Int) (r : Value) (n : Nat) (P : List Pl), e = .returned (.tuple #[.int .i64 Wd, r]) ∧ Below w.heap.size w w' ∧ Row w' w.heap.size 31 2 r n (flatP P) ∧ P.length = n ∧ n ≤ 4 ∧ nsCode Wd P = 0 := by
  have HSO := hide (source_any a len cap zs w hc hl)
  clear hc
  go_enter Try.func6, Try.ntmps6
  go_wp2_with fail
  refine (unhide HSO).mono ?_
  rintro e W0 ⟨rfl, hb0, hso0⟩
  have HB0 := hide hb0
  have HS0 := hide hso0
  clear hb0 hso0
  go_wp2_with fail
  go_loopw [7] (fun s W => ∃ i : Nat, s = .int .i64 (i : Int) ∧ i ≤ 3 ∧ Below w.heap.size w W ∧ So w.heap.size w.heap.size (1000 * (i : Int)) W) (fun s _ => 3 - (intOf s).toNat)
  case atStart => exact ⟨0, rfl, by omega, unhide HB0, (unhide HS0).up (by omega)⟩
  case round =>
    obtain ⟨i, rfl, hi, hW, hso⟩ := hrel
    have HW := hide hW
    have HSO := hide hso
    have hws := hso.lt
    clear hW hso HB0 HS0
    by_cases h : i < 3
    · have i1 : (i : Int) < 3 := by omega
      have i0 : (0 : Int) ≤ (i : Int) := Int.natCast_nonneg _
      have iz : decide ((i : Int) < 3) = true := decide_eq_true i1
      have HST := hide (plates_any (unhide HSO) (by omega))
      go_wp2_with fail
      refine (unhide HST).mono ?_
      rintro e W1 ⟨Wd, r, n, L, rfl, hst, hn1⟩
      obtain ⟨ua, ca, rfl, _⟩ := hst.p.form
      obtain ⟨P, hP, rfl⟩ := flatP_of n L hst.p.len
      obtain ⟨p, hpl⟩ := hst.p.pls
      have HS := hide hst
      have HB1 := hide (Mv.bel (unhide HW) hst.mv (Nat.le_refl _) (by omega))
      have HNC := hide (ncM_any Wd ua p 0 n ca P W1 hP (by omega) hpl)
      have n0 : (0 : Int) ≤ (n : Int) := Int.natCast_nonneg _
      clear hst HST hpl
      go_wp2_with fail
      refine (unhide HNC).mono ?_
      rintro e W2 ⟨rfl, hb2⟩
      have HS := hide ((unhide HS).bl hb2)
      have HB1 := hide (bc (unhide HB1) hb2)
      clear hb2 HNC
      by_cases hq : nsCode Wd P = 0
      · have e1 : (nsCode Wd P == 0) = true := by simp [hq]
        by_cases h4 : n ≤ 4
        · have z4 : decide ((n : Int) ≤ 4) = true := decide_eq_true (by omega)
          go_wp2_with fail
          exact bodyPost_ret (v := .tuple #[.int .i64 Wd, .slice ua n ca]) (by simp [results, Try.results6, go_sem]) rfl ⟨Wd, _, n, P, rfl, unhide HB1, (unhide HS).p.mono (by omega), hP, h4, hq⟩
        · have z4 : decide ((n : Int) ≤ 4) = false := decide_eq_false (by omega)
          go_wp2_with fail
          go_roundw
          case rel => first | exact ⟨i + 1, by simp, h, unhide HB1, (unhide HS).so.up (by push_cast; omega)⟩ | ((repeat apply Exists.intro); refine ⟨?_, rfl⟩; exact ⟨i + 1, by simp, h, unhide HB1, (unhide HS).so.up (by push_cast; omega)⟩)
          case measure => first | (simp only [intOf]; omega) | (simp [intOf]; omega)
      · have e1 : (nsCode Wd P == 0) = false := by simp [hq]
        go_wp2_with fail
        go_roundw
        case rel => first | exact ⟨i + 1, by simp, h, unhide HB1, (unhide HS).so.up (by push_cast; omega)⟩ | ((repeat apply Exists.intro); refine ⟨?_, rfl⟩; exact ⟨i + 1, by simp, h, unhide HB1, (unhide HS).so.up (by push_cast; omega)⟩)
        case measure => first | (simp only [intOf]; omega) | (simp [intOf]; omega)
    · have iz : decide ((i : Int) < 3) = false := decide_eq_false (by omega)
      have HR1 := hide (row_vb (B := w.heap.size) (k := 2) (n := 2) (L := flatP [⟨4, 3⟩, ⟨5, 2⟩]) (vb_new wr 31 [.int .i64 4, .int .i64 3, .int .i64 5, .int .i64 2] _ rfl) rfl (by omega) (by omega))
      go_wp2_with fail
      exact bodyPost_ret (v := .tuple #[.int .i64 9, .slice (some ⟨wr.heap.size, 0, none⟩) 2 2]) (by simp [results, Try.results6, go_sem]) rfl ⟨9, _, 2, [⟨4, 3⟩, ⟨5, 2⟩], rfl, ba (unhide HW) _, unhide HR1, rfl, by omega, by decide⟩
end Go.Proofs.Ytoidhlackoigkaa
