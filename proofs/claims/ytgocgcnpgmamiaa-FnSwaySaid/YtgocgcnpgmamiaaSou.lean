/-
  The source of choices: what a byte, a choice, a chance and an odd number are, whatever the code.
-/
import Derived.Test.YtgocgcnpgmamiaaIRows
namespace Go.Proofs.Ytgocgcnpgmamiaa
open Go.ChangeShapes Go.WideShapes Go.ChangeAt Go.RowKit
set_option linter.unusedVariables false
set_option linter.unusedSimpArgs false

/-- all that was there is as it was, but for one block -/
structure Mv (g : Nat) (w w' : World) : Prop where
  os : w'.os = w.os
  tape : w'.tape = w.tape
  output : w'.output = w.output
  size : w.heap.size ≤ w'.heap.size
  block : ∀ k, k < w.heap.size → k ≠ g → w'.heap[k]? = w.heap[k]?
theorem Mv.refl (g : Nat) (w : World) : Mv g w w := ⟨rfl, rfl, rfl, Nat.le_refl _, fun _ _ _ => rfl⟩
theorem Mv.trans {g : Nat} {a b c : World} (x : Mv g a b) (y : Mv g b c) : Mv g a c :=
  ⟨y.os.trans x.os, y.tape.trans x.tape, y.output.trans x.output, Nat.le_trans x.size y.size, fun k hk h1 => (y.block k (Nat.lt_of_lt_of_le hk x.size) h1).trans (x.block k hk h1)⟩
theorem Mv.of_bel {g : Nat} {w w' : World} (hb : Below w.heap.size w w') : Mv g w w' := ⟨hb.os, hb.tape, hb.output, hb.size, fun k hk _ => hb.block k hk⟩
theorem Mv.call {g : Nat} {w W w' : World} (x : Mv g w W) (hb : Below W.heap.size W w') : Mv g w w' := x.trans (Mv.of_bel hb)
theorem Mv.alloc {g : Nat} {w w' : World} (x : Mv g w w') (o : Obj) : Mv g w (w'.alloc o) := x.call (ba (Below.refl _ _) o)
theorem Mv.drew {g : Nat} {w w' : World} (x : Mv g w w') : Mv g w w'.drew := ⟨x.os, x.tape, x.output, x.size, x.block⟩
theorem Mv.dn {g : Nat} {w w' : World} (x : Mv g w w') (q : Nat) : Mv g w (w'.drewN q) := ⟨x.os, x.tape, x.output, x.size, x.block⟩
theorem Mv.set {g : Nat} {w w' : World} (x : Mv g w w') (o : Nat) (v : Value) : Mv g w (w'.setCell ⟨g, o, none⟩ v) :=
  x.trans ⟨rfl, rfl, rfl, by simp [World.setCell], fun k _ h1 => Below.heap_setCell _ _ _ _ h1⟩
/-- a store into a block that came later -/
theorem Mv.new {g T : Nat} {w w' : World} (x : Mv g w w') (hT : w.heap.size ≤ T) (o : Nat) (v : Value) : Mv g w (w'.setCell ⟨T, o, none⟩ v) :=
  ⟨x.os, x.tape, x.output, by simpa [World.setCell] using x.size, fun k hk h1 => (Below.heap_setCell _ _ _ _ (show k ≠ T by omega)).trans (x.block k hk h1)⟩
theorem Mv.cell {g : Nat} {w w' : World} (x : Mv g w w') {b o : Nat} {v : Value} (h1 : b ≠ g) (hc : w.cell? ⟨b, o, none⟩ = some v) : w'.cell? ⟨b, o, none⟩ = some v :=
  (World.cell?_of_block (w := w) (a := ⟨b, o, none⟩) (x.block b (cell_lt hc) h1)).trans hc
theorem frozen_of_block {w w' : World} {b o : Nat} (h : w'.heap[b]? = w.heap[b]?) : w'.frozen? ⟨b, o, none⟩ = w.frozen? ⟨b, o, none⟩ := by simp only [World.frozen?, h]
theorem Mv.frz {g : Nat} {w w' : World} (x : Mv g w w') {b o : Nat} (h1 : b ≠ g) (hb : b < w.heap.size) (hc : w.frozen? ⟨b, o, none⟩ = false) : w'.frozen? ⟨b, o, none⟩ = false :=
  (frozen_of_block (x.block b hb h1)).trans hc
theorem Mv.bel {g B : Nat} {a w w' : World} (hb : Below B a w) (x : Mv g w w') (h1 : B ≤ g) (hB : B ≤ w.heap.size) : Below B a w' :=
  hb.trans ⟨x.os, x.tape, x.output, x.size, fun k hk => x.block k (by omega) (by omega)⟩

/-- a code that came in: empty, or a row of bytes that lies below B -/
def Code (B : Nat) (w : World) (a : Option Addr) (len cap : Nat) (zs : List Int) : Prop :=
  len = 0 ∨
  ∃ b off : Nat, a = some ⟨b, off, none⟩ ∧ b < B ∧ b < w.heap.size ∧ len ≤ cap ∧ cap ≤ maxLen ∧ zs.length = cap ∧ (∀ i, i < zs.length → w.cell? ⟨b, off + i, none⟩ = some (.int .u8 (zs.getD i 0))) ∧ ∀ i, 0 ≤ zs.getD i 0 ∧ zs.getD i 0 ≤ 255

/-- a source in block g: its code, its place n, its seed s -/
structure Src (B : Nat) (a : Option Addr) (len cap : Nat) (zs : List Int) (g : Nat) (n s : Int) (w : World) : Prop where
  above : B ≤ g
  code : Code B w a len cap zs
  c0 : w.cell? ⟨g, 0, none⟩ = some (.slice a len cap)
  c1 : w.cell? ⟨g, 1, none⟩ = some (.int .i64 n)
  c2 : w.cell? ⟨g, 2, none⟩ = some (.int .i64 s)
  f1 : w.frozen? ⟨g, 1, none⟩ = false
  f2 : w.frozen? ⟨g, 2, none⟩ = false
  n0 : 0 ≤ n
  s0 : 0 ≤ s
  s1 : s < 2147483648
  l1 : len ≤ 9223372036854775807

theorem setCell_drewN (W : World) (q : Nat) (p : Addr) (v : Value) : (W.drewN q).setCell p v = (W.setCell p v).drewN q := rfl

set_option maxHeartbeats 1000000 in
theorem byte_in (B b off len cap : Nat) (g : Nat) (n s z : Int) (w : World) (hg : B ≤ g) (hb : b < B)
    (c0 : w.cell? ⟨g, 0, none⟩ = some (.slice (some ⟨b, off, none⟩) len cap)) (c1 : w.cell? ⟨g, 1, none⟩ = some (.int .i64 n)) (c2 : w.cell? ⟨g, 2, none⟩ = some (.int .i64 s))
    (f1 : w.frozen? ⟨g, 1, none⟩ = false) (f2 : w.frozen? ⟨g, 2, none⟩ = false) (n0 : 0 ≤ n) (s0 : 0 ≤ s) (s1 : s < 2147483648)
    (hn : n < (len : Int)) (hl : len ≤ 9223372036854775807) (hc : w.cell? ⟨b, off + n.toNat, none⟩ = some (.int .u8 z)) (z0 : 0 ≤ z) (z1 : z ≤ 255) :
    Calls Try.prog 75 #[.pointer (some ⟨g, 0, none⟩)] w fun e w' => e = .returned (.int .i64 z) ∧ ∃ q, w' = ((w.setCell ⟨g, 1, none⟩ (.int .i64 (n + 1))).setCell ⟨g, 2, none⟩ (.int .i64 ((s * 31 + z + 7) % 2147483648))).drewN q := by
  have hne : b ≠ g := by omega
  obtain ⟨k, rfl⟩ := Int.eq_ofNat_of_zero_le n0
  simp only [Int.toNat_natCast] at hc
  go_enter Try.func75, Try.ntmps75
  go_wp2
  go_quiet (fail)
  go_wp2_with fail
  go_region
  go_wp2_with fail
  go_quiet (fail)
  go_wp2
  go_ret
  exact ⟨rfl, _, by rw [setCell_drewN, World.drewN_drewN]⟩

set_option maxHeartbeats 1000000 in
theorem byte_far (len cap : Nat) (a : Option Addr) (g : Nat) (n : Int) (w : World)
    (c0 : w.cell? ⟨g, 0, none⟩ = some (.slice a len cap)) (c1 : w.cell? ⟨g, 1, none⟩ = some (.int .i64 n))
    (f1 : w.frozen? ⟨g, 1, none⟩ = false) (n0 : 0 ≤ n) (n1 : n ≤ 1000000000000) (hn : (len : Int) ≤ n) (hb : 3000 < n + 1) :
    Calls Try.prog 75 #[.pointer (some ⟨g, 0, none⟩)] w fun e w' => e = .returned (.int .i64 0) ∧ ∃ q, w' = (w.setCell ⟨g, 1, none⟩ (.int .i64 (n + 1))).drewN q := by
  go_enter Try.func75, Try.ntmps75
  go_wp2
  go_quiet (fail)
  go_wp2
  go_ret
  exact ⟨rfl, _, rfl⟩

set_option maxHeartbeats 1000000 in
theorem byte_mid (len cap : Nat) (a : Option Addr) (g : Nat) (n s : Int) (w : World)
    (c0 : w.cell? ⟨g, 0, none⟩ = some (.slice a len cap)) (c1 : w.cell? ⟨g, 1, none⟩ = some (.int .i64 n)) (c2 : w.cell? ⟨g, 2, none⟩ = some (.int .i64 s))
    (f1 : w.frozen? ⟨g, 1, none⟩ = false) (f2 : w.frozen? ⟨g, 2, none⟩ = false) (n0 : 0 ≤ n) (s0 : 0 ≤ s) (s1 : s < 2147483648)
    (hn : (len : Int) ≤ n) (hb : ¬ 3000 < n + 1) :
    Calls Try.prog 75 #[.pointer (some ⟨g, 0, none⟩)] w fun e w' => ∃ r s' q, e = .returned (.int .i64 r) ∧ 0 ≤ r ∧ r ≤ 255 ∧ 0 ≤ s' ∧ s' < 2147483648 ∧ w' = ((w.setCell ⟨g, 1, none⟩ (.int .i64 (n + 1))).setCell ⟨g, 2, none⟩ (.int .i64 s')).drewN q := by
  go_enter Try.func75, Try.ntmps75
  go_wp2
  go_quiet (fail)
  go_wp2
  go_ret
  refine ⟨_, _, _, rfl, ?_, ?_, ?_, ?_, rfl⟩
  all_goals omega

theorem Code.mv {B g : Nat} {w w1 : World} {a : Option Addr} {len cap : Nat} {zs : List Int} (h : Code B w a len cap zs) (hb : Mv g w w1) (hg : B ≤ g) : Code B w1 a len cap zs := by
  rcases h with h | ⟨b, off, rfl, h1, h0, h2, h3, h4, h5, h6⟩
  · exact .inl h
  · exact .inr ⟨b, off, rfl, h1, Nat.lt_of_lt_of_le h0 hb.size, h2, h3, h4, fun i hi => hb.cell (by omega) (h5 i hi), h6⟩
theorem Src.lt {B : Nat} {a : Option Addr} {len cap : Nat} {zs : List Int} {g : Nat} {n s : Int} {w : World} (h : Src B a len cap zs g n s w) : g < w.heap.size := cell_lt h.c0
theorem src_set1 {B : Nat} {a : Option Addr} {len cap : Nat} {zs : List Int} {g : Nat} {n s : Int} {w : World} (h : Src B a len cap zs g n s w) (q : Nat) :
    Src B a len cap zs g (n + 1) s ((w.setCell ⟨g, 1, none⟩ (.int .i64 (n + 1))).drewN q) := by
  have hb : Mv g w ((w.setCell ⟨g, 1, none⟩ (.int .i64 (n + 1))).drewN q) := ((Mv.refl g w).set _ _).dn q
  have h0 := h.c0
  have h1 := h.c1
  have h2 := h.c2
  have g1 := h.f1
  have g2 := h.f2
  have hn := h.n0
  exact ⟨h.above, h.code.mv hb h.above, by simp [go_sem, h0], by simp [go_sem, h1], by simp [go_sem, h2], by simp [go_sem, g1], by simp [go_sem, g2], by omega, h.s0, h.s1, h.l1⟩
theorem src_set2 {B : Nat} {a : Option Addr} {len cap : Nat} {zs : List Int} {g : Nat} {n s s' : Int} {w : World} (h : Src B a len cap zs g n s w) (q : Nat) (h0' : 0 ≤ s') (h1' : s' < 2147483648) :
    Src B a len cap zs g (n + 1) s' (((w.setCell ⟨g, 1, none⟩ (.int .i64 (n + 1))).setCell ⟨g, 2, none⟩ (.int .i64 s')).drewN q) := by
  have hb : Mv g w (((w.setCell ⟨g, 1, none⟩ (.int .i64 (n + 1))).setCell ⟨g, 2, none⟩ (.int .i64 s')).drewN q) := (((Mv.refl g w).set _ _).set _ _).dn q
  have h0 := h.c0
  have h1 := h.c1
  have h2 := h.c2
  have g1 := h.f1
  have g2 := h.f2
  have hn := h.n0
  exact ⟨h.above, h.code.mv hb h.above, by simp [go_sem, h0], by simp [go_sem, h1], by simp [go_sem, h2], by simp [go_sem, g1], by simp [go_sem, g2], by omega, h0', h1', h.l1⟩

/-- a source that has come at most k places far -/
def So (B g : Nat) (k : Int) (w : World) : Prop := ∃ a len cap zs n s, Src B a len cap zs g n s w ∧ n ≤ k
theorem So.up {B g : Nat} {k k' : Int} {w : World} (h : So B g k w) (hk : k ≤ k') : So B g k' w := by
  obtain ⟨a, len, cap, zs, n, s, h1, h2⟩ := h
  exact ⟨a, len, cap, zs, n, s, h1, Int.le_trans h2 hk⟩
theorem So.lt {B g : Nat} {k : Int} {w : World} (h : So B g k w) : g < w.heap.size := by
  obtain ⟨a, len, cap, zs, n, s, h1, h2⟩ := h
  exact h1.lt
theorem So.above {B g : Nat} {k : Int} {w : World} (h : So B g k w) : B ≤ g := by
  obtain ⟨a, len, cap, zs, n, s, h1, h2⟩ := h
  exact h1.above
/-- what leaves the source's block and all below it leaves the source -/
theorem So.kept {B g : Nat} {k : Int} {w w' : World} (h : So B g k w) (hh : ∀ b, b < w.heap.size → (b < B ∨ b = g) → w'.heap[b]? = w.heap[b]?) (hs : w.heap.size ≤ w'.heap.size) : So B g k w' := by
  obtain ⟨a, len, cap, zs, n, s, h1, h2⟩ := h
  have hg := hh g h1.lt (.inr rfl)
  have hc : ∀ o, w'.cell? ⟨g, o, none⟩ = w.cell? ⟨g, o, none⟩ := fun o => World.cell?_of_block (w := w) (a := ⟨g, o, none⟩) hg
  refine ⟨a, len, cap, zs, n, s, ⟨h1.above, ?_, (hc 0).trans h1.c0, (hc 1).trans h1.c1, (hc 2).trans h1.c2, (frozen_of_block hg).trans h1.f1, (frozen_of_block hg).trans h1.f2, h1.n0, h1.s0, h1.s1, h1.l1⟩, h2⟩
  rcases h1.code with h | ⟨b, off, rfl, h3, h0, h4, h5, h6, h7, h8⟩
  · exact .inl h
  · exact .inr ⟨b, off, rfl, h3, Nat.lt_of_lt_of_le h0 hs, h4, h5, h6, fun i hi => (World.cell?_of_block (w := w) (a := ⟨b, off + i, none⟩) (hh b h0 (.inl h3))).trans (h7 i hi), h8⟩
theorem So.bel {B g : Nat} {k : Int} {w w' : World} (h : So B g k w) (hb : Below w.heap.size w w') : So B g k w' := h.kept (fun b h1 _ => hb.block b h1) hb.size
theorem So.alloc {B g : Nat} {k : Int} {w : World} (h : So B g k w) (o : Obj) : So B g k (w.alloc o) := h.bel (ba (Below.refl _ _) o)
theorem So.drew {B g : Nat} {k : Int} {w : World} (h : So B g k w) : So B g k w.drew := h.bel (Below.drew (Below.refl _ _))
theorem So.set {B g T : Nat} {k : Int} {w : World} (h : So B g k w) (hT : B ≤ T) (hg : T ≠ g) (o : Nat) (v : Value) : So B g k (w.setCell ⟨T, o, none⟩ v) :=
  h.kept (fun b _ h2 => Below.heap_setCell _ _ _ _ (show b ≠ T by have := h.above; omega)) (by simp [World.setCell])

/-- a byte: a number from 0 to 255; the source stands one place on -/
theorem byte_any {B g : Nat} {k : Int} {w : World} (h : So B g k w) (n1 : k ≤ 1000000000000) :
    Calls Try.prog 75 #[.pointer (some ⟨g, 0, none⟩)] w fun e w' => ∃ r : Int, e = .returned (.int .i64 r) ∧ 0 ≤ r ∧ r ≤ 255 ∧ So B g (k + 1) w' ∧ Mv g w w' := by
  obtain ⟨a, len, cap, zs, n, s, h, hk⟩ := h
  by_cases hn : n < (len : Int)
  · rcases h.code with h0 | ⟨b, off, rfl, hb, hw, h2, h3, h4, h5, h6⟩
    · have := h.n0; omega
    · have hn0 := h.n0
      unfold maxLen at h3
      have hc := h5 n.toNat (by omega)
      have hz := h6 n.toNat
      refine (byte_in B b off len cap g n s _ w h.above hb h.c0 h.c1 h.c2 h.f1 h.f2 h.n0 h.s0 h.s1 hn (by omega) hc hz.1 hz.2).mono ?_
      rintro e w' ⟨rfl, q, rfl⟩
      exact ⟨_, rfl, hz.1, hz.2, ⟨_, _, _, _, _, _, src_set2 h q (by omega) (by omega), by omega⟩, (((Mv.refl g w).set _ _).set _ _).dn q⟩
  · by_cases hb : 3000 < n + 1
    · refine (byte_far len cap a g n w h.c0 h.c1 h.f1 h.n0 (by omega) (by omega) hb).mono ?_
      rintro e w' ⟨rfl, q, rfl⟩
      exact ⟨0, rfl, by omega, by omega, ⟨_, _, _, _, _, _, src_set1 h q, by omega⟩, ((Mv.refl g w).set _ _).dn q⟩
    · refine (byte_mid len cap a g n s w h.c0 h.c1 h.c2 h.f1 h.f2 h.n0 h.s0 h.s1 (by omega) hb).mono ?_
      rintro e w' ⟨r, s', q, rfl, hr0, hr1, hs0, hs1, rfl⟩
      exact ⟨r, rfl, hr0, hr1, ⟨_, _, _, _, _, _, src_set2 h q hs0 hs1, by omega⟩, (((Mv.refl g w).set _ _).set _ _).dn q⟩

set_option maxHeartbeats 400000 in
theorem next_small {B g : Nat} {k : Int} {w : World} (m : Int) (h : So B g k w) (n1 : k ≤ 1000000000000) (m0 : 2 ≤ m) (m1 : m ≤ 256) :
    Calls Try.prog 63 #[.pointer (some ⟨g, 0, none⟩), .int .i64 m] w fun e w' => ∃ r : Int, e = .returned (.int .i64 r) ∧ 0 ≤ r ∧ r < m ∧ So B g (k + 3) w' ∧ Mv g w w' := by
  have HB := hide (byte_any h n1)
  have hz : (m == 0) = false := by rw [beq_eq_false_iff_ne]; omega
  clear h
  go_enter Try.func63, Try.ntmps63
  go_wp2_with fail
  refine (unhide HB).mono ?_
  rintro e w1 ⟨r, rfl, r0, r1, hs, hb⟩
  have HS := hide hs
  have HW := hide hb
  have hr := Int.emod_nonneg r (b := m) (by omega)
  have hr2 := Int.emod_lt_of_pos r (b := m) (by omega)
  clear hs hb
  go_wp2
  go_ret
  exact ⟨r % m, rfl, hr, hr2, (unhide HS).up (by omega), unhide HW⟩

set_option maxHeartbeats 400000 in
theorem next_big {B g : Nat} {k : Int} {w : World} (m : Int) (h : So B g k w) (n1 : k ≤ 1000000000) (m0 : 256 < m) (m1 : m ≤ 9223372036854775807) :
    Calls Try.prog 63 #[.pointer (some ⟨g, 0, none⟩), .int .i64 m] w fun e w' => ∃ r : Int, e = .returned (.int .i64 r) ∧ 0 ≤ r ∧ r < m ∧ So B g (k + 3) w' ∧ Mv g w w' := by
  have HB := hide (byte_any h (by omega))
  have hz : (m == 0) = false := by rw [beq_eq_false_iff_ne]; omega
  clear h
  go_enter Try.func63, Try.ntmps63
  go_wp2_with fail
  refine (unhide HB).mono ?_
  rintro e w1 ⟨r, rfl, r0, r1, hs, hb⟩
  have H2 := hide (byte_any hs (by omega))
  have W1 := hide hb
  clear hs hb
  go_wp2_with fail
  refine (unhide H2).mono ?_
  rintro e w2 ⟨t, rfl, t0, t1, hs, hb⟩
  have H3 := hide (byte_any hs (by omega))
  have W2 := hide hb
  clear hs hb
  go_wp2_with fail
  refine (unhide H3).mono ?_
  rintro e w3 ⟨u, rfl, u0, u1, hs, hb⟩
  have HS := hide hs
  have W3 := hide hb
  have hr := Int.emod_nonneg (r * 65536 + t * 256 + u) (b := m) (by omega)
  have hr2 := Int.emod_lt_of_pos (r * 65536 + t * 256 + u) (b := m) (by omega)
  clear hs hb
  go_wp2
  go_ret
  exact ⟨(r * 65536 + t * 256 + u) % m, rfl, hr, hr2, (unhide HS).up (by omega), ((unhide W1).trans (unhide W2)).trans (unhide W3)⟩

set_option maxHeartbeats 400000 in
theorem next_none {B g : Nat} {k : Int} {w : World} (m : Int) (h : So B g k w) (m1 : m ≤ 1) :
    Calls Try.prog 63 #[.pointer (some ⟨g, 0, none⟩), .int .i64 m] w fun e w' => e = .returned (.int .i64 0) ∧ So B g (k + 3) w' ∧ Mv g w w' := by
  have HB := hide h
  clear h
  go_enter Try.func63, Try.ntmps63
  go_wp2
  go_ret
  exact ⟨rfl, (unhide HB).up (by omega), Mv.refl _ _⟩

/-- one of 0 to m - 1, or 0 -/
theorem next_all {B g : Nat} {k : Int} {w : World} (m : Int) (h : So B g k w) (n1 : k ≤ 1000000000) (m1 : m ≤ 9223372036854775807) :
    Calls Try.prog 63 #[.pointer (some ⟨g, 0, none⟩), .int .i64 m] w fun e w' => ∃ r : Int, e = .returned (.int .i64 r) ∧ 0 ≤ r ∧ (r = 0 ∨ r < m) ∧ r ≤ 9223372036854775806 ∧ So B g (k + 3) w' ∧ Mv g w w' := by
  by_cases h1 : m ≤ 1
  · refine (next_none m h h1).mono ?_
    rintro e w' ⟨rfl, h2, h3⟩
    exact ⟨0, rfl, by omega, .inl rfl, by omega, h2, h3⟩
  · by_cases hm : m ≤ 256
    · refine (next_small m h (by omega) (by omega) hm).mono ?_
      rintro e w' ⟨r, rfl, h4, h5, h2, h3⟩
      exact ⟨r, rfl, h4, .inr h5, by omega, h2, h3⟩
    · refine (next_big m h n1 (by omega) m1).mono ?_
      rintro e w' ⟨r, rfl, h4, h5, h2, h3⟩
      exact ⟨r, rfl, h4, .inr h5, by omega, h2, h3⟩
theorem next_any {B g : Nat} {k : Int} {w : World} (m : Int) (h : So B g k w) (n1 : k ≤ 1000000000) (m0 : 1 ≤ m) (m1 : m ≤ 9223372036854775807) :
    Calls Try.prog 63 #[.pointer (some ⟨g, 0, none⟩), .int .i64 m] w fun e w' => ∃ r : Int, e = .returned (.int .i64 r) ∧ 0 ≤ r ∧ r < m ∧ So B g (k + 3) w' ∧ Mv g w w' := by
  refine (next_all m h n1 m1).mono ?_
  rintro e w' ⟨r, rfl, h4, h5, _, h2, h3⟩
  exact ⟨r, rfl, h4, by omega, h2, h3⟩

set_option maxHeartbeats 400000 in
theorem source_any (a : Option Addr) (len cap : Nat) (zs : List Int) (w : World) (hc : Code w.heap.size w a len cap zs) (hl : len ≤ 9223372036854775807) :
    Calls Try.prog 36 #[.slice a len cap] w fun e w' => e = .returned (.pointer (some ⟨w.heap.size, 0, none⟩)) ∧ Below w.heap.size w w' ∧ So w.heap.size w.heap.size 0 w' := by
  have HC := hide hc
  clear hc
  go_enter Try.func36, Try.ntmps36
  go_wp2
  go_ret
  have hb : Below w.heap.size w (w.alloc (.cells #[.slice a len cap, .int .i64 0, .int .i64 ((len : Int) % 1000)] 89)) := ba (Below.refl _ _) _
  exact ⟨rfl, hb, ⟨a, len, cap, zs, 0, (len : Int) % 1000, ⟨Nat.le_refl _, (unhide HC).mv (Mv.of_bel hb) (Nat.le_refl _), by simp [go_sem], by simp [go_sem], by simp [go_sem], by simp [go_sem], by simp [go_sem], by omega, by omega, by omega, hl⟩, by omega⟩⟩
end Go.Proofs.Ytgocgcnpgmamiaa
