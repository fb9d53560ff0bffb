/-
  The source of choices: what a byte, a choice and a drawn fraction are, whatever the code.
-/
import Derived.Test.YtidafleegkofkaaRound
namespace Go.Proofs.Ytidafleegkofkaa
open Go.ChangeShapes Go.WideShapes Go.ChangeAt Go.RowKit
set_option linter.unusedVariables false

/-- a code that came in: empty, or a row of bytes that lies below B -/
def Code (B : Nat) (w : World) (a : Option Addr) (len cap : Nat) (zs : List Int) : Prop :=
  len = 0 ∨
  ∃ b off : Nat, a = some ⟨b, off, none⟩ ∧ b < B ∧ len ≤ cap ∧ cap ≤ maxLen ∧ zs.length = cap ∧ (∀ i, i < zs.length → w.cell? ⟨b, off + i, none⟩ = some (.int .u8 (zs.getD i 0))) ∧ ∀ i, 0 ≤ zs.getD i 0 ∧ zs.getD i 0 ≤ 255

/-- a source in block g: its code, its place n, its seed s -/
structure Src (B : Nat) (a : Option Addr) (len cap : Nat) (zs : List Int) (g : Nat) (n s : Int) (w : World) : Prop where
  above : B ≤ g
  code : Code B w a len cap zs
  c0 : w.cell? ⟨g, 0, none⟩ = some (.slice a len cap)
  c1 : w.cell? ⟨g, 1, none⟩ = some (.int .i64 n)
  c2 : w.cell? ⟨g, 2, none⟩ = some (.int .i64 s)
  f1 : w.frozen? ⟨g, 1, none⟩ = false
  f2 : w.frozen? ⟨g, 2, none⟩ = false
  n0 : 0 ≤ n
  s0 : 0 ≤ s
  s1 : s < 2147483648

theorem setCell_drewN (W : World) (q : Nat) (p : Addr) (v : Value) : (W.drewN q).setCell p v = (W.setCell p v).drewN q := rfl

set_option maxHeartbeats 1000000 in
theorem byte_in (B b off len cap : Nat) (g : Nat) (n s z : Int) (w : World) (hg : B ≤ g) (hb : b < B)
    (c0 : w.cell? ⟨g, 0, none⟩ = some (.slice (some ⟨b, off, none⟩) len cap)) (c1 : w.cell? ⟨g, 1, none⟩ = some (.int .i64 n)) (c2 : w.cell? ⟨g, 2, none⟩ = some (.int .i64 s))
    (f1 : w.frozen? ⟨g, 1, none⟩ = false) (f2 : w.frozen? ⟨g, 2, none⟩ = false) (n0 : 0 ≤ n) (s0 : 0 ≤ s) (s1 : s < 2147483648)
    (hn : n < (len : Int)) (hl : len ≤ 9223372036854775807) (hc : w.cell? ⟨b, off + n.toNat, none⟩ = some (.int .u8 z)) (z0 : 0 ≤ z) (z1 : z ≤ 255) :
    Calls Try.prog 17 #[.pointer (some ⟨g, 0, none⟩)] w fun e w' => e = .returned (.int .i64 z) ∧ ∃ q, w' = ((w.setCell ⟨g, 1, none⟩ (.int .i64 (n + 1))).setCell ⟨g, 2, none⟩ (.int .i64 ((s * 31 + z + 7) % 2147483648))).drewN q := by
  have hne : b ≠ g := by omega
  obtain ⟨k, rfl⟩ := Int.eq_ofNat_of_zero_le n0
  simp only [Int.toNat_natCast] at hc
  go_enter Try.func17, Try.ntmps17
  go_wp2
  go_quiet (fail)
  go_wp2_with fail
  go_region
  go_wp2_with fail
  go_quiet (fail)
  go_wp2
  go_ret
  exact ⟨rfl, _, by rw [setCell_drewN, World.drewN_drewN]⟩

set_option maxHeartbeats 1000000 in
theorem byte_far (len cap : Nat) (a : Option Addr) (g : Nat) (n : Int) (w : World)
    (c0 : w.cell? ⟨g, 0, none⟩ = some (.slice a len cap)) (c1 : w.cell? ⟨g, 1, none⟩ = some (.int .i64 n))
    (f1 : w.frozen? ⟨g, 1, none⟩ = false) (n0 : 0 ≤ n) (n1 : n ≤ 1000000000000) (hn : (len : Int) ≤ n) (hb : 3000 < n + 1) :
    Calls Try.prog 17 #[.pointer (some ⟨g, 0, none⟩)] w fun e w' => e = .returned (.int .i64 0) ∧ ∃ q, w' = (w.setCell ⟨g, 1, none⟩ (.int .i64 (n + 1))).drewN q := by
  go_enter Try.func17, Try.ntmps17
  go_wp2
  go_quiet (fail)
  go_wp2
  go_ret
  exact ⟨rfl, _, rfl⟩

set_option maxHeartbeats 1000000 in
theorem byte_mid (len cap : Nat) (a : Option Addr) (g : Nat) (n s : Int) (w : World)
    (c0 : w.cell? ⟨g, 0, none⟩ = some (.slice a len cap)) (c1 : w.cell? ⟨g, 1, none⟩ = some (.int .i64 n)) (c2 : w.cell? ⟨g, 2, none⟩ = some (.int .i64 s))
    (f1 : w.frozen? ⟨g, 1, none⟩ = false) (f2 : w.frozen? ⟨g, 2, none⟩ = false) (n0 : 0 ≤ n) (s0 : 0 ≤ s) (s1 : s < 2147483648)
    (hn : (len : Int) ≤ n) (hb : ¬ 3000 < n + 1) :
    Calls Try.prog 17 #[.pointer (some ⟨g, 0, none⟩)] w fun e w' => ∃ r s' q, e = .returned (.int .i64 r) ∧ 0 ≤ r ∧ r ≤ 255 ∧ 0 ≤ s' ∧ s' < 2147483648 ∧ w' = ((w.setCell ⟨g, 1, none⟩ (.int .i64 (n + 1))).setCell ⟨g, 2, none⟩ (.int .i64 s')).drewN q := by
  go_enter Try.func17, Try.ntmps17
  go_wp2
  go_quiet (fail)
  go_wp2
  go_ret
  refine ⟨_, _, _, rfl, ?_, ?_, ?_, ?_, rfl⟩
  all_goals omega

/-- what two stores into a source's block leave -/
theorem code_kept {B : Nat} {w w1 : World} {a : Option Addr} {len cap : Nat} {zs : List Int} (hb : Below B w w1) (h : Code B w a len cap zs) : Code B w1 a len cap zs := by
  rcases h with h | ⟨b, off, rfl, h1, h2, h3, h4, h5, h6⟩
  · exact .inl h
  · exact .inr ⟨b, off, rfl, h1, h2, h3, h4, fun i hi => (hb.cell (p := ⟨b, off + i, none⟩) h1).trans (h5 i hi), h6⟩

theorem bel_set {B g o : Nat} {w W : World} {v : Value} (h : Below B w W) (hg : B ≤ g) : Below B w (W.setCell ⟨g, o, none⟩ v) := h.setCell hg v
theorem bel_dn {B : Nat} {w W : World} (h : Below B w W) (q : Nat) : Below B w (W.drewN q) := below_drewN h q

theorem src_set1 {B : Nat} {a : Option Addr} {len cap : Nat} {zs : List Int} {g : Nat} {n s : Int} {w : World} (h : Src B a len cap zs g n s w) (q : Nat) :
    Src B a len cap zs g (n + 1) s ((w.setCell ⟨g, 1, none⟩ (.int .i64 (n + 1))).drewN q) := by
  have hb : Below B w ((w.setCell ⟨g, 1, none⟩ (.int .i64 (n + 1))).drewN q) := bel_dn (bel_set (Below.refl _ _) h.above) q
  have h0 := h.c0
  have h1 := h.c1
  have h2 := h.c2
  have g1 := h.f1
  have g2 := h.f2
  have hn := h.n0
  exact ⟨h.above, code_kept hb h.code, by simp [go_sem, h0], by simp [go_sem, h1], by simp [go_sem, h2], by simp [go_sem, g1], by simp [go_sem, g2], by omega, h.s0, h.s1⟩
theorem src_set2 {B : Nat} {a : Option Addr} {len cap : Nat} {zs : List Int} {g : Nat} {n s s' : Int} {w : World} (h : Src B a len cap zs g n s w) (q : Nat) (h0' : 0 ≤ s') (h1' : s' < 2147483648) :
    Src B a len cap zs g (n + 1) s' (((w.setCell ⟨g, 1, none⟩ (.int .i64 (n + 1))).setCell ⟨g, 2, none⟩ (.int .i64 s')).drewN q) := by
  have hb : Below B w (((w.setCell ⟨g, 1, none⟩ (.int .i64 (n + 1))).setCell ⟨g, 2, none⟩ (.int .i64 s')).drewN q) := bel_dn (bel_set (bel_set (Below.refl _ _) h.above) h.above) q
  have h0 := h.c0
  have h1 := h.c1
  have h2 := h.c2
  have g1 := h.f1
  have g2 := h.f2
  have hn := h.n0
  exact ⟨h.above, code_kept hb h.code, by simp [go_sem, h0], by simp [go_sem, h1], by simp [go_sem, h2], by simp [go_sem, g1], by simp [go_sem, g2], by omega, h0', h1'⟩

/-- what became of the world: below B nothing, and of the blocks that were there g alone -/
structure Moved (B g : Nat) (w w' : World) : Prop where
  below : Below B w w'
  size : w.heap.size ≤ w'.heap.size
  only : ∀ b o, b < w.heap.size → b ≠ g → w'.cell? ⟨b, o, none⟩ = w.cell? ⟨b, o, none⟩ ∧ w'.frozen? ⟨b, o, none⟩ = w.frozen? ⟨b, o, none⟩
theorem Moved.trans {B g : Nat} {w w1 w2 : World} (h1 : Moved B g w w1) (h2 : Moved B g w1 w2) : Moved B g w w2 :=
  ⟨h1.below.trans h2.below, Nat.le_trans h1.size h2.size, fun b o hb hg => ⟨((h2.only b o (Nat.lt_of_lt_of_le hb h1.size) hg).1).trans (h1.only b o hb hg).1, ((h2.only b o (Nat.lt_of_lt_of_le hb h1.size) hg).2).trans (h1.only b o hb hg).2⟩⟩
theorem Moved.refl (B g : Nat) (w : World) : Moved B g w w := ⟨Below.refl _ _, Nat.le_refl _, fun _ _ _ _ => ⟨rfl, rfl⟩⟩
theorem Moved.set {B g o : Nat} {w W : World} {v : Value} (h : Moved B g w W) (hg : B ≤ g) : Moved B g w (W.setCell ⟨g, o, none⟩ v) :=
  ⟨bel_set h.below hg, by simpa using h.size, fun b o' hb hne => ⟨(World.cell?_setCell_far W ⟨g, o, none⟩ ⟨b, o', none⟩ v (fun e => hne e.symm)).trans (h.only b o' hb hne).1, by
    have := (h.only b o' hb hne).2
    rw [← this]
    simp [go_sem]⟩⟩
theorem Moved.dn {B g : Nat} {w W : World} (h : Moved B g w W) (q : Nat) : Moved B g w (W.drewN q) := ⟨bel_dn h.below q, h.size, h.only⟩
/-- a call that makes memory alone -/
theorem Moved.call {B g : Nat} {w W w1 : World} (h : Moved B g w W) (hB : B ≤ W.heap.size) (hb : Below W.heap.size W w1) : Moved B g w w1 :=
  ⟨h.below.trans (hb.mono hB), Nat.le_trans h.size hb.size, fun b o hl hne => ⟨(hb.cell (p := ⟨b, o, none⟩) (Nat.lt_of_lt_of_le hl h.size)).trans (h.only b o hl hne).1, (hb.frozen (p := ⟨b, o, none⟩) (Nat.lt_of_lt_of_le hl h.size)).trans (h.only b o hl hne).2⟩⟩

/-- a byte: a number from 0 to 255; the source stands one place on -/
theorem byte_any {B : Nat} {a : Option Addr} {len cap : Nat} {zs : List Int} {g : Nat} {n s : Int} {w : World} (h : Src B a len cap zs g n s w) (n1 : n ≤ 1000000000000) :
    Calls Try.prog 17 #[.pointer (some ⟨g, 0, none⟩)] w fun e w' => ∃ r s' : Int, e = .returned (.int .i64 r) ∧ 0 ≤ r ∧ r ≤ 255 ∧ Src B a len cap zs g (n + 1) s' w' ∧ Moved B g w w' := by
  by_cases hn : n < (len : Int)
  · rcases h.code with h0 | ⟨b, off, rfl, hb, h2, h3, h4, h5, h6⟩
    · have := h.n0; omega
    · have hn0 := h.n0
      unfold maxLen at h3
      have hc := h5 n.toNat (by omega)
      have hz := h6 n.toNat
      refine (byte_in B b off len cap g n s _ w h.above hb h.c0 h.c1 h.c2 h.f1 h.f2 h.n0 h.s0 h.s1 hn (by omega) hc hz.1 hz.2).mono ?_
      rintro e w' ⟨rfl, q, rfl⟩
      exact ⟨_, _, rfl, hz.1, hz.2, src_set2 h q (by omega) (by omega), (((Moved.refl B g w).set h.above).set h.above).dn q⟩
  · by_cases hb : 3000 < n + 1
    · refine (byte_far len cap a g n w h.c0 h.c1 h.f1 h.n0 n1 (by omega) hb).mono ?_
      rintro e w' ⟨rfl, q, rfl⟩
      exact ⟨0, s, rfl, by omega, by omega, src_set1 h q, ((Moved.refl B g w).set h.above).dn q⟩
    · refine (byte_mid len cap a g n s w h.c0 h.c1 h.c2 h.f1 h.f2 h.n0 h.s0 h.s1 (by omega) hb).mono ?_
      rintro e w' ⟨r, s', q, rfl, hr0, hr1, hs0, hs1, rfl⟩
      exact ⟨r, s', rfl, hr0, hr1, src_set2 h q hs0 hs1, (((Moved.refl B g w).set h.above).set h.above).dn q⟩

set_option maxHeartbeats 400000 in
theorem next_small {B : Nat} {a : Option Addr} {len cap : Nat} {zs : List Int} {g : Nat} {n s : Int} {w : World} (m : Int) (h : Src B a len cap zs g n s w) (n1 : n ≤ 1000000000000) (m0 : 2 ≤ m) (m1 : m ≤ 256) :
    Calls Try.prog 11 #[.pointer (some ⟨g, 0, none⟩), .int .i64 m] w fun e w' => ∃ r n' s' : Int, e = .returned (.int .i64 r) ∧ 0 ≤ r ∧ r < m ∧ n' ≤ n + 3 ∧ Src B a len cap zs g n' s' w' ∧ Moved B g w w' := by
  have HB := hide (byte_any h n1)
  have hz : (m == 0) = false := by rw [beq_eq_false_iff_ne]; omega
  clear h
  go_enter Try.func11, Try.ntmps11
  go_wp2_with fail
  refine (unhide HB).mono ?_
  rintro e w1 ⟨r, s', rfl, r0, r1, hs, hb⟩
  have HS := hide hs
  have HW := hide hb
  have hr := Int.emod_nonneg r (b := m) (by omega)
  have hr2 := Int.emod_lt_of_pos r (b := m) (by omega)
  clear hs hb
  go_wp2
  go_ret
  exact ⟨r % m, n + 1, s', rfl, hr, hr2, by omega, unhide HS, unhide HW⟩

set_option maxHeartbeats 400000 in
theorem next_big {B : Nat} {a : Option Addr} {len cap : Nat} {zs : List Int} {g : Nat} {n s : Int} {w : World} (m : Int) (h : Src B a len cap zs g n s w) (n1 : n ≤ 1000000000) (m0 : 256 < m) (m1 : m ≤ 16777216) :
    Calls Try.prog 11 #[.pointer (some ⟨g, 0, none⟩), .int .i64 m] w fun e w' => ∃ r n' s' : Int, e = .returned (.int .i64 r) ∧ 0 ≤ r ∧ r < m ∧ n' ≤ n + 3 ∧ Src B a len cap zs g n' s' w' ∧ Moved B g w w' := by
  have HB := hide (byte_any h (by omega))
  have hz : (m == 0) = false := by rw [beq_eq_false_iff_ne]; omega
  clear h
  go_enter Try.func11, Try.ntmps11
  go_wp2_with fail
  refine (unhide HB).mono ?_
  rintro e w1 ⟨r, s1, rfl, r0, r1, hs, hb⟩
  have H2 := hide (byte_any hs (by omega))
  have W1 := hide hb
  clear hs hb
  go_wp2_with fail
  refine (unhide H2).mono ?_
  rintro e w2 ⟨t, s2, rfl, t0, t1, hs, hb⟩
  have H3 := hide (byte_any hs (by omega))
  have W2 := hide hb
  clear hs hb
  go_wp2_with fail
  refine (unhide H3).mono ?_
  rintro e w3 ⟨u, s3, rfl, u0, u1, hs, hb⟩
  have HS := hide hs
  have W3 := hide hb
  have hr := Int.emod_nonneg (r * 65536 + t * 256 + u) (b := m) (by omega)
  have hr2 := Int.emod_lt_of_pos (r * 65536 + t * 256 + u) (b := m) (by omega)
  clear hs hb
  go_wp2
  go_ret
  exact ⟨(r * 65536 + t * 256 + u) % m, n + 1 + 1 + 1, s3, rfl, hr, hr2, by omega, unhide HS, ((unhide W1).trans (unhide W2)).trans (unhide W3)⟩

theorem next_any {B : Nat} {a : Option Addr} {len cap : Nat} {zs : List Int} {g : Nat} {n s : Int} {w : World} (m : Int) (h : Src B a len cap zs g n s w) (n1 : n ≤ 1000000000) (m0 : 2 ≤ m) (m1 : m ≤ 16777216) :
    Calls Try.prog 11 #[.pointer (some ⟨g, 0, none⟩), .int .i64 m] w fun e w' => ∃ r n' s' : Int, e = .returned (.int .i64 r) ∧ 0 ≤ r ∧ r < m ∧ n' ≤ n + 3 ∧ Src B a len cap zs g n' s' w' ∧ Moved B g w w' := by
  by_cases hm : m ≤ 256
  · exact next_small m h (by omega) m0 hm
  · exact next_big m h n1 (by omega) m1
end Go.Proofs.Ytidafleegkofkaa
