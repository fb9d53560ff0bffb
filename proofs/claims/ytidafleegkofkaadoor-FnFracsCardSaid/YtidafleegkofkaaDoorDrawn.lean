/-
  Three drawn fractions are right ones, whatever the code.
-/
import Derived.Test.YtidafleegkofkaaDoorOkay
import Derived.Deep.DeepCutAuto
namespace Go.Proofs.YtidafleegkofkaaDoor
open Go.ChangeShapes Go.WideShapes Go.ChangeAt Go.RowKit
set_option linter.unusedVariables false
set_option linter.unusedSimpArgs false


/-- a code that came in: empty, or a row of bytes that lies below B -/
def Code (B : Nat) (w : World) (a : Option Addr) (len cap : Nat) (zs : List Int) : Prop :=
  len = 0 ∨
  ∃ b off : Nat, a = some ⟨b, off, none⟩ ∧ b < B ∧ len ≤ cap ∧ cap ≤ maxLen ∧ zs.length = cap ∧ (∀ i, i < zs.length → w.cell? ⟨b, off + i, none⟩ = some (.int .u8 (zs.getD i 0))) ∧ ∀ i, 0 ≤ zs.getD i 0 ∧ zs.getD i 0 ≤ 255

/-- a source in block g: its code, its place n, its seed s -/
structure Src (B : Nat) (a : Option Addr) (len cap : Nat) (zs : List Int) (g : Nat) (n s : Int) (w : World) : Prop where
  above : B ≤ g
  code : Code B w a len cap zs
  c0 : w.cell? ⟨g, 0, none⟩ = some (.slice a len cap)
  c1 : w.cell? ⟨g, 1, none⟩ = some (.int .i64 n)
  c2 : w.cell? ⟨g, 2, none⟩ = some (.int .i64 s)
  f1 : w.frozen? ⟨g, 1, none⟩ = false
  f2 : w.frozen? ⟨g, 2, none⟩ = false
  n0 : 0 ≤ n
  s0 : 0 ≤ s
  s1 : s < 2147483648

theorem setCell_drewN (W : World) (q : Nat) (p : Addr) (v : Value) : (W.drewN q).setCell p v = (W.setCell p v).drewN q := rfl

set_option maxHeartbeats 1000000 in
theorem byte_in (B b off len cap : Nat) (g : Nat) (n s z : Int) (w : World) (hg : B ≤ g) (hb : b < B)
    (c0 : w.cell? ⟨g, 0, none⟩ = some (.slice (some ⟨b, off, none⟩) len cap)) (c1 : w.cell? ⟨g, 1, none⟩ = some (.int .i64 n)) (c2 : w.cell? ⟨g, 2, none⟩ = some (.int .i64 s))
    (f1 : w.frozen? ⟨g, 1, none⟩ = false) (f2 : w.frozen? ⟨g, 2, none⟩ = false) (n0 : 0 ≤ n) (s0 : 0 ≤ s) (s1 : s < 2147483648)
    (hn : n < (len : Int)) (hl : len ≤ 9223372036854775807) (hc : w.cell? ⟨b, off + n.toNat, none⟩ = some (.int .u8 z)) (z0 : 0 ≤ z) (z1 : z ≤ 255) :
    Calls Tryd.prog 32 #[.pointer (some ⟨g, 0, none⟩)] w fun e w' => e = .returned (.int .i64 z) ∧ ∃ q, w' = ((w.setCell ⟨g, 1, none⟩ (.int .i64 (n + 1))).setCell ⟨g, 2, none⟩ (.int .i64 ((s * 31 + z + 7) % 2147483648))).drewN q := by
  have hne : b ≠ g := by omega
  obtain ⟨k, rfl⟩ := Int.eq_ofNat_of_zero_le n0
  simp only [Int.toNat_natCast] at hc
  go_enter Tryd.func32, Tryd.ntmps32
  go_wp2
  go_quiet (fail)
  go_wp2_with fail
  go_region
  go_wp2_with fail
  go_quiet (fail)
  go_wp2
  go_ret
  exact ⟨rfl, _, by rw [setCell_drewN, World.drewN_drewN]⟩

set_option maxHeartbeats 1000000 in
theorem byte_far (len cap : Nat) (a : Option Addr) (g : Nat) (n : Int) (w : World)
    (c0 : w.cell? ⟨g, 0, none⟩ = some (.slice a len cap)) (c1 : w.cell? ⟨g, 1, none⟩ = some (.int .i64 n))
    (f1 : w.frozen? ⟨g, 1, none⟩ = false) (n0 : 0 ≤ n) (n1 : n ≤ 1000000000000) (hn : (len : Int) ≤ n) (hb : 3000 < n + 1) :
    Calls Tryd.prog 32 #[.pointer (some ⟨g, 0, none⟩)] w fun e w' => e = .returned (.int .i64 0) ∧ ∃ q, w' = (w.setCell ⟨g, 1, none⟩ (.int .i64 (n + 1))).drewN q := by
  go_enter Tryd.func32, Tryd.ntmps32
  go_wp2
  go_quiet (fail)
  go_wp2
  go_ret
  exact ⟨rfl, _, rfl⟩

set_option maxHeartbeats 1000000 in
theorem byte_mid (len cap : Nat) (a : Option Addr) (g : Nat) (n s : Int) (w : World)
    (c0 : w.cell? ⟨g, 0, none⟩ = some (.slice a len cap)) (c1 : w.cell? ⟨g, 1, none⟩ = some (.int .i64 n)) (c2 : w.cell? ⟨g, 2, none⟩ = some (.int .i64 s))
    (f1 : w.frozen? ⟨g, 1, none⟩ = false) (f2 : w.frozen? ⟨g, 2, none⟩ = false) (n0 : 0 ≤ n) (s0 : 0 ≤ s) (s1 : s < 2147483648)
    (hn : (len : Int) ≤ n) (hb : ¬ 3000 < n + 1) :
    Calls Tryd.prog 32 #[.pointer (some ⟨g, 0, none⟩)] w fun e w' => ∃ r s' q, e = .returned (.int .i64 r) ∧ 0 ≤ r ∧ r ≤ 255 ∧ 0 ≤ s' ∧ s' < 2147483648 ∧ w' = ((w.setCell ⟨g, 1, none⟩ (.int .i64 (n + 1))).setCell ⟨g, 2, none⟩ (.int .i64 s')).drewN q := by
  go_enter Tryd.func32, Tryd.ntmps32
  go_wp2
  go_quiet (fail)
  go_wp2
  go_ret
  refine ⟨_, _, _, rfl, ?_, ?_, ?_, ?_, rfl⟩
  all_goals omega

/-- what two stores into a source's block leave -/
theorem code_kept {B : Nat} {w w1 : World} {a : Option Addr} {len cap : Nat} {zs : List Int} (hb : Below B w w1) (h : Code B w a len cap zs) : Code B w1 a len cap zs := by
  rcases h with h | ⟨b, off, rfl, h1, h2, h3, h4, h5, h6⟩
  · exact .inl h
  · exact .inr ⟨b, off, rfl, h1, h2, h3, h4, fun i hi => (hb.cell (p := ⟨b, off + i, none⟩) h1).trans (h5 i hi), h6⟩

theorem bel_set {B g o : Nat} {w W : World} {v : Value} (h : Below B w W) (hg : B ≤ g) : Below B w (W.setCell ⟨g, o, none⟩ v) := h.setCell hg v

theorem bel_dn {B : Nat} {w W : World} (h : Below B w W) (q : Nat) : Below B w (W.drewN q) := below_drewN h q

theorem src_set1 {B : Nat} {a : Option Addr} {len cap : Nat} {zs : List Int} {g : Nat} {n s : Int} {w : World} (h : Src B a len cap zs g n s w) (q : Nat) :
    Src B a len cap zs g (n + 1) s ((w.setCell ⟨g, 1, none⟩ (.int .i64 (n + 1))).drewN q) := by
  have hb : Below B w ((w.setCell ⟨g, 1, none⟩ (.int .i64 (n + 1))).drewN q) := bel_dn (bel_set (Below.refl _ _) h.above) q
  have h0 := h.c0
  have h1 := h.c1
  have h2 := h.c2
  have g1 := h.f1
  have g2 := h.f2
  have hn := h.n0
  exact ⟨h.above, code_kept hb h.code, by simp [go_sem, h0], by simp [go_sem, h1], by simp [go_sem, h2], by simp [go_sem, g1], by simp [go_sem, g2], by omega, h.s0, h.s1⟩

theorem src_set2 {B : Nat} {a : Option Addr} {len cap : Nat} {zs : List Int} {g : Nat} {n s s' : Int} {w : World} (h : Src B a len cap zs g n s w) (q : Nat) (h0' : 0 ≤ s') (h1' : s' < 2147483648) :
    Src B a len cap zs g (n + 1) s' (((w.setCell ⟨g, 1, none⟩ (.int .i64 (n + 1))).setCell ⟨g, 2, none⟩ (.int .i64 s')).drewN q) := by
  have hb : Below B w (((w.setCell ⟨g, 1, none⟩ (.int .i64 (n + 1))).setCell ⟨g, 2, none⟩ (.int .i64 s')).drewN q) := bel_dn (bel_set (bel_set (Below.refl _ _) h.above) h.above) q
  have h0 := h.c0
  have h1 := h.c1
  have h2 := h.c2
  have g1 := h.f1
  have g2 := h.f2
  have hn := h.n0
  exact ⟨h.above, code_kept hb h.code, by simp [go_sem, h0], by simp [go_sem, h1], by simp [go_sem, h2], by simp [go_sem, g1], by simp [go_sem, g2], by omega, h0', h1'⟩

/-- what became of the world: below B nothing, and of the blocks that were there g alone -/
structure Moved (B g : Nat) (w w' : World) : Prop where
  below : Below B w w'
  size : w.heap.size ≤ w'.heap.size
  only : ∀ b o, b < w.heap.size → b ≠ g → w'.cell? ⟨b, o, none⟩ = w.cell? ⟨b, o, none⟩ ∧ w'.frozen? ⟨b, o, none⟩ = w.frozen? ⟨b, o, none⟩
theorem Moved.trans {B g : Nat} {w w1 w2 : World} (h1 : Moved B g w w1) (h2 : Moved B g w1 w2) : Moved B g w w2 :=
  ⟨h1.below.trans h2.below, Nat.le_trans h1.size h2.size, fun b o hb hg => ⟨((h2.only b o (Nat.lt_of_lt_of_le hb h1.size) hg).1).trans (h1.only b o hb hg).1, ((h2.only b o (Nat.lt_of_lt_of_le hb h1.size) hg).2).trans (h1.only b o hb hg).2⟩⟩

theorem Moved.refl (B g : Nat) (w : World) : Moved B g w w := ⟨Below.refl _ _, Nat.le_refl _, fun _ _ _ _ => ⟨rfl, rfl⟩⟩

theorem Moved.set {B g o : Nat} {w W : World} {v : Value} (h : Moved B g w W) (hg : B ≤ g) : Moved B g w (W.setCell ⟨g, o, none⟩ v) :=
  ⟨bel_set h.below hg, by simpa using h.size, fun b o' hb hne => ⟨(World.cell?_setCell_far W ⟨g, o, none⟩ ⟨b, o', none⟩ v (fun e => hne e.symm)).trans (h.only b o' hb hne).1, by
    have := (h.only b o' hb hne).2
    rw [← this]
    simp [go_sem]⟩⟩

theorem Moved.dn {B g : Nat} {w W : World} (h : Moved B g w W) (q : Nat) : Moved B g w (W.drewN q) := ⟨bel_dn h.below q, h.size, h.only⟩

/-- a call that makes memory alone -/
theorem Moved.call {B g : Nat} {w W w1 : World} (h : Moved B g w W) (hB : B ≤ W.heap.size) (hb : Below W.heap.size W w1) : Moved B g w w1 :=
  ⟨h.below.trans (hb.mono hB), Nat.le_trans h.size hb.size, fun b o hl hne => ⟨(hb.cell (p := ⟨b, o, none⟩) (Nat.lt_of_lt_of_le hl h.size)).trans (h.only b o hl hne).1, (hb.frozen (p := ⟨b, o, none⟩) (Nat.lt_of_lt_of_le hl h.size)).trans (h.only b o hl hne).2⟩⟩

/-- a byte: a number from 0 to 255; the source stands one place on -/
theorem byte_any {B : Nat} {a : Option Addr} {len cap : Nat} {zs : List Int} {g : Nat} {n s : Int} {w : World} (h : Src B a len cap zs g n s w) (n1 : n ≤ 1000000000000) :
    Calls Tryd.prog 32 #[.pointer (some ⟨g, 0, none⟩)] w fun e w' => ∃ r s' : Int, e = .returned (.int .i64 r) ∧ 0 ≤ r ∧ r ≤ 255 ∧ Src B a len cap zs g (n + 1) s' w' ∧ Moved B g w w' := by
  by_cases hn : n < (len : Int)
  · rcases h.code with h0 | ⟨b, off, rfl, hb, h2, h3, h4, h5, h6⟩
    · have := h.n0; omega
    · have hn0 := h.n0
      unfold maxLen at h3
      have hc := h5 n.toNat (by omega)
      have hz := h6 n.toNat
      refine (byte_in B b off len cap g n s _ w h.above hb h.c0 h.c1 h.c2 h.f1 h.f2 h.n0 h.s0 h.s1 hn (by omega) hc hz.1 hz.2).mono ?_
      rintro e w' ⟨rfl, q, rfl⟩
      exact ⟨_, _, rfl, hz.1, hz.2, src_set2 h q (by omega) (by omega), (((Moved.refl B g w).set h.above).set h.above).dn q⟩
  · by_cases hb : 3000 < n + 1
    · refine (byte_far len cap a g n w h.c0 h.c1 h.f1 h.n0 n1 (by omega) hb).mono ?_
      rintro e w' ⟨rfl, q, rfl⟩
      exact ⟨0, s, rfl, by omega, by omega, src_set1 h q, ((Moved.refl B g w).set h.above).dn q⟩
    · refine (byte_mid len cap a g n s w h.c0 h.c1 h.c2 h.f1 h.f2 h.n0 h.s0 h.s1 (by omega) hb).mono ?_
      rintro e w' ⟨r, s', q, rfl, hr0, hr1, hs0, hs1, rfl⟩
      exact ⟨r, s', rfl, hr0, hr1, src_set2 h q hs0 hs1, (((Moved.refl B g w).set h.above).set h.above).dn q⟩

set_option maxHeartbeats 400000 in
theorem next_small {B : Nat} {a : Option Addr} {len cap : Nat} {zs : List Int} {g : Nat} {n s : Int} {w : World} (m : Int) (h : Src B a len cap zs g n s w) (n1 : n ≤ 1000000000000) (m0 : 2 ≤ m) (m1 : m ≤ 256) :
    Calls Tryd.prog 21 #[.pointer (some ⟨g, 0, none⟩), .int .i64 m] w fun e w' => ∃ r n' s' : Int, e = .returned (.int .i64 r) ∧ 0 ≤ r ∧ r < m ∧ n' ≤ n + 3 ∧ Src B a len cap zs g n' s' w' ∧ Moved B g w w' := by
  have HB := hide (byte_any h n1)
  have hz : (m == 0) = false := by rw [beq_eq_false_iff_ne]; omega
  clear h
  go_enter Tryd.func21, Tryd.ntmps21
  go_wp2_with fail
  refine (unhide HB).mono ?_
  rintro e w1 ⟨r, s', rfl, r0, r1, hs, hb⟩
  have HS := hide hs
  have HW := hide hb
  have hr := Int.emod_nonneg r (b := m) (by omega)
  have hr2 := Int.emod_lt_of_pos r (b := m) (by omega)
  clear hs hb
  go_wp2
  go_ret
  exact ⟨r % m, n + 1, s', rfl, hr, hr2, by omega, unhide HS, unhide HW⟩

set_option maxHeartbeats 400000 in
theorem next_big {B : Nat} {a : Option Addr} {len cap : Nat} {zs : List Int} {g : Nat} {n s : Int} {w : World} (m : Int) (h : Src B a len cap zs g n s w) (n1 : n ≤ 1000000000) (m0 : 256 < m) (m1 : m ≤ 16777216) :
    Calls Tryd.prog 21 #[.pointer (some ⟨g, 0, none⟩), .int .i64 m] w fun e w' => ∃ r n' s' : Int, e = .returned (.int .i64 r) ∧ 0 ≤ r ∧ r < m ∧ n' ≤ n + 3 ∧ Src B a len cap zs g n' s' w' ∧ Moved B g w w' := by
  have HB := hide (byte_any h (by omega))
  have hz : (m == 0) = false := by rw [beq_eq_false_iff_ne]; omega
  clear h
  go_enter Tryd.func21, Tryd.ntmps21
  go_wp2_with fail
  refine (unhide HB).mono ?_
  rintro e w1 ⟨r, s1, rfl, r0, r1, hs, hb⟩
  have H2 := hide (byte_any hs (by omega))
  have W1 := hide hb
  clear hs hb
  go_wp2_with fail
  refine (unhide H2).mono ?_
  rintro e w2 ⟨t, s2, rfl, t0, t1, hs, hb⟩
  have H3 := hide (byte_any hs (by omega))
  have W2 := hide hb
  clear hs hb
  go_wp2_with fail
  refine (unhide H3).mono ?_
  rintro e w3 ⟨u, s3, rfl, u0, u1, hs, hb⟩
  have HS := hide hs
  have W3 := hide hb
  have hr := Int.emod_nonneg (r * 65536 + t * 256 + u) (b := m) (by omega)
  have hr2 := Int.emod_lt_of_pos (r * 65536 + t * 256 + u) (b := m) (by omega)
  clear hs hb
  go_wp2
  go_ret
  exact ⟨(r * 65536 + t * 256 + u) % m, n + 1 + 1 + 1, s3, rfl, hr, hr2, by omega, unhide HS, ((unhide W1).trans (unhide W2)).trans (unhide W3)⟩

theorem next_any {B : Nat} {a : Option Addr} {len cap : Nat} {zs : List Int} {g : Nat} {n s : Int} {w : World} (m : Int) (h : Src B a len cap zs g n s w) (n1 : n ≤ 1000000000) (m0 : 2 ≤ m) (m1 : m ≤ 16777216) :
    Calls Tryd.prog 21 #[.pointer (some ⟨g, 0, none⟩), .int .i64 m] w fun e w' => ∃ r n' s' : Int, e = .returned (.int .i64 r) ∧ 0 ≤ r ∧ r < m ∧ n' ≤ n + 3 ∧ Src B a len cap zs g n' s' w' ∧ Moved B g w w' := by
  by_cases hm : m ≤ 256
  · exact next_small m h (by omega) m0 hm
  · exact next_big m h n1 (by omega) m1


theorem right_of (x y : Int) (h : frCode x y = 0) : frOk (frN x y) (frD x y) = true := by
  unfold frCode at h
  by_cases hd : y = 0
  · rw [if_pos hd] at h; omega
  rw [if_neg hd] at h
  by_cases hf : frFits x y = true
  · have hg := gcd_pos x y hd
    have hc : Nat.gcd (frTop x y) (frBot x y) = 1 := Nat.gcd_div_gcd_div_gcd_of_pos_right (by omega)
    have hb : 1 ≤ frBot x y := Nat.div_pos (Nat.le_of_dvd (by omega) (Nat.gcd_dvd_right _ _)) hg
    have hF := hf
    unfold frFits at hF
    rw [decide_eq_true_iff] at hF
    have e2 : (frD x y).natAbs = frBot x y := by unfold frD; rw [if_neg hd, if_pos hf]; simp
    have e1 : (frN x y).natAbs = frTop x y := by unfold frN; rw [if_neg hd, if_pos hf]; split <;> simp
    unfold frOk
    rw [decide_eq_true_iff, e1, e2]
    have d1 : frD x y = (frBot x y : Int) := by unfold frD; rw [if_neg hd, if_pos hf]
    refine ⟨by omega, by omega, by omega, by omega, hc⟩
  · rw [if_neg hf] at h; omega

theorem src_call {B : Nat} {a : Option Addr} {len cap : Nat} {zs : List Int} {g : Nat} {n s : Int} {w w1 : World} (h : Src B a len cap zs g n s w) (hb : Below w.heap.size w w1) : Src B a len cap zs g n s w1 := by
  have hl := cell_lt h.c0
  have hB : B ≤ w.heap.size := Nat.le_of_lt (Nat.lt_of_le_of_lt h.above hl)
  exact ⟨h.above, code_kept (hb.mono hB) h.code, keep1 hb h.c0, keep1 hb h.c1, keep1 hb h.c2, keepz hb hl h.f1, keepz hb hl h.f2, h.n0, h.s0, h.s1⟩

theorem src_alloc {B : Nat} {a : Option Addr} {len cap : Nat} {zs : List Int} {g : Nat} {n s : Int} {w : World} (h : Src B a len cap zs g n s w) (o : Obj) : Src B a len cap zs g n s (w.alloc o) :=
  src_call h (bel_alloc (Below.refl _ _) o)

/-- a block of two numbers that may be written -/
structure Two (T : Nat) (x y : Int) (w : World) : Prop where
  c0 : w.cell? ⟨T, 0, none⟩ = some (.int .i64 x)
  c1 : w.cell? ⟨T, 1, none⟩ = some (.int .i64 y)
  f0 : w.frozen? ⟨T, 0, none⟩ = false
  f1 : w.frozen? ⟨T, 1, none⟩ = false
theorem two_moved {B g T : Nat} {x y : Int} {w w1 : World} (h : Two T x y w) (m : Moved B g w w1) (hne : T ≠ g) : Two T x y w1 := by
  have hl := cell_lt h.c0
  exact ⟨(m.only T 0 hl hne).1.trans h.c0, (m.only T 1 hl hne).1.trans h.c1, (m.only T 0 hl hne).2.trans h.f0, (m.only T 1 hl hne).2.trans h.f1⟩

theorem two_call {T : Nat} {x y : Int} {w w1 : World} (h : Two T x y w) (hb : Below w.heap.size w w1) : Two T x y w1 := by
  have hl := cell_lt h.c0
  exact ⟨keep1 hb h.c0, keep1 hb h.c1, keepz hb hl h.f0, keepz hb hl h.f1⟩

set_option maxHeartbeats 400000 in
theorem source_any (a : Option Addr) (len cap : Nat) (zs : List Int) (w : World) (hc : Code w.heap.size w a len cap zs) (hl : len ≤ 9223372036854775807) :
    Calls Tryd.prog 12 #[.slice a len cap] w fun e w' => e = .returned (.pointer (some ⟨w.heap.size, 0, none⟩)) ∧ Below w.heap.size w w' ∧ Src w.heap.size a len cap zs w.heap.size 0 ((len : Int) % 1000) w' := by
  have HC := hide hc
  clear hc
  go_enter Tryd.func12, Tryd.ntmps12
  go_wp2
  go_ret
  have hb : Below w.heap.size w (w.alloc (.cells #[.slice a len cap, .int .i64 0, .int .i64 ((len : Int) % 1000)] 48)) := bel_alloc (Below.refl _ _) _
  exact ⟨rfl, hb, Nat.le_refl _, code_kept hb (unhide HC), by simp [go_sem], by simp [go_sem], by simp [go_sem], by simp [go_sem], by simp [go_sem], by omega, by omega, by omega⟩

theorem Moved.new {B g T o : Nat} {w W : World} {v : Value} (h : Moved B g w W) (hT : w.heap.size ≤ T) (hB : B ≤ T) : Moved B g w (W.setCell ⟨T, o, none⟩ v) :=
  ⟨bel_set h.below hB, by simpa using h.size, fun b o' hb hne => ⟨(World.cell?_setCell_far W ⟨T, o, none⟩ ⟨b, o', none⟩ v (by simp; omega)).trans (h.only b o' hb hne).1, by
    have := (h.only b o' hb hne).2
    rw [← this]
    simp [go_sem]⟩⟩

theorem Moved.new1 {B g : Nat} {w W : World} {o : Obj} (h : Moved B g w W) (hB : B ≤ W.heap.size) : Moved B g w (W.alloc o) := h.call hB (bel_alloc (Below.refl _ _) o)

theorem src_new {B : Nat} {a : Option Addr} {len cap : Nat} {zs : List Int} {g : Nat} {n s : Int} {T o : Nat} {v : Value} {w : World} (h : Src B a len cap zs g n s w) (hne : T ≠ g) (hB : B ≤ T) : Src B a len cap zs g n s (w.setCell ⟨T, o, none⟩ v) := by
  have hb : Below B w (w.setCell ⟨T, o, none⟩ v) := bel_set (Below.refl _ _) hB
  have far : ∀ i, (w.setCell ⟨T, o, none⟩ v).cell? ⟨g, i, none⟩ = w.cell? ⟨g, i, none⟩ := fun i => World.cell?_setCell_far w ⟨T, o, none⟩ ⟨g, i, none⟩ v hne
  have g1 := h.f1
  have g2 := h.f2
  exact ⟨h.above, code_kept hb h.code, (far 0).trans h.c0, (far 1).trans h.c1, (far 2).trans h.c2, by simp [go_sem, g1], by simp [go_sem, g2], h.n0, h.s0, h.s1⟩

set_option maxRecDepth 100000 in
set_option maxHeartbeats 2000000 in
theorem frac_any {B : Nat} {a : Option Addr} {len cap : Nat} {zs : List Int} {g : Nat} {n s : Int} {w : World} (h : Src B a len cap zs g n s w) (n1 : n ≤ 100000000) :
    Calls Tryd.prog 13 #[.pointer (some ⟨g, 0, none⟩)] w fun e w' => ∃ X Y n' s' : Int, e = .returned (.agg #[.int .i64 X, .int .i64 Y]) ∧ frOk X Y = true ∧ n' ≤ n + 15 ∧ Src B a len cap zs g n' s' w' ∧ Moved B g w w' := by
  have hgl := cell_lt h.c0
  have hne : w.heap.size ≠ g := by omega
  have hn0 := h.n0
  have S0 := hide (src_alloc h (.cells #[.int .i64 0, .int .i64 0] 24))
  have T0 : Hid (Two w.heap.size 0 0 (w.alloc (.cells #[.int .i64 0, .int .i64 0] 24))) := hide ⟨by simp [go_sem], by simp [go_sem], by simp [go_sem], by simp [go_sem]⟩
  have M0 := hide (Moved.call (Moved.refl B g w) (Nat.le_of_lt (Nat.lt_of_le_of_lt h.above hgl)) (bel_alloc (Below.refl _ _) (.cells #[.int .i64 0, .int .i64 0] 24)))
  have hT : w.heap.size ≤ w.heap.size := Nat.le_refl _
  have hBT : B ≤ w.heap.size := Nat.le_of_lt (Nat.lt_of_le_of_lt h.above hgl)
  clear h
  go_enter Tryd.func13, Tryd.ntmps13
  go_wp2_with fail
  refine (next_any 41 (unhide S0) (by omega) (by omega) (by omega)).mono ?_
  rintro e w1 ⟨r1, n1, t1, rfl, p1, q1, hn1, hs, mv⟩
  have T1 := hide (two_moved (unhide T0) mv hne)
  have M1 := hide ((unhide M0).trans mv)
  have S1 := hide hs
  clear hs mv
  go_wp2_with fail
  refine (next_any 12 (unhide S1) (by omega) (by omega) (by omega)).mono ?_
  rintro e w2 ⟨r2, n2, t2, rfl, p2, q2, hn2, hs, mv⟩
  have T2 := hide (two_moved (unhide T1) mv hne)
  have M2 := hide ((unhide M1).trans mv)
  have S2 := hide hs
  clear hs mv
  go_wp2_with fail
  refine (next_any 9 (unhide S2) (by omega) (by omega) (by omega)).mono ?_
  rintro e w3 ⟨r3, n3, t3, rfl, p3, q3, hn3, hs, mv⟩
  have T3 := hide (two_moved (unhide T2) mv hne)
  have M3 := hide ((unhide M2).trans mv)
  have S3 := hide hs
  clear hs mv
  rcases (by omega : r3 = 0 ∨ r3 = 1 ∨ r3 = 2 ∨ r3 = 3 ∨ 4 ≤ r3) with rfl | rfl | rfl | rfl | h4
  · skip
    go_wp2_with fail
    refine (next_any 2000000 (unhide S3) (by omega) (by omega) (by omega)).mono ?_
    rintro e w4 ⟨r4, n4, t4, rfl, p4, q4, hn4, hs, mv⟩
    have T4 := hide (two_moved (unhide T3) mv hne)
    have M4 := hide ((unhide M3).trans mv)
    have S4 := hide hs
    clear hs mv
    go_wp2_with fail
    refine (next_any 1000000 (unhide S4) (by omega) (by omega) (by omega)).mono ?_
    rintro e w5 ⟨r5, n5, t5, rfl, p5, q5, hn5, hs, mv⟩
    have T5 := hide (two_moved (unhide T4) mv hne)
    have M5 := hide ((unhide M4).trans mv)
    have S5 := hide hs
    clear hs mv
    go_wp2_with fail
    refine (specOf_any _ _ _ (by omega) (by omega) (by omega) (by omega)).mono ?_
    rintro e wf ⟨rfl, hb⟩
    have TF := hide (two_call (unhide T5) hb)
    have SF := hide (src_call (unhide S5) hb)
    have MF := hide ((unhide M5).call (Nat.le_of_lt (Nat.lt_of_le_of_lt (unhide S5).above (cell_lt (unhide S5).c0))) hb)
    have hBF : B ≤ wf.heap.size := Nat.le_of_lt (Nat.lt_of_le_of_lt (unhide SF).above (cell_lt (unhide SF).c0))
    have hok := right_of (r4 - 1000000) (1 + r5)
    have HOK := hide hok
    have d0 := (unhide TF).c0
    have d1 := (unhide TF).c1
    have d2 := (unhide TF).f0
    have d3 := (unhide TF).f1
    have l0 := cell_lt d0
    clear hb hok
    unfold frAns
    generalize frN (r4 - 1000000) (1 + r5) = X at *
    generalize frD (r4 - 1000000) (1 + r5) = Y at *
    generalize frCode (r4 - 1000000) (1 + r5) = C at *
    by_cases hC : C = 0
    · subst hC
      go_wp2
      exact bodyPost_ret (v := .agg #[.int .i64 X, .int .i64 Y]) (by simp [results, Tryd.results13, go_sem, d0, d1, l0]) rfl ⟨X, Y, n5, t5, rfl, unhide HOK (by first | rfl | trivial), by omega, src_alloc (src_new (src_new (unhide SF) hne hBT) hne hBT) _, (((unhide MF).new hT hBT).new hT hBT).new1 (by simpa using hBF)⟩
    · have hC' : (C != 0) = true := by simp [hC]
      have hC2 : (C == 0) = false := by simp [hC]
      clear hC
      go_wp2
      exact bodyPost_ret (v := .agg #[.int .i64 1, .int .i64 2]) (by simp [results, Tryd.results13, go_sem, d0, d1, l0]) rfl ⟨1, 2, n5, t5, rfl, by decide, by omega, src_alloc (src_new (src_new (unhide SF) hne hBT) hne hBT) _, (((unhide MF).new hT hBT).new hT hBT).new1 (by simpa using hBF)⟩
  · skip
    go_wp2_with fail
    refine (next_any 3 (unhide S3) (by omega) (by omega) (by omega)).mono ?_
    rintro e w4 ⟨r4, n4, t4, rfl, p4, q4, hn4, hs, mv⟩
    have T4 := hide (two_moved (unhide T3) mv hne)
    have M4 := hide ((unhide M3).trans mv)
    have S4 := hide hs
    clear hs mv
    go_wp2_with fail
    refine (next_any 2 (unhide S4) (by omega) (by omega) (by omega)).mono ?_
    rintro e w5 ⟨r5, n5, t5, rfl, p5, q5, hn5, hs, mv⟩
    have T5 := hide (two_moved (unhide T4) mv hne)
    have M5 := hide ((unhide M4).trans mv)
    have S5 := hide hs
    clear hs mv
    go_wp2_with fail
    refine (specOf_any _ _ _ (by omega) (by omega) (by omega) (by omega)).mono ?_
    rintro e wf ⟨rfl, hb⟩
    have TF := hide (two_call (unhide T5) hb)
    have SF := hide (src_call (unhide S5) hb)
    have MF := hide ((unhide M5).call (Nat.le_of_lt (Nat.lt_of_le_of_lt (unhide S5).above (cell_lt (unhide S5).c0))) hb)
    have hBF : B ≤ wf.heap.size := Nat.le_of_lt (Nat.lt_of_le_of_lt (unhide SF).above (cell_lt (unhide SF).c0))
    have hok := right_of (1000000000 - r4) (1 + r5)
    have HOK := hide hok
    have d0 := (unhide TF).c0
    have d1 := (unhide TF).c1
    have d2 := (unhide TF).f0
    have d3 := (unhide TF).f1
    have l0 := cell_lt d0
    clear hb hok
    unfold frAns
    generalize frN (1000000000 - r4) (1 + r5) = X at *
    generalize frD (1000000000 - r4) (1 + r5) = Y at *
    generalize frCode (1000000000 - r4) (1 + r5) = C at *
    by_cases hC : C = 0
    · subst hC
      go_wp2
      exact bodyPost_ret (v := .agg #[.int .i64 X, .int .i64 Y]) (by simp [results, Tryd.results13, go_sem, d0, d1, l0]) rfl ⟨X, Y, n5, t5, rfl, unhide HOK (by first | rfl | trivial), by omega, src_alloc (src_new (src_new (unhide SF) hne hBT) hne hBT) _, (((unhide MF).new hT hBT).new hT hBT).new1 (by simpa using hBF)⟩
    · have hC' : (C != 0) = true := by simp [hC]
      have hC2 : (C == 0) = false := by simp [hC]
      clear hC
      go_wp2
      exact bodyPost_ret (v := .agg #[.int .i64 1, .int .i64 2]) (by simp [results, Tryd.results13, go_sem, d0, d1, l0]) rfl ⟨1, 2, n5, t5, rfl, by decide, by omega, src_alloc (src_new (src_new (unhide SF) hne hBT) hne hBT) _, (((unhide MF).new hT hBT).new hT hBT).new1 (by simpa using hBF)⟩
  · skip
    go_wp2_with fail
    refine (next_any 5 (unhide S3) (by omega) (by omega) (by omega)).mono ?_
    rintro e w4 ⟨r4, n4, t4, rfl, p4, q4, hn4, hs, mv⟩
    have T4 := hide (two_moved (unhide T3) mv hne)
    have M4 := hide ((unhide M3).trans mv)
    have S4 := hide hs
    clear hs mv
    go_wp2_with fail
    refine (next_any 3 (unhide S4) (by omega) (by omega) (by omega)).mono ?_
    rintro e w5 ⟨r5, n5, t5, rfl, p5, q5, hn5, hs, mv⟩
    have T5 := hide (two_moved (unhide T4) mv hne)
    have M5 := hide ((unhide M4).trans mv)
    have S5 := hide hs
    clear hs mv
    go_wp2_with fail
    refine (specOf_any _ _ _ (by omega) (by omega) (by omega) (by omega)).mono ?_
    rintro e wf ⟨rfl, hb⟩
    have TF := hide (two_call (unhide T5) hb)
    have SF := hide (src_call (unhide S5) hb)
    have MF := hide ((unhide M5).call (Nat.le_of_lt (Nat.lt_of_le_of_lt (unhide S5).above (cell_lt (unhide S5).c0))) hb)
    have hBF : B ≤ wf.heap.size := Nat.le_of_lt (Nat.lt_of_le_of_lt (unhide SF).above (cell_lt (unhide SF).c0))
    have hok := right_of (1 + r4) (1000000000 - r5)
    have HOK := hide hok
    have d0 := (unhide TF).c0
    have d1 := (unhide TF).c1
    have d2 := (unhide TF).f0
    have d3 := (unhide TF).f1
    have l0 := cell_lt d0
    clear hb hok
    unfold frAns
    generalize frN (1 + r4) (1000000000 - r5) = X at *
    generalize frD (1 + r4) (1000000000 - r5) = Y at *
    generalize frCode (1 + r4) (1000000000 - r5) = C at *
    by_cases hC : C = 0
    · subst hC
      go_wp2
      exact bodyPost_ret (v := .agg #[.int .i64 X, .int .i64 Y]) (by simp [results, Tryd.results13, go_sem, d0, d1, l0]) rfl ⟨X, Y, n5, t5, rfl, unhide HOK (by first | rfl | trivial), by omega, src_alloc (src_new (src_new (unhide SF) hne hBT) hne hBT) _, (((unhide MF).new hT hBT).new hT hBT).new1 (by simpa using hBF)⟩
    · have hC' : (C != 0) = true := by simp [hC]
      have hC2 : (C == 0) = false := by simp [hC]
      clear hC
      go_wp2
      exact bodyPost_ret (v := .agg #[.int .i64 1, .int .i64 2]) (by simp [results, Tryd.results13, go_sem, d0, d1, l0]) rfl ⟨1, 2, n5, t5, rfl, by decide, by omega, src_alloc (src_new (src_new (unhide SF) hne hBT) hne hBT) _, (((unhide MF).new hT hBT).new hT hBT).new1 (by simpa using hBF)⟩
  · skip
    go_wp2_with fail
    refine (specOf_any _ _ _ (by omega) (by omega) (by omega) (by omega)).mono ?_
    rintro e wf ⟨rfl, hb⟩
    have TF := hide (two_call (unhide T3) hb)
    have SF := hide (src_call (unhide S3) hb)
    have MF := hide ((unhide M3).call (Nat.le_of_lt (Nat.lt_of_le_of_lt (unhide S3).above (cell_lt (unhide S3).c0))) hb)
    have hBF : B ≤ wf.heap.size := Nat.le_of_lt (Nat.lt_of_le_of_lt (unhide SF).above (cell_lt (unhide SF).c0))
    have hok := right_of (r1 - 20) (1)
    have HOK := hide hok
    have d0 := (unhide TF).c0
    have d1 := (unhide TF).c1
    have d2 := (unhide TF).f0
    have d3 := (unhide TF).f1
    have l0 := cell_lt d0
    clear hb hok
    unfold frAns
    generalize frN (r1 - 20) (1) = X at *
    generalize frD (r1 - 20) (1) = Y at *
    generalize frCode (r1 - 20) (1) = C at *
    by_cases hC : C = 0
    · subst hC
      go_wp2
      exact bodyPost_ret (v := .agg #[.int .i64 X, .int .i64 Y]) (by simp [results, Tryd.results13, go_sem, d0, d1, l0]) rfl ⟨X, Y, n3, t3, rfl, unhide HOK (by first | rfl | trivial), by omega, src_alloc (src_new (src_new (unhide SF) hne hBT) hne hBT) _, (((unhide MF).new hT hBT).new hT hBT).new1 (by simpa using hBF)⟩
    · have hC' : (C != 0) = true := by simp [hC]
      have hC2 : (C == 0) = false := by simp [hC]
      clear hC
      go_wp2
      exact bodyPost_ret (v := .agg #[.int .i64 1, .int .i64 2]) (by simp [results, Tryd.results13, go_sem, d0, d1, l0]) rfl ⟨1, 2, n3, t3, rfl, by decide, by omega, src_alloc (src_new (src_new (unhide SF) hne hBT) hne hBT) _, (((unhide MF).new hT hBT).new hT hBT).new1 (by simpa using hBF)⟩
  · skip
    go_wp2_with fail
    refine (specOf_any _ _ _ (by omega) (by omega) (by omega) (by omega)).mono ?_
    rintro e wf ⟨rfl, hb⟩
    have TF := hide (two_call (unhide T3) hb)
    have SF := hide (src_call (unhide S3) hb)
    have MF := hide ((unhide M3).call (Nat.le_of_lt (Nat.lt_of_le_of_lt (unhide S3).above (cell_lt (unhide S3).c0))) hb)
    have hBF : B ≤ wf.heap.size := Nat.le_of_lt (Nat.lt_of_le_of_lt (unhide SF).above (cell_lt (unhide SF).c0))
    have hok := right_of (r1 - 20) (1 + r2)
    have HOK := hide hok
    have d0 := (unhide TF).c0
    have d1 := (unhide TF).c1
    have d2 := (unhide TF).f0
    have d3 := (unhide TF).f1
    have l0 := cell_lt d0
    clear hb hok
    unfold frAns
    generalize frN (r1 - 20) (1 + r2) = X at *
    generalize frD (r1 - 20) (1 + r2) = Y at *
    generalize frCode (r1 - 20) (1 + r2) = C at *
    by_cases hC : C = 0
    · subst hC
      go_wp2
      exact bodyPost_ret (v := .agg #[.int .i64 X, .int .i64 Y]) (by simp [results, Tryd.results13, go_sem, d0, d1, l0]) rfl ⟨X, Y, n3, t3, rfl, unhide HOK (by first | rfl | trivial), by omega, src_alloc (src_new (src_new (unhide SF) hne hBT) hne hBT) _, (((unhide MF).new hT hBT).new hT hBT).new1 (by simpa using hBF)⟩
    · have hC' : (C != 0) = true := by simp [hC]
      have hC2 : (C == 0) = false := by simp [hC]
      clear hC
      go_wp2
      exact bodyPost_ret (v := .agg #[.int .i64 1, .int .i64 2]) (by simp [results, Tryd.results13, go_sem, d0, d1, l0]) rfl ⟨1, 2, n3, t3, rfl, by decide, by omega, src_alloc (src_new (src_new (unhide SF) hne hBT) hne hBT) _, (((unhide MF).new hT hBT).new hT hBT).new1 (by simpa using hBF)⟩


theorem code_up {B B1 : Nat} {w w1 : World} {a : Option Addr} {len cap : Nat} {zs : List Int} (hB : B ≤ B1) (hb : Below B w w1) (h : Code B w a len cap zs) : Code B1 w1 a len cap zs := by
  rcases code_kept hb h with h | ⟨b, off, rfl, h1, h2⟩
  · exact .inl h
  · exact .inr ⟨b, off, rfl, by omega, h2⟩

theorem src_dn {B : Nat} {a : Option Addr} {len cap : Nat} {zs : List Int} {g : Nat} {n s : Int} {w : World} (h : Src B a len cap zs g n s w) : Src B a len cap zs g n s w.drew :=
  ⟨h.above, code_kept (Below.drew (Below.refl _ _)) h.code, h.c0, h.c1, h.c2, h.f1, h.f2, h.n0, h.s0, h.s1⟩

theorem two_dn {T : Nat} {x y : Int} {w : World} (h : Two T x y w) : Two T x y w.drew := ⟨h.c0, h.c1, h.f0, h.f1⟩

theorem two_alloc {T : Nat} {x y : Int} {w : World} (h : Two T x y w) (o : Obj) : Two T x y (w.alloc o) := two_call h (bel_alloc (Below.refl _ _) o)

theorem two_at (w : World) (x y : Int) (t : TypeId) : Two w.heap.size x y (w.alloc (.cells #[.int .i64 x, .int .i64 y] t)) := ⟨by simp [go_sem], by simp [go_sem], by simp [go_sem], by simp [go_sem]⟩

theorem moved_dn {B g : Nat} {w w1 : World} (h : Moved B g w.drew w1) : Moved B g w w1 := ⟨(Below.drew (Below.refl _ _)).trans h.below, h.size, h.only⟩

set_option maxRecDepth 100000 in
set_option maxHeartbeats 1000000 in
theorem fracs_any (a : Option Addr) (len cap : Nat) (zs : List Int) (w : World) (hc : Code w.heap.size w a len cap zs) (hl : len ≤ 9223372036854775807) :
    Calls Tryd.prog 4 #[.slice a len cap] w fun e w' => ∃ X0 Y0 X1 Y1 X2 Y2 : Int, e = .returned (.tuple #[.agg #[.int .i64 X0, .int .i64 Y0], .agg #[.int .i64 X1, .int .i64 Y1], .agg #[.int .i64 X2, .int .i64 Y2]]) ∧ frOk X0 Y0 = true ∧ frOk X1 Y1 = true ∧ frOk X2 Y2 = true ∧ Below w.heap.size w w' := by
  have B0 : Below w.heap.size w (((w.alloc (.cells #[.int .i64 0, .int .i64 0] 24)).alloc (.cells #[.int .i64 0, .int .i64 0] 24)).alloc (.cells #[.int .i64 0, .int .i64 0] 24)) := bel_alloc (bel_alloc (bel_alloc (Below.refl _ _) _) _) _
  have HCO : Hid (Code (((w.alloc (.cells #[.int .i64 0, .int .i64 0] 24)).alloc (.cells #[.int .i64 0, .int .i64 0] 24)).alloc (.cells #[.int .i64 0, .int .i64 0] 24)).heap.size (((w.alloc (.cells #[.int .i64 0, .int .i64 0] 24)).alloc (.cells #[.int .i64 0, .int .i64 0] 24)).alloc (.cells #[.int .i64 0, .int .i64 0] 24)) a len cap zs) := hide (code_up B0.size B0 hc)
  have HB0 := hide B0
  have D0 : Hid (Two w.heap.size 0 0 (((w.alloc (.cells #[.int .i64 0, .int .i64 0] 24)).alloc (.cells #[.int .i64 0, .int .i64 0] 24)).alloc (.cells #[.int .i64 0, .int .i64 0] 24))) := hide ⟨by simp [go_sem], by simp [go_sem], by simp [go_sem], by simp [go_sem]⟩
  have D1 : Hid (Two (w.heap.size + 1) 0 0 (((w.alloc (.cells #[.int .i64 0, .int .i64 0] 24)).alloc (.cells #[.int .i64 0, .int .i64 0] 24)).alloc (.cells #[.int .i64 0, .int .i64 0] 24))) := hide ⟨by simp [go_sem], by simp [go_sem], by simp [go_sem], by simp [go_sem]⟩
  have D2 : Hid (Two (w.heap.size + 1 + 1) 0 0 (((w.alloc (.cells #[.int .i64 0, .int .i64 0] 24)).alloc (.cells #[.int .i64 0, .int .i64 0] 24)).alloc (.cells #[.int .i64 0, .int .i64 0] 24))) := hide ⟨by simp [go_sem], by simp [go_sem], by simp [go_sem], by simp [go_sem]⟩
  clear hc B0
  go_enter Tryd.func4, Tryd.ntmps4
  go_wp2_with fail
  refine (source_any a len cap zs _ (unhide HCO) hl).mono ?_
  rintro e w1 ⟨rfl, hb, hs⟩
  have A0 : Hid (Two w.heap.size 0 0 w1) := hide (two_call (unhide D0) hb)
  have A1 : Hid (Two (w.heap.size + 1) 0 0 w1) := hide (two_call (unhide D1) hb)
  have A2 : Hid (Two (w.heap.size + 1 + 1) 0 0 w1) := hide (two_call (unhide D2) hb)
  have W1 : Hid (Below w.heap.size w w1) := hide (bel_call (unhide HB0) hb)
  have S1 : Hid (Src (w.heap.size + 1 + 1 + 1) a len cap zs (w.heap.size + 1 + 1 + 1) 0 ((len : Int) % 1000) w1) := hide (by simpa using hs)
  clear hb hs D0 D1 D2 HB0 HCO
  go_wp2_with fail
  refine (frac_any (unhide S1) (by omega)).mono ?_
  rintro e w2 ⟨X0, Y0, n2, s2, rfl, ok0, hn2, hs, mv⟩
  have OK0 := hide ok0
  have S2 : Hid (Src (w.heap.size + 1 + 1 + 1) a len cap zs (w.heap.size + 1 + 1 + 1) n2 s2 (w2.alloc (.cells #[.int .i64 X0, .int .i64 Y0] 24))) := hide (src_alloc hs _)
  have E0 : Hid (Two w.heap.size 0 0 (w2.alloc (.cells #[.int .i64 X0, .int .i64 Y0] 24))) := hide (two_alloc (two_moved (unhide A0) mv (by omega)) _)
  have E1 : Hid (Two (w.heap.size + 1) 0 0 (w2.alloc (.cells #[.int .i64 X0, .int .i64 Y0] 24))) := hide (two_alloc (two_moved (unhide A1) mv (by omega)) _)
  have E2 : Hid (Two (w.heap.size + 1 + 1) 0 0 (w2.alloc (.cells #[.int .i64 X0, .int .i64 Y0] 24))) := hide (two_alloc (two_moved (unhide A2) mv (by omega)) _)
  have E6 : Hid (Two w2.heap.size X0 Y0 (w2.alloc (.cells #[.int .i64 X0, .int .i64 Y0] 24))) := hide (two_at w2 X0 Y0 24)
  have W2 : Hid (Below w.heap.size w (w2.alloc (.cells #[.int .i64 X0, .int .i64 Y0] 24))) := hide (bel_alloc ((unhide W1).trans (mv.below.mono (by omega))) _)
  have g2 : w.heap.size + 1 + 1 + 1 < w2.heap.size := cell_lt hs.c0
  clear hs mv ok0 A0 A1 A2 W1 S1
  go_wp2_with fail
  refine (frac_any (unhide S2) (by omega)).mono ?_
  rintro e w3 ⟨X1, Y1, n3, s3, rfl, ok1, hn3, hs, mv⟩
  have OK1 := hide ok1
  have S3 : Hid (Src (w.heap.size + 1 + 1 + 1) a len cap zs (w.heap.size + 1 + 1 + 1) n3 s3 (w3.alloc (.cells #[.int .i64 X1, .int .i64 Y1] 24))) := hide (src_alloc hs _)
  have F0 := two_alloc (two_moved (unhide E0) mv (by omega)) (.cells #[.int .i64 X1, .int .i64 Y1] 24)
  have F1 := two_alloc (two_moved (unhide E1) mv (by omega)) (.cells #[.int .i64 X1, .int .i64 Y1] 24)
  have F2 := two_alloc (two_moved (unhide E2) mv (by omega)) (.cells #[.int .i64 X1, .int .i64 Y1] 24)
  have F6 := two_alloc (two_moved (unhide E6) mv (by omega)) (.cells #[.int .i64 X1, .int .i64 Y1] 24)
  have F7 := two_at w3 X1 Y1 24
  have W3 : Hid (Below w.heap.size w (w3.alloc (.cells #[.int .i64 X1, .int .i64 Y1] 24))) := hide (bel_alloc ((unhide W2).trans (mv.below.mono (by omega))) _)
  have g3 : w.heap.size + 1 + 1 + 1 < w3.heap.size := cell_lt hs.c0
  have HF0 := hide F0
  have HF1 := hide F1
  have HF2 := hide F2
  have HF6 := hide F6
  have HF7 := hide F7
  have x60 := F6.c0
  have x61 := F6.c1
  have x70 := F7.c0
  have x71 := F7.c1
  clear hs mv ok1 E0 E1 E2 E6 W2 S2 F0 F1 F2 F6 F7
  go_wp2_with fail
  go_region_held3 (fun wx => wx.cell? ⟨w2.heap.size, 0, none⟩ = some (.int .i64 X0) ∧ wx.cell? ⟨w2.heap.size, 1, none⟩ = some (.int .i64 Y0) ∧ wx.cell? ⟨w3.heap.size, 0, none⟩ = some (.int .i64 X1) ∧ wx.cell? ⟨w3.heap.size, 1, none⟩ = some (.int .i64 Y1))
    (simp [go_sem, *])
    (first
    | (go_at_call 13; refine (frac_any (src_dn (unhide S3)) (by omega)).mono ?_
       rintro e w4 ⟨X2, Y2, n4, s4, rfl, ok2, hn4, hs, mv0⟩
       have mv := moved_dn mv0
       have OK2 := hide ok2
       have G0 := two_moved (unhide HF0) mv (by omega)
       have G1 := two_moved (unhide HF1) mv (by omega)
       have G2 := two_moved (unhide HF2) mv (by omega)
       have G6 := two_moved (unhide HF6) mv (by omega)
       have G7 := two_moved (unhide HF7) mv (by omega)
       have W4 : Hid (Below w.heap.size w w4) := hide ((unhide W3).trans (mv.below.mono (by omega)))
       have y00 := G0.c0; have y01 := G0.c1; have y02 := G0.f0; have y03 := G0.f1
       have y10 := G1.c0; have y11 := G1.c1; have y12 := G1.f0; have y13 := G1.f1
       have y20 := G2.c0; have y21 := G2.c1; have y22 := G2.f0; have y23 := G2.f1
       have y60 := G6.c0; have y61 := G6.c1; have y70 := G7.c0; have y71 := G7.c1
       clear hs mv mv0 ok2 G0 G1 G2 G6 G7))
  go_wp2_with fail
  refine bodyPost_ret (v := .tuple #[.agg #[.int .i64 X0, .int .i64 Y0], .agg #[.int .i64 X1, .int .i64 Y1], .agg #[.int .i64 X2, .int .i64 Y2]]) (by simp [results, Tryd.results4, go_sem, y00, y01, y10, y11, y20, y21]) rfl ⟨X0, Y0, X1, Y1, X2, Y2, rfl, unhide OK0, unhide OK1, unhide OK2, ?_⟩
  iterate 6 refine Below.setCell ?_ (by simp <;> omega) _
  exact unhide W4


end Go.Proofs.YtidafleegkofkaaDoor
