/- A statement of the program's rows that draws its order. -/
import Derived.Test.YtkiplmabjeadgaaGreatAppInQ
import Derived.Test.YtkiplmabjeadgaaGreatInv3Q
namespace Go.Proofs.YtkiplmabjeadgaaGreat
set_option maxRecDepth 100000
set_option maxHeartbeats 16000000
open Go.ChangeShapes Go.WideShapes Go.ChangeAt Go.RowKit
set_option linter.unusedVariables false
set_option linter.unusedSimpArgs false
theorem times_any (x y z : Int) (n : Nat) (w : World) (hx : -24 ≤ x ∧ x ≤ 24) (hy : -24 ≤ y ∧ y ≤ 24) (hz : -24 ≤ z ∧ z ≤ 24) (hn : n ≤ 8) :
  Calls Tryz.prog 252 #[.agg #[.int .i64 x, .int .i64 y, .int .i64 z], .int .i64 (n : Int)] w fun e w' => e = .returned (.agg #[.int .i64 (x * n), .int .i64 (y * n), .int .i64 (z * n)]) ∧ Below w.heap.size w w' := by
 have k : ∀ a : Int, -24 ≤ a ∧ a ≤ 24 → IntKind.i64.wrap (a * (n : Int)) = a * n := by
  intro a ha;refine wrap_i ?_ ?_
  ·have h1 : a * (n : Int) ≥ -24 * (n : Int) := Int.mul_le_mul_of_nonneg_right ha.1 (by omega)
   omega
  ·have h1 : a * (n : Int) ≤ 24 * (n : Int) := Int.mul_le_mul_of_nonneg_right ha.2 (by omega)
   omega
 have kx := k x hx;have ky := k y hy;have kz := k z hz;clear k;go_enter Tryz.func252, Tryz.ntmps252;go_wp2_with fail;refine bodyPost_ret (v := .agg #[.int .i64 (x * n), .int .i64 (y * n), .int .i64 (z * n)]) (by simp [results, Tryz.results252, go_sem]; done) rfl ?_;refine ⟨rfl, ?_⟩
 repeat (first | exact bfl _ _ | refine Below.setCell ?_ (Nat.le_refl _) _ | refine Below.setCell ?_ (by simp) _ | refine ba ?_ _)
theorem lowest_any (b : Bx) (w : World) : Calls Tryz.prog 154 #[bxv b] w fun e w' => e = .returned (.agg #[.int .i64 b.x0, .int .i64 b.y0, .int .i64 b.z0]) ∧ Below w.heap.size w w' := by
 obtain ⟨x0, y0, z0, x1, y1, z1⟩ := b;unfold bxv;simp only;go_enter Tryz.func154, Tryz.ntmps154;go_wp2_with fail;refine bodyPost_ret (v := .agg #[.int .i64 x0, .int .i64 y0, .int .i64 z0]) (by simp [results, Tryz.results154, go_sem]; done) rfl ?_;refine ⟨rfl, ?_⟩
 repeat (first | exact bfl _ _ | refine Below.setCell ?_ (Nat.le_refl _) _ | refine Below.setCell ?_ (by simp) _ | refine ba ?_ _)
theorem bBoxes240_any (b : Bx) (w : World) : Calls Tryz.prog 247 #[bxv b] w fun e w' => (∃ g, e = .returned (.slice (some ⟨g, 0, none⟩) 1 1) ∧ w.heap.size ≤ g ∧ vb w' g 41 (bxc b)) ∧ Below w.heap.size w w' := by
 obtain ⟨x0, y0, z0, x1, y1, z1⟩ := b;unfold bxv bxc;simp only;go_enter Tryz.func247, Tryz.ntmps247;go_wp2_with fail;go_ret;refine ⟨⟨_, rfl, Nat.le_succ _, vb_new _ 41 _ _ (by simp)⟩, ba (ba (bfl _ _) _) _⟩
theorem bBoxes241_any (b : Bx) (w : World) : Calls Tryz.prog 249 #[bxv b] w fun e w' => (∃ g, e = .returned (.slice (some ⟨g, 0, none⟩) 1 1) ∧ w.heap.size ≤ g ∧ vb w' g 41 (bxc b)) ∧ Below w.heap.size w w' := by
 obtain ⟨x0, y0, z0, x1, y1, z1⟩ := b;unfold bxv bxc;simp only;go_enter Tryz.func249, Tryz.ntmps249;go_wp2_with fail;go_ret;refine ⟨⟨_, rfl, Nat.le_succ _, vb_new _ 41 _ _ (by simp)⟩, ba (ba (bfl _ _) _) _⟩
theorem bMoved240_any (b : Bx) (x y z : Int) (w : World) (hb : bxS 100000 b) (hx : -1000 ≤ x ∧ x ≤ 1000) (hy : -1000 ≤ y ∧ y ≤ 1000) (hz : -1000 ≤ z ∧ z ≤ 1000) : Calls Tryz.prog 248 #[bxv b, plv x y z] w fun e w' => e = .returned (.iface 240 (bxv (mvB b x y z))) ∧ Below w.heap.size w w' := by
 have HM := hide (fun W => movedP_any b x y z W hb hx hy hz);clear hb hx hy hz
 obtain ⟨⟨m0, m1, m2, m3, m4, m5⟩, hm⟩ : ∃ q, mvB b x y z = q := ⟨_, rfl⟩
 rw [hm] at HM ⊢;clear hm;obtain ⟨x0, y0, z0, x1, y1, z1⟩ := b;unfold bxv plv at HM ⊢;simp only at HM ⊢;go_enter Tryz.func248, Tryz.ntmps248;go_wp2_with fail;refine (zu HM _).mono ?_;rintro e W ⟨rfl, hb⟩;have HB := hide hb;clear hb;go_wp2_with fail;go_ret;exact ⟨rfl, bc (ba (ba (bfl _ _) _) _) (zu HB)⟩
theorem bMoved241_any (b : Bx) (x y z : Int) (w : World) (hb : bxS 100000 b) (hx : -1000 ≤ x ∧ x ≤ 1000) (hy : -1000 ≤ y ∧ y ≤ 1000) (hz : -1000 ≤ z ∧ z ≤ 1000) : Calls Tryz.prog 250 #[bxv b, plv x y z] w fun e w' => e = .returned (.iface 241 (bxv (mvB b x y z))) ∧ Below w.heap.size w w' := by
 have HM := hide (fun W => movedP_any b x y z W hb hx hy hz);clear hb hx hy hz
 obtain ⟨⟨m0, m1, m2, m3, m4, m5⟩, hm⟩ : ∃ q, mvB b x y z = q := ⟨_, rfl⟩
 rw [hm] at HM ⊢;clear hm;obtain ⟨x0, y0, z0, x1, y1, z1⟩ := b;unfold bxv plv at HM ⊢;simp only at HM ⊢;go_enter Tryz.func250, Tryz.ntmps250;go_wp2_with fail;refine (zu HM _).mono ?_;rintro e W ⟨rfl, hb⟩;have HB := hide hb;clear hb;go_wp2_with fail;go_ret;exact ⟨rfl, bc (ba (ba (bfl _ _) _) _) (zu HB)⟩
theorem as240 (v : Value) (W : World) : (Instr.typeAssert (.iface 240 v) 189 245 true).run Tryz.prog W = .ok (.tuple #[.iface 240 v, .bool true]) W := by kernel_rfl
theorem as241 (v : Value) (W : World) : (Instr.typeAssert (.iface 241 v) 189 245 true).run Tryz.prog W = .ok (.tuple #[.iface 241 v, .bool true]) W := by kernel_rfl
theorem fi240 (v : Value) (W : World) : (Instr.typeAssert (.iface 240 v) 189 240 true).run Tryz.prog W = .ok (.tuple #[v, .bool true]) W := by kernel_rfl
theorem fi241 (v : Value) (W : World) : (Instr.typeAssert (.iface 241 v) 189 240 true).run Tryz.prog W = .ok (.tuple #[.agg #[.int .i64 0, .int .i64 0, .int .i64 0, .int .i64 0, .int .i64 0, .int .i64 0], .bool false]) W := by kernel_rfl
theorem fi243 (v : Value) (W : World) : (Instr.typeAssert (.iface 243 v) 189 240 true).run Tryz.prog W = .ok (.tuple #[.agg #[.int .i64 0, .int .i64 0, .int .i64 0, .int .i64 0, .int .i64 0, .int .i64 0], .bool false]) W := by kernel_rfl
theorem fr241 (v : Value) (W : World) : (Instr.typeAssert (.iface 241 v) 189 243 true).run Tryz.prog W = .ok (.tuple #[.agg #[.nilIface, .int .i64 0, .int .i64 0, .int .i64 0, .int .i64 0], .bool false]) W := by kernel_rfl
theorem fr243 (v : Value) (W : World) : (Instr.typeAssert (.iface 243 v) 189 243 true).run Tryz.prog W = .ok (.tuple #[v, .bool true]) W := by kernel_rfl
theorem me248 (v : Value) (W : World) : (method 410 240 v "loop.example/g00056/impl.moved").run Tryz.prog W = .ok (248, v) W := by kernel_rfl
theorem me250 (v : Value) (W : World) : (method 410 241 v "loop.example/g00056/impl.moved").run Tryz.prog W = .ok (250, v) W := by kernel_rfl
theorem me247 (v : Value) (W : World) : (method 410 240 v "loop.example/g00056/impl.boxes").run Tryz.prog W = .ok (247, v) W := by kernel_rfl
theorem me249 (v : Value) (W : World) : (method 410 241 v "loop.example/g00056/impl.boxes").run Tryz.prog W = .ok (249, v) W := by kernel_rfl
theorem me251 (v : Value) (W : World) : (method 410 243 v "loop.example/g00056/impl.boxes").run Tryz.prog W = .ok (251, v) W := by kernel_rfl
theorem workMoved_any (t : Nat) (b : Bx) (x y z : Int) (w : World) (ht : t = 240 ∨ t = 241) (hb : bxS 100000 b) (hx : -1000 ≤ x ∧ x ≤ 1000) (hy : -1000 ≤ y ∧ y ≤ 1000) (hz : -1000 ≤ z ∧ z ≤ 1000) :
  Calls Tryz.prog 153 #[.iface t (bxv b), plv x y z] w fun e w' => e = .returned (.iface t (bxv (mvB b x y z))) ∧ Below w.heap.size w w' := by
 rcases ht with rfl | rfl
 ·have has := as240
  have hme := me248;have HM := hide (fun W => bMoved240_any b x y z W hb hx hy hz);clear hb hx hy hz
  obtain ⟨bv, hv⟩ : ∃ q, bxv b = q := ⟨_, rfl⟩
  rw [hv] at HM ⊢;unfold plv at HM ⊢;go_enter Tryz.func153, Tryz.ntmps153;go_wp2_with fail;refine (zu HM _).mono ?_;rintro e W ⟨rfl, hb⟩;have HB := hide hb;clear hb;go_wp2_with fail;go_ret;exact ⟨rfl, bc (ba (bfl _ _) _) (zu HB)⟩
 ·have has := as241
  have hme := me250;have HM := hide (fun W => bMoved241_any b x y z W hb hx hy hz);clear hb hx hy hz
  obtain ⟨bv, hv⟩ : ∃ q, bxv b = q := ⟨_, rfl⟩
  rw [hv] at HM ⊢;unfold plv at HM ⊢;go_enter Tryz.func153, Tryz.ntmps153;go_wp2_with fail;refine (zu HM _).mono ?_;rintro e W ⟨rfl, hb⟩;have HB := hide hb;clear hb;go_wp2_with fail;go_ret;exact ⟨rfl, bc (ba (bfl _ _) _) (zu HB)⟩
noncomputable def rg251 (id : Nat) : Go.Code := match Tryz.f251.body with | some c => (regOfZ id c).getD .skip | none => .skip
def One (L : List Value) (W : World) (v : Value) : Prop := ∃ g, v = .slice (some ⟨g, 0, none⟩) 1 1 ∧ vb W g 41 L
theorem One.bel {L : List Value} {W W' : World} {v : Value} (h : One L W v) (hb : Below W.heap.size W W') : One L W' v := by
 obtain ⟨g, e, h⟩ := h;exact ⟨g, e, h.bel hb⟩
theorem wk5b {s0 s2 s5 s6 s7 s8 s9 s10 s11 s12 s13 s14 s15 s16 s17 s18 s19 s20 s21 s22 : Value} {gr m t B t1 : Nat} {x y z tx ty tz : Int} {vo vi bv : Value} {L L1 : List Value} {V : World} {K_ : Act → World → Prop} (HR : Hid (V.ownsRow B 41 6 vo m L)) (hBV : B ≤ V.heap.size) (hm : m ≤ 1000) (HL1 : Hid (L1.length = 6)) (HOC : Hid (∀ u ∈ L1, u.oneCell' = true))
  (HC0 : Hid (V.cell? ⟨gr, 0, none⟩ = some (vi))) (HC2 : Hid (V.cell? ⟨gr, 2, none⟩ = some (.int .i64 (x)))) (HC3 : Hid (V.cell? ⟨gr, 3, none⟩ = some (.int .i64 (y)))) (HC4 : Hid (V.cell? ⟨gr, 4, none⟩ = some (.int .i64 (z))))
  (HW6 : Hid (IntKind.i64.wrap ((t : Int) + 1) = (t1 : Int)))
  (HF7 : Hid (∀ Xw, Below V.heap.size V Xw → Calls Tryz.prog 252 #[.agg #[.int .i64 (x), .int .i64 (y), .int .i64 (z)], .int .i64 (t1 : Int)] Xw fun e w' => e = .returned (.agg #[.int .i64 (tx), .int .i64 (ty), .int .i64 (tz)]) ∧ Below Xw.heap.size Xw w'))
  (HF8 : Hid (∀ Xw, Below V.heap.size V Xw → Calls Tryz.prog 153 #[vi, .agg #[.int .i64 (tx), .int .i64 (ty), .int .i64 (tz)]] Xw fun e w' => e = .returned (.iface 240 bv) ∧ Below Xw.heap.size Xw w'))
  (HF9 : Hid (∀ Xw, Below V.heap.size V Xw → Calls Tryz.prog 247 #[bv] Xw fun e w' => (∃ r_, e = .returned (r_) ∧ One L1 w' r_) ∧ Below Xw.heap.size Xw w'))
  (hQ : ∀  (vq : Value) (rr : Value) (W1 W9 : World), Below V.heap.size V W1 → W9.ownsRow B 41 6 rr (m + 1) (L ++ L1) → W1.grownBy W9 vo.ownBlock → K_ { tmps := #[s0, .pointer (some ⟨gr, 0, none⟩), s2, rr, .int .i64 (t : Int), s5, s6, s7, s8, s9, vo, .pointer (some ⟨gr, 0, none⟩), vi, .pointer (some ⟨gr, 2, none⟩), .agg #[.int .i64 (x), .int .i64 (y), .int .i64 (z)], .int .i64 (t : Int), .int .i64 (t1 : Int), .agg #[.int .i64 (tx), .int .i64 (ty), .int .i64 (tz)], .iface 240 bv, vq, rr, s21, s22], defers := [] } W9) :
  Go.Code.wp Tryz.prog (rg251 5) (Only K_) { tmps := #[s0, .pointer (some ⟨gr, 0, none⟩), s2, vo, .int .i64 (t : Int), s5, s6, s7, s8, s9, s10, s11, s12, s13, s14, s15, s16, s17, s18, s19, s20, s21, s22], defers := [] } V := by
 have HQ := hide hQ;clear hQ;obtain ⟨iT, ht, hy0, hy1, hy2⟩ := info_parts info65
 conv => arg 2; whnf
 refine wp_region_inv2 (fun Lb A W => ∃ (u0 u1 u2 u3 u4 u5 u6 u7 u8 u9 u10 u11 : Bool) (rr : Value) (vq : Value), Lb = #[u0, u1, u2, u3, u4, u5, u6, u7, u8, u9, u10, u11] ∧ A = ({ tmps := #[s0, .pointer (some ⟨gr, 0, none⟩), s2, (bif u11 then rr else vo), .int .i64 (t : Int), s5, s6, s7, s8, s9, (bif u0 then vo else s10), (bif u1 then .pointer (some ⟨gr, 0, none⟩) else s11), (bif u2 then vi else s12), (bif u3 then .pointer (some ⟨gr, 2, none⟩) else s13), (bif u4 then .agg #[.int .i64 (x), .int .i64 (y), .int .i64 (z)] else s14), (bif u5 then .int .i64 (t : Int) else s15), (bif u6 then .int .i64 (t1 : Int) else s16), (bif u7 then .agg #[.int .i64 (tx), .int .i64 (ty), .int .i64 (tz)] else s17), (bif u8 then .iface 240 bv else s18), (bif u9 then vq else s19), (bif u10 then rr else s20), s21, s22], defers := [] } : Act) ∧ (u10 = false → Below V.heap.size V W) ∧ (u10 = true → ∃ W1, Below V.heap.size V W1 ∧ W.ownsRow B 41 6 rr (m + 1) (L ++ L1) ∧ W1.grownBy W vo.ownBlock) ∧ (u9 = true → u10 = false → One L1 W vq) ∧ (u2 = true → u1 = true) ∧ (u4 = true → u3 = true) ∧ (u6 = true → u5 = true) ∧ (u7 = true → u4 = true ∧ u6 = true) ∧ (u8 = true → u2 = true ∧ u7 = true) ∧ (u9 = true → u8 = true) ∧ (u10 = true → u0 = true ∧ u9 = true) ∧ (u11 = true → u0 = true ∧ u1 = true ∧ u2 = true ∧ u3 = true ∧ u4 = true ∧ u5 = true ∧ u6 = true ∧ u7 = true ∧ u8 = true ∧ u9 = true ∧ u10 = true)) (by kernel_rfl) (by kernel_rfl) ?h0 ?hstep ?hend
 case h0 =>
  exact ⟨false, false, false, false, false, false, false, false, false, false, false, false, undef, undef, rfl, rfl, (fun _ => Below.drew (bfl _ _)), zf, zf, zf, zf, zf, zf, zf, zf, zf, zf⟩
 case hstep =>
  intro Lb A W hI;obtain ⟨u0, u1, u2, u3, u4, hI⟩ := hI;obtain ⟨u5, u6, u7, u8, u9, hI⟩ := hI;obtain ⟨u10, u11, rr, vq, hI⟩ := hI;obtain ⟨hLb, hI⟩ := hI;obtain ⟨hA, hI⟩ := hI;obtain ⟨kB, hI⟩ := hI;obtain ⟨kZ, hI⟩ := hI;obtain ⟨kx9, hI⟩ := hI;obtain ⟨l2, hI⟩ := hI;obtain ⟨l4, hI⟩ := hI;obtain ⟨l6, hI⟩ := hI;obtain ⟨l7, hI⟩ := hI;obtain ⟨l8, hI⟩ := hI;obtain ⟨l9, hI⟩ := hI;obtain ⟨l10, hI⟩ := hI;have kF := hI;clear hI;subst hLb;subst hA;replace kB := hide kB;replace kZ := hide kZ;replace kx9 := hide kx9;replace l2 := hide l2;replace l4 := hide l4;replace l6 := hide l6;replace l7 := hide l7
  replace l8 := hide l8;replace l9 := hide l9;replace l10 := hide l10;replace kF := hide kF;refine ⟨?_, ?_, ?_, ?_, ?_, ?_, ?_, ?_, ?_, ?_, ?_, ?_, trivial⟩
  ·intro h0 hd K hK
   have z : u0 = false := h0;have z11_ : u11 = false := znb fun hu => z.symm.trans ((zu kF hu).1)
   have z10_ : u10 = false := znb fun hu => z.symm.trans ((zu l10 hu).1)
   subst z11_;subst z10_;subst z;clear h0 hd;rw [if_pos (by rfl)];go_simp;exact zu hK _ _ ⟨true, u1, u2, u3, u4, u5, u6, u7, u8, u9, false, false, rr, vq, rfl, rfl, zu kB, zf, zu kx9, zu l2, zu l4, zu l6, zu l7, zu l8, zu l9, zf, zf⟩
  ·intro h0 hd K hK
   have z : u1 = false := h0;have z11_ : u11 = false := znb fun hu => z.symm.trans ((zu kF hu).2.1)
   have z10_ : u10 = false := znb fun hu => z.symm.trans ((zu l2 (zu l8 (zu l9 (zu l10 hu).2)).1))
   subst z11_;subst z10_;subst z;clear h0 hd;rw [if_pos (by rfl)];go_simp;exact zu hK _ _ ⟨u0, true, u2, u3, u4, u5, u6, u7, u8, u9, false, false, rr, vq, rfl, rfl, zu kB, zf, zu kx9, (fun h => rfl), zu l4, zu l6, zu l7, zu l8, zu l9, zf, zf⟩
  ·intro h0 hd K hK
   have z : u2 = false := h0;have z11_ : u11 = false := znb fun hu => z.symm.trans ((zu kF hu).2.2.1)
   have z10_ : u10 = false := znb fun hu => z.symm.trans ((zu l8 (zu l9 (zu l10 hu).2)).1)
   obtain ⟨rfl⟩ : u1 = true := by simp [Region.binds] at hd; simp [hd]
   subst z11_;subst z10_;subst z;clear h0 hd;rw [if_pos (by rfl)];have c0 := keep1 (zu kB rfl) (zu HC0);go_simp;exact zu hK _ _ ⟨u0, true, true, u3, u4, u5, u6, u7, u8, u9, false, false, rr, vq, rfl, rfl, zu kB, zf, zu kx9, (fun _ => rfl), zu l4, zu l6, zu l7, (fun h => ⟨rfl, (zu l8 h).2⟩), zu l9, zf, zf⟩
  ·intro h0 hd K hK
   have z : u3 = false := h0;have z11_ : u11 = false := znb fun hu => z.symm.trans ((zu kF hu).2.2.2.1)
   have z10_ : u10 = false := znb fun hu => z.symm.trans ((zu l4 (zu l7 (zu l8 (zu l9 (zu l10 hu).2)).2).1))
   subst z11_;subst z10_;subst z;clear h0 hd;rw [if_pos (by rfl)];go_simp;exact zu hK _ _ ⟨u0, u1, u2, true, u4, u5, u6, u7, u8, u9, false, false, rr, vq, rfl, rfl, zu kB, zf, zu kx9, zu l2, (fun h => rfl), zu l6, zu l7, zu l8, zu l9, zf, zf⟩
  ·intro h0 hd K hK
   have z : u4 = false := h0;have z11_ : u11 = false := znb fun hu => z.symm.trans ((zu kF hu).2.2.2.2.1)
   have z10_ : u10 = false := znb fun hu => z.symm.trans ((zu l7 (zu l8 (zu l9 (zu l10 hu).2)).2).1)
   obtain ⟨rfl⟩ : u3 = true := by simp [Region.binds] at hd; simp [hd]
   subst z11_;subst z10_;subst z;clear h0 hd;rw [if_pos (by rfl)];have c0 := keep1 (zu kB rfl) (zu HC2);have c1 := keep1 (zu kB rfl) (zu HC3);have c2 := keep1 (zu kB rfl) (zu HC4);go_simp;exact zu hK _ _ ⟨u0, u1, u2, true, true, u5, u6, u7, u8, u9, false, false, rr, vq, rfl, rfl, zu kB, zf, zu kx9, zu l2, (fun _ => rfl), zu l6, (fun h => ⟨rfl, (zu l7 h).2⟩), zu l8, zu l9, zf, zf⟩
  ·intro h0 hd K hK
   have z : u5 = false := h0;have z11_ : u11 = false := znb fun hu => z.symm.trans ((zu kF hu).2.2.2.2.2.1)
   have z10_ : u10 = false := znb fun hu => z.symm.trans ((zu l6 (zu l7 (zu l8 (zu l9 (zu l10 hu).2)).2).2))
   subst z11_;subst z10_;subst z;clear h0 hd;rw [if_pos (by rfl)];go_simp;exact zu hK _ _ ⟨u0, u1, u2, u3, u4, true, u6, u7, u8, u9, false, false, rr, vq, rfl, rfl, zu kB, zf, zu kx9, zu l2, zu l4, (fun h => rfl), zu l7, zu l8, zu l9, zf, zf⟩
  ·intro h0 hd K hK
   have z : u6 = false := h0;have z11_ : u11 = false := znb fun hu => z.symm.trans ((zu kF hu).2.2.2.2.2.2.1)
   have z10_ : u10 = false := znb fun hu => z.symm.trans ((zu l7 (zu l8 (zu l9 (zu l10 hu).2)).2).2)
   obtain ⟨rfl⟩ : u5 = true := by simp [Region.binds] at hd; simp [hd]
   subst z11_;subst z10_;subst z;clear h0 hd;rw [if_pos (by rfl)];have wq := zu HW6;go_simp;exact zu hK _ _ ⟨u0, u1, u2, u3, u4, true, true, u7, u8, u9, false, false, rr, vq, rfl, rfl, zu kB, zf, zu kx9, zu l2, zu l4, (fun _ => rfl), (fun h => ⟨(zu l7 h).1, rfl⟩), zu l8, zu l9, zf, zf⟩
  ·intro h0 hd K hK
   have z : u7 = false := h0;have z11_ : u11 = false := znb fun hu => z.symm.trans ((zu kF hu).2.2.2.2.2.2.2.1)
   have z10_ : u10 = false := znb fun hu => z.symm.trans ((zu l8 (zu l9 (zu l10 hu).2)).2)
   obtain ⟨rfl, rfl⟩ : u4 = true ∧ u6 = true := by simp [Region.binds] at hd; simp [hd]
   subst z11_;subst z10_;subst z;clear h0 hd;rw [if_pos (by rfl)];go_simp;refine (zu HF7 W (zu kB rfl)).mono ?_;rintro e w8 ⟨rfl, hb8⟩;exact zu hK _ _ ⟨u0, u1, u2, u3, true, u5, true, true, u8, u9, false, false, rr, vq, rfl, rfl, (fun _ => bc (zu kB rfl) hb8), zf, (fun h h2 => One.bel (zu kx9 h h2) hb8), zu l2, zu l4, zu l6, (fun _ => ⟨rfl, rfl⟩), (fun h => ⟨(zu l8 h).1, rfl⟩), zu l9, zf, zf⟩
  ·intro h0 hd K hK
   have z : u8 = false := h0;have z11_ : u11 = false := znb fun hu => z.symm.trans ((zu kF hu).2.2.2.2.2.2.2.2.1)
   have z10_ : u10 = false := znb fun hu => z.symm.trans ((zu l9 (zu l10 hu).2))
   obtain ⟨rfl, rfl⟩ : u2 = true ∧ u7 = true := by simp [Region.binds] at hd; simp [hd]
   subst z11_;subst z10_;subst z;clear h0 hd;rw [if_pos (by rfl)];go_simp;refine (zu HF8 W (zu kB rfl)).mono ?_;rintro e w8 ⟨rfl, hb8⟩;exact zu hK _ _ ⟨u0, u1, true, u3, u4, u5, u6, true, true, u9, false, false, rr, vq, rfl, rfl, (fun _ => bc (zu kB rfl) hb8), zf, (fun h h2 => One.bel (zu kx9 h h2) hb8), zu l2, zu l4, zu l6, zu l7, (fun _ => ⟨rfl, rfl⟩), (fun h => rfl), zf, zf⟩
  ·intro h0 hd K hK
   have z : u9 = false := h0;have z11_ : u11 = false := znb fun hu => z.symm.trans ((zu kF hu).2.2.2.2.2.2.2.2.2.1)
   have z10_ : u10 = false := znb fun hu => z.symm.trans ((zu l10 hu).2)
   obtain ⟨rfl⟩ : u8 = true := by simp [Region.binds] at hd; simp [hd]
   subst z11_;subst z10_;subst z;clear h0 hd;rw [if_pos (by rfl)];have hme := me247;go_simp;refine (zu HF9 W (zu kB rfl)).mono ?_;rintro e w8 ⟨⟨r_, rfl, hr_⟩, hb8⟩;exact zu hK _ _ ⟨u0, u1, u2, u3, u4, u5, u6, u7, true, true, false, false, rr, r_, rfl, rfl, (fun _ => bc (zu kB rfl) hb8), zf, (fun _ _ => hr_), zu l2, zu l4, zu l6, zu l7, zu l8, (fun _ => rfl), zf, zf⟩
  ·intro h0 hd K hK
   have z : u10 = false := h0;have z11_ : u11 = false := znb fun hu => z.symm.trans ((zu kF hu).2.2.2.2.2.2.2.2.2.2)
   obtain ⟨rfl, rfl⟩ : u0 = true ∧ u9 = true := by simp [Region.binds] at hd; simp [hd]
   subst z11_;subst z;clear h0 hd;rw [if_pos (by rfl)];obtain ⟨g9, hv9, h7⟩ := zu kx9 rfl rfl;subst hv9
   have hb := (zu kB rfl)
   refine wp_append_own W (.tmp 10) (.tmp 19) 148 (by rfl) B 41 iT _ 6 48 Tryz.underlying148 ht hy0 hy1 hy2 rfl (by decide) vo m L (by rfl) (own_bel (zu HR) hb) ⟨g9, 0, none⟩ 1 1 L1 (by rfl) (by rw [zu HL1]) (fun j u hj => by rw [add_none, Nat.zero_add]; exact h7.cell hj) (zu HOC) (by unfold maxLen; omega) (by omega) (Nat.le_trans hBV hb.size) ?_;intro r8' w1 hown' hgrow _;have R9 := hown'
   exact zu hK _ _ ⟨true, u1, u2, u3, u4, u5, u6, u7, u8, true, true, false, r8', (.slice (some ⟨g9, 0, none⟩) 1 1), rfl, rfl, zt, (fun _ => ⟨W, hb, R9, hgrow⟩), (fun _ => zt), zu l2, zu l4, zu l6, zu l7, zu l8, zu l9, (fun _ => ⟨rfl, rfl⟩), zf⟩
  ·intro h0 hd K hK
   have z : u11 = false := h0
   have zd0 : u0 = true ∧ u1 = true ∧ u2 = true ∧ u3 = true ∧ u4 = true ∧ u5 = true ∧ u6 = true ∧ u7 = true ∧ u8 = true ∧ u9 = true ∧ u10 = true := by
    simp [Region.binds] at hd;simp [hd]
   have zd : u0 = true ∧ u1 = true ∧ u2 = true ∧ u3 = true ∧ u4 = true ∧ u5 = true ∧ u6 = true ∧ u7 = true ∧ u8 = true ∧ u9 = true ∧ u10 = true := ⟨zd0.1, zd0.2.1, zd0.2.2.1, zd0.2.2.2.1, zd0.2.2.2.2.1, zd0.2.2.2.2.2.1, zd0.2.2.2.2.2.2.1, zd0.2.2.2.2.2.2.2.1, zd0.2.2.2.2.2.2.2.2.1, zd0.2.2.2.2.2.2.2.2.2.1, zd0.2.2.2.2.2.2.2.2.2.2⟩
   obtain ⟨rfl, rfl, rfl, rfl, rfl, rfl, rfl, rfl, rfl, rfl, rfl⟩ := zd;subst z;clear h0 hd;rw [if_pos (by rfl)];go_simp;exact zu hK _ _ ⟨true, true, true, true, true, true, true, true, true, true, true, true, rr, vq, rfl, rfl, zu kB, zu kZ, (fun _ => zt), (fun _ => rfl), (fun _ => rfl), (fun _ => rfl), (fun _ => ⟨rfl, rfl⟩), (fun _ => ⟨rfl, rfl⟩), (fun _ => rfl), (fun _ => ⟨rfl, rfl⟩), (fun _ => ⟨rfl, rfl, rfl, rfl, rfl, rfl, rfl, rfl, rfl, rfl, rfl⟩)⟩
 case hend =>
  intro Lb A W hI;obtain ⟨u0, u1, u2, u3, u4, hI⟩ := hI;obtain ⟨u5, u6, u7, u8, u9, hI⟩ := hI;obtain ⟨u10, u11, rr, vq, hI⟩ := hI;obtain ⟨hLb, hI⟩ := hI;obtain ⟨hA, hI⟩ := hI;obtain ⟨kB, hI⟩ := hI;obtain ⟨kZ, hI⟩ := hI;obtain ⟨kx9, hI⟩ := hI;obtain ⟨l2, hI⟩ := hI;obtain ⟨l4, hI⟩ := hI;obtain ⟨l6, hI⟩ := hI;obtain ⟨l7, hI⟩ := hI;obtain ⟨l8, hI⟩ := hI;obtain ⟨l9, hI⟩ := hI;obtain ⟨l10, hI⟩ := hI;have kF := hI;clear hI;subst hLb;subst hA;intro hL
  have hl : u0 = true ∧ u1 = true ∧ u2 = true ∧ u3 = true ∧ u4 = true ∧ u5 = true ∧ u6 = true ∧ u7 = true ∧ u8 = true ∧ u9 = true ∧ u10 = true ∧ u11 = true := by
   have h2 := congrArg Array.toList hL
   simpa [List.replicate] using h2
  obtain ⟨rfl, rfl, rfl, rfl, rfl, rfl, rfl, rfl, rfl, rfl, rfl, rfl⟩ := hl;obtain ⟨W1, hA, hZ, hG⟩ := kZ rfl;exact zu HQ  vq rr W1 W hA hZ hG
theorem wk5p {s0 s2 s5 s6 s7 s8 s9 s10 s11 s12 s13 s14 s15 s16 s17 s18 s19 s20 s21 s22 : Value} {gr m t B t1 : Nat} {x y z tx ty tz : Int} {vo vi bv : Value} {L L1 : List Value} {V : World} {K_ : Act → World → Prop} (HR : Hid (V.ownsRow B 41 6 vo m L)) (hBV : B ≤ V.heap.size) (hm : m ≤ 1000) (HL1 : Hid (L1.length = 6)) (HOC : Hid (∀ u ∈ L1, u.oneCell' = true))
  (HC0 : Hid (V.cell? ⟨gr, 0, none⟩ = some (vi))) (HC2 : Hid (V.cell? ⟨gr, 2, none⟩ = some (.int .i64 (x)))) (HC3 : Hid (V.cell? ⟨gr, 3, none⟩ = some (.int .i64 (y)))) (HC4 : Hid (V.cell? ⟨gr, 4, none⟩ = some (.int .i64 (z))))
  (HW6 : Hid (IntKind.i64.wrap ((t : Int) + 1) = (t1 : Int)))
  (HF7 : Hid (∀ Xw, Below V.heap.size V Xw → Calls Tryz.prog 252 #[.agg #[.int .i64 (x), .int .i64 (y), .int .i64 (z)], .int .i64 (t1 : Int)] Xw fun e w' => e = .returned (.agg #[.int .i64 (tx), .int .i64 (ty), .int .i64 (tz)]) ∧ Below Xw.heap.size Xw w'))
  (HF8 : Hid (∀ Xw, Below V.heap.size V Xw → Calls Tryz.prog 153 #[vi, .agg #[.int .i64 (tx), .int .i64 (ty), .int .i64 (tz)]] Xw fun e w' => e = .returned (.iface 241 bv) ∧ Below Xw.heap.size Xw w'))
  (HF9 : Hid (∀ Xw, Below V.heap.size V Xw → Calls Tryz.prog 249 #[bv] Xw fun e w' => (∃ r_, e = .returned (r_) ∧ One L1 w' r_) ∧ Below Xw.heap.size Xw w'))
  (hQ : ∀  (vq : Value) (rr : Value) (W1 W9 : World), Below V.heap.size V W1 → W9.ownsRow B 41 6 rr (m + 1) (L ++ L1) → W1.grownBy W9 vo.ownBlock → K_ { tmps := #[s0, .pointer (some ⟨gr, 0, none⟩), s2, rr, .int .i64 (t : Int), s5, s6, s7, s8, s9, vo, .pointer (some ⟨gr, 0, none⟩), vi, .pointer (some ⟨gr, 2, none⟩), .agg #[.int .i64 (x), .int .i64 (y), .int .i64 (z)], .int .i64 (t : Int), .int .i64 (t1 : Int), .agg #[.int .i64 (tx), .int .i64 (ty), .int .i64 (tz)], .iface 241 bv, vq, rr, s21, s22], defers := [] } W9) :
  Go.Code.wp Tryz.prog (rg251 5) (Only K_) { tmps := #[s0, .pointer (some ⟨gr, 0, none⟩), s2, vo, .int .i64 (t : Int), s5, s6, s7, s8, s9, s10, s11, s12, s13, s14, s15, s16, s17, s18, s19, s20, s21, s22], defers := [] } V := by
 have HQ := hide hQ;clear hQ;obtain ⟨iT, ht, hy0, hy1, hy2⟩ := info_parts info65
 conv => arg 2; whnf
 refine wp_region_inv2 (fun Lb A W => ∃ (u0 u1 u2 u3 u4 u5 u6 u7 u8 u9 u10 u11 : Bool) (rr : Value) (vq : Value), Lb = #[u0, u1, u2, u3, u4, u5, u6, u7, u8, u9, u10, u11] ∧ A = ({ tmps := #[s0, .pointer (some ⟨gr, 0, none⟩), s2, (bif u11 then rr else vo), .int .i64 (t : Int), s5, s6, s7, s8, s9, (bif u0 then vo else s10), (bif u1 then .pointer (some ⟨gr, 0, none⟩) else s11), (bif u2 then vi else s12), (bif u3 then .pointer (some ⟨gr, 2, none⟩) else s13), (bif u4 then .agg #[.int .i64 (x), .int .i64 (y), .int .i64 (z)] else s14), (bif u5 then .int .i64 (t : Int) else s15), (bif u6 then .int .i64 (t1 : Int) else s16), (bif u7 then .agg #[.int .i64 (tx), .int .i64 (ty), .int .i64 (tz)] else s17), (bif u8 then .iface 241 bv else s18), (bif u9 then vq else s19), (bif u10 then rr else s20), s21, s22], defers := [] } : Act) ∧ (u10 = false → Below V.heap.size V W) ∧ (u10 = true → ∃ W1, Below V.heap.size V W1 ∧ W.ownsRow B 41 6 rr (m + 1) (L ++ L1) ∧ W1.grownBy W vo.ownBlock) ∧ (u9 = true → u10 = false → One L1 W vq) ∧ (u2 = true → u1 = true) ∧ (u4 = true → u3 = true) ∧ (u6 = true → u5 = true) ∧ (u7 = true → u4 = true ∧ u6 = true) ∧ (u8 = true → u2 = true ∧ u7 = true) ∧ (u9 = true → u8 = true) ∧ (u10 = true → u0 = true ∧ u9 = true) ∧ (u11 = true → u0 = true ∧ u1 = true ∧ u2 = true ∧ u3 = true ∧ u4 = true ∧ u5 = true ∧ u6 = true ∧ u7 = true ∧ u8 = true ∧ u9 = true ∧ u10 = true)) (by kernel_rfl) (by kernel_rfl) ?h0 ?hstep ?hend
 case h0 =>
  exact ⟨false, false, false, false, false, false, false, false, false, false, false, false, undef, undef, rfl, rfl, (fun _ => Below.drew (bfl _ _)), zf, zf, zf, zf, zf, zf, zf, zf, zf, zf⟩
 case hstep =>
  intro Lb A W hI;obtain ⟨u0, u1, u2, u3, u4, hI⟩ := hI;obtain ⟨u5, u6, u7, u8, u9, hI⟩ := hI;obtain ⟨u10, u11, rr, vq, hI⟩ := hI;obtain ⟨hLb, hI⟩ := hI;obtain ⟨hA, hI⟩ := hI;obtain ⟨kB, hI⟩ := hI;obtain ⟨kZ, hI⟩ := hI;obtain ⟨kx9, hI⟩ := hI;obtain ⟨l2, hI⟩ := hI;obtain ⟨l4, hI⟩ := hI;obtain ⟨l6, hI⟩ := hI;obtain ⟨l7, hI⟩ := hI;obtain ⟨l8, hI⟩ := hI;obtain ⟨l9, hI⟩ := hI;obtain ⟨l10, hI⟩ := hI;have kF := hI;clear hI;subst hLb;subst hA;replace kB := hide kB;replace kZ := hide kZ;replace kx9 := hide kx9;replace l2 := hide l2;replace l4 := hide l4;replace l6 := hide l6;replace l7 := hide l7
  replace l8 := hide l8;replace l9 := hide l9;replace l10 := hide l10;replace kF := hide kF;refine ⟨?_, ?_, ?_, ?_, ?_, ?_, ?_, ?_, ?_, ?_, ?_, ?_, trivial⟩
  ·intro h0 hd K hK
   have z : u0 = false := h0;have z11_ : u11 = false := znb fun hu => z.symm.trans ((zu kF hu).1)
   have z10_ : u10 = false := znb fun hu => z.symm.trans ((zu l10 hu).1)
   subst z11_;subst z10_;subst z;clear h0 hd;rw [if_pos (by rfl)];go_simp;exact zu hK _ _ ⟨true, u1, u2, u3, u4, u5, u6, u7, u8, u9, false, false, rr, vq, rfl, rfl, zu kB, zf, zu kx9, zu l2, zu l4, zu l6, zu l7, zu l8, zu l9, zf, zf⟩
  ·intro h0 hd K hK
   have z : u1 = false := h0;have z11_ : u11 = false := znb fun hu => z.symm.trans ((zu kF hu).2.1)
   have z10_ : u10 = false := znb fun hu => z.symm.trans ((zu l2 (zu l8 (zu l9 (zu l10 hu).2)).1))
   subst z11_;subst z10_;subst z;clear h0 hd;rw [if_pos (by rfl)];go_simp;exact zu hK _ _ ⟨u0, true, u2, u3, u4, u5, u6, u7, u8, u9, false, false, rr, vq, rfl, rfl, zu kB, zf, zu kx9, (fun h => rfl), zu l4, zu l6, zu l7, zu l8, zu l9, zf, zf⟩
  ·intro h0 hd K hK
   have z : u2 = false := h0;have z11_ : u11 = false := znb fun hu => z.symm.trans ((zu kF hu).2.2.1)
   have z10_ : u10 = false := znb fun hu => z.symm.trans ((zu l8 (zu l9 (zu l10 hu).2)).1)
   obtain ⟨rfl⟩ : u1 = true := by simp [Region.binds] at hd; simp [hd]
   subst z11_;subst z10_;subst z;clear h0 hd;rw [if_pos (by rfl)];have c0 := keep1 (zu kB rfl) (zu HC0);go_simp;exact zu hK _ _ ⟨u0, true, true, u3, u4, u5, u6, u7, u8, u9, false, false, rr, vq, rfl, rfl, zu kB, zf, zu kx9, (fun _ => rfl), zu l4, zu l6, zu l7, (fun h => ⟨rfl, (zu l8 h).2⟩), zu l9, zf, zf⟩
  ·intro h0 hd K hK
   have z : u3 = false := h0;have z11_ : u11 = false := znb fun hu => z.symm.trans ((zu kF hu).2.2.2.1)
   have z10_ : u10 = false := znb fun hu => z.symm.trans ((zu l4 (zu l7 (zu l8 (zu l9 (zu l10 hu).2)).2).1))
   subst z11_;subst z10_;subst z;clear h0 hd;rw [if_pos (by rfl)];go_simp;exact zu hK _ _ ⟨u0, u1, u2, true, u4, u5, u6, u7, u8, u9, false, false, rr, vq, rfl, rfl, zu kB, zf, zu kx9, zu l2, (fun h => rfl), zu l6, zu l7, zu l8, zu l9, zf, zf⟩
  ·intro h0 hd K hK
   have z : u4 = false := h0;have z11_ : u11 = false := znb fun hu => z.symm.trans ((zu kF hu).2.2.2.2.1)
   have z10_ : u10 = false := znb fun hu => z.symm.trans ((zu l7 (zu l8 (zu l9 (zu l10 hu).2)).2).1)
   obtain ⟨rfl⟩ : u3 = true := by simp [Region.binds] at hd; simp [hd]
   subst z11_;subst z10_;subst z;clear h0 hd;rw [if_pos (by rfl)];have c0 := keep1 (zu kB rfl) (zu HC2);have c1 := keep1 (zu kB rfl) (zu HC3);have c2 := keep1 (zu kB rfl) (zu HC4);go_simp;exact zu hK _ _ ⟨u0, u1, u2, true, true, u5, u6, u7, u8, u9, false, false, rr, vq, rfl, rfl, zu kB, zf, zu kx9, zu l2, (fun _ => rfl), zu l6, (fun h => ⟨rfl, (zu l7 h).2⟩), zu l8, zu l9, zf, zf⟩
  ·intro h0 hd K hK
   have z : u5 = false := h0;have z11_ : u11 = false := znb fun hu => z.symm.trans ((zu kF hu).2.2.2.2.2.1)
   have z10_ : u10 = false := znb fun hu => z.symm.trans ((zu l6 (zu l7 (zu l8 (zu l9 (zu l10 hu).2)).2).2))
   subst z11_;subst z10_;subst z;clear h0 hd;rw [if_pos (by rfl)];go_simp;exact zu hK _ _ ⟨u0, u1, u2, u3, u4, true, u6, u7, u8, u9, false, false, rr, vq, rfl, rfl, zu kB, zf, zu kx9, zu l2, zu l4, (fun h => rfl), zu l7, zu l8, zu l9, zf, zf⟩
  ·intro h0 hd K hK
   have z : u6 = false := h0;have z11_ : u11 = false := znb fun hu => z.symm.trans ((zu kF hu).2.2.2.2.2.2.1)
   have z10_ : u10 = false := znb fun hu => z.symm.trans ((zu l7 (zu l8 (zu l9 (zu l10 hu).2)).2).2)
   obtain ⟨rfl⟩ : u5 = true := by simp [Region.binds] at hd; simp [hd]
   subst z11_;subst z10_;subst z;clear h0 hd;rw [if_pos (by rfl)];have wq := zu HW6;go_simp;exact zu hK _ _ ⟨u0, u1, u2, u3, u4, true, true, u7, u8, u9, false, false, rr, vq, rfl, rfl, zu kB, zf, zu kx9, zu l2, zu l4, (fun _ => rfl), (fun h => ⟨(zu l7 h).1, rfl⟩), zu l8, zu l9, zf, zf⟩
  ·intro h0 hd K hK
   have z : u7 = false := h0;have z11_ : u11 = false := znb fun hu => z.symm.trans ((zu kF hu).2.2.2.2.2.2.2.1)
   have z10_ : u10 = false := znb fun hu => z.symm.trans ((zu l8 (zu l9 (zu l10 hu).2)).2)
   obtain ⟨rfl, rfl⟩ : u4 = true ∧ u6 = true := by simp [Region.binds] at hd; simp [hd]
   subst z11_;subst z10_;subst z;clear h0 hd;rw [if_pos (by rfl)];go_simp;refine (zu HF7 W (zu kB rfl)).mono ?_;rintro e w8 ⟨rfl, hb8⟩;exact zu hK _ _ ⟨u0, u1, u2, u3, true, u5, true, true, u8, u9, false, false, rr, vq, rfl, rfl, (fun _ => bc (zu kB rfl) hb8), zf, (fun h h2 => One.bel (zu kx9 h h2) hb8), zu l2, zu l4, zu l6, (fun _ => ⟨rfl, rfl⟩), (fun h => ⟨(zu l8 h).1, rfl⟩), zu l9, zf, zf⟩
  ·intro h0 hd K hK
   have z : u8 = false := h0;have z11_ : u11 = false := znb fun hu => z.symm.trans ((zu kF hu).2.2.2.2.2.2.2.2.1)
   have z10_ : u10 = false := znb fun hu => z.symm.trans ((zu l9 (zu l10 hu).2))
   obtain ⟨rfl, rfl⟩ : u2 = true ∧ u7 = true := by simp [Region.binds] at hd; simp [hd]
   subst z11_;subst z10_;subst z;clear h0 hd;rw [if_pos (by rfl)];go_simp;refine (zu HF8 W (zu kB rfl)).mono ?_;rintro e w8 ⟨rfl, hb8⟩;exact zu hK _ _ ⟨u0, u1, true, u3, u4, u5, u6, true, true, u9, false, false, rr, vq, rfl, rfl, (fun _ => bc (zu kB rfl) hb8), zf, (fun h h2 => One.bel (zu kx9 h h2) hb8), zu l2, zu l4, zu l6, zu l7, (fun _ => ⟨rfl, rfl⟩), (fun h => rfl), zf, zf⟩
  ·intro h0 hd K hK
   have z : u9 = false := h0;have z11_ : u11 = false := znb fun hu => z.symm.trans ((zu kF hu).2.2.2.2.2.2.2.2.2.1)
   have z10_ : u10 = false := znb fun hu => z.symm.trans ((zu l10 hu).2)
   obtain ⟨rfl⟩ : u8 = true := by simp [Region.binds] at hd; simp [hd]
   subst z11_;subst z10_;subst z;clear h0 hd;rw [if_pos (by rfl)];have hme := me249;go_simp;refine (zu HF9 W (zu kB rfl)).mono ?_;rintro e w8 ⟨⟨r_, rfl, hr_⟩, hb8⟩;exact zu hK _ _ ⟨u0, u1, u2, u3, u4, u5, u6, u7, true, true, false, false, rr, r_, rfl, rfl, (fun _ => bc (zu kB rfl) hb8), zf, (fun _ _ => hr_), zu l2, zu l4, zu l6, zu l7, zu l8, (fun _ => rfl), zf, zf⟩
  ·intro h0 hd K hK
   have z : u10 = false := h0;have z11_ : u11 = false := znb fun hu => z.symm.trans ((zu kF hu).2.2.2.2.2.2.2.2.2.2)
   obtain ⟨rfl, rfl⟩ : u0 = true ∧ u9 = true := by simp [Region.binds] at hd; simp [hd]
   subst z11_;subst z;clear h0 hd;rw [if_pos (by rfl)];obtain ⟨g9, hv9, h7⟩ := zu kx9 rfl rfl;subst hv9
   have hb := (zu kB rfl)
   refine wp_append_own W (.tmp 10) (.tmp 19) 148 (by rfl) B 41 iT _ 6 48 Tryz.underlying148 ht hy0 hy1 hy2 rfl (by decide) vo m L (by rfl) (own_bel (zu HR) hb) ⟨g9, 0, none⟩ 1 1 L1 (by rfl) (by rw [zu HL1]) (fun j u hj => by rw [add_none, Nat.zero_add]; exact h7.cell hj) (zu HOC) (by unfold maxLen; omega) (by omega) (Nat.le_trans hBV hb.size) ?_;intro r8' w1 hown' hgrow _;have R9 := hown'
   exact zu hK _ _ ⟨true, u1, u2, u3, u4, u5, u6, u7, u8, true, true, false, r8', (.slice (some ⟨g9, 0, none⟩) 1 1), rfl, rfl, zt, (fun _ => ⟨W, hb, R9, hgrow⟩), (fun _ => zt), zu l2, zu l4, zu l6, zu l7, zu l8, zu l9, (fun _ => ⟨rfl, rfl⟩), zf⟩
  ·intro h0 hd K hK
   have z : u11 = false := h0
   have zd0 : u0 = true ∧ u1 = true ∧ u2 = true ∧ u3 = true ∧ u4 = true ∧ u5 = true ∧ u6 = true ∧ u7 = true ∧ u8 = true ∧ u9 = true ∧ u10 = true := by
    simp [Region.binds] at hd;simp [hd]
   have zd : u0 = true ∧ u1 = true ∧ u2 = true ∧ u3 = true ∧ u4 = true ∧ u5 = true ∧ u6 = true ∧ u7 = true ∧ u8 = true ∧ u9 = true ∧ u10 = true := ⟨zd0.1, zd0.2.1, zd0.2.2.1, zd0.2.2.2.1, zd0.2.2.2.2.1, zd0.2.2.2.2.2.1, zd0.2.2.2.2.2.2.1, zd0.2.2.2.2.2.2.2.1, zd0.2.2.2.2.2.2.2.2.1, zd0.2.2.2.2.2.2.2.2.2.1, zd0.2.2.2.2.2.2.2.2.2.2⟩
   obtain ⟨rfl, rfl, rfl, rfl, rfl, rfl, rfl, rfl, rfl, rfl, rfl⟩ := zd;subst z;clear h0 hd;rw [if_pos (by rfl)];go_simp;exact zu hK _ _ ⟨true, true, true, true, true, true, true, true, true, true, true, true, rr, vq, rfl, rfl, zu kB, zu kZ, (fun _ => zt), (fun _ => rfl), (fun _ => rfl), (fun _ => rfl), (fun _ => ⟨rfl, rfl⟩), (fun _ => ⟨rfl, rfl⟩), (fun _ => rfl), (fun _ => ⟨rfl, rfl⟩), (fun _ => ⟨rfl, rfl, rfl, rfl, rfl, rfl, rfl, rfl, rfl, rfl, rfl⟩)⟩
 case hend =>
  intro Lb A W hI;obtain ⟨u0, u1, u2, u3, u4, hI⟩ := hI;obtain ⟨u5, u6, u7, u8, u9, hI⟩ := hI;obtain ⟨u10, u11, rr, vq, hI⟩ := hI;obtain ⟨hLb, hI⟩ := hI;obtain ⟨hA, hI⟩ := hI;obtain ⟨kB, hI⟩ := hI;obtain ⟨kZ, hI⟩ := hI;obtain ⟨kx9, hI⟩ := hI;obtain ⟨l2, hI⟩ := hI;obtain ⟨l4, hI⟩ := hI;obtain ⟨l6, hI⟩ := hI;obtain ⟨l7, hI⟩ := hI;obtain ⟨l8, hI⟩ := hI;obtain ⟨l9, hI⟩ := hI;obtain ⟨l10, hI⟩ := hI;have kF := hI;clear hI;subst hLb;subst hA;intro hL
  have hl : u0 = true ∧ u1 = true ∧ u2 = true ∧ u3 = true ∧ u4 = true ∧ u5 = true ∧ u6 = true ∧ u7 = true ∧ u8 = true ∧ u9 = true ∧ u10 = true ∧ u11 = true := by
   have h2 := congrArg Array.toList hL
   simpa [List.replicate] using h2
  obtain ⟨rfl, rfl, rfl, rfl, rfl, rfl, rfl, rfl, rfl, rfl, rfl, rfl⟩ := hl;obtain ⟨W1, hA, hZ, hG⟩ := kZ rfl;exact zu HQ  vq rr W1 W hA hZ hG
end Go.Proofs.YtkiplmabjeadgaaGreat
