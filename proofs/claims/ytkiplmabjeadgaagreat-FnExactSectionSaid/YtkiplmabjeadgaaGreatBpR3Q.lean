/- The program's row of a section. -/
import Derived.Test.YtkiplmabjeadgaaGreatInv3Q
import Derived.Test.YtkiplmabjeadgaaGreatBaseQ
import Derived.Test.YtkiplmabjeadgaaGreatFtOpenQ
import Derived.Test.YtkiplmabjeadgaaGreatFfPQ
import Derived.Lib.MinMax
import Derived.Test.YtkiplmabjeadgaaGreatBuMQ
namespace Go.Proofs.YtkiplmabjeadgaaGreat
set_option maxRecDepth 100000
set_option maxHeartbeats 16000000
open Go.ChangeShapes Go.WideShapes Go.ChangeAt Go.RowKit
set_option linter.unusedVariables false
set_option linter.unusedSimpArgs false
noncomputable def rg90 (id : Nat) : Go.Code := match Tryz.f90.body with | some c => (regOfZ id c).getD .skip | none => .skip
noncomputable def rg120 (id : Nat) : Go.Code := match Tryz.f120.body with | some c => (regOfZ id c).getD .skip | none => .skip
theorem at3r {s1 s2 s5 s6 s7 s8 s9 s10 s11 s12 s13 s14 s15 s16 s17 s18 s19 s20 s21 s22 s23 s24 s25 s26 s27 s28 s29 : Value} {g gp gr gc kk bb : Nat} {x y z : Int} {fb : Bool} {V : World} {K_ : Act → World → Prop}
  (HG0 : Hid (V.cell? ⟨g, 0, none⟩ = some (.slice (some ⟨gc, 0, none⟩) 13824 13824))) (HP0 : Hid (V.cell? ⟨gp, 0, none⟩ = some (.int .i64 (x)))) (HP1 : Hid (V.cell? ⟨gp, 1, none⟩ = some (.int .i64 (y)))) (HP2 : Hid (V.cell? ⟨gp, 2, none⟩ = some (.int .i64 (z)))) (HC0 : Hid (V.cell? ⟨gc, kk * 2, none⟩ = some (.bool (fb)))) (HC1 : Hid (V.cell? ⟨gc, kk * 2 + 1, none⟩ = some (.int .i64 (bb : Int)))) (hbO : gr < V.heap.size) {oo0 : Value} (HO0 : Hid (V.cell? ⟨gr, 0, none⟩ = some oo0)) {oo1 : Value} (HO1 : Hid (V.cell? ⟨gr, 1, none⟩ = some oo1)) (HOf : Hid (∀ o, V.frozen? ⟨gr, o, none⟩ = false))
  (HF5 : Hid (∀ Xw, Below V.heap.size V Xw → Calls Tryz.prog 100 #[.agg #[.int .i64 (x), .int .i64 (y), .int .i64 (z)]] Xw fun e w' => e = .returned (.int .i64 (kk : Int)) ∧ Below Xw.heap.size Xw w'))
  (HX6 : Hid (kk < 13824))
  (hQ : ∀  (W1 W9 : World), W9 = ((W1.setCell ⟨gr, 0, none⟩ (.bool (fb))).setCell ⟨gr, 1, none⟩ (.int .i64 (bb : Int))) → Below V.heap.size V W1 → K_ { tmps := #[.pointer (some ⟨g, 0, none⟩), s1, s2, .pointer (some ⟨gp, 0, none⟩), .pointer (some ⟨gr, 0, none⟩), s5, s6, s7, s8, s9, s10, s11, s12, s13, s14, s15, s16, s17, s18, s19, s20, s21, .pointer (some ⟨g, 0, none⟩), .pointer (some ⟨g, 0, none⟩), .pointer (some ⟨g, 0, none⟩), .slice (some ⟨gc, 0, none⟩) 13824 13824, .agg #[.int .i64 (x), .int .i64 (y), .int .i64 (z)], .int .i64 (kk : Int), .pointer (some ⟨gc, kk * 2, none⟩), .agg #[.bool (fb), .int .i64 (bb : Int)]], defers := [] } W9) :
  Go.Code.wp Tryz.prog (rg90 3) (Only K_) { tmps := #[.pointer (some ⟨g, 0, none⟩), s1, s2, .pointer (some ⟨gp, 0, none⟩), .pointer (some ⟨gr, 0, none⟩), s5, s6, s7, s8, s9, s10, s11, s12, s13, s14, s15, s16, s17, s18, s19, s20, s21, s22, s23, s24, s25, s26, s27, s28, s29], defers := [] } V := by
 have HQ := hide hQ;clear hQ
 conv => arg 2; whnf
 refine wp_region_inv2 (fun Lb A W => ∃ (u0 u1 u2 u3 u4 u5 u6 u7 u8 : Bool) (dm : Nat), Lb = #[u0, u1, u2, u3, u4, u5, u6, u7, u8] ∧ A = ({ tmps := #[.pointer (some ⟨g, 0, none⟩), s1, s2, .pointer (some ⟨gp, 0, none⟩), .pointer (some ⟨gr, 0, none⟩), s5, s6, s7, s8, s9, s10, s11, s12, s13, s14, s15, s16, s17, s18, s19, s20, s21, (bif u0 then .pointer (some ⟨g, 0, none⟩) else s22), (bif u1 then .pointer (some ⟨g, 0, none⟩) else s23), (bif u2 then .pointer (some ⟨g, 0, none⟩) else s24), (bif u3 then .slice (some ⟨gc, 0, none⟩) 13824 13824 else s25), (bif u4 then .agg #[.int .i64 (x), .int .i64 (y), .int .i64 (z)] else s26), (bif u5 then .int .i64 (kk : Int) else s27), (bif u6 then .pointer (some ⟨gc, kk * 2, none⟩) else s28), (bif u7 then .agg #[.bool (fb), .int .i64 (bb : Int)] else s29)], defers := [] } : Act) ∧ (u8 = false → Below V.heap.size V W) ∧ (u8 = true → ∃ W1, Below V.heap.size V W1 ∧ W = ((W1.setCell ⟨gr, 0, none⟩ (.bool (fb))).setCell ⟨gr, 1, none⟩ (.int .i64 (bb : Int)))) ∧ (u8 = true → u0 = true ∧ u1 = true ∧ u2 = true ∧ u3 = true ∧ u4 = true ∧ u5 = true ∧ u6 = true ∧ u7 = true)) (by kernel_rfl) (by kernel_rfl) ?h0 ?hstep ?hend
 case h0 =>
  exact ⟨false, false, false, false, false, false, false, false, false, 0, rfl, rfl, (fun _ => Below.drew (bfl _ _)), zf, zf⟩
 case hstep =>
  intro Lb A W hI;obtain ⟨u0, u1, u2, u3, u4, hI⟩ := hI;obtain ⟨u5, u6, u7, u8, dm, hI⟩ := hI;obtain ⟨hLb, hI⟩ := hI;obtain ⟨hA, hI⟩ := hI;obtain ⟨kB, hI⟩ := hI;obtain ⟨kZ, hI⟩ := hI;have kF := hI;clear hI;subst hLb;subst hA;replace kB := hide kB;replace kZ := hide kZ;replace kF := hide kF;refine ⟨?_, ?_, ?_, ?_, ?_, ?_, ?_, ?_, ?_, trivial⟩
  ·intro h0 hd K hK
   have z : u0 = false := h0;have z8_ : u8 = false := znb fun hu => z.symm.trans ((zu kF hu).1)
   subst z8_;subst z;clear h0 hd;rw [if_pos (by rfl)];go_simp;exact zu hK _ _ ⟨true, u1, u2, u3, u4, u5, u6, u7, false, dm, rfl, rfl, zu kB, zf, zf⟩
  ·intro h0 hd K hK
   have z : u1 = false := h0;have z8_ : u8 = false := znb fun hu => z.symm.trans ((zu kF hu).2.1)
   obtain ⟨rfl⟩ : u0 = true := by simp [Region.binds] at hd; simp [hd]
   subst z8_;subst z;clear h0 hd;rw [if_pos (by rfl)];go_simp;exact zu hK _ _ ⟨true, true, u2, u3, u4, u5, u6, u7, false, dm, rfl, rfl, zu kB, zf, zf⟩
  ·intro h0 hd K hK
   have z : u2 = false := h0;have z8_ : u8 = false := znb fun hu => z.symm.trans ((zu kF hu).2.2.1)
   obtain ⟨rfl⟩ : u1 = true := by simp [Region.binds] at hd; simp [hd]
   subst z8_;subst z;clear h0 hd;rw [if_pos (by rfl)];go_simp;exact zu hK _ _ ⟨u0, true, true, u3, u4, u5, u6, u7, false, dm, rfl, rfl, zu kB, zf, zf⟩
  ·intro h0 hd K hK
   have z : u3 = false := h0;have z8_ : u8 = false := znb fun hu => z.symm.trans ((zu kF hu).2.2.2.1)
   obtain ⟨rfl⟩ : u2 = true := by simp [Region.binds] at hd; simp [hd]
   subst z8_;subst z;clear h0 hd;rw [if_pos (by rfl)];have c0 := keep1 (zu kB rfl) (zu HG0);go_simp;exact zu hK _ _ ⟨u0, u1, true, true, u4, u5, u6, u7, false, dm, rfl, rfl, zu kB, zf, zf⟩
  ·intro h0 hd K hK
   have z : u4 = false := h0;have z8_ : u8 = false := znb fun hu => z.symm.trans ((zu kF hu).2.2.2.2.1)
   subst z8_;subst z;clear h0 hd;rw [if_pos (by rfl)];have c0 := keep1 (zu kB rfl) (zu HP0);have c1 := keep1 (zu kB rfl) (zu HP1);have c2 := keep1 (zu kB rfl) (zu HP2);go_simp;exact zu hK _ _ ⟨u0, u1, u2, u3, true, u5, u6, u7, false, dm, rfl, rfl, zu kB, zf, zf⟩
  ·intro h0 hd K hK
   have z : u5 = false := h0;have z8_ : u8 = false := znb fun hu => z.symm.trans ((zu kF hu).2.2.2.2.2.1)
   obtain ⟨rfl⟩ : u4 = true := by simp [Region.binds] at hd; simp [hd]
   subst z8_;subst z;clear h0 hd;rw [if_pos (by rfl)];go_simp;refine (zu HF5 W (zu kB rfl)).mono ?_;rintro e w8 ⟨rfl, hb8⟩;exact zu hK _ _ ⟨u0, u1, u2, u3, true, true, u6, u7, false, dm, rfl, rfl, (fun _ => bc (zu kB rfl) hb8), zf, zf⟩
  ·intro h0 hd K hK
   have z : u6 = false := h0;have z8_ : u8 = false := znb fun hu => z.symm.trans ((zu kF hu).2.2.2.2.2.2.1)
   obtain ⟨rfl, rfl⟩ : u3 = true ∧ u5 = true := by simp [Region.binds] at hd; simp [hd]
   subst z8_;subst z;clear h0 hd;rw [if_pos (by rfl)];have q1 : kk < 13824 := zu HX6;have q2 : (kk : Int) < (13824 : Int) := by omega
   go_simp;exact zu hK _ _ ⟨u0, u1, u2, true, u4, true, true, u7, false, dm, rfl, rfl, zu kB, zf, zf⟩
  ·intro h0 hd K hK
   have z : u7 = false := h0;have z8_ : u8 = false := znb fun hu => z.symm.trans ((zu kF hu).2.2.2.2.2.2.2)
   obtain ⟨rfl⟩ : u6 = true := by simp [Region.binds] at hd; simp [hd]
   subst z8_;subst z;clear h0 hd;rw [if_pos (by rfl)];have c0 := keep1 (zu kB rfl) (zu HC0);have c1 := keep1 (zu kB rfl) (zu HC1);go_simp;exact zu hK _ _ ⟨u0, u1, u2, u3, u4, u5, true, true, false, dm, rfl, rfl, zu kB, zf, zf⟩
  ·intro h0 hd K hK
   have z : u8 = false := h0
   have zd0 : u0 = true ∧ u1 = true ∧ u2 = true ∧ u3 = true ∧ u4 = true ∧ u5 = true ∧ u6 = true ∧ u7 = true := by
    simp [Region.binds] at hd;simp [hd]
   have zd : u0 = true ∧ u1 = true ∧ u2 = true ∧ u3 = true ∧ u4 = true ∧ u5 = true ∧ u6 = true ∧ u7 = true := ⟨zd0.1, zd0.2.1, zd0.2.2.1, zd0.2.2.2.1, zd0.2.2.2.2.1, zd0.2.2.2.2.2.1, zd0.2.2.2.2.2.2.1, zd0.2.2.2.2.2.2.2⟩
   obtain ⟨rfl, rfl, rfl, rfl, rfl, rfl, rfl, rfl⟩ := zd;subst z;clear h0 hd;rw [if_pos (by rfl)]
   have hB := (zu kB rfl)
   have q0 := keep1 hB (zu HO0);have q1 := keep1 hB (zu HO1);have fz : ∀ o, W.frozen? ⟨gr, o, none⟩ = false := fun o => keepz hB hbO (zu HOf o)
   have HBB := hide hB;clear hB;go_simp;exact zu hK _ _ ⟨true, true, true, true, true, true, true, true, true, dm, rfl, rfl, zt, (fun _ => ⟨W, zu HBB, rfl⟩), (fun _ => ⟨rfl, rfl, rfl, rfl, rfl, rfl, rfl, rfl⟩)⟩
 case hend =>
  intro Lb A W hI;obtain ⟨u0, u1, u2, u3, u4, hI⟩ := hI;obtain ⟨u5, u6, u7, u8, dm, hI⟩ := hI;obtain ⟨hLb, hI⟩ := hI;obtain ⟨hA, hI⟩ := hI;obtain ⟨kB, hI⟩ := hI;obtain ⟨kZ, hI⟩ := hI;have kF := hI;clear hI;subst hLb;subst hA;intro hL
  have hl : u0 = true ∧ u1 = true ∧ u2 = true ∧ u3 = true ∧ u4 = true ∧ u5 = true ∧ u6 = true ∧ u7 = true ∧ u8 = true := by
   have h2 := congrArg Array.toList hL
   simpa [List.replicate] using h2
  obtain ⟨rfl, rfl, rfl, rfl, rfl, rfl, rfl, rfl, rfl⟩ := hl;obtain ⟨W1, hA, hZ⟩ := kZ rfl;exact zu HQ   W1 W hZ hA
def plv (x y z : Int) : Value := .agg #[.int .i64 x, .int .i64 y, .int .i64 z]
theorem cellNo_any (x y z : Nat) (w : World) (hx : x ≤ 1000) (hy : y ≤ 1000) (hz : z ≤ 1000) : Calls Tryz.prog 100 #[plv x y z] w fun e w' => e = .returned (.int .i64 (at3 x y z : Int)) ∧ Below w.heap.size w w' := by
 have w1 : IntKind.i64.wrap ((z : Int) * 24) = (z : Int) * 24 := wrap_i (by omega) (by omega);have w2 : IntKind.i64.wrap ((z : Int) * 24 + y) = (z : Int) * 24 + y := wrap_i (by omega) (by omega);have w3 : IntKind.i64.wrap (((z : Int) * 24 + y) * 24) = ((z : Int) * 24 + y) * 24 := wrap_i (by omega) (by omega);have w4 : IntKind.i64.wrap (((z : Int) * 24 + y) * 24 + x) = ((z : Int) * 24 + y) * 24 + x := wrap_i (by omega) (by omega);unfold plv;go_enter Tryz.func100, Tryz.ntmps100;go_wp2_with fail;go_ret;exact ⟨ret_int (by unfold at3; omega), ba (bfl _ _) _⟩
theorem whole_any (w : World) : Calls Tryz.prog 94 #[] w fun e w' => e = .returned (bxv ⟨0, 0, 0, 24, 24, 24⟩) ∧ Below w.heap.size w w' := by
 unfold bxv;go_enter Tryz.func94, Tryz.ntmps94;go_wp2_with fail;refine bodyPost_ret (v := .agg #[.int .i64 0, .int .i64 0, .int .i64 0, .int .i64 24, .int .i64 24, .int .i64 24]) (by simp [results, Tryz.results94, go_sem]; done) rfl ?_;refine ⟨rfl, ?_⟩
 repeat (first | exact bfl _ _ | refine Below.setCell ?_ (Nat.le_refl _) _ | refine Below.setCell ?_ (by simp) _ | refine ba ?_ _)
theorem places_any (b : Bx) (w : World) : Calls Tryz.prog 95 #[bxv b] w fun e w' => e = .returned (.func (.func 131) #[] #[.pointer (some ⟨w.heap.size, 0, none⟩)]) ∧ w' = w.alloc (.cells (bxc b).toArray 41) := by
 unfold bxv;go_enter Tryz.func95, Tryz.ntmps95;go_wp2_with fail;go_ret;exact ⟨rfl, rfl⟩
theorem plus_any (x y z x' y' z' : Int) (w : World) (h : ((-1000 ≤ x ∧ x ≤ 1000) ∧ (-1000 ≤ y ∧ y ≤ 1000) ∧ (-1000 ≤ z ∧ z ≤ 1000)) ∧ ((-1000 ≤ x' ∧ x' ≤ 1000) ∧ (-1000 ≤ y' ∧ y' ≤ 1000) ∧ (-1000 ≤ z' ∧ z' ≤ 1000))) :
  Calls Tryz.prog 132 #[plv x y z, plv x' y' z'] w fun e w' => e = .returned (plv (x + x') (y + y') (z + z')) ∧ Below w.heap.size w w' := by
 have w1 : IntKind.i64.wrap (x + x') = x + x' := wrap_i (by omega) (by omega);have w2 : IntKind.i64.wrap (y + y') = y + y' := wrap_i (by omega) (by omega);have w3 : IntKind.i64.wrap (z + z') = z + z' := wrap_i (by omega) (by omega);clear h;unfold plv;go_enter Tryz.func132, Tryz.ntmps132;go_wp2_with fail;refine bodyPost_ret (v := .agg #[.int .i64 (x + x'), .int .i64 (y + y'), .int .i64 (z + z')]) (by simp [results, Tryz.results132, go_sem]; done) rfl ?_;refine ⟨rfl, ?_⟩
 repeat (first | exact bfl _ _ | refine Below.setCell ?_ (Nat.le_refl _) _ | refine Below.setCell ?_ (by simp) _ | refine ba ?_ _)
theorem toward_any (s : Nat) (w : World) (hs : 1 ≤ s ∧ s ≤ 6) : Calls Tryz.prog 133 #[.int .i64 (s : Int)] w fun e w' => e = .returned (plv (stp s).1 (stp s).2.1 (stp s).2.2) ∧ Below w.heap.size w w' := by
 have : s = 1 ∨ s = 2 ∨ s = 3 ∨ s = 4 ∨ s = 5 ∨ s = 6 := by omega
 rcases this with rfl | rfl | rfl | rfl | rfl | rfl
 ·go_enter Tryz.func133, Tryz.ntmps133
  go_wp2_with fail;refine bodyPost_ret (v := .agg #[.int .i64 (-1), .int .i64 0, .int .i64 0]) (by simp [results, Tryz.results133, go_sem]; done) rfl ?_;refine ⟨rfl, ?_⟩
  repeat (first | exact bfl _ _ | refine Below.setCell ?_ (Nat.le_refl _) _ | refine Below.setCell ?_ (by simp) _ | refine ba ?_ _)
 ·go_enter Tryz.func133, Tryz.ntmps133
  go_wp2_with fail;refine bodyPost_ret (v := .agg #[.int .i64 1, .int .i64 0, .int .i64 0]) (by simp [results, Tryz.results133, go_sem]; done) rfl ?_;refine ⟨rfl, ?_⟩
  repeat (first | exact bfl _ _ | refine Below.setCell ?_ (Nat.le_refl _) _ | refine Below.setCell ?_ (by simp) _ | refine ba ?_ _)
 ·go_enter Tryz.func133, Tryz.ntmps133
  go_wp2_with fail;refine bodyPost_ret (v := .agg #[.int .i64 0, .int .i64 (-1), .int .i64 0]) (by simp [results, Tryz.results133, go_sem]; done) rfl ?_;refine ⟨rfl, ?_⟩
  repeat (first | exact bfl _ _ | refine Below.setCell ?_ (Nat.le_refl _) _ | refine Below.setCell ?_ (by simp) _ | refine ba ?_ _)
 ·go_enter Tryz.func133, Tryz.ntmps133
  go_wp2_with fail;refine bodyPost_ret (v := .agg #[.int .i64 0, .int .i64 1, .int .i64 0]) (by simp [results, Tryz.results133, go_sem]; done) rfl ?_;refine ⟨rfl, ?_⟩
  repeat (first | exact bfl _ _ | refine Below.setCell ?_ (Nat.le_refl _) _ | refine Below.setCell ?_ (by simp) _ | refine ba ?_ _)
 ·go_enter Tryz.func133, Tryz.ntmps133
  go_wp2_with fail;refine bodyPost_ret (v := .agg #[.int .i64 0, .int .i64 0, .int .i64 (-1)]) (by simp [results, Tryz.results133, go_sem]; done) rfl ?_;refine ⟨rfl, ?_⟩
  repeat (first | exact bfl _ _ | refine Below.setCell ?_ (Nat.le_refl _) _ | refine Below.setCell ?_ (by simp) _ | refine ba ?_ _)
 ·go_enter Tryz.func133, Tryz.ntmps133
  go_wp2_with fail;refine bodyPost_ret (v := .agg #[.int .i64 0, .int .i64 0, .int .i64 1]) (by simp [results, Tryz.results133, go_sem]; done) rfl ?_;refine ⟨rfl, ?_⟩
  repeat (first | exact bfl _ _ | refine Below.setCell ?_ (Nat.le_refl _) _ | refine Below.setCell ?_ (by simp) _ | refine ba ?_ _)
theorem oppP_any (s : Nat) (w : World) (hs : 1 ≤ s ∧ s ≤ 6) : Calls Tryz.prog 158 #[.int .i64 (s : Int)] w fun e w' => e = .returned (.int .i64 (opp s : Int)) ∧ Below w.heap.size w w' := by
 have : s = 1 ∨ s = 2 ∨ s = 3 ∨ s = 4 ∨ s = 5 ∨ s = 6 := by omega
 rcases this with rfl | rfl | rfl | rfl | rfl | rfl
 all_goals
  go_enter Tryz.func158, Tryz.ntmps158;go_wp2;go_ret;exact ⟨by first | rfl | trivial, bfl _ _⟩
theorem placeBox_any (x y z : Int) (w : World) (h : (-1000 ≤ x ∧ x ≤ 1000) ∧ (-1000 ≤ y ∧ y ≤ 1000) ∧ (-1000 ≤ z ∧ z ≤ 1000)) :
  Calls Tryz.prog 159 #[plv x y z] w fun e w' => e = .returned (bxv ⟨x, y, z, x + 1, y + 1, z + 1⟩) ∧ Below w.heap.size w w' := by
 have w1 : IntKind.i64.wrap (x + 1) = x + 1 := wrap_i (by omega) (by omega);have w2 : IntKind.i64.wrap (y + 1) = y + 1 := wrap_i (by omega) (by omega);have w3 : IntKind.i64.wrap (z + 1) = z + 1 := wrap_i (by omega) (by omega);clear h;unfold plv bxv;go_enter Tryz.func159, Tryz.ntmps159;go_wp2_with fail;refine bodyPost_ret (v := .agg #[.int .i64 x, .int .i64 y, .int .i64 z, .int .i64 (x + 1), .int .i64 (y + 1), .int .i64 (z + 1)]) (by simp [results, Tryz.results159, go_sem]; done) rfl ?_;refine ⟨rfl, ?_⟩
 repeat (first | exact bfl _ _ | refine Below.setCell ?_ (Nat.le_refl _) _ | refine Below.setCell ?_ (by simp) _ | refine ba ?_ _)
def cmn (a b : Bx) : Bx := ⟨max a.x0 b.x0, max a.y0 b.y0, max a.z0 b.z0, min a.x1 b.x1, min a.y1 b.y1, min a.z1 b.z1⟩
theorem common_any (a b : Bx) (w : World) : Calls Tryz.prog 160 #[bxv a, bxv b] w fun e w' => e = .returned (bxv (cmn a b)) ∧ Below w.heap.size w w' := by
 obtain ⟨ax0, ay0, az0, ax1, ay1, az1⟩ := a;obtain ⟨bx0', by0, bz0, bx1, by1, bz1⟩ := b;unfold cmn bxv;simp only;go_enter Tryz.func160, Tryz.ntmps160;go_wp2_with fail;refine bodyPost_ret (v := .agg #[.int .i64 (max ax0 bx0'), .int .i64 (max ay0 by0), .int .i64 (max az0 bz0), .int .i64 (min ax1 bx1), .int .i64 (min ay1 by1), .int .i64 (min az1 bz1)]) (by simp [results, Tryz.results160, go_sem]; done) rfl ?_;refine ⟨rfl, ?_⟩
 repeat (first | exact bfl _ _ | refine Below.setCell ?_ (Nat.le_refl _) _ | refine Below.setCell ?_ (by simp) _ | refine ba ?_ _)
def csl (c : Cs) : List Value := fnL 27648 fun j => if j % 2 = 0 then .bool (c.full (j / 2)) else .int .i64 (c.by_ (j / 2) : Int)
theorem csl_f (c : Cs) {k : Nat} (hk : k < 13824) : (csl c)[k * 2]? = some (.bool (c.full k)) := by
 unfold csl;rw [fnL_at _ (by omega), if_pos (by omega), show k * 2 / 2 = k by omega]
theorem csl_b (c : Cs) {k : Nat} (hk : k < 13824) : (csl c)[k * 2 + 1]? = some (.int .i64 (c.by_ k : Int)) := by
 unfold csl;rw [fnL_at _ (by omega), if_neg (by omega), show (k * 2 + 1) / 2 = k by omega]
theorem csl_put (c d : Cs) (k : Nat) (v : Bool) (n : Nat) (hf : d.full = fun j => if j = k then v else c.full j) (hb : d.by_ = fun j => if j = k then n else c.by_ j) : ((csl c).set (k * 2) (.bool v)).set (k * 2 + 1) (.int .i64 (n : Int)) = csl d := by
 unfold csl;rw [fnL_set, fnL_set];refine fnL_ext fun j _ => ?_
 rw [hf, hb];simp only
 by_cases h1 : j = k * 2 + 1
 ·subst h1
  rw [if_pos rfl, if_neg (by omega), if_pos (by omega)]
 ·rw [if_neg h1]
  by_cases h2 : j = k * 2
  ·subst h2
   rw [if_pos rfl, if_pos (by omega), if_pos (by omega)]
  ·rw [if_neg h2]
   by_cases h3 : j % 2 = 0
   ·rw [if_pos h3, if_pos h3, if_neg (by omega)]
   ·rw [if_neg h3, if_neg h3, if_neg (by omega)]
def atC (c : Cs) (x y z : Int) : Bool × Nat := if (0 ≤ x ∧ x ≤ 23) ∧ (0 ≤ y ∧ y ≤ 23) ∧ (0 ≤ z ∧ z ≤ 23) then (c.full (at3 x.toNat y.toNat z.toNat), c.by_ (at3 x.toNat y.toNat z.toNat)) else (false, 0)
def celV (q : Bool × Nat) : Value := .agg #[.bool q.1, .int .i64 (q.2 : Int)]
theorem at_any (g gc : Nat) (vd vw vm : Value) (c : Cs) (x y z : Int) (w : World) (hg : vb w g 84 [.slice (some ⟨gc, 0, none⟩) 13824 13824, vd, vw, vm]) (hc : vb w gc 141 (csl c)) :
  Calls Tryz.prog 90 #[.pointer (some ⟨g, 0, none⟩), plv x y z] w fun e w' => e = .returned (celV (atC c x y z)) ∧ Below w.heap.size w w' := by
 have HG := hide (fun W (h : Below w.heap.size w W) => hg.bel h);have HC := hide (fun W (h : Below w.heap.size w W) => hc.bel h);have H1 := hide (fun W => btw_any x 0 23 W);have H2 := hide (fun W => btw_any y 0 23 W);have H3 := hide (fun W => btw_any z 0 23 W)
 obtain ⟨b1, hb1⟩ : ∃ b, btw x 0 23 = b := ⟨_, rfl⟩
 obtain ⟨b2, hb2⟩ : ∃ b, btw y 0 23 = b := ⟨_, rfl⟩
 obtain ⟨b3, hb3⟩ : ∃ b, btw z 0 23 = b := ⟨_, rfl⟩
 rw [hb1] at H1;rw [hb2] at H2;rw [hb3] at H3;have B1 := hide hb1;have B2 := hide hb2;have B3 := hide hb3
 have hno : ∀ (t : Int), btw t 0 23 = false → ¬ (0 ≤ t ∧ t ≤ 23) := by
  intro t ht h;unfold btw at ht;rw [dt h.1, dt h.2] at ht
  cases ht
 have hye : ∀ (t : Int), btw t 0 23 = true → 0 ≤ t ∧ t ≤ 23 := by
  intro t ht;unfold btw at ht
  simpa using ht
 have HNO := hide hno;have HYE := hide hye;unfold plv;clear hg hc hb1 hb2 hb3 hno hye;go_enter Tryz.func90, Tryz.ntmps90
 cases b1 with
 | false =>
  have hat : atC c x y z = (false, 0) := by unfold atC; rw [if_neg (fun h => zu HNO _ (zu B1) h.1)]
  rw [hat];clear hat;go_wp2_with fail;refine (zu H1 _).mono ?_;rintro e W2 ⟨rfl, hw2⟩;rw [hw2];clear hw2 W2;go_wp2_with fail;refine bodyPost_ret (v := .agg #[.bool false, .int .i64 0]) (by simp [results, Tryz.results90, go_sem]; done) rfl ?_;refine ⟨rfl, ?_⟩
  repeat (first | exact bfl _ _ | refine Below.setCell ?_ (Nat.le_refl _) _ | refine Below.setCell ?_ (by simp) _ | refine ba ?_ _)
 | true =>
  cases b2 with
  | false =>
   have hat : atC c x y z = (false, 0) := by unfold atC; rw [if_neg (fun h => zu HNO _ (zu B2) h.2.1)]
   rw [hat];clear hat;go_wp2_with fail;refine (zu H1 _).mono ?_;rintro e W2 ⟨rfl, hw2⟩;rw [hw2];clear hw2 W2;go_wp2_with fail;refine (zu H2 _).mono ?_;rintro e W2 ⟨rfl, hw2⟩;rw [hw2];clear hw2 W2;go_wp2_with fail;refine bodyPost_ret (v := .agg #[.bool false, .int .i64 0]) (by simp [results, Tryz.results90, go_sem]; done) rfl ?_;refine ⟨rfl, ?_⟩
   repeat (first | exact bfl _ _ | refine Below.setCell ?_ (Nat.le_refl _) _ | refine Below.setCell ?_ (by simp) _ | refine ba ?_ _)
  | true =>
   cases b3 with
   | false =>
    have hat : atC c x y z = (false, 0) := by unfold atC; rw [if_neg (fun h => zu HNO _ (zu B3) h.2.2)]
    rw [hat];clear hat;go_wp2_with fail;refine (zu H1 _).mono ?_;rintro e W2 ⟨rfl, hw2⟩;rw [hw2];clear hw2 W2;go_wp2_with fail;refine (zu H2 _).mono ?_;rintro e W2 ⟨rfl, hw2⟩;rw [hw2];clear hw2 W2;go_wp2_with fail;refine (zu H3 _).mono ?_;rintro e W2 ⟨rfl, hw2⟩;rw [hw2];clear hw2 W2;go_wp2_with fail;refine bodyPost_ret (v := .agg #[.bool false, .int .i64 0]) (by simp [results, Tryz.results90, go_sem]; done) rfl ?_;refine ⟨rfl, ?_⟩
    repeat (first | exact bfl _ _ | refine Below.setCell ?_ (Nat.le_refl _) _ | refine Below.setCell ?_ (by simp) _ | refine ba ?_ _)
   | true =>
    have i1 := zu HYE _ (zu B1);have i2 := zu HYE _ (zu B2);have i3 := zu HYE _ (zu B3)
    obtain ⟨xn, rfl⟩ : ∃ q : Nat, x = (q : Int) := ⟨x.toNat, by omega⟩
    obtain ⟨yn, rfl⟩ : ∃ q : Nat, y = (q : Int) := ⟨y.toNat, by omega⟩
    obtain ⟨zn, rfl⟩ : ∃ q : Nat, z = (q : Int) := ⟨z.toNat, by omega⟩
    have hat : atC c xn yn zn = (c.full (at3 xn yn zn), c.by_ (at3 xn yn zn)) := by unfold atC; rw [if_pos ⟨i1, i2, i3⟩]; simp
    rw [hat];have HCN := hide (fun W => cellNo_any xn yn zn W (by omega) (by omega) (by omega));have hk := at3_lt (x := xn) (y := yn) (z := zn) (by omega) (by omega) (by omega)
    obtain ⟨k, hkq⟩ : ∃ q, at3 xn yn zn = q := ⟨_, rfl⟩
    rw [hkq] at HCN hk ⊢;have HKL := hide hk;clear hat hkq i1 i2 i3 hk B1 B2 B3;go_wp2_with fail;refine (zu H1 _).mono ?_;rintro e W2 ⟨rfl, hw2⟩;rw [hw2];clear hw2 W2;go_wp2_with fail;refine (zu H2 _).mono ?_;rintro e W2 ⟨rfl, hw2⟩;rw [hw2];clear hw2 W2;go_wp2_with fail;refine (zu H3 _).mono ?_;rintro e W2 ⟨rfl, hw2⟩;rw [hw2];clear hw2 W2
    go_upto_region 3 with fail
    obtain ⟨W3, hW3⟩ : ∃ W, W = (w.alloc (.cells #[.int .i64 (xn : Int), .int .i64 (yn : Int), .int .i64 (zn : Int)] 156)).alloc (.cells #[.bool false, .int .i64 0] 141) := ⟨_, rfl⟩
    have hp := (vb_new w 156 [.int .i64 (xn : Int), .int .i64 (yn : Int), .int .i64 (zn : Int)] _ rfl).bel (ba (bfl _ _) (.cells #[.bool false, .int .i64 0] 141));have hr := vb_new (w.alloc (.cells #[.int .i64 (xn : Int), .int .i64 (yn : Int), .int .i64 (zn : Int)] 156)) 141 [.bool false, .int .i64 0] (w.heap.size + 1) (by simp);have hb : Below w.heap.size w ((w.alloc (.cells #[.int .i64 (xn : Int), .int .i64 (yn : Int), .int .i64 (zn : Int)] 156)).alloc (.cells #[.bool false, .int .i64 0] 141)) := ba (ba (bfl _ _) _) _;rw [← hW3] at hb ⊢
    have hp' : vb W3 w.heap.size 156 [.int .i64 (xn : Int), .int .i64 (yn : Int), .int .i64 (zn : Int)] := by rw [hW3]; exact hp
    have hr' : vb W3 (w.heap.size + 1) 141 [.bool false, .int .i64 0] := by rw [hW3]; exact hr
    clear hp hr hW3;have hg3 := zu HG _ hb;have hc3 := zu HC _ hb;have HB := hide hb;have HR := hide hr';refine Go.Code.wp_mono (Only.to (fun _ _ h => h)) (at3r (hide (hg3.cell (m := 0) rfl)) (hide (hp'.cell (m := 0) rfl)) (hide (hp'.cell (m := 1) rfl)) (hide (hp'.cell (m := 2) rfl)) (hide (hc3.cell (csl_f c (zu HKL)))) (hide (hc3.cell (csl_b c (zu HKL)))) hr'.lt (hide (hr'.cell (m := 0) rfl)) (hide (hr'.cell (m := 1) rfl)) (hide hr'.frozen) (hide fun X _ => zu HCN X) HKL ?_);intro W1 W9 hW9 hb9
    have hr9 : vb W9 (w.heap.size + 1) 141 [.bool (c.full k), .int .i64 (c.by_ k : Int)] := by rw [hW9]; exact (((zu HR).bel hb9).set 0 _).set 1 _
    have hb8 : Below w.heap.size w W9 := by rw [hW9]; exact ((bc (zu HB) hb9).setCell (show w.heap.size ≤ (⟨w.heap.size + 1, 0, none⟩ : Addr).block from Nat.le_succ _) _).setCell (show w.heap.size ≤ (⟨w.heap.size + 1, 0 + 1, none⟩ : Addr).block from Nat.le_succ _) _
    have r0 := hr9.cell (m := 0) rfl;have r1 := hr9.cell (m := 1) rfl;have HB8 := hide hb8;clear hW9 hb9 hr9 hb8;go_wp2_with fail;refine bodyPost_ret (v := .agg #[.bool (c.full k), .int .i64 (c.by_ k : Int)]) (by simp [results, Tryz.results90, go_sem, r0, r1]; done) rfl ?_;exact ⟨rfl, zu HB8⟩
def sgs (c : Cs) (y z x : Nat) : List Value := fnL 24 fun j => if j < x then .int .u8 (sgB (c.full (at3 j y z))) else .int .u8 0
theorem sgs_zero (c : Cs) (y z : Nat) : sgs c y z 0 = List.replicate 24 (.int .u8 0) := (fnL_rep 24 _).symm
theorem sgs_set (c : Cs) (y z x : Nat) (b : Bool) (h : c.full (at3 x y z) = b) : ((sgs c y z x).set x (.int .u8 46)).set x (.int .u8 (sgB b)) = sgs c y z (x + 1) := by
 subst h;unfold sgs;rw [fnL_set, fnL_set];apply fnL_ext;intro j hj
 by_cases e : j = x
 ·subst e
  rw [if_pos rfl, if_pos (Nat.lt_succ_self j)]
 ·rw [if_neg e, if_neg e]
  by_cases h : j < x
  ·rw [if_pos h, if_pos (by omega)]
  ·rw [if_neg h, if_neg (by omega)]
theorem sgs_set1 (c : Cs) (y z x : Nat) (h : c.full (at3 x y z) = false) : (sgs c y z x).set x (.int .u8 46) = sgs c y z (x + 1) := by
 rw [← sgs_set c y z x false h, List.set_set];rfl
theorem sgs_at (c : Cs) (y z : Nat) {j x : Nat} (h : j < 24) : (sgs c y z x)[j]? = some (if j < x then .int .u8 (sgB (c.full (at3 j y z))) else .int .u8 0) := fnL_at _ h
theorem fldC (a b : Value) (W : World) : (Instr.field 141 (.agg #[a, b]) 0).run Tryz.prog W = .ok a W := by
 kernel_rfl
theorem row_any (g gc : Nat) (vd vw vm : Value) (c : Cs) (y z : Nat) (w : World) (hg : vb w g 84 [.slice (some ⟨gc, 0, none⟩) 13824 13824, vd, vw, vm]) (hc : vb w gc 141 (csl c)) (hy : y < 24) (hz : z < 24) :
  Calls Tryz.prog 59 #[.pointer (some ⟨g, 0, none⟩), .int .i64 (y : Int), .int .i64 (z : Int)] w fun e w' => e = .returned (.string (txB (rowL c y z))) ∧ Below w.heap.size w w' := by
 have hmk : ∀ W, (Instr.makeSlice 93 (.int .i64 24) (.int .i64 24)).run Tryz.prog W = .ok (.slice (some ⟨W.heap.size, 0, none⟩) 24 24) (W.alloc (.cells (List.replicate 24 (.int .u8 0)).toArray 5)) := fun W => make_vals (P := Tryz.prog) 93 5 1 24 (.int .u8 0) rfl Tryz.underlying93 info5 (by omega) (by omega) W
 rw [← sgs_zero c y z] at hmk;have HAT := hide (fun (x : Nat) (W : World) (hx : x < 24) (h : Below w.heap.size w W) => at_any g gc vd vw vm c (x : Int) (y : Int) (z : Int) W (hg.bel h) (hc.bel h));have HLE := hide hy;have HLZ := hide hz;unfold plv at HAT;have HV0 := hide (vb_new w 5 (sgs c y z 0) _ rfl);have HB0 := hide (ba (bfl w.heap.size w) (.cells (sgs c y z 0).toArray 5));clear hg hc;go_enter Tryz.func59, Tryz.ntmps59;go_wp2_with fail;clear hmk
 go_loopw [10] (fun s W => ∃ x : Nat, s = .int .i64 (x : Int) ∧ x ≤ 24 ∧ vb W w.heap.size 5 (sgs c y z x) ∧ Below w.heap.size w W) (fun s _ => 24 - (intOf s).toNat)
 case atStart => exact ⟨0, rfl, Nat.zero_le _, zu HV0, zu HB0⟩
 case round =>
  obtain ⟨x, rfl, hx, hv, hb⟩ := hrel;clear HV0 HB0;rename World => W1
  have HV := hide hv;have HB := hide hb
  by_cases h : x < 24
  ·have i1 : (x : Int) < 24 := by omega
   have i0 : (0 : Int) ≤ (x : Int) := Int.natCast_nonneg _;have iz : decide ((x : Int) < 24) = true := dt i1;have wi : IntKind.i64.wrap ((x : Int) + 1) = ((x + 1 : Nat) : Int) := (wrap_i (by omega) (by omega)).trans (by simp);have d0 := hv.cell (sgs_at c y z (x := x) h);have fz : ∀ q, W1.frozen? ⟨w.heap.size, q, none⟩ = false := hv.frozen;have HV1 := hide (hv.set x (.int .u8 46));have HB1 := hide (Below.setCell hb (p := ⟨w.heap.size, x, none⟩) (Nat.le_refl _) (.int .u8 46))
   have hat : atC c (x : Int) (y : Int) (z : Int) = (c.full (at3 x y z), c.by_ (at3 x y z)) := by
    have h1 := zu HLE;have h2 := zu HLZ;unfold atC;rw [if_pos (by omega)];simp only [Int.toNat_natCast]
   have HA := hide (zu HAT x _ h (zu HB1));rw [hat] at HA;unfold celV at HA;generalize hb0 : c.full (at3 x y z) = b0 at HA;generalize c.by_ (at3 x y z) = q0 at HA;have HB00 := hide hb0;simp only at HA;clear hat hv hb hb0;go_wp2_with fail;refine (zu HA).mono ?_;rintro e W2 ⟨rfl, hb2⟩;have HB2 := hide (bc (zu HB1) hb2);have HV2 := hide ((zu HV1).bel hb2);clear hb2;have hfld := fldC
   cases b0 with
   | false =>
    have HN := hide (sgs_set1 c y z x (zu HB00));go_wp2_with fail;go_roundw
    case rel =>
     refine ⟨x + 1, by simp, h, ?_, zu HB2⟩;rw [← zu HN];exact zu HV2
    case measure => simp only [intOf]; omega
   | true =>
    have HN := hide (sgs_set c y z x true (zu HB00));have hl : x < ((sgs c y z x).set x (.int .u8 46)).length := by rw [List.length_set]; unfold sgs; rw [fnL_len]; exact h
    have d2 := (zu HV2).cell (List.getElem?_eq_getElem hl);rw [List.getElem_set_self] at d2;have fz2 : ∀ q, W2.frozen? ⟨w.heap.size, q, none⟩ = false := (zu HV2).frozen;clear hl;go_wp2_with fail;go_roundw
    case rel =>
     refine ⟨x + 1, by simp, h, ?_, Below.setCell (zu HB2) (Nat.le_refl _) _⟩;rw [← zu HN];exact (zu HV2).set x _
    case measure => simp only [intOf]; omega
  ·obtain rfl : x = 24 := by omega
   have iz : decide (((24 : Nat) : Int) < 24) = false := df (by omega)
   have hcv := conv_tx W1 w.heap.size 0 24 24 (rowL c y z) (rowL_len c y z) (fun j q hj => by
    have hj2 : j < 24 := by have := (List.getElem?_eq_some_iff.1 hj).1; rw [rowL_len] at this; exact this
    rw [rowL_at c y z hj2] at hj
    cases hj
    rw [Nat.zero_add, hv.cell (sgs_at c y z (x := 24) hj2), if_pos hj2])
   clear hv hb;go_wp2_with fail;go_ret;exact ⟨rfl, zu HB⟩
end Go.Proofs.YtkiplmabjeadgaaGreat
