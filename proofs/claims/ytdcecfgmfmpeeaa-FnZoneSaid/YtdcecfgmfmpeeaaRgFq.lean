/-
  Statements of circleThrough and smallestCircle that draw their order, each walked alone.
-/
import Derived.Test.YtdcecfgmfmpeeaaZalq
namespace Go.Proofs.Ytdcecfgmfmpeeaa
open Go.ChangeShapes Go.WideShapes Go.ChangeAt Go.RowKit
set_option linter.unusedVariables false
set_option linter.unusedSimpArgs false
noncomputable def rg65 (id : Nat) : Go.Code := match Try.f65.body with | some c => (regOfZ id c).getD .skip | none => .skip
noncomputable def rg40 (id : Nat) : Go.Code := match Try.f40.body with | some c => (regOfZ id c).getD .skip | none => .skip
set_option maxHeartbeats 4000000 in
set_option maxRecDepth 100000 in
theorem ci7 {s1 s4 s5 s6 s7 s8 s9 s10 s11 s12 s13 s14 s15 s16 s17 s18 s19 s20 s21 s22 s23 s24 s25 s26 s27 s28 s29 s30 s31 s32 s33 s34 s35 s36 s37 s38 s39 s40 s41 s42 s43 s44 s45 s46 s47 s48 s49 s50 s51 s52 s53 s54 : Value} {b b2 b3 cap : Nat} {x0 y0 X Y D : Int} {V : World} {K_ : Act → World → Prop} 
  (HA0 : Hid (V.cell? ⟨b, 0, none⟩ = some (.int .i64 (x0)))) (HA1 : Hid (V.cell? ⟨b, 1, none⟩ = some (.int .i64 (y0)))) (hbO : b3 < V.heap.size) {oo0 : Value} (HO0 : Hid (V.cell? ⟨b3, 0, none⟩ = some oo0)) {oo1 : Value} (HO1 : Hid (V.cell? ⟨b3, 1, none⟩ = some oo1)) {oo2 : Value} (HO2 : Hid (V.cell? ⟨b3, 2, none⟩ = some oo2)) (HOf : Hid (∀ o, V.frozen? ⟨b3, o, none⟩ = false))
  (HF8 : Hid (∀ Xw, Below V.heap.size V Xw → Calls Try.prog 88 #[.int .i64 (x0), .int .i64 (y0), .int .i64 (1)] Xw fun e w' => e = .returned (.agg #[.int .i64 (X), .int .i64 (Y), .int .i64 (D)]) ∧ Below Xw.heap.size Xw w'))
  (hQ : ∀ (W1 W9 : World), W9 = (((W1.setCell ⟨b3, 0, none⟩ (.int .i64 (X))).setCell ⟨b3, 1, none⟩ (.int .i64 (Y))).setCell ⟨b3, 2, none⟩ (.int .i64 (D))) → Below V.heap.size V W1 → K_ { tmps := #[.slice (some ⟨b, 0, none⟩) 1 cap, s1, .pointer (some ⟨b2, 0, none⟩), .pointer (some ⟨b3, 0, none⟩), s4, s5, s6, s7, s8, s9, s10, s11, s12, s13, s14, s15, .slice (some ⟨b, 0, none⟩) 1 cap, .pointer (some ⟨b, 0, none⟩), .pointer (some ⟨b, 0, none⟩), .int .i64 (x0), .slice (some ⟨b, 0, none⟩) 1 cap, .pointer (some ⟨b, 0, none⟩), .pointer (some ⟨b, 1, none⟩), .int .i64 (y0), .agg #[.int .i64 (X), .int .i64 (Y), .int .i64 (D)], .pointer (some ⟨b3, 0, none⟩), s26, s27, s28, s29, s30, s31, s32, s33, s34, s35, s36, s37, s38, s39, s40, s41, s42, s43, s44, s45, s46, s47, s48, s49, s50, s51, s52, s53, s54], defers := [] } W9) :
  Go.Code.wp Try.prog (rg65 7) (Only K_) { tmps := #[.slice (some ⟨b, 0, none⟩) 1 cap, s1, .pointer (some ⟨b2, 0, none⟩), .pointer (some ⟨b3, 0, none⟩), s4, s5, s6, s7, s8, s9, s10, s11, s12, s13, s14, s15, s16, s17, s18, s19, s20, s21, s22, s23, s24, s25, s26, s27, s28, s29, s30, s31, s32, s33, s34, s35, s36, s37, s38, s39, s40, s41, s42, s43, s44, s45, s46, s47, s48, s49, s50, s51, s52, s53, s54], defers := [] } V := by
 have HQ := hide hQ
 clear hQ
 conv => arg 2; whnf
 refine wp_region_inv2 (fun Lb A W => ∃ (u0 u1 u2 u3 u4 u5 u6 u7 u8 u9 u10 : Bool) (dm : Nat), Lb = #[u0, u1, u2, u3, u4, u5, u6, u7, u8, u9, u10] ∧ A = ({ tmps := #[.slice (some ⟨b, 0, none⟩) 1 cap, s1, .pointer (some ⟨b2, 0, none⟩), .pointer (some ⟨b3, 0, none⟩), s4, s5, s6, s7, s8, s9, s10, s11, s12, s13, s14, s15, (bif u0 then .slice (some ⟨b, 0, none⟩) 1 cap else s16), (bif u1 then .pointer (some ⟨b, 0, none⟩) else s17), (bif u2 then .pointer (some ⟨b, 0, none⟩) else s18), (bif u3 then .int .i64 (x0) else s19), (bif u4 then .slice (some ⟨b, 0, none⟩) 1 cap else s20), (bif u5 then .pointer (some ⟨b, 0, none⟩) else s21), (bif u6 then .pointer (some ⟨b, 1, none⟩) else s22), (bif u7 then .int .i64 (y0) else s23), (bif u8 then .agg #[.int .i64 (X), .int .i64 (Y), .int .i64 (D)] else s24), (bif u9 then .pointer (some ⟨b3, 0, none⟩) else s25), s26, s27, s28, s29, s30, s31, s32, s33, s34, s35, s36, s37, s38, s39, s40, s41, s42, s43, s44, s45, s46, s47, s48, s49, s50, s51, s52, s53, s54], defers := [] } : Act) ∧ (u10 = false → Below V.heap.size V W) ∧ (u10 = true → ∃ W1, Below V.heap.size V W1 ∧ W = (((W1.setCell ⟨b3, 0, none⟩ (.int .i64 (X))).setCell ⟨b3, 1, none⟩ (.int .i64 (Y))).setCell ⟨b3, 2, none⟩ (.int .i64 (D)))) ∧ (u10 = true → u0 = true ∧ u1 = true ∧ u2 = true ∧ u3 = true ∧ u4 = true ∧ u5 = true ∧ u6 = true ∧ u7 = true ∧ u8 = true ∧ u9 = true)) (by kernel_rfl) (by kernel_rfl) ?h0 ?hstep ?hend
 case h0 =>
  exact ⟨false, false, false, false, false, false, false, false, false, false, false, 0, rfl, rfl, (fun _ => Below.drew (Below.refl _ _)), zf, zf⟩
 case hstep =>
  intro Lb A W hI
  obtain ⟨u0, u1, u2, u3, u4, hI⟩ := hI
  obtain ⟨u5, u6, u7, u8, u9, hI⟩ := hI
  obtain ⟨u10, dm, hI⟩ := hI
  obtain ⟨hLb, hI⟩ := hI
  obtain ⟨hA, hI⟩ := hI
  obtain ⟨kB, hI⟩ := hI
  obtain ⟨kZ, hI⟩ := hI
  have kF := hI
  clear hI
  subst hLb
  subst hA
  replace kB := hide kB
  replace kZ := hide kZ
  replace kF := hide kF
  refine ⟨?_, ?_, ?_, ?_, ?_, ?_, ?_, ?_, ?_, ?_, ?_, trivial⟩
  ·intro h0 hd K hK
   have z : u0 = false := h0
   have z10_ : u10 = false := znb fun hu => z.symm.trans ((zu kF hu).1)
   subst z10_
   subst z
   clear h0 hd
   rw [if_pos (by rfl)]
   go_simp
   exact zu hK _ _ ⟨true, u1, u2, u3, u4, u5, u6, u7, u8, u9, false, dm, rfl, rfl, zu kB, zf, zf⟩
  ·intro h0 hd K hK
   have z : u1 = false := h0
   have z10_ : u10 = false := znb fun hu => z.symm.trans ((zu kF hu).2.1)
   have zd : u0 = true := by
    simp [Region.binds] at hd
    simp [hd]
   obtain ⟨rfl⟩ := zd
   subst z10_
   subst z
   clear h0 hd
   rw [if_pos (by rfl)]
   go_simp
   exact zu hK _ _ ⟨true, true, u2, u3, u4, u5, u6, u7, u8, u9, false, dm, rfl, rfl, zu kB, zf, zf⟩
  ·intro h0 hd K hK
   have z : u2 = false := h0
   have z10_ : u10 = false := znb fun hu => z.symm.trans ((zu kF hu).2.2.1)
   have zd : u1 = true := by
    simp [Region.binds] at hd
    simp [hd]
   obtain ⟨rfl⟩ := zd
   subst z10_
   subst z
   clear h0 hd
   rw [if_pos (by rfl)]
   go_simp
   exact zu hK _ _ ⟨u0, true, true, u3, u4, u5, u6, u7, u8, u9, false, dm, rfl, rfl, zu kB, zf, zf⟩
  ·intro h0 hd K hK
   have z : u3 = false := h0
   have z10_ : u10 = false := znb fun hu => z.symm.trans ((zu kF hu).2.2.2.1)
   have zd : u2 = true := by
    simp [Region.binds] at hd
    simp [hd]
   obtain ⟨rfl⟩ := zd
   subst z10_
   subst z
   clear h0 hd
   rw [if_pos (by rfl)]
   have c0 := keep1 (zu kB rfl) (zu HA0)
   go_simp
   exact zu hK _ _ ⟨u0, u1, true, true, u4, u5, u6, u7, u8, u9, false, dm, rfl, rfl, zu kB, zf, zf⟩
  ·intro h0 hd K hK
   have z : u4 = false := h0
   have z10_ : u10 = false := znb fun hu => z.symm.trans ((zu kF hu).2.2.2.2.1)
   subst z10_
   subst z
   clear h0 hd
   rw [if_pos (by rfl)]
   go_simp
   exact zu hK _ _ ⟨u0, u1, u2, u3, true, u5, u6, u7, u8, u9, false, dm, rfl, rfl, zu kB, zf, zf⟩
  ·intro h0 hd K hK
   have z : u5 = false := h0
   have z10_ : u10 = false := znb fun hu => z.symm.trans ((zu kF hu).2.2.2.2.2.1)
   have zd : u4 = true := by
    simp [Region.binds] at hd
    simp [hd]
   obtain ⟨rfl⟩ := zd
   subst z10_
   subst z
   clear h0 hd
   rw [if_pos (by rfl)]
   go_simp
   exact zu hK _ _ ⟨u0, u1, u2, u3, true, true, u6, u7, u8, u9, false, dm, rfl, rfl, zu kB, zf, zf⟩
  ·intro h0 hd K hK
   have z : u6 = false := h0
   have z10_ : u10 = false := znb fun hu => z.symm.trans ((zu kF hu).2.2.2.2.2.2.1)
   have zd : u5 = true := by
    simp [Region.binds] at hd
    simp [hd]
   obtain ⟨rfl⟩ := zd
   subst z10_
   subst z
   clear h0 hd
   rw [if_pos (by rfl)]
   go_simp
   exact zu hK _ _ ⟨u0, u1, u2, u3, u4, true, true, u7, u8, u9, false, dm, rfl, rfl, zu kB, zf, zf⟩
  ·intro h0 hd K hK
   have z : u7 = false := h0
   have z10_ : u10 = false := znb fun hu => z.symm.trans ((zu kF hu).2.2.2.2.2.2.2.1)
   have zd : u6 = true := by
    simp [Region.binds] at hd
    simp [hd]
   obtain ⟨rfl⟩ := zd
   subst z10_
   subst z
   clear h0 hd
   rw [if_pos (by rfl)]
   have c0 := keep1 (zu kB rfl) (zu HA1)
   go_simp
   exact zu hK _ _ ⟨u0, u1, u2, u3, u4, u5, true, true, u8, u9, false, dm, rfl, rfl, zu kB, zf, zf⟩
  ·intro h0 hd K hK
   have z : u8 = false := h0
   have z10_ : u10 = false := znb fun hu => z.symm.trans ((zu kF hu).2.2.2.2.2.2.2.2.1)
   have zd : u3 = true ∧ u7 = true := by
    simp [Region.binds] at hd
    simp [hd]
   obtain ⟨rfl, rfl⟩ := zd
   subst z10_
   subst z
   clear h0 hd
   rw [if_pos (by rfl)]
   go_simp
   refine (zu HF8 W (zu kB rfl)).mono ?_
   rintro e w8 ⟨rfl, hb8⟩
   exact zu hK _ _ ⟨u0, u1, u2, true, u4, u5, u6, true, true, u9, false, dm, rfl, rfl, (fun _ => bc (zu kB rfl) hb8), zf, zf⟩
  ·intro h0 hd K hK
   have z : u9 = false := h0
   have z10_ : u10 = false := znb fun hu => z.symm.trans ((zu kF hu).2.2.2.2.2.2.2.2.2)
   have zd : u8 = true := by
    simp [Region.binds] at hd
    simp [hd]
   obtain ⟨rfl⟩ := zd
   subst z10_
   subst z
   clear h0 hd
   rw [if_pos (by rfl)]
   go_simp
   exact zu hK _ _ ⟨u0, u1, u2, u3, u4, u5, u6, u7, true, true, false, dm, rfl, rfl, zu kB, zf, zf⟩
  ·intro h0 hd K hK
   have z : u10 = false := h0
   have zd0 : u0 = true ∧ u1 = true ∧ u2 = true ∧ u3 = true ∧ u4 = true ∧ u5 = true ∧ u6 = true ∧ u7 = true ∧ u8 = true ∧ u9 = true := by
    simp [Region.binds] at hd
    simp [hd]
   have zd : u0 = true ∧ u1 = true ∧ u2 = true ∧ u3 = true ∧ u4 = true ∧ u5 = true ∧ u6 = true ∧ u7 = true ∧ u8 = true ∧ u9 = true := ⟨zd0.1, zd0.2.1, zd0.2.2.1, zd0.2.2.2.1, zd0.2.2.2.2.1, zd0.2.2.2.2.2.1, zd0.2.2.2.2.2.2.1, zd0.2.2.2.2.2.2.2.1, zd0.2.2.2.2.2.2.2.2.1, zd0.2.2.2.2.2.2.2.2.2⟩
   obtain ⟨rfl, rfl, rfl, rfl, rfl, rfl, rfl, rfl, rfl, rfl⟩ := zd
   subst z
   clear h0 hd
   rw [if_pos (by rfl)]
   have hB := (zu kB rfl)
   have q0 := keep1 hB (zu HO0)
   have q1 := keep1 hB (zu HO1)
   have q2 := keep1 hB (zu HO2)
   have fz : ∀ o, W.frozen? ⟨b3, o, none⟩ = false := fun o => keepz hB hbO (zu HOf o)
   have HBB := hide hB
   clear hB
   go_simp
   exact zu hK _ _ ⟨true, true, true, true, true, true, true, true, true, true, true, dm, rfl, rfl, zt, (fun _ => ⟨W, zu HBB, rfl⟩), (fun _ => ⟨rfl, rfl, rfl, rfl, rfl, rfl, rfl, rfl, rfl, rfl⟩)⟩
 case hend =>
  intro Lb A W hI
  obtain ⟨u0, u1, u2, u3, u4, hI⟩ := hI
  obtain ⟨u5, u6, u7, u8, u9, hI⟩ := hI
  obtain ⟨u10, dm, hI⟩ := hI
  obtain ⟨hLb, hI⟩ := hI
  obtain ⟨hA, hI⟩ := hI
  obtain ⟨kB, hI⟩ := hI
  obtain ⟨kZ, hI⟩ := hI
  have kF := hI
  clear hI
  subst hLb
  subst hA
  intro hL
  have hl : u0 = true ∧ u1 = true ∧ u2 = true ∧ u3 = true ∧ u4 = true ∧ u5 = true ∧ u6 = true ∧ u7 = true ∧ u8 = true ∧ u9 = true ∧ u10 = true := by
   have h2 := congrArg Array.toList hL
   simpa [List.replicate] using h2
  obtain ⟨rfl, rfl, rfl, rfl, rfl, rfl, rfl, rfl, rfl, rfl, rfl⟩ := hl
  obtain ⟨W1, hA, hZ⟩ := kZ rfl
  exact zu HQ  W1 W hZ hA
set_option maxHeartbeats 4000000 in
set_option maxRecDepth 100000 in
theorem ci9 {s1 s4 s5 s6 s7 s8 s9 s10 s11 s12 s13 s14 s15 s16 s17 s18 s19 s20 s21 s22 s23 s24 s25 s26 s27 s28 s29 s30 s31 s32 s33 s34 s35 s36 s37 s38 s39 s40 s41 s42 s43 s44 s45 s46 s47 s48 s49 s50 s51 s52 s53 s54 : Value} {b b2 b3 cap : Nat} {x0 y0 x1 y1 X Y D : Int} {V : World} {K_ : Act → World → Prop} 
  (HA0 : Hid (V.cell? ⟨b, 0, none⟩ = some (.int .i64 (x0)))) (HA1 : Hid (V.cell? ⟨b, 1, none⟩ = some (.int .i64 (y0)))) (HA2 : Hid (V.cell? ⟨b, 2, none⟩ = some (.int .i64 (x1)))) (HA3 : Hid (V.cell? ⟨b, 3, none⟩ = some (.int .i64 (y1)))) (hbO : b3 < V.heap.size) {oo0 : Value} (HO0 : Hid (V.cell? ⟨b3, 0, none⟩ = some oo0)) {oo1 : Value} (HO1 : Hid (V.cell? ⟨b3, 1, none⟩ = some oo1)) {oo2 : Value} (HO2 : Hid (V.cell? ⟨b3, 2, none⟩ = some oo2)) (HOf : Hid (∀ o, V.frozen? ⟨b3, o, none⟩ = false))
  (HW8 : Hid (IntKind.i64.wrap (x0 + x1) = x0 + x1))
  (HW17 : Hid (IntKind.i64.wrap (y0 + y1) = y0 + y1))
  (HF18 : Hid (∀ Xw, Below V.heap.size V Xw → Calls Try.prog 88 #[.int .i64 (x0 + x1), .int .i64 (y0 + y1), .int .i64 (2)] Xw fun e w' => e = .returned (.agg #[.int .i64 (X), .int .i64 (Y), .int .i64 (D)]) ∧ Below Xw.heap.size Xw w'))
  (hQ : ∀ (W1 W9 : World), W9 = (((W1.setCell ⟨b3, 0, none⟩ (.int .i64 (X))).setCell ⟨b3, 1, none⟩ (.int .i64 (Y))).setCell ⟨b3, 2, none⟩ (.int .i64 (D))) → Below V.heap.size V W1 → K_ { tmps := #[.slice (some ⟨b, 0, none⟩) 2 cap, s1, .pointer (some ⟨b2, 0, none⟩), .pointer (some ⟨b3, 0, none⟩), s4, s5, s6, s7, s8, s9, s10, s11, s12, s13, s14, s15, s16, s17, s18, s19, s20, s21, s22, s23, s24, s25, s26, s27, .slice (some ⟨b, 0, none⟩) 2 cap, .pointer (some ⟨b, 0, none⟩), .pointer (some ⟨b, 0, none⟩), .int .i64 (x0), .slice (some ⟨b, 0, none⟩) 2 cap, .pointer (some ⟨b, 2, none⟩), .pointer (some ⟨b, 2, none⟩), .int .i64 (x1), .int .i64 (x0 + x1), .slice (some ⟨b, 0, none⟩) 2 cap, .pointer (some ⟨b, 0, none⟩), .pointer (some ⟨b, 1, none⟩), .int .i64 (y0), .slice (some ⟨b, 0, none⟩) 2 cap, .pointer (some ⟨b, 2, none⟩), .pointer (some ⟨b, 3, none⟩), .int .i64 (y1), .int .i64 (y0 + y1), .agg #[.int .i64 (X), .int .i64 (Y), .int .i64 (D)], .pointer (some ⟨b3, 0, none⟩), s48, s49, s50, s51, s52, s53, s54], defers := [] } W9) :
  Go.Code.wp Try.prog (rg65 9) (Only K_) { tmps := #[.slice (some ⟨b, 0, none⟩) 2 cap, s1, .pointer (some ⟨b2, 0, none⟩), .pointer (some ⟨b3, 0, none⟩), s4, s5, s6, s7, s8, s9, s10, s11, s12, s13, s14, s15, s16, s17, s18, s19, s20, s21, s22, s23, s24, s25, s26, s27, s28, s29, s30, s31, s32, s33, s34, s35, s36, s37, s38, s39, s40, s41, s42, s43, s44, s45, s46, s47, s48, s49, s50, s51, s52, s53, s54], defers := [] } V := by
 have HQ := hide hQ
 clear hQ
 conv => arg 2; whnf
 refine wp_region_inv2 (fun Lb A W => ∃ (u0 u1 u2 u3 u4 u5 u6 u7 u8 u9 u10 u11 u12 u13 u14 u15 u16 u17 u18 u19 u20 : Bool) (dm : Nat), Lb = #[u0, u1, u2, u3, u4, u5, u6, u7, u8, u9, u10, u11, u12, u13, u14, u15, u16, u17, u18, u19, u20] ∧ A = ({ tmps := #[.slice (some ⟨b, 0, none⟩) 2 cap, s1, .pointer (some ⟨b2, 0, none⟩), .pointer (some ⟨b3, 0, none⟩), s4, s5, s6, s7, s8, s9, s10, s11, s12, s13, s14, s15, s16, s17, s18, s19, s20, s21, s22, s23, s24, s25, s26, s27, (bif u0 then .slice (some ⟨b, 0, none⟩) 2 cap else s28), (bif u1 then .pointer (some ⟨b, 0, none⟩) else s29), (bif u2 then .pointer (some ⟨b, 0, none⟩) else s30), (bif u3 then .int .i64 (x0) else s31), (bif u4 then .slice (some ⟨b, 0, none⟩) 2 cap else s32), (bif u5 then .pointer (some ⟨b, 2, none⟩) else s33), (bif u6 then .pointer (some ⟨b, 2, none⟩) else s34), (bif u7 then .int .i64 (x1) else s35), (bif u8 then .int .i64 (x0 + x1) else s36), (bif u9 then .slice (some ⟨b, 0, none⟩) 2 cap else s37), (bif u10 then .pointer (some ⟨b, 0, none⟩) else s38), (bif u11 then .pointer (some ⟨b, 1, none⟩) else s39), (bif u12 then .int .i64 (y0) else s40), (bif u13 then .slice (some ⟨b, 0, none⟩) 2 cap else s41), (bif u14 then .pointer (some ⟨b, 2, none⟩) else s42), (bif u15 then .pointer (some ⟨b, 3, none⟩) else s43), (bif u16 then .int .i64 (y1) else s44), (bif u17 then .int .i64 (y0 + y1) else s45), (bif u18 then .agg #[.int .i64 (X), .int .i64 (Y), .int .i64 (D)] else s46), (bif u19 then .pointer (some ⟨b3, 0, none⟩) else s47), s48, s49, s50, s51, s52, s53, s54], defers := [] } : Act) ∧ (u20 = false → Below V.heap.size V W) ∧ (u20 = true → ∃ W1, Below V.heap.size V W1 ∧ W = (((W1.setCell ⟨b3, 0, none⟩ (.int .i64 (X))).setCell ⟨b3, 1, none⟩ (.int .i64 (Y))).setCell ⟨b3, 2, none⟩ (.int .i64 (D)))) ∧ (u20 = true → u0 = true ∧ u1 = true ∧ u2 = true ∧ u3 = true ∧ u4 = true ∧ u5 = true ∧ u6 = true ∧ u7 = true ∧ u8 = true ∧ u9 = true ∧ u10 = true ∧ u11 = true ∧ u12 = true ∧ u13 = true ∧ u14 = true ∧ u15 = true ∧ u16 = true ∧ u17 = true ∧ u18 = true ∧ u19 = true)) (by kernel_rfl) (by kernel_rfl) ?h0 ?hstep ?hend
 case h0 =>
  exact ⟨false, false, false, false, false, false, false, false, false, false, false, false, false, false, false, false, false, false, false, false, false, 0, rfl, rfl, (fun _ => Below.drew (Below.refl _ _)), zf, zf⟩
 case hstep =>
  intro Lb A W hI
  obtain ⟨u0, u1, u2, u3, u4, hI⟩ := hI
  obtain ⟨u5, u6, u7, u8, u9, hI⟩ := hI
  obtain ⟨u10, u11, u12, u13, u14, hI⟩ := hI
  obtain ⟨u15, u16, u17, u18, u19, hI⟩ := hI
  obtain ⟨u20, dm, hI⟩ := hI
  obtain ⟨hLb, hI⟩ := hI
  obtain ⟨hA, hI⟩ := hI
  obtain ⟨kB, hI⟩ := hI
  obtain ⟨kZ, hI⟩ := hI
  have kF := hI
  clear hI
  subst hLb
  subst hA
  replace kB := hide kB
  replace kZ := hide kZ
  replace kF := hide kF
  refine ⟨?_, ?_, ?_, ?_, ?_, ?_, ?_, ?_, ?_, ?_, ?_, ?_, ?_, ?_, ?_, ?_, ?_, ?_, ?_, ?_, ?_, trivial⟩
  ·intro h0 hd K hK
   have z : u0 = false := h0
   have z20_ : u20 = false := znb fun hu => z.symm.trans ((zu kF hu).1)
   subst z20_
   subst z
   clear h0 hd
   rw [if_pos (by rfl)]
   go_simp
   exact zu hK _ _ ⟨true, u1, u2, u3, u4, u5, u6, u7, u8, u9, u10, u11, u12, u13, u14, u15, u16, u17, u18, u19, false, dm, rfl, rfl, zu kB, zf, zf⟩
  ·intro h0 hd K hK
   have z : u1 = false := h0
   have z20_ : u20 = false := znb fun hu => z.symm.trans ((zu kF hu).2.1)
   have zd : u0 = true := by
    simp [Region.binds] at hd
    simp [hd]
   obtain ⟨rfl⟩ := zd
   subst z20_
   subst z
   clear h0 hd
   rw [if_pos (by rfl)]
   go_simp
   exact zu hK _ _ ⟨true, true, u2, u3, u4, u5, u6, u7, u8, u9, u10, u11, u12, u13, u14, u15, u16, u17, u18, u19, false, dm, rfl, rfl, zu kB, zf, zf⟩
  ·intro h0 hd K hK
   have z : u2 = false := h0
   have z20_ : u20 = false := znb fun hu => z.symm.trans ((zu kF hu).2.2.1)
   have zd : u1 = true := by
    simp [Region.binds] at hd
    simp [hd]
   obtain ⟨rfl⟩ := zd
   subst z20_
   subst z
   clear h0 hd
   rw [if_pos (by rfl)]
   go_simp
   exact zu hK _ _ ⟨u0, true, true, u3, u4, u5, u6, u7, u8, u9, u10, u11, u12, u13, u14, u15, u16, u17, u18, u19, false, dm, rfl, rfl, zu kB, zf, zf⟩
  ·intro h0 hd K hK
   have z : u3 = false := h0
   have z20_ : u20 = false := znb fun hu => z.symm.trans ((zu kF hu).2.2.2.1)
   have zd : u2 = true := by
    simp [Region.binds] at hd
    simp [hd]
   obtain ⟨rfl⟩ := zd
   subst z20_
   subst z
   clear h0 hd
   rw [if_pos (by rfl)]
   have c0 := keep1 (zu kB rfl) (zu HA0)
   go_simp
   exact zu hK _ _ ⟨u0, u1, true, true, u4, u5, u6, u7, u8, u9, u10, u11, u12, u13, u14, u15, u16, u17, u18, u19, false, dm, rfl, rfl, zu kB, zf, zf⟩
  ·intro h0 hd K hK
   have z : u4 = false := h0
   have z20_ : u20 = false := znb fun hu => z.symm.trans ((zu kF hu).2.2.2.2.1)
   subst z20_
   subst z
   clear h0 hd
   rw [if_pos (by rfl)]
   go_simp
   exact zu hK _ _ ⟨u0, u1, u2, u3, true, u5, u6, u7, u8, u9, u10, u11, u12, u13, u14, u15, u16, u17, u18, u19, false, dm, rfl, rfl, zu kB, zf, zf⟩
  ·intro h0 hd K hK
   have z : u5 = false := h0
   have z20_ : u20 = false := znb fun hu => z.symm.trans ((zu kF hu).2.2.2.2.2.1)
   have zd : u4 = true := by
    simp [Region.binds] at hd
    simp [hd]
   obtain ⟨rfl⟩ := zd
   subst z20_
   subst z
   clear h0 hd
   rw [if_pos (by rfl)]
   go_simp
   exact zu hK _ _ ⟨u0, u1, u2, u3, true, true, u6, u7, u8, u9, u10, u11, u12, u13, u14, u15, u16, u17, u18, u19, false, dm, rfl, rfl, zu kB, zf, zf⟩
  ·intro h0 hd K hK
   have z : u6 = false := h0
   have z20_ : u20 = false := znb fun hu => z.symm.trans ((zu kF hu).2.2.2.2.2.2.1)
   have zd : u5 = true := by
    simp [Region.binds] at hd
    simp [hd]
   obtain ⟨rfl⟩ := zd
   subst z20_
   subst z
   clear h0 hd
   rw [if_pos (by rfl)]
   go_simp
   exact zu hK _ _ ⟨u0, u1, u2, u3, u4, true, true, u7, u8, u9, u10, u11, u12, u13, u14, u15, u16, u17, u18, u19, false, dm, rfl, rfl, zu kB, zf, zf⟩
  ·intro h0 hd K hK
   have z : u7 = false := h0
   have z20_ : u20 = false := znb fun hu => z.symm.trans ((zu kF hu).2.2.2.2.2.2.2.1)
   have zd : u6 = true := by
    simp [Region.binds] at hd
    simp [hd]
   obtain ⟨rfl⟩ := zd
   subst z20_
   subst z
   clear h0 hd
   rw [if_pos (by rfl)]
   have c0 := keep1 (zu kB rfl) (zu HA2)
   go_simp
   exact zu hK _ _ ⟨u0, u1, u2, u3, u4, u5, true, true, u8, u9, u10, u11, u12, u13, u14, u15, u16, u17, u18, u19, false, dm, rfl, rfl, zu kB, zf, zf⟩
  ·intro h0 hd K hK
   have z : u8 = false := h0
   have z20_ : u20 = false := znb fun hu => z.symm.trans ((zu kF hu).2.2.2.2.2.2.2.2.1)
   have zd : u3 = true ∧ u7 = true := by
    simp [Region.binds] at hd
    simp [hd]
   obtain ⟨rfl, rfl⟩ := zd
   subst z20_
   subst z
   clear h0 hd
   rw [if_pos (by rfl)]
   have wq := zu HW8
   go_simp
   exact zu hK _ _ ⟨u0, u1, u2, true, u4, u5, u6, true, true, u9, u10, u11, u12, u13, u14, u15, u16, u17, u18, u19, false, dm, rfl, rfl, zu kB, zf, zf⟩
  ·intro h0 hd K hK
   have z : u9 = false := h0
   have z20_ : u20 = false := znb fun hu => z.symm.trans ((zu kF hu).2.2.2.2.2.2.2.2.2.1)
   subst z20_
   subst z
   clear h0 hd
   rw [if_pos (by rfl)]
   go_simp
   exact zu hK _ _ ⟨u0, u1, u2, u3, u4, u5, u6, u7, u8, true, u10, u11, u12, u13, u14, u15, u16, u17, u18, u19, false, dm, rfl, rfl, zu kB, zf, zf⟩
  ·intro h0 hd K hK
   have z : u10 = false := h0
   have z20_ : u20 = false := znb fun hu => z.symm.trans ((zu kF hu).2.2.2.2.2.2.2.2.2.2.1)
   have zd : u9 = true := by
    simp [Region.binds] at hd
    simp [hd]
   obtain ⟨rfl⟩ := zd
   subst z20_
   subst z
   clear h0 hd
   rw [if_pos (by rfl)]
   go_simp
   exact zu hK _ _ ⟨u0, u1, u2, u3, u4, u5, u6, u7, u8, true, true, u11, u12, u13, u14, u15, u16, u17, u18, u19, false, dm, rfl, rfl, zu kB, zf, zf⟩
  ·intro h0 hd K hK
   have z : u11 = false := h0
   have z20_ : u20 = false := znb fun hu => z.symm.trans ((zu kF hu).2.2.2.2.2.2.2.2.2.2.2.1)
   have zd : u10 = true := by
    simp [Region.binds] at hd
    simp [hd]
   obtain ⟨rfl⟩ := zd
   subst z20_
   subst z
   clear h0 hd
   rw [if_pos (by rfl)]
   go_simp
   exact zu hK _ _ ⟨u0, u1, u2, u3, u4, u5, u6, u7, u8, u9, true, true, u12, u13, u14, u15, u16, u17, u18, u19, false, dm, rfl, rfl, zu kB, zf, zf⟩
  ·intro h0 hd K hK
   have z : u12 = false := h0
   have z20_ : u20 = false := znb fun hu => z.symm.trans ((zu kF hu).2.2.2.2.2.2.2.2.2.2.2.2.1)
   have zd : u11 = true := by
    simp [Region.binds] at hd
    simp [hd]
   obtain ⟨rfl⟩ := zd
   subst z20_
   subst z
   clear h0 hd
   rw [if_pos (by rfl)]
   have c0 := keep1 (zu kB rfl) (zu HA1)
   go_simp
   exact zu hK _ _ ⟨u0, u1, u2, u3, u4, u5, u6, u7, u8, u9, u10, true, true, u13, u14, u15, u16, u17, u18, u19, false, dm, rfl, rfl, zu kB, zf, zf⟩
  ·intro h0 hd K hK
   have z : u13 = false := h0
   have z20_ : u20 = false := znb fun hu => z.symm.trans ((zu kF hu).2.2.2.2.2.2.2.2.2.2.2.2.2.1)
   subst z20_
   subst z
   clear h0 hd
   rw [if_pos (by rfl)]
   go_simp
   exact zu hK _ _ ⟨u0, u1, u2, u3, u4, u5, u6, u7, u8, u9, u10, u11, u12, true, u14, u15, u16, u17, u18, u19, false, dm, rfl, rfl, zu kB, zf, zf⟩
  ·intro h0 hd K hK
   have z : u14 = false := h0
   have z20_ : u20 = false := znb fun hu => z.symm.trans ((zu kF hu).2.2.2.2.2.2.2.2.2.2.2.2.2.2.1)
   have zd : u13 = true := by
    simp [Region.binds] at hd
    simp [hd]
   obtain ⟨rfl⟩ := zd
   subst z20_
   subst z
   clear h0 hd
   rw [if_pos (by rfl)]
   go_simp
   exact zu hK _ _ ⟨u0, u1, u2, u3, u4, u5, u6, u7, u8, u9, u10, u11, u12, true, true, u15, u16, u17, u18, u19, false, dm, rfl, rfl, zu kB, zf, zf⟩
  ·intro h0 hd K hK
   have z : u15 = false := h0
   have z20_ : u20 = false := znb fun hu => z.symm.trans ((zu kF hu).2.2.2.2.2.2.2.2.2.2.2.2.2.2.2.1)
   have zd : u14 = true := by
    simp [Region.binds] at hd
    simp [hd]
   obtain ⟨rfl⟩ := zd
   subst z20_
   subst z
   clear h0 hd
   rw [if_pos (by rfl)]
   go_simp
   exact zu hK _ _ ⟨u0, u1, u2, u3, u4, u5, u6, u7, u8, u9, u10, u11, u12, u13, true, true, u16, u17, u18, u19, false, dm, rfl, rfl, zu kB, zf, zf⟩
  ·intro h0 hd K hK
   have z : u16 = false := h0
   have z20_ : u20 = false := znb fun hu => z.symm.trans ((zu kF hu).2.2.2.2.2.2.2.2.2.2.2.2.2.2.2.2.1)
   have zd : u15 = true := by
    simp [Region.binds] at hd
    simp [hd]
   obtain ⟨rfl⟩ := zd
   subst z20_
   subst z
   clear h0 hd
   rw [if_pos (by rfl)]
   have c0 := keep1 (zu kB rfl) (zu HA3)
   go_simp
   exact zu hK _ _ ⟨u0, u1, u2, u3, u4, u5, u6, u7, u8, u9, u10, u11, u12, u13, u14, true, true, u17, u18, u19, false, dm, rfl, rfl, zu kB, zf, zf⟩
  ·intro h0 hd K hK
   have z : u17 = false := h0
   have z20_ : u20 = false := znb fun hu => z.symm.trans ((zu kF hu).2.2.2.2.2.2.2.2.2.2.2.2.2.2.2.2.2.1)
   have zd : u12 = true ∧ u16 = true := by
    simp [Region.binds] at hd
    simp [hd]
   obtain ⟨rfl, rfl⟩ := zd
   subst z20_
   subst z
   clear h0 hd
   rw [if_pos (by rfl)]
   have wq := zu HW17
   go_simp
   exact zu hK _ _ ⟨u0, u1, u2, u3, u4, u5, u6, u7, u8, u9, u10, u11, true, u13, u14, u15, true, true, u18, u19, false, dm, rfl, rfl, zu kB, zf, zf⟩
  ·intro h0 hd K hK
   have z : u18 = false := h0
   have z20_ : u20 = false := znb fun hu => z.symm.trans ((zu kF hu).2.2.2.2.2.2.2.2.2.2.2.2.2.2.2.2.2.2.1)
   have zd : u8 = true ∧ u17 = true := by
    simp [Region.binds] at hd
    simp [hd]
   obtain ⟨rfl, rfl⟩ := zd
   subst z20_
   subst z
   clear h0 hd
   rw [if_pos (by rfl)]
   go_simp
   refine (zu HF18 W (zu kB rfl)).mono ?_
   rintro e w8 ⟨rfl, hb8⟩
   exact zu hK _ _ ⟨u0, u1, u2, u3, u4, u5, u6, u7, true, u9, u10, u11, u12, u13, u14, u15, u16, true, true, u19, false, dm, rfl, rfl, (fun _ => bc (zu kB rfl) hb8), zf, zf⟩
  ·intro h0 hd K hK
   have z : u19 = false := h0
   have z20_ : u20 = false := znb fun hu => z.symm.trans ((zu kF hu).2.2.2.2.2.2.2.2.2.2.2.2.2.2.2.2.2.2.2)
   have zd : u18 = true := by
    simp [Region.binds] at hd
    simp [hd]
   obtain ⟨rfl⟩ := zd
   subst z20_
   subst z
   clear h0 hd
   rw [if_pos (by rfl)]
   go_simp
   exact zu hK _ _ ⟨u0, u1, u2, u3, u4, u5, u6, u7, u8, u9, u10, u11, u12, u13, u14, u15, u16, u17, true, true, false, dm, rfl, rfl, zu kB, zf, zf⟩
  ·intro h0 hd K hK
   have z : u20 = false := h0
   have zd0 : u0 = true ∧ u1 = true ∧ u2 = true ∧ u3 = true ∧ u4 = true ∧ u5 = true ∧ u6 = true ∧ u7 = true ∧ u8 = true ∧ u9 = true ∧ u10 = true ∧ u11 = true ∧ u12 = true ∧ u13 = true ∧ u14 = true ∧ u15 = true ∧ u16 = true ∧ u17 = true ∧ u18 = true ∧ u19 = true := by
    simp [Region.binds] at hd
    simp [hd]
   have zd : u0 = true ∧ u1 = true ∧ u2 = true ∧ u3 = true ∧ u4 = true ∧ u5 = true ∧ u6 = true ∧ u7 = true ∧ u8 = true ∧ u9 = true ∧ u10 = true ∧ u11 = true ∧ u12 = true ∧ u13 = true ∧ u14 = true ∧ u15 = true ∧ u16 = true ∧ u17 = true ∧ u18 = true ∧ u19 = true := ⟨zd0.1, zd0.2.1, zd0.2.2.1, zd0.2.2.2.1, zd0.2.2.2.2.1, zd0.2.2.2.2.2.1, zd0.2.2.2.2.2.2.1, zd0.2.2.2.2.2.2.2.1, zd0.2.2.2.2.2.2.2.2.1, zd0.2.2.2.2.2.2.2.2.2.1, zd0.2.2.2.2.2.2.2.2.2.2.1, zd0.2.2.2.2.2.2.2.2.2.2.2.1, zd0.2.2.2.2.2.2.2.2.2.2.2.2.1, zd0.2.2.2.2.2.2.2.2.2.2.2.2.2.1, zd0.2.2.2.2.2.2.2.2.2.2.2.2.2.2.1, zd0.2.2.2.2.2.2.2.2.2.2.2.2.2.2.2.1, zd0.2.2.2.2.2.2.2.2.2.2.2.2.2.2.2.2.1, zd0.2.2.2.2.2.2.2.2.2.2.2.2.2.2.2.2.2.1, zd0.2.2.2.2.2.2.2.2.2.2.2.2.2.2.2.2.2.2.1, zd0.2.2.2.2.2.2.2.2.2.2.2.2.2.2.2.2.2.2.2⟩
   obtain ⟨rfl, rfl, rfl, rfl, rfl, rfl, rfl, rfl, rfl, rfl, rfl, rfl, rfl, rfl, rfl, rfl, rfl, rfl, rfl, rfl⟩ := zd
   subst z
   clear h0 hd
   rw [if_pos (by rfl)]
   have hB := (zu kB rfl)
   have q0 := keep1 hB (zu HO0)
   have q1 := keep1 hB (zu HO1)
   have q2 := keep1 hB (zu HO2)
   have fz : ∀ o, W.frozen? ⟨b3, o, none⟩ = false := fun o => keepz hB hbO (zu HOf o)
   have HBB := hide hB
   clear hB
   go_simp
   exact zu hK _ _ ⟨true, true, true, true, true, true, true, true, true, true, true, true, true, true, true, true, true, true, true, true, true, dm, rfl, rfl, zt, (fun _ => ⟨W, zu HBB, rfl⟩), (fun _ => ⟨rfl, rfl, rfl, rfl, rfl, rfl, rfl, rfl, rfl, rfl, rfl, rfl, rfl, rfl, rfl, rfl, rfl, rfl, rfl, rfl⟩)⟩
 case hend =>
  intro Lb A W hI
  obtain ⟨u0, u1, u2, u3, u4, hI⟩ := hI
  obtain ⟨u5, u6, u7, u8, u9, hI⟩ := hI
  obtain ⟨u10, u11, u12, u13, u14, hI⟩ := hI
  obtain ⟨u15, u16, u17, u18, u19, hI⟩ := hI
  obtain ⟨u20, dm, hI⟩ := hI
  obtain ⟨hLb, hI⟩ := hI
  obtain ⟨hA, hI⟩ := hI
  obtain ⟨kB, hI⟩ := hI
  obtain ⟨kZ, hI⟩ := hI
  have kF := hI
  clear hI
  subst hLb
  subst hA
  intro hL
  have hl : u0 = true ∧ u1 = true ∧ u2 = true ∧ u3 = true ∧ u4 = true ∧ u5 = true ∧ u6 = true ∧ u7 = true ∧ u8 = true ∧ u9 = true ∧ u10 = true ∧ u11 = true ∧ u12 = true ∧ u13 = true ∧ u14 = true ∧ u15 = true ∧ u16 = true ∧ u17 = true ∧ u18 = true ∧ u19 = true ∧ u20 = true := by
   have h2 := congrArg Array.toList hL
   simpa [List.replicate] using h2
  obtain ⟨rfl, rfl, rfl, rfl, rfl, rfl, rfl, rfl, rfl, rfl, rfl, rfl, rfl, rfl, rfl, rfl, rfl, rfl, rfl, rfl, rfl⟩ := hl
  obtain ⟨W1, hA, hZ⟩ := kZ rfl
  exact zu HQ  W1 W hZ hA
set_option maxHeartbeats 4000000 in
set_option maxRecDepth 100000 in
theorem ci10 {s1 s4 s5 s6 s7 s8 s9 s10 s11 s12 s13 s14 s15 s16 s17 s18 s19 s20 s21 s22 s23 s24 s25 s26 s27 s28 s29 s30 s31 s32 s33 s34 s35 s36 s37 s38 s39 s40 s41 s42 s43 s44 s45 s46 s47 s48 s49 s50 s51 s52 s53 s54 : Value} {b b2 b3 cap n : Nat} {x0 y0 X Y D o3 r : Int} {V : World} {K_ : Act → World → Prop} 
  (HA0 : Hid (V.cell? ⟨b, 0, none⟩ = some (.int .i64 (x0)))) (HA1 : Hid (V.cell? ⟨b, 1, none⟩ = some (.int .i64 (y0)))) (H30 : Hid (V.cell? ⟨b3, 0, none⟩ = some (.int .i64 (X)))) (H31 : Hid (V.cell? ⟨b3, 1, none⟩ = some (.int .i64 (Y)))) (H32 : Hid (V.cell? ⟨b3, 2, none⟩ = some (.int .i64 (D)))) (H33 : Hid (V.cell? ⟨b3, 3, none⟩ = some (.int .i64 (o3)))) (hbO : b3 < V.heap.size) {oo0 : Value} (HO0 : Hid (V.cell? ⟨b3, 3, none⟩ = some oo0)) (HOf : Hid (∀ o, V.frozen? ⟨b3, o, none⟩ = false))
  (HX2 : Hid (0 < n))
  (HF4 : Hid (∀ Xw, Below V.heap.size V Xw → Calls Try.prog 66 #[.agg #[.int .i64 (X), .int .i64 (Y), .int .i64 (D), .int .i64 (o3)], .agg #[.int .i64 (x0), .int .i64 (y0)]] Xw fun e w' => e = .returned (.int .i64 (r)) ∧ Below Xw.heap.size Xw w'))
  (hQ : ∀ (W1 W9 : World), W9 = (W1.setCell ⟨b3, 3, none⟩ (.int .i64 (r))) → Below V.heap.size V W1 → K_ { tmps := #[.slice (some ⟨b, 0, none⟩) n cap, s1, .pointer (some ⟨b2, 0, none⟩), .pointer (some ⟨b3, 0, none⟩), s4, s5, s6, s7, s8, s9, s10, s11, s12, s13, s14, s15, s16, s17, s18, s19, s20, s21, s22, s23, s24, s25, s26, s27, s28, s29, s30, s31, s32, s33, s34, s35, s36, s37, s38, s39, s40, s41, s42, s43, s44, s45, s46, s47, .agg #[.int .i64 (X), .int .i64 (Y), .int .i64 (D), .int .i64 (o3)], .slice (some ⟨b, 0, none⟩) n cap, .pointer (some ⟨b, 0, none⟩), .agg #[.int .i64 (x0), .int .i64 (y0)], .int .i64 (r), .pointer (some ⟨b3, 3, none⟩), s54], defers := [] } W9) :
  Go.Code.wp Try.prog (rg65 10) (Only K_) { tmps := #[.slice (some ⟨b, 0, none⟩) n cap, s1, .pointer (some ⟨b2, 0, none⟩), .pointer (some ⟨b3, 0, none⟩), s4, s5, s6, s7, s8, s9, s10, s11, s12, s13, s14, s15, s16, s17, s18, s19, s20, s21, s22, s23, s24, s25, s26, s27, s28, s29, s30, s31, s32, s33, s34, s35, s36, s37, s38, s39, s40, s41, s42, s43, s44, s45, s46, s47, s48, s49, s50, s51, s52, s53, s54], defers := [] } V := by
 have HQ := hide hQ
 clear hQ
 conv => arg 2; whnf
 refine wp_region_inv2 (fun Lb A W => ∃ (u0 u1 u2 u3 u4 u5 u6 : Bool) (dm : Nat), Lb = #[u0, u1, u2, u3, u4, u5, u6] ∧ A = ({ tmps := #[.slice (some ⟨b, 0, none⟩) n cap, s1, .pointer (some ⟨b2, 0, none⟩), .pointer (some ⟨b3, 0, none⟩), s4, s5, s6, s7, s8, s9, s10, s11, s12, s13, s14, s15, s16, s17, s18, s19, s20, s21, s22, s23, s24, s25, s26, s27, s28, s29, s30, s31, s32, s33, s34, s35, s36, s37, s38, s39, s40, s41, s42, s43, s44, s45, s46, s47, (bif u0 then .agg #[.int .i64 (X), .int .i64 (Y), .int .i64 (D), .int .i64 (o3)] else s48), (bif u1 then .slice (some ⟨b, 0, none⟩) n cap else s49), (bif u2 then .pointer (some ⟨b, 0, none⟩) else s50), (bif u3 then .agg #[.int .i64 (x0), .int .i64 (y0)] else s51), (bif u4 then .int .i64 (r) else s52), (bif u5 then .pointer (some ⟨b3, 3, none⟩) else s53), s54], defers := [] } : Act) ∧ (u6 = false → Below V.heap.size V W) ∧ (u6 = true → ∃ W1, Below V.heap.size V W1 ∧ W = (W1.setCell ⟨b3, 3, none⟩ (.int .i64 (r)))) ∧ (u6 = true → u0 = true ∧ u1 = true ∧ u2 = true ∧ u3 = true ∧ u4 = true ∧ u5 = true)) (by kernel_rfl) (by kernel_rfl) ?h0 ?hstep ?hend
 case h0 =>
  exact ⟨false, false, false, false, false, false, false, 0, rfl, rfl, (fun _ => Below.drew (Below.refl _ _)), zf, zf⟩
 case hstep =>
  intro Lb A W hI
  obtain ⟨u0, u1, u2, u3, u4, hI⟩ := hI
  obtain ⟨u5, u6, dm, hI⟩ := hI
  obtain ⟨hLb, hI⟩ := hI
  obtain ⟨hA, hI⟩ := hI
  obtain ⟨kB, hI⟩ := hI
  obtain ⟨kZ, hI⟩ := hI
  have kF := hI
  clear hI
  subst hLb
  subst hA
  replace kB := hide kB
  replace kZ := hide kZ
  replace kF := hide kF
  refine ⟨?_, ?_, ?_, ?_, ?_, ?_, ?_, trivial⟩
  ·intro h0 hd K hK
   have z : u0 = false := h0
   have z6_ : u6 = false := znb fun hu => z.symm.trans ((zu kF hu).1)
   subst z6_
   subst z
   clear h0 hd
   rw [if_pos (by rfl)]
   have c0 := keep1 (zu kB rfl) (zu H30)
   have c1 := keep1 (zu kB rfl) (zu H31)
   have c2 := keep1 (zu kB rfl) (zu H32)
   have c3 := keep1 (zu kB rfl) (zu H33)
   go_simp
   exact zu hK _ _ ⟨true, u1, u2, u3, u4, u5, false, dm, rfl, rfl, zu kB, zf, zf⟩
  ·intro h0 hd K hK
   have z : u1 = false := h0
   have z6_ : u6 = false := znb fun hu => z.symm.trans ((zu kF hu).2.1)
   subst z6_
   subst z
   clear h0 hd
   rw [if_pos (by rfl)]
   go_simp
   exact zu hK _ _ ⟨u0, true, u2, u3, u4, u5, false, dm, rfl, rfl, zu kB, zf, zf⟩
  ·intro h0 hd K hK
   have z : u2 = false := h0
   have z6_ : u6 = false := znb fun hu => z.symm.trans ((zu kF hu).2.2.1)
   have zd : u1 = true := by
    simp [Region.binds] at hd
    simp [hd]
   obtain ⟨rfl⟩ := zd
   subst z6_
   subst z
   clear h0 hd
   rw [if_pos (by rfl)]
   have q1 : 0 < n := zu HX2
   have q2 : (0 : Int) < (n : Int) := by omega
   go_simp
   exact zu hK _ _ ⟨u0, true, true, u3, u4, u5, false, dm, rfl, rfl, zu kB, zf, zf⟩
  ·intro h0 hd K hK
   have z : u3 = false := h0
   have z6_ : u6 = false := znb fun hu => z.symm.trans ((zu kF hu).2.2.2.1)
   have zd : u2 = true := by
    simp [Region.binds] at hd
    simp [hd]
   obtain ⟨rfl⟩ := zd
   subst z6_
   subst z
   clear h0 hd
   rw [if_pos (by rfl)]
   have c0 := keep1 (zu kB rfl) (zu HA0)
   have c1 := keep1 (zu kB rfl) (zu HA1)
   go_simp
   exact zu hK _ _ ⟨u0, u1, true, true, u4, u5, false, dm, rfl, rfl, zu kB, zf, zf⟩
  ·intro h0 hd K hK
   have z : u4 = false := h0
   have z6_ : u6 = false := znb fun hu => z.symm.trans ((zu kF hu).2.2.2.2.1)
   have zd : u0 = true ∧ u3 = true := by
    simp [Region.binds] at hd
    simp [hd]
   obtain ⟨rfl, rfl⟩ := zd
   subst z6_
   subst z
   clear h0 hd
   rw [if_pos (by rfl)]
   go_simp
   refine (zu HF4 W (zu kB rfl)).mono ?_
   rintro e w8 ⟨rfl, hb8⟩
   exact zu hK _ _ ⟨true, u1, u2, true, true, u5, false, dm, rfl, rfl, (fun _ => bc (zu kB rfl) hb8), zf, zf⟩
  ·intro h0 hd K hK
   have z : u5 = false := h0
   have z6_ : u6 = false := znb fun hu => z.symm.trans ((zu kF hu).2.2.2.2.2)
   have zd : u4 = true := by
    simp [Region.binds] at hd
    simp [hd]
   obtain ⟨rfl⟩ := zd
   subst z6_
   subst z
   clear h0 hd
   rw [if_pos (by rfl)]
   go_simp
   exact zu hK _ _ ⟨u0, u1, u2, u3, true, true, false, dm, rfl, rfl, zu kB, zf, zf⟩
  ·intro h0 hd K hK
   have z : u6 = false := h0
   have zd0 : u0 = true ∧ u1 = true ∧ u2 = true ∧ u3 = true ∧ u4 = true ∧ u5 = true := by
    simp [Region.binds] at hd
    simp [hd]
   have zd : u0 = true ∧ u1 = true ∧ u2 = true ∧ u3 = true ∧ u4 = true ∧ u5 = true := ⟨zd0.1, zd0.2.1, zd0.2.2.1, zd0.2.2.2.1, zd0.2.2.2.2.1, zd0.2.2.2.2.2⟩
   obtain ⟨rfl, rfl, rfl, rfl, rfl, rfl⟩ := zd
   subst z
   clear h0 hd
   rw [if_pos (by rfl)]
   have hB := (zu kB rfl)
   have q0 := keep1 hB (zu HO0)
   have fz : ∀ o, W.frozen? ⟨b3, o, none⟩ = false := fun o => keepz hB hbO (zu HOf o)
   have HBB := hide hB
   clear hB
   go_simp
   exact zu hK _ _ ⟨true, true, true, true, true, true, true, dm, rfl, rfl, zt, (fun _ => ⟨W, zu HBB, rfl⟩), (fun _ => ⟨rfl, rfl, rfl, rfl, rfl, rfl⟩)⟩
 case hend =>
  intro Lb A W hI
  obtain ⟨u0, u1, u2, u3, u4, hI⟩ := hI
  obtain ⟨u5, u6, dm, hI⟩ := hI
  obtain ⟨hLb, hI⟩ := hI
  obtain ⟨hA, hI⟩ := hI
  obtain ⟨kB, hI⟩ := hI
  obtain ⟨kZ, hI⟩ := hI
  have kF := hI
  clear hI
  subst hLb
  subst hA
  intro hL
  have hl : u0 = true ∧ u1 = true ∧ u2 = true ∧ u3 = true ∧ u4 = true ∧ u5 = true ∧ u6 = true := by
   have h2 := congrArg Array.toList hL
   simpa [List.replicate] using h2
  obtain ⟨rfl, rfl, rfl, rfl, rfl, rfl, rfl⟩ := hl
  obtain ⟨W1, hA, hZ⟩ := kZ rfl
  exact zu HQ  W1 W hZ hA
set_option maxHeartbeats 4000000 in
set_option maxRecDepth 100000 in
theorem sm7 {s0 s1 s2 s3 s4 s6 s8 s9 s10 s11 s12 s13 s14 s15 s16 s17 s18 s19 s20 s21 s22 s23 s24 s25 s26 s27 s28 s29 s30 s31 s32 s33 s34 s35 s36 s37 s38 s39 s40 s41 s42 s43 : Value} {b5 b7 : Nat} {X Y D N x y r : Int} {V : World} {K_ : Act → World → Prop} 
  (H50 : Hid (V.cell? ⟨b5, 0, none⟩ = some (.int .i64 (X)))) (H51 : Hid (V.cell? ⟨b5, 1, none⟩ = some (.int .i64 (Y)))) (H52 : Hid (V.cell? ⟨b5, 2, none⟩ = some (.int .i64 (D)))) (H53 : Hid (V.cell? ⟨b5, 3, none⟩ = some (.int .i64 (N)))) (H70 : Hid (V.cell? ⟨b7, 0, none⟩ = some (.int .i64 (x)))) (H71 : Hid (V.cell? ⟨b7, 1, none⟩ = some (.int .i64 (y)))) 
  (HF2 : Hid (∀ Xw, Below V.heap.size V Xw → Calls Try.prog 66 #[.agg #[.int .i64 (X), .int .i64 (Y), .int .i64 (D), .int .i64 (N)], .agg #[.int .i64 (x), .int .i64 (y)]] Xw fun e w' => e = .returned (.int .i64 (r)) ∧ Below Xw.heap.size Xw w'))
  (hQ : ∀ (W1 : World), Below V.heap.size V W1 → K_ { tmps := #[s0, s1, s2, s3, s4, .pointer (some ⟨b5, 0, none⟩), s6, .pointer (some ⟨b7, 0, none⟩), s8, s9, s10, s11, s12, s13, s14, s15, s16, s17, s18, s19, s20, s21, s22, .agg #[.int .i64 (X), .int .i64 (Y), .int .i64 (D), .int .i64 (N)], .agg #[.int .i64 (x), .int .i64 (y)], .int .i64 (r), .pointer (some ⟨b5, 3, none⟩), .int .i64 (N), .bool (decide (N < r)), s29, s30, s31, s32, s33, s34, s35, s36, s37, s38, s39, s40, s41, s42, s43], defers := [] } W1) :
  Go.Code.wp Try.prog (rg40 7) (Only K_) { tmps := #[s0, s1, s2, s3, s4, .pointer (some ⟨b5, 0, none⟩), s6, .pointer (some ⟨b7, 0, none⟩), s8, s9, s10, s11, s12, s13, s14, s15, s16, s17, s18, s19, s20, s21, s22, s23, s24, s25, s26, s27, s28, s29, s30, s31, s32, s33, s34, s35, s36, s37, s38, s39, s40, s41, s42, s43], defers := [] } V := by
 have HQ := hide hQ
 clear hQ
 conv => arg 2; whnf
 refine wp_region_inv2 (fun Lb A W => ∃ (u0 u1 u2 u3 u4 u5 : Bool) (dm : Nat), Lb = #[u0, u1, u2, u3, u4, u5] ∧ A = ({ tmps := #[s0, s1, s2, s3, s4, .pointer (some ⟨b5, 0, none⟩), s6, .pointer (some ⟨b7, 0, none⟩), s8, s9, s10, s11, s12, s13, s14, s15, s16, s17, s18, s19, s20, s21, s22, (bif u0 then .agg #[.int .i64 (X), .int .i64 (Y), .int .i64 (D), .int .i64 (N)] else s23), (bif u1 then .agg #[.int .i64 (x), .int .i64 (y)] else s24), (bif u2 then .int .i64 (r) else s25), (bif u3 then .pointer (some ⟨b5, 3, none⟩) else s26), (bif u4 then .int .i64 (N) else s27), (bif u5 then .bool (decide (N < r)) else s28), s29, s30, s31, s32, s33, s34, s35, s36, s37, s38, s39, s40, s41, s42, s43], defers := [] } : Act) ∧ Below V.heap.size V W ∧ (u2 = true → u0 = true ∧ u1 = true) ∧ (u4 = true → u3 = true) ∧ (u5 = true → u0 = true ∧ u1 = true ∧ u2 = true ∧ u3 = true ∧ u4 = true)) (by kernel_rfl) (by kernel_rfl) ?h0 ?hstep ?hend
 case h0 =>
  exact ⟨false, false, false, false, false, false, 0, rfl, rfl, Below.drew (Below.refl _ _), zf, zf, zf⟩
 case hstep =>
  intro Lb A W hI
  obtain ⟨u0, u1, u2, u3, u4, hI⟩ := hI
  obtain ⟨u5, dm, hI⟩ := hI
  obtain ⟨hLb, hI⟩ := hI
  obtain ⟨hA, hI⟩ := hI
  obtain ⟨kB, hI⟩ := hI
  obtain ⟨l2, hI⟩ := hI
  obtain ⟨l4, hI⟩ := hI
  have kF := hI
  clear hI
  subst hLb
  subst hA
  replace kB := hide kB
  replace l2 := hide l2
  replace l4 := hide l4
  replace kF := hide kF
  refine ⟨?_, ?_, ?_, ?_, ?_, ?_, trivial⟩
  ·intro h0 hd K hK
   have z : u0 = false := h0
   have z5_ : u5 = false := znb fun hu => z.symm.trans ((zu kF hu).1)
   subst z5_
   subst z
   clear h0 hd
   rw [if_pos (by rfl)]
   have c0 := keep1 (zu kB) (zu H50)
   have c1 := keep1 (zu kB) (zu H51)
   have c2 := keep1 (zu kB) (zu H52)
   have c3 := keep1 (zu kB) (zu H53)
   go_simp
   exact zu hK _ _ ⟨true, u1, u2, u3, u4, false, dm, rfl, rfl, zu kB, (fun h => ⟨rfl, (zu l2 h).2⟩), zu l4, zf⟩
  ·intro h0 hd K hK
   have z : u1 = false := h0
   have z5_ : u5 = false := znb fun hu => z.symm.trans ((zu kF hu).2.1)
   subst z5_
   subst z
   clear h0 hd
   rw [if_pos (by rfl)]
   have c0 := keep1 (zu kB) (zu H70)
   have c1 := keep1 (zu kB) (zu H71)
   go_simp
   exact zu hK _ _ ⟨u0, true, u2, u3, u4, false, dm, rfl, rfl, zu kB, (fun h => ⟨(zu l2 h).1, rfl⟩), zu l4, zf⟩
  ·intro h0 hd K hK
   have z : u2 = false := h0
   have z5_ : u5 = false := znb fun hu => z.symm.trans ((zu kF hu).2.2.1)
   have zd : u0 = true ∧ u1 = true := by
    simp [Region.binds] at hd
    simp [hd]
   obtain ⟨rfl, rfl⟩ := zd
   subst z5_
   subst z
   clear h0 hd
   rw [if_pos (by rfl)]
   go_simp
   refine (zu HF2 W (zu kB)).mono ?_
   rintro e w8 ⟨rfl, hb8⟩
   exact zu hK _ _ ⟨true, true, true, u3, u4, false, dm, rfl, rfl, bc (zu kB) hb8, (fun _ => ⟨rfl, rfl⟩), zu l4, zf⟩
  ·intro h0 hd K hK
   have z : u3 = false := h0
   have z5_ : u5 = false := znb fun hu => z.symm.trans ((zu kF hu).2.2.2.1)
   subst z5_
   subst z
   clear h0 hd
   rw [if_pos (by rfl)]
   go_simp
   exact zu hK _ _ ⟨u0, u1, u2, true, u4, false, dm, rfl, rfl, zu kB, zu l2, (fun h => rfl), zf⟩
  ·intro h0 hd K hK
   have z : u4 = false := h0
   have z5_ : u5 = false := znb fun hu => z.symm.trans ((zu kF hu).2.2.2.2)
   have zd : u3 = true := by
    simp [Region.binds] at hd
    simp [hd]
   obtain ⟨rfl⟩ := zd
   subst z5_
   subst z
   clear h0 hd
   rw [if_pos (by rfl)]
   have c0 := keep1 (zu kB) (zu H53)
   go_simp
   exact zu hK _ _ ⟨u0, u1, u2, true, true, false, dm, rfl, rfl, zu kB, zu l2, (fun _ => rfl), zf⟩
  ·intro h0 hd K hK
   have z : u5 = false := h0
   have zd0 : u2 = true ∧ u4 = true := by
    simp [Region.binds] at hd
    simp [hd]
   have zd : u2 = true ∧ u4 = true ∧ u0 = true ∧ u1 = true ∧ u3 = true := ⟨zd0.1, zd0.2, (zu l2 zd0.1).1, (zu l2 zd0.1).2, (zu l4 zd0.2)⟩
   obtain ⟨rfl, rfl, rfl, rfl, rfl⟩ := zd
   subst z
   clear h0 hd
   rw [if_pos (by rfl)]
   go_simp
   exact zu hK _ _ ⟨true, true, true, true, true, true, dm, rfl, rfl, zu kB, (fun _ => ⟨rfl, rfl⟩), (fun _ => rfl), (fun _ => ⟨rfl, rfl, rfl, rfl, rfl⟩)⟩
 case hend =>
  intro Lb A W hI
  obtain ⟨u0, u1, u2, u3, u4, hI⟩ := hI
  obtain ⟨u5, dm, hI⟩ := hI
  obtain ⟨hLb, hI⟩ := hI
  obtain ⟨hA, hI⟩ := hI
  obtain ⟨kB, hI⟩ := hI
  obtain ⟨l2, hI⟩ := hI
  obtain ⟨l4, hI⟩ := hI
  have kF := hI
  clear hI
  subst hLb
  subst hA
  intro hL
  have hl : u0 = true ∧ u1 = true ∧ u2 = true ∧ u3 = true ∧ u4 = true ∧ u5 = true := by
   have h2 := congrArg Array.toList hL
   simpa [List.replicate] using h2
  obtain ⟨rfl, rfl, rfl, rfl, rfl, rfl⟩ := hl
  exact zu HQ  W kB
set_option maxHeartbeats 4000000 in
set_option maxRecDepth 100000 in
theorem sm11 {s1 s2 s3 s4 s7 s10 s11 s12 s13 s14 s15 s16 s17 s18 s19 s20 s21 s22 s23 s24 s25 s26 s27 s28 s29 s30 s31 s32 s33 s34 s35 s36 s37 s38 s39 s40 s41 s42 s43 : Value} {b b5 b8 n cap i m m1 : Nat} {X Y D N : Int} {V : World} {K_ : Act → World → Prop} (hic : i ≤ cap) (hm1 : m1 ≤ 3)
     (hbO : b5 < V.heap.size) {oo0 : Value} (HO0 : Hid (V.cell? ⟨b5, 0, none⟩ = some oo0)) {oo1 : Value} (HO1 : Hid (V.cell? ⟨b5, 1, none⟩ = some oo1)) {oo2 : Value} (HO2 : Hid (V.cell? ⟨b5, 2, none⟩ = some oo2)) {oo3 : Value} (HO3 : Hid (V.cell? ⟨b5, 3, none⟩ = some oo3)) (HOf : Hid (∀ o, V.frozen? ⟨b5, o, none⟩ = false))
  (HW4 : Hid (IntKind.i64.wrap ((m : Int) + 1) = (m1 : Int)))
  (HF6 : Hid (∀ Xw, Below V.heap.size V Xw → Calls Try.prog 40 #[.slice (some ⟨b, 0, none⟩) i cap, .slice (some ⟨b8, 0, none⟩) m1 3] Xw fun e w' => e = .returned (.agg #[.int .i64 (X), .int .i64 (Y), .int .i64 (D), .int .i64 (N)]) ∧ Below Xw.heap.size Xw w'))
  (hQ : ∀ (W1 W9 : World), W9 = ((((W1.setCell ⟨b5, 0, none⟩ (.int .i64 (X))).setCell ⟨b5, 1, none⟩ (.int .i64 (Y))).setCell ⟨b5, 2, none⟩ (.int .i64 (D))).setCell ⟨b5, 3, none⟩ (.int .i64 (N))) → Below V.heap.size V W1 → K_ { tmps := #[.slice (some ⟨b, 0, none⟩) n cap, s1, s2, s3, s4, .pointer (some ⟨b5, 0, none⟩), .int .i64 (i : Int), s7, .pointer (some ⟨b8, 0, none⟩), .int .i64 (m : Int), s10, s11, s12, s13, s14, s15, s16, s17, s18, s19, s20, s21, s22, s23, s24, s25, s26, s27, s28, s29, s30, s31, s32, s33, s34, .slice (some ⟨b, 0, none⟩) n cap, .int .i64 (i : Int), .slice (some ⟨b, 0, none⟩) i cap, .int .i64 (m : Int), .int .i64 (m1 : Int), .slice (some ⟨b8, 0, none⟩) m1 3, .agg #[.int .i64 (X), .int .i64 (Y), .int .i64 (D), .int .i64 (N)], s42, s43], defers := [] } W9) :
  Go.Code.wp Try.prog (rg40 11) (Only K_) { tmps := #[.slice (some ⟨b, 0, none⟩) n cap, s1, s2, s3, s4, .pointer (some ⟨b5, 0, none⟩), .int .i64 (i : Int), s7, .pointer (some ⟨b8, 0, none⟩), .int .i64 (m : Int), s10, s11, s12, s13, s14, s15, s16, s17, s18, s19, s20, s21, s22, s23, s24, s25, s26, s27, s28, s29, s30, s31, s32, s33, s34, s35, s36, s37, s38, s39, s40, s41, s42, s43], defers := [] } V := by
 have HQ := hide hQ
 clear hQ
 conv => arg 2; whnf
 refine wp_region_inv2 (fun Lb A W => ∃ (u0 u1 u2 u3 u4 u5 u6 u7 : Bool) (dm : Nat), Lb = #[u0, u1, u2, u3, u4, u5, u6, u7] ∧ A = ({ tmps := #[.slice (some ⟨b, 0, none⟩) n cap, s1, s2, s3, s4, .pointer (some ⟨b5, 0, none⟩), .int .i64 (i : Int), s7, .pointer (some ⟨b8, 0, none⟩), .int .i64 (m : Int), s10, s11, s12, s13, s14, s15, s16, s17, s18, s19, s20, s21, s22, s23, s24, s25, s26, s27, s28, s29, s30, s31, s32, s33, s34, (bif u0 then .slice (some ⟨b, 0, none⟩) n cap else s35), (bif u1 then .int .i64 (i : Int) else s36), (bif u2 then .slice (some ⟨b, 0, none⟩) i cap else s37), (bif u3 then .int .i64 (m : Int) else s38), (bif u4 then .int .i64 (m1 : Int) else s39), (bif u5 then .slice (some ⟨b8, 0, none⟩) m1 3 else s40), (bif u6 then .agg #[.int .i64 (X), .int .i64 (Y), .int .i64 (D), .int .i64 (N)] else s41), s42, s43], defers := [] } : Act) ∧ (u7 = false → Below V.heap.size V W) ∧ (u7 = true → ∃ W1, Below V.heap.size V W1 ∧ W = ((((W1.setCell ⟨b5, 0, none⟩ (.int .i64 (X))).setCell ⟨b5, 1, none⟩ (.int .i64 (Y))).setCell ⟨b5, 2, none⟩ (.int .i64 (D))).setCell ⟨b5, 3, none⟩ (.int .i64 (N)))) ∧ (u7 = true → u0 = true ∧ u1 = true ∧ u2 = true ∧ u3 = true ∧ u4 = true ∧ u5 = true ∧ u6 = true)) (by kernel_rfl) (by kernel_rfl) ?h0 ?hstep ?hend
 case h0 =>
  exact ⟨false, false, false, false, false, false, false, false, 0, rfl, rfl, (fun _ => Below.drew (Below.refl _ _)), zf, zf⟩
 case hstep =>
  intro Lb A W hI
  obtain ⟨u0, u1, u2, u3, u4, hI⟩ := hI
  obtain ⟨u5, u6, u7, dm, hI⟩ := hI
  obtain ⟨hLb, hI⟩ := hI
  obtain ⟨hA, hI⟩ := hI
  obtain ⟨kB, hI⟩ := hI
  obtain ⟨kZ, hI⟩ := hI
  have kF := hI
  clear hI
  subst hLb
  subst hA
  replace kB := hide kB
  replace kZ := hide kZ
  replace kF := hide kF
  refine ⟨?_, ?_, ?_, ?_, ?_, ?_, ?_, ?_, trivial⟩
  ·intro h0 hd K hK
   have z : u0 = false := h0
   have z7_ : u7 = false := znb fun hu => z.symm.trans ((zu kF hu).1)
   subst z7_
   subst z
   clear h0 hd
   rw [if_pos (by rfl)]
   go_simp
   exact zu hK _ _ ⟨true, u1, u2, u3, u4, u5, u6, false, dm, rfl, rfl, zu kB, zf, zf⟩
  ·intro h0 hd K hK
   have z : u1 = false := h0
   have z7_ : u7 = false := znb fun hu => z.symm.trans ((zu kF hu).2.1)
   subst z7_
   subst z
   clear h0 hd
   rw [if_pos (by rfl)]
   go_simp
   exact zu hK _ _ ⟨u0, true, u2, u3, u4, u5, u6, false, dm, rfl, rfl, zu kB, zf, zf⟩
  ·intro h0 hd K hK
   have z : u2 = false := h0
   have z7_ : u7 = false := znb fun hu => z.symm.trans ((zu kF hu).2.2.1)
   have zd : u0 = true ∧ u1 = true := by
    simp [Region.binds] at hd
    simp [hd]
   obtain ⟨rfl, rfl⟩ := zd
   subst z7_
   subst z
   clear h0 hd
   rw [if_pos (by rfl)]
   have q1 : (i : Int) ≤ (cap : Int) := by omega
   go_simp
   exact zu hK _ _ ⟨true, true, true, u3, u4, u5, u6, false, dm, rfl, rfl, zu kB, zf, zf⟩
  ·intro h0 hd K hK
   have z : u3 = false := h0
   have z7_ : u7 = false := znb fun hu => z.symm.trans ((zu kF hu).2.2.2.1)
   subst z7_
   subst z
   clear h0 hd
   rw [if_pos (by rfl)]
   go_simp
   exact zu hK _ _ ⟨u0, u1, u2, true, u4, u5, u6, false, dm, rfl, rfl, zu kB, zf, zf⟩
  ·intro h0 hd K hK
   have z : u4 = false := h0
   have z7_ : u7 = false := znb fun hu => z.symm.trans ((zu kF hu).2.2.2.2.1)
   have zd : u3 = true := by
    simp [Region.binds] at hd
    simp [hd]
   obtain ⟨rfl⟩ := zd
   subst z7_
   subst z
   clear h0 hd
   rw [if_pos (by rfl)]
   have wq := zu HW4
   go_simp
   exact zu hK _ _ ⟨u0, u1, u2, true, true, u5, u6, false, dm, rfl, rfl, zu kB, zf, zf⟩
  ·intro h0 hd K hK
   have z : u5 = false := h0
   have z7_ : u7 = false := znb fun hu => z.symm.trans ((zu kF hu).2.2.2.2.2.1)
   have zd : u4 = true := by
    simp [Region.binds] at hd
    simp [hd]
   obtain ⟨rfl⟩ := zd
   subst z7_
   subst z
   clear h0 hd
   rw [if_pos (by rfl)]
   have q1 : (m1 : Int) ≤ 3 := by omega
   go_simp
   exact zu hK _ _ ⟨u0, u1, u2, u3, true, true, u6, false, dm, rfl, rfl, zu kB, zf, zf⟩
  ·intro h0 hd K hK
   have z : u6 = false := h0
   have z7_ : u7 = false := znb fun hu => z.symm.trans ((zu kF hu).2.2.2.2.2.2)
   have zd : u2 = true ∧ u5 = true := by
    simp [Region.binds] at hd
    simp [hd]
   obtain ⟨rfl, rfl⟩ := zd
   subst z7_
   subst z
   clear h0 hd
   rw [if_pos (by rfl)]
   go_simp
   refine (zu HF6 W (zu kB rfl)).mono ?_
   rintro e w8 ⟨rfl, hb8⟩
   exact zu hK _ _ ⟨u0, u1, true, u3, u4, true, true, false, dm, rfl, rfl, (fun _ => bc (zu kB rfl) hb8), zf, zf⟩
  ·intro h0 hd K hK
   have z : u7 = false := h0
   have zd0 : u0 = true ∧ u1 = true ∧ u2 = true ∧ u3 = true ∧ u4 = true ∧ u5 = true ∧ u6 = true := by
    simp [Region.binds] at hd
    simp [hd]
   have zd : u0 = true ∧ u1 = true ∧ u2 = true ∧ u3 = true ∧ u4 = true ∧ u5 = true ∧ u6 = true := ⟨zd0.1, zd0.2.1, zd0.2.2.1, zd0.2.2.2.1, zd0.2.2.2.2.1, zd0.2.2.2.2.2.1, zd0.2.2.2.2.2.2⟩
   obtain ⟨rfl, rfl, rfl, rfl, rfl, rfl, rfl⟩ := zd
   subst z
   clear h0 hd
   rw [if_pos (by rfl)]
   have hB := (zu kB rfl)
   have q0 := keep1 hB (zu HO0)
   have q1 := keep1 hB (zu HO1)
   have q2 := keep1 hB (zu HO2)
   have q3 := keep1 hB (zu HO3)
   have fz : ∀ o, W.frozen? ⟨b5, o, none⟩ = false := fun o => keepz hB hbO (zu HOf o)
   have HBB := hide hB
   clear hB
   go_simp
   exact zu hK _ _ ⟨true, true, true, true, true, true, true, true, dm, rfl, rfl, zt, (fun _ => ⟨W, zu HBB, rfl⟩), (fun _ => ⟨rfl, rfl, rfl, rfl, rfl, rfl, rfl⟩)⟩
 case hend =>
  intro Lb A W hI
  obtain ⟨u0, u1, u2, u3, u4, hI⟩ := hI
  obtain ⟨u5, u6, u7, dm, hI⟩ := hI
  obtain ⟨hLb, hI⟩ := hI
  obtain ⟨hA, hI⟩ := hI
  obtain ⟨kB, hI⟩ := hI
  obtain ⟨kZ, hI⟩ := hI
  have kF := hI
  clear hI
  subst hLb
  subst hA
  intro hL
  have hl : u0 = true ∧ u1 = true ∧ u2 = true ∧ u3 = true ∧ u4 = true ∧ u5 = true ∧ u6 = true ∧ u7 = true := by
   have h2 := congrArg Array.toList hL
   simpa [List.replicate] using h2
  obtain ⟨rfl, rfl, rfl, rfl, rfl, rfl, rfl, rfl⟩ := hl
  obtain ⟨W1, hA, hZ⟩ := kZ rfl
  exact zu HQ  W1 W hZ hA
end Go.Proofs.Ytdcecfgmfmpeeaa
