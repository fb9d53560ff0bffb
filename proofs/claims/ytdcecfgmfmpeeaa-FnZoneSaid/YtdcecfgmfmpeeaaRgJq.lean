/-
  Statements of obtuse that draw their order, each walked alone.
-/
import Derived.Test.YtdcecfgmfmpeeaaZalq
namespace Go.Proofs.Ytdcecfgmfmpeeaa
open Go.ChangeShapes Go.WideShapes Go.ChangeAt Go.RowKit
set_option linter.unusedVariables false
set_option linter.unusedSimpArgs false
noncomputable def rg90 (id : Nat) : Go.Code := match Try.f90.body with | some c => (regOfZ id c).getD .skip | none => .skip
set_option maxHeartbeats 4000000 in
set_option maxRecDepth 100000 in
theorem ob3 {s1 s2 s3 s4 s5 s6 s8 s10 s11 s12 s13 s14 s15 s16 s17 s18 s19 s20 s21 s22 s23 s24 s25 s26 s27 s28 s29 s30 s31 s32 s33 s34 s35 s36 s37 : Value} {b i : Nat} {x y : Int} {V : World} {K_ : Act → World → Prop} 
  (HA0 : Hid (V.cell? ⟨b, i * 2, none⟩ = some (.int .i64 (x)))) (HA1 : Hid (V.cell? ⟨b, i * 2 + 1, none⟩ = some (.int .i64 (y)))) 
  (HX2 : Hid (i < 3))
  (hQ : ∀ (n4 : Nat) (W1 : World), Below V.heap.size V W1 → cb W1 n4 30 [.int .i64 (x), .int .i64 (y)] → V.heap.size ≤ n4 → K_ { tmps := #[.pointer (some ⟨b, 0, none⟩), s1, s2, .int .i64 (i : Int), .pointer (some ⟨n4, 0, none⟩), s5, s6, .pointer (some ⟨b, 0, none⟩), s8, .int .i64 (i : Int), s10, .int .i64 (i : Int), .pointer (some ⟨b, 0, none⟩), .pointer (some ⟨b, i * 2, none⟩), .agg #[.int .i64 (x), .int .i64 (y)], s15, s16, s17, s18, s19, s20, s21, s22, s23, s24, s25, s26, s27, s28, s29, s30, s31, s32, s33, s34, s35, s36, s37], defers := [] } W1) :
  Go.Code.wp Try.prog (rg90 3) (Only K_) { tmps := #[.pointer (some ⟨b, 0, none⟩), s1, s2, s3, s4, s5, s6, .pointer (some ⟨b, 0, none⟩), s8, .int .i64 (i : Int), s10, s11, s12, s13, s14, s15, s16, s17, s18, s19, s20, s21, s22, s23, s24, s25, s26, s27, s28, s29, s30, s31, s32, s33, s34, s35, s36, s37], defers := [] } V := by
 have HQ := hide hQ
 clear hQ
 conv => arg 2; whnf
 refine wp_region_inv2 (fun Lb A W => ∃ (u0 u1 u2 u3 u4 u5 u6 : Bool) (n4 : Nat), Lb = #[u0, u1, u2, u3, u4, u5, u6] ∧ A = ({ tmps := #[.pointer (some ⟨b, 0, none⟩), s1, s2, (bif u5 then .int .i64 (i : Int) else s3), (bif u4 then .pointer (some ⟨n4, 0, none⟩) else s4), s5, s6, .pointer (some ⟨b, 0, none⟩), s8, .int .i64 (i : Int), s10, (bif u0 then .int .i64 (i : Int) else s11), (bif u1 then .pointer (some ⟨b, 0, none⟩) else s12), (bif u2 then .pointer (some ⟨b, i * 2, none⟩) else s13), (bif u3 then .agg #[.int .i64 (x), .int .i64 (y)] else s14), s15, s16, s17, s18, s19, s20, s21, s22, s23, s24, s25, s26, s27, s28, s29, s30, s31, s32, s33, s34, s35, s36, s37], defers := [] } : Act) ∧ Below V.heap.size V W ∧ (u4 = true → cb W n4 30 (bif u6 then [.int .i64 (x), .int .i64 (y)] else [.int .i64 (0), .int .i64 (0)]) ∧ V.heap.size ≤ n4) ∧ (u6 = true → u0 = true ∧ u1 = true ∧ u2 = true ∧ u3 = true ∧ u4 = true ∧ u5 = true)) (by kernel_rfl) (by kernel_rfl) ?h0 ?hstep ?hend
 case h0 =>
  exact ⟨false, false, false, false, false, false, false, 0, rfl, rfl, Below.drew (Below.refl _ _), zf, zf⟩
 case hstep =>
  intro Lb A W hI
  obtain ⟨u0, u1, u2, u3, u4, hI⟩ := hI
  obtain ⟨u5, u6, n4, hI⟩ := hI
  obtain ⟨hLb, hI⟩ := hI
  obtain ⟨hA, hI⟩ := hI
  obtain ⟨kB, hI⟩ := hI
  obtain ⟨k4, hI⟩ := hI
  have kF := hI
  clear hI
  subst hLb
  subst hA
  replace kB := hide kB
  replace k4 := hide k4
  replace kF := hide kF
  refine ⟨?_, ?_, ?_, ?_, ?_, ?_, ?_, trivial⟩
  ·intro h0 hd K hK
   have z : u0 = false := h0
   have z6_ : u6 = false := znb fun hu => z.symm.trans ((zu kF hu).1)
   subst z6_
   subst z
   clear h0 hd
   rw [if_pos (by rfl)]
   go_simp
   exact zu hK _ _ ⟨true, u1, u2, u3, u4, u5, false, n4, rfl, rfl, zu kB, zu k4, zf⟩
  ·intro h0 hd K hK
   have z : u1 = false := h0
   have z6_ : u6 = false := znb fun hu => z.symm.trans ((zu kF hu).2.1)
   subst z6_
   subst z
   clear h0 hd
   rw [if_pos (by rfl)]
   go_simp
   exact zu hK _ _ ⟨u0, true, u2, u3, u4, u5, false, n4, rfl, rfl, zu kB, zu k4, zf⟩
  ·intro h0 hd K hK
   have z : u2 = false := h0
   have z6_ : u6 = false := znb fun hu => z.symm.trans ((zu kF hu).2.2.1)
   have zd : u1 = true := by
    simp [Region.binds] at hd
    simp [hd]
   obtain ⟨rfl⟩ := zd
   subst z6_
   subst z
   clear h0 hd
   rw [if_pos (by rfl)]
   have q1 := zu HX2
   have q2 : (i : Int) < 3 := by omega
   go_simp
   exact zu hK _ _ ⟨u0, true, true, u3, u4, u5, false, n4, rfl, rfl, zu kB, zu k4, zf⟩
  ·intro h0 hd K hK
   have z : u3 = false := h0
   have z6_ : u6 = false := znb fun hu => z.symm.trans ((zu kF hu).2.2.2.1)
   have zd : u2 = true := by
    simp [Region.binds] at hd
    simp [hd]
   obtain ⟨rfl⟩ := zd
   subst z6_
   subst z
   clear h0 hd
   rw [if_pos (by rfl)]
   have c0 := keep1 (zu kB) (zu HA0)
   have c1 := keep1 (zu kB) (zu HA1)
   go_simp
   exact zu hK _ _ ⟨u0, u1, true, true, u4, u5, false, n4, rfl, rfl, zu kB, zu k4, zf⟩
  ·intro h0 hd K hK
   have z : u4 = false := h0
   have z6_ : u6 = false := znb fun hu => z.symm.trans ((zu kF hu).2.2.2.2.1)
   subst z6_
   subst z
   clear h0 hd
   rw [if_pos (by rfl)]
   go_simp
   exact zu hK _ _ ⟨u0, u1, u2, u3, true, u5, false, W.heap.size, rfl, rfl, ba (zu kB) _, (fun _ => ⟨cb_new W 30 _ _ rfl, (zu kB).size⟩), zf⟩
  ·intro h0 hd K hK
   have z : u5 = false := h0
   have z6_ : u6 = false := znb fun hu => z.symm.trans ((zu kF hu).2.2.2.2.2)
   have zd : u0 = true ∧ u4 = true := by
    simp [Region.binds] at hd
    simp [hd]
   obtain ⟨rfl, rfl⟩ := zd
   subst z6_
   subst z
   clear h0 hd
   rw [if_pos (by rfl)]
   go_simp
   exact zu hK _ _ ⟨true, u1, u2, u3, true, true, false, n4, rfl, rfl, zu kB, zu k4, zf⟩
  ·intro h0 hd K hK
   have z : u6 = false := h0
   have zd0 : u0 = true ∧ u1 = true ∧ u2 = true ∧ u3 = true ∧ u4 = true ∧ u5 = true := by
    simp [Region.binds] at hd
    simp [hd]
   have zd : u0 = true ∧ u1 = true ∧ u2 = true ∧ u3 = true ∧ u4 = true ∧ u5 = true := ⟨zd0.1, zd0.2.1, zd0.2.2.1, zd0.2.2.2.1, zd0.2.2.2.2.1, zd0.2.2.2.2.2⟩
   obtain ⟨rfl, rfl, rfl, rfl, rfl, rfl⟩ := zd
   subst z
   clear h0 hd
   rw [if_pos (by rfl)]
   have v1 := (zu k4 rfl).1
   have g9 := (zu k4 rfl).2
   have fz := v1.frozen
   have q0 := v1.cell (m := 0) rfl
   have q1 := v1.cell (m := 1) rfl
   have HV1 := hide v1
   clear v1
   go_simp
   exact zu hK _ _ ⟨true, true, true, true, true, true, true, n4, rfl, rfl, (((((zu kB)).setCell (p := ⟨n4, 0, none⟩) g9 _)).setCell (p := ⟨n4, 1, none⟩) g9 _), (fun _ => ⟨(((zu HV1).set 0 _).set 1 _), g9⟩), (fun _ => ⟨rfl, rfl, rfl, rfl, rfl, rfl⟩)⟩
 case hend =>
  intro Lb A W hI
  obtain ⟨u0, u1, u2, u3, u4, hI⟩ := hI
  obtain ⟨u5, u6, n4, hI⟩ := hI
  obtain ⟨hLb, hI⟩ := hI
  obtain ⟨hA, hI⟩ := hI
  obtain ⟨kB, hI⟩ := hI
  obtain ⟨k4, hI⟩ := hI
  have kF := hI
  clear hI
  subst hLb
  subst hA
  intro hL
  have hl : u0 = true ∧ u1 = true ∧ u2 = true ∧ u3 = true ∧ u4 = true ∧ u5 = true ∧ u6 = true := by
   have h2 := congrArg Array.toList hL
   simpa [List.replicate] using h2
  obtain ⟨rfl, rfl, rfl, rfl, rfl, rfl, rfl⟩ := hl
  exact zu HQ n4 W kB (k4 rfl).1 (k4 rfl).2
set_option maxHeartbeats 4000000 in
set_option maxRecDepth 100000 in
theorem ob4 {s1 s2 s4 s5 s6 s7 s8 s9 s10 s11 s12 s13 s14 s15 s16 s17 s18 s19 s20 s21 s22 s23 s24 s25 s26 s27 s28 s29 s30 s31 s32 s33 s34 s35 s36 s37 : Value} {b i j l : Nat} {x1 y1 x2 y2 p1 p2 : Int} {V : World} {K_ : Act → World → Prop} 
  (HA0 : Hid (V.cell? ⟨b, j * 2, none⟩ = some (.int .i64 (x1)))) (HA1 : Hid (V.cell? ⟨b, j * 2 + 1, none⟩ = some (.int .i64 (y1)))) (HC0 : Hid (V.cell? ⟨b, l * 2, none⟩ = some (.int .i64 (x2)))) (HC1 : Hid (V.cell? ⟨b, l * 2 + 1, none⟩ = some (.int .i64 (y2)))) 
  (HW2 : Hid (IntKind.i64.wrap ((i : Int) + 1) = p1))
  (HW3 : Hid ((p1).tmod (3) = (j : Int)))
  (HX5 : Hid (j < 3))
  (HW9 : Hid (IntKind.i64.wrap ((i : Int) + 2) = p2))
  (HW10 : Hid ((p2).tmod (3) = (l : Int)))
  (HX12 : Hid (l < 3))
  (hQ : ∀ (n14 n15 : Nat) (W1 : World), Below V.heap.size V W1 → cb W1 n14 30 [.int .i64 (x1), .int .i64 (y1)] → V.heap.size ≤ n14 → cb W1 n15 30 [.int .i64 (x2), .int .i64 (y2)] → V.heap.size ≤ n15 → n14 ≠ n15 → K_ { tmps := #[.pointer (some ⟨b, 0, none⟩), s1, s2, .int .i64 (i : Int), s4, .pointer (some ⟨n14, 0, none⟩), .pointer (some ⟨n15, 0, none⟩), s7, s8, s9, s10, s11, s12, s13, s14, .pointer (some ⟨b, 0, none⟩), .int .i64 (i : Int), .int .i64 (p1), .int .i64 (j : Int), .pointer (some ⟨b, 0, none⟩), .pointer (some ⟨b, j * 2, none⟩), .agg #[.int .i64 (x1), .int .i64 (y1)], .pointer (some ⟨b, 0, none⟩), .int .i64 (i : Int), .int .i64 (p2), .int .i64 (l : Int), .pointer (some ⟨b, 0, none⟩), .pointer (some ⟨b, l * 2, none⟩), .agg #[.int .i64 (x2), .int .i64 (y2)], s29, s30, s31, s32, s33, s34, s35, s36, s37], defers := [] } W1) :
  Go.Code.wp Try.prog (rg90 4) (Only K_) { tmps := #[.pointer (some ⟨b, 0, none⟩), s1, s2, .int .i64 (i : Int), s4, s5, s6, s7, s8, s9, s10, s11, s12, s13, s14, s15, s16, s17, s18, s19, s20, s21, s22, s23, s24, s25, s26, s27, s28, s29, s30, s31, s32, s33, s34, s35, s36, s37], defers := [] } V := by
 have HQ := hide hQ
 clear hQ
 conv => arg 2; whnf
 refine wp_region_inv2 (fun Lb A W => ∃ (u0 u1 u2 u3 u4 u5 u6 u7 u8 u9 u10 u11 u12 u13 u14 u15 u16 u17 : Bool) (n14 : Nat) (n15 : Nat), Lb = #[u0, u1, u2, u3, u4, u5, u6, u7, u8, u9, u10, u11, u12, u13, u14, u15, u16, u17] ∧ A = ({ tmps := #[.pointer (some ⟨b, 0, none⟩), s1, s2, .int .i64 (i : Int), s4, (bif u14 then .pointer (some ⟨n14, 0, none⟩) else s5), (bif u15 then .pointer (some ⟨n15, 0, none⟩) else s6), s7, s8, s9, s10, s11, s12, s13, s14, (bif u0 then .pointer (some ⟨b, 0, none⟩) else s15), (bif u1 then .int .i64 (i : Int) else s16), (bif u2 then .int .i64 (p1) else s17), (bif u3 then .int .i64 (j : Int) else s18), (bif u4 then .pointer (some ⟨b, 0, none⟩) else s19), (bif u5 then .pointer (some ⟨b, j * 2, none⟩) else s20), (bif u6 then .agg #[.int .i64 (x1), .int .i64 (y1)] else s21), (bif u7 then .pointer (some ⟨b, 0, none⟩) else s22), (bif u8 then .int .i64 (i : Int) else s23), (bif u9 then .int .i64 (p2) else s24), (bif u10 then .int .i64 (l : Int) else s25), (bif u11 then .pointer (some ⟨b, 0, none⟩) else s26), (bif u12 then .pointer (some ⟨b, l * 2, none⟩) else s27), (bif u13 then .agg #[.int .i64 (x2), .int .i64 (y2)] else s28), s29, s30, s31, s32, s33, s34, s35, s36, s37], defers := [] } : Act) ∧ Below V.heap.size V W ∧ (u14 = true → cb W n14 30 (bif u16 then [.int .i64 (x1), .int .i64 (y1)] else [.int .i64 (0), .int .i64 (0)]) ∧ V.heap.size ≤ n14) ∧ (u15 = true → cb W n15 30 (bif u17 then [.int .i64 (x2), .int .i64 (y2)] else [.int .i64 (0), .int .i64 (0)]) ∧ V.heap.size ≤ n15) ∧ (u14 = true → u15 = true → n14 ≠ n15) ∧ (u2 = true → u1 = true) ∧ (u3 = true → u2 = true) ∧ (u4 = true → u0 = true) ∧ (u5 = true → u4 = true ∧ u3 = true) ∧ (u6 = true → u5 = true) ∧ (u16 = true → u14 = true ∧ u6 = true ∧ u15 = true) ∧ (u17 = true → u0 = true ∧ u1 = true ∧ u2 = true ∧ u3 = true ∧ u4 = true ∧ u5 = true ∧ u6 = true ∧ u7 = true ∧ u8 = true ∧ u9 = true ∧ u10 = true ∧ u11 = true ∧ u12 = true ∧ u13 = true ∧ u14 = true ∧ u15 = true ∧ u16 = true)) (by kernel_rfl) (by kernel_rfl) ?h0 ?hstep ?hend
 case h0 =>
  exact ⟨false, false, false, false, false, false, false, false, false, false, false, false, false, false, false, false, false, false, 0, 0, rfl, rfl, Below.drew (Below.refl _ _), zf, zf, zf, zf, zf, zf, zf, zf, zf, zf⟩
 case hstep =>
  intro Lb A W hI
  obtain ⟨u0, u1, u2, u3, u4, hI⟩ := hI
  obtain ⟨u5, u6, u7, u8, u9, hI⟩ := hI
  obtain ⟨u10, u11, u12, u13, u14, hI⟩ := hI
  obtain ⟨u15, u16, u17, n14, n15, hI⟩ := hI
  obtain ⟨hLb, hI⟩ := hI
  obtain ⟨hA, hI⟩ := hI
  obtain ⟨kB, hI⟩ := hI
  obtain ⟨k14, hI⟩ := hI
  obtain ⟨k15, hI⟩ := hI
  obtain ⟨kn14_15, hI⟩ := hI
  obtain ⟨l2, hI⟩ := hI
  obtain ⟨l3, hI⟩ := hI
  obtain ⟨l4, hI⟩ := hI
  obtain ⟨l5, hI⟩ := hI
  obtain ⟨l6, hI⟩ := hI
  obtain ⟨l16, hI⟩ := hI
  have kF := hI
  clear hI
  subst hLb
  subst hA
  replace kB := hide kB
  replace k14 := hide k14
  replace k15 := hide k15
  replace kn14_15 := hide kn14_15
  replace l2 := hide l2
  replace l3 := hide l3
  replace l4 := hide l4
  replace l5 := hide l5
  replace l6 := hide l6
  replace l16 := hide l16
  replace kF := hide kF
  refine ⟨?_, ?_, ?_, ?_, ?_, ?_, ?_, ?_, ?_, ?_, ?_, ?_, ?_, ?_, ?_, ?_, ?_, ?_, trivial⟩
  ·intro h0 hd K hK
   have z : u0 = false := h0
   have z17_ : u17 = false := znb fun hu => z.symm.trans ((zu kF hu).1)
   have z16_ : u16 = false := znb fun hu => z.symm.trans ((zu l4 (zu l5 (zu l6 (zu l16 hu).2.1)).1))
   subst z17_
   subst z16_
   subst z
   clear h0 hd
   rw [if_pos (by rfl)]
   go_simp
   exact zu hK _ _ ⟨true, u1, u2, u3, u4, u5, u6, u7, u8, u9, u10, u11, u12, u13, u14, u15, false, false, n14, n15, rfl, rfl, zu kB, zu k14, zu k15, zu kn14_15, zu l2, zu l3, (fun h => rfl), zu l5, zu l6, zf, zf⟩
  ·intro h0 hd K hK
   have z : u1 = false := h0
   have z17_ : u17 = false := znb fun hu => z.symm.trans ((zu kF hu).2.1)
   have z16_ : u16 = false := znb fun hu => z.symm.trans ((zu l2 (zu l3 (zu l5 (zu l6 (zu l16 hu).2.1)).2)))
   subst z17_
   subst z16_
   subst z
   clear h0 hd
   rw [if_pos (by rfl)]
   go_simp
   exact zu hK _ _ ⟨u0, true, u2, u3, u4, u5, u6, u7, u8, u9, u10, u11, u12, u13, u14, u15, false, false, n14, n15, rfl, rfl, zu kB, zu k14, zu k15, zu kn14_15, (fun h => rfl), zu l3, zu l4, zu l5, zu l6, zf, zf⟩
  ·intro h0 hd K hK
   have z : u2 = false := h0
   have z17_ : u17 = false := znb fun hu => z.symm.trans ((zu kF hu).2.2.1)
   have z16_ : u16 = false := znb fun hu => z.symm.trans ((zu l3 (zu l5 (zu l6 (zu l16 hu).2.1)).2))
   have zd : u1 = true := by
    simp [Region.binds] at hd
    simp [hd]
   obtain ⟨rfl⟩ := zd
   subst z17_
   subst z16_
   subst z
   clear h0 hd
   rw [if_pos (by rfl)]
   have wq := zu HW2
   go_simp
   exact zu hK _ _ ⟨u0, true, true, u3, u4, u5, u6, u7, u8, u9, u10, u11, u12, u13, u14, u15, false, false, n14, n15, rfl, rfl, zu kB, zu k14, zu k15, zu kn14_15, (fun _ => rfl), (fun h => rfl), zu l4, zu l5, zu l6, zf, zf⟩
  ·intro h0 hd K hK
   have z : u3 = false := h0
   have z17_ : u17 = false := znb fun hu => z.symm.trans ((zu kF hu).2.2.2.1)
   have z16_ : u16 = false := znb fun hu => z.symm.trans ((zu l5 (zu l6 (zu l16 hu).2.1)).2)
   have zd : u2 = true := by
    simp [Region.binds] at hd
    simp [hd]
   obtain ⟨rfl⟩ := zd
   subst z17_
   subst z16_
   subst z
   clear h0 hd
   rw [if_pos (by rfl)]
   have wq := zu HW3
   go_simp
   exact zu hK _ _ ⟨u0, u1, true, true, u4, u5, u6, u7, u8, u9, u10, u11, u12, u13, u14, u15, false, false, n14, n15, rfl, rfl, zu kB, zu k14, zu k15, zu kn14_15, zu l2, (fun _ => rfl), zu l4, (fun h => ⟨(zu l5 h).1, rfl⟩), zu l6, zf, zf⟩
  ·intro h0 hd K hK
   have z : u4 = false := h0
   have z17_ : u17 = false := znb fun hu => z.symm.trans ((zu kF hu).2.2.2.2.1)
   have z16_ : u16 = false := znb fun hu => z.symm.trans ((zu l5 (zu l6 (zu l16 hu).2.1)).1)
   have zd : u0 = true := by
    simp [Region.binds] at hd
    simp [hd]
   obtain ⟨rfl⟩ := zd
   subst z17_
   subst z16_
   subst z
   clear h0 hd
   rw [if_pos (by rfl)]
   go_simp
   exact zu hK _ _ ⟨true, u1, u2, u3, true, u5, u6, u7, u8, u9, u10, u11, u12, u13, u14, u15, false, false, n14, n15, rfl, rfl, zu kB, zu k14, zu k15, zu kn14_15, zu l2, zu l3, (fun _ => rfl), (fun h => ⟨rfl, (zu l5 h).2⟩), zu l6, zf, zf⟩
  ·intro h0 hd K hK
   have z : u5 = false := h0
   have z17_ : u17 = false := znb fun hu => z.symm.trans ((zu kF hu).2.2.2.2.2.1)
   have z16_ : u16 = false := znb fun hu => z.symm.trans ((zu l6 (zu l16 hu).2.1))
   have zd : u4 = true ∧ u3 = true := by
    simp [Region.binds] at hd
    simp [hd]
   obtain ⟨rfl, rfl⟩ := zd
   subst z17_
   subst z16_
   subst z
   clear h0 hd
   rw [if_pos (by rfl)]
   have q1 := zu HX5
   have q2 : (j : Int) < 3 := by omega
   go_simp
   exact zu hK _ _ ⟨u0, u1, u2, true, true, true, u6, u7, u8, u9, u10, u11, u12, u13, u14, u15, false, false, n14, n15, rfl, rfl, zu kB, zu k14, zu k15, zu kn14_15, zu l2, zu l3, zu l4, (fun _ => ⟨rfl, rfl⟩), (fun h => rfl), zf, zf⟩
  ·intro h0 hd K hK
   have z : u6 = false := h0
   have z17_ : u17 = false := znb fun hu => z.symm.trans ((zu kF hu).2.2.2.2.2.2.1)
   have z16_ : u16 = false := znb fun hu => z.symm.trans ((zu l16 hu).2.1)
   have zd : u5 = true := by
    simp [Region.binds] at hd
    simp [hd]
   obtain ⟨rfl⟩ := zd
   subst z17_
   subst z16_
   subst z
   clear h0 hd
   rw [if_pos (by rfl)]
   have c0 := keep1 (zu kB) (zu HA0)
   have c1 := keep1 (zu kB) (zu HA1)
   go_simp
   exact zu hK _ _ ⟨u0, u1, u2, u3, u4, true, true, u7, u8, u9, u10, u11, u12, u13, u14, u15, false, false, n14, n15, rfl, rfl, zu kB, zu k14, zu k15, zu kn14_15, zu l2, zu l3, zu l4, zu l5, (fun _ => rfl), zf, zf⟩
  ·intro h0 hd K hK
   have z : u7 = false := h0
   have z17_ : u17 = false := znb fun hu => z.symm.trans ((zu kF hu).2.2.2.2.2.2.2.1)
   subst z17_
   subst z
   clear h0 hd
   rw [if_pos (by rfl)]
   go_simp
   exact zu hK _ _ ⟨u0, u1, u2, u3, u4, u5, u6, true, u8, u9, u10, u11, u12, u13, u14, u15, u16, false, n14, n15, rfl, rfl, zu kB, zu k14, zu k15, zu kn14_15, zu l2, zu l3, zu l4, zu l5, zu l6, zu l16, zf⟩
  ·intro h0 hd K hK
   have z : u8 = false := h0
   have z17_ : u17 = false := znb fun hu => z.symm.trans ((zu kF hu).2.2.2.2.2.2.2.2.1)
   subst z17_
   subst z
   clear h0 hd
   rw [if_pos (by rfl)]
   go_simp
   exact zu hK _ _ ⟨u0, u1, u2, u3, u4, u5, u6, u7, true, u9, u10, u11, u12, u13, u14, u15, u16, false, n14, n15, rfl, rfl, zu kB, zu k14, zu k15, zu kn14_15, zu l2, zu l3, zu l4, zu l5, zu l6, zu l16, zf⟩
  ·intro h0 hd K hK
   have z : u9 = false := h0
   have z17_ : u17 = false := znb fun hu => z.symm.trans ((zu kF hu).2.2.2.2.2.2.2.2.2.1)
   have zd : u8 = true := by
    simp [Region.binds] at hd
    simp [hd]
   obtain ⟨rfl⟩ := zd
   subst z17_
   subst z
   clear h0 hd
   rw [if_pos (by rfl)]
   have wq := zu HW9
   go_simp
   exact zu hK _ _ ⟨u0, u1, u2, u3, u4, u5, u6, u7, true, true, u10, u11, u12, u13, u14, u15, u16, false, n14, n15, rfl, rfl, zu kB, zu k14, zu k15, zu kn14_15, zu l2, zu l3, zu l4, zu l5, zu l6, zu l16, zf⟩
  ·intro h0 hd K hK
   have z : u10 = false := h0
   have z17_ : u17 = false := znb fun hu => z.symm.trans ((zu kF hu).2.2.2.2.2.2.2.2.2.2.1)
   have zd : u9 = true := by
    simp [Region.binds] at hd
    simp [hd]
   obtain ⟨rfl⟩ := zd
   subst z17_
   subst z
   clear h0 hd
   rw [if_pos (by rfl)]
   have wq := zu HW10
   go_simp
   exact zu hK _ _ ⟨u0, u1, u2, u3, u4, u5, u6, u7, u8, true, true, u11, u12, u13, u14, u15, u16, false, n14, n15, rfl, rfl, zu kB, zu k14, zu k15, zu kn14_15, zu l2, zu l3, zu l4, zu l5, zu l6, zu l16, zf⟩
  ·intro h0 hd K hK
   have z : u11 = false := h0
   have z17_ : u17 = false := znb fun hu => z.symm.trans ((zu kF hu).2.2.2.2.2.2.2.2.2.2.2.1)
   have zd : u7 = true := by
    simp [Region.binds] at hd
    simp [hd]
   obtain ⟨rfl⟩ := zd
   subst z17_
   subst z
   clear h0 hd
   rw [if_pos (by rfl)]
   go_simp
   exact zu hK _ _ ⟨u0, u1, u2, u3, u4, u5, u6, true, u8, u9, u10, true, u12, u13, u14, u15, u16, false, n14, n15, rfl, rfl, zu kB, zu k14, zu k15, zu kn14_15, zu l2, zu l3, zu l4, zu l5, zu l6, zu l16, zf⟩
  ·intro h0 hd K hK
   have z : u12 = false := h0
   have z17_ : u17 = false := znb fun hu => z.symm.trans ((zu kF hu).2.2.2.2.2.2.2.2.2.2.2.2.1)
   have zd : u11 = true ∧ u10 = true := by
    simp [Region.binds] at hd
    simp [hd]
   obtain ⟨rfl, rfl⟩ := zd
   subst z17_
   subst z
   clear h0 hd
   rw [if_pos (by rfl)]
   have q1 := zu HX12
   have q2 : (l : Int) < 3 := by omega
   go_simp
   exact zu hK _ _ ⟨u0, u1, u2, u3, u4, u5, u6, u7, u8, u9, true, true, true, u13, u14, u15, u16, false, n14, n15, rfl, rfl, zu kB, zu k14, zu k15, zu kn14_15, zu l2, zu l3, zu l4, zu l5, zu l6, zu l16, zf⟩
  ·intro h0 hd K hK
   have z : u13 = false := h0
   have z17_ : u17 = false := znb fun hu => z.symm.trans ((zu kF hu).2.2.2.2.2.2.2.2.2.2.2.2.2.1)
   have zd : u12 = true := by
    simp [Region.binds] at hd
    simp [hd]
   obtain ⟨rfl⟩ := zd
   subst z17_
   subst z
   clear h0 hd
   rw [if_pos (by rfl)]
   have c0 := keep1 (zu kB) (zu HC0)
   have c1 := keep1 (zu kB) (zu HC1)
   go_simp
   exact zu hK _ _ ⟨u0, u1, u2, u3, u4, u5, u6, u7, u8, u9, u10, u11, true, true, u14, u15, u16, false, n14, n15, rfl, rfl, zu kB, zu k14, zu k15, zu kn14_15, zu l2, zu l3, zu l4, zu l5, zu l6, zu l16, zf⟩
  ·intro h0 hd K hK
   have z : u14 = false := h0
   have z17_ : u17 = false := znb fun hu => z.symm.trans ((zu kF hu).2.2.2.2.2.2.2.2.2.2.2.2.2.2.1)
   have z16_ : u16 = false := znb fun hu => z.symm.trans ((zu l16 hu).1)
   subst z17_
   subst z16_
   subst z
   clear h0 hd
   rw [if_pos (by rfl)]
   go_simp
   exact zu hK _ _ ⟨u0, u1, u2, u3, u4, u5, u6, u7, u8, u9, u10, u11, u12, u13, true, u15, false, false, W.heap.size, n15, rfl, rfl, ba (zu kB) _, (fun _ => ⟨cb_new W 30 _ _ rfl, (zu kB).size⟩), (fun h => ⟨(zu k15 h).1.bel (ba (Below.refl _ _) _), (zu k15 h).2⟩), (fun _ h => by have := (zu k15 h).1.lt; omega), zu l2, zu l3, zu l4, zu l5, zu l6, zf, zf⟩
  ·intro h0 hd K hK
   have z : u15 = false := h0
   have z17_ : u17 = false := znb fun hu => z.symm.trans ((zu kF hu).2.2.2.2.2.2.2.2.2.2.2.2.2.2.2.1)
   have z16_ : u16 = false := znb fun hu => z.symm.trans ((zu l16 hu).2.2)
   subst z17_
   subst z16_
   subst z
   clear h0 hd
   rw [if_pos (by rfl)]
   go_simp
   exact zu hK _ _ ⟨u0, u1, u2, u3, u4, u5, u6, u7, u8, u9, u10, u11, u12, u13, u14, true, false, false, n14, W.heap.size, rfl, rfl, ba (zu kB) _, (fun h => ⟨(zu k14 h).1.bel (ba (Below.refl _ _) _), (zu k14 h).2⟩), (fun _ => ⟨cb_new W 30 _ _ rfl, (zu kB).size⟩), (fun h _ => by have := (zu k14 h).1.lt; omega), zu l2, zu l3, zu l4, zu l5, zu l6, zf, zf⟩
  ·intro h0 hd K hK
   have z : u16 = false := h0
   have z17_ : u17 = false := znb fun hu => z.symm.trans ((zu kF hu).2.2.2.2.2.2.2.2.2.2.2.2.2.2.2.2)
   have zd : u14 = true ∧ u6 = true ∧ u15 = true := by
    simp [Region.binds] at hd
    simp [hd]
   obtain ⟨rfl, rfl, rfl⟩ := zd
   subst z17_
   subst z
   clear h0 hd
   rw [if_pos (by rfl)]
   have v1 := (zu k14 rfl).1
   have g9 := (zu k14 rfl).2
   have fz := v1.frozen
   have q0 := v1.cell (m := 0) rfl
   have q1 := v1.cell (m := 1) rfl
   have HV1 := hide v1
   clear v1
   go_simp
   exact zu hK _ _ ⟨u0, u1, u2, u3, u4, u5, true, u7, u8, u9, u10, u11, u12, u13, true, true, true, false, n14, n15, rfl, rfl, (((((zu kB)).setCell (p := ⟨n14, 0, none⟩) g9 _)).setCell (p := ⟨n14, 1, none⟩) g9 _), (fun _ => ⟨(((zu HV1).set 0 _).set 1 _), g9⟩), (fun h => ⟨(((zu k15 h).1.ne (fun e => zu kn14_15 rfl h e.symm)).ne (fun e => zu kn14_15 rfl h e.symm)), (zu k15 h).2⟩), zu kn14_15, zu l2, zu l3, zu l4, zu l5, zu l6, (fun _ => ⟨rfl, rfl, rfl⟩), zf⟩
  ·intro h0 hd K hK
   have z : u17 = false := h0
   have zd0 : u0 = true ∧ u1 = true ∧ u2 = true ∧ u3 = true ∧ u4 = true ∧ u5 = true ∧ u6 = true ∧ u7 = true ∧ u8 = true ∧ u9 = true ∧ u10 = true ∧ u11 = true ∧ u12 = true ∧ u13 = true ∧ u14 = true ∧ u15 = true ∧ u16 = true := by
    simp [Region.binds] at hd
    simp [hd]
   have zd : u0 = true ∧ u1 = true ∧ u2 = true ∧ u3 = true ∧ u4 = true ∧ u5 = true ∧ u6 = true ∧ u7 = true ∧ u8 = true ∧ u9 = true ∧ u10 = true ∧ u11 = true ∧ u12 = true ∧ u13 = true ∧ u14 = true ∧ u15 = true ∧ u16 = true := ⟨zd0.1, zd0.2.1, zd0.2.2.1, zd0.2.2.2.1, zd0.2.2.2.2.1, zd0.2.2.2.2.2.1, zd0.2.2.2.2.2.2.1, zd0.2.2.2.2.2.2.2.1, zd0.2.2.2.2.2.2.2.2.1, zd0.2.2.2.2.2.2.2.2.2.1, zd0.2.2.2.2.2.2.2.2.2.2.1, zd0.2.2.2.2.2.2.2.2.2.2.2.1, zd0.2.2.2.2.2.2.2.2.2.2.2.2.1, zd0.2.2.2.2.2.2.2.2.2.2.2.2.2.1, zd0.2.2.2.2.2.2.2.2.2.2.2.2.2.2.1, zd0.2.2.2.2.2.2.2.2.2.2.2.2.2.2.2.1, zd0.2.2.2.2.2.2.2.2.2.2.2.2.2.2.2.2⟩
   obtain ⟨rfl, rfl, rfl, rfl, rfl, rfl, rfl, rfl, rfl, rfl, rfl, rfl, rfl, rfl, rfl, rfl, rfl⟩ := zd
   subst z
   clear h0 hd
   rw [if_pos (by rfl)]
   have v1 := (zu k15 rfl).1
   have g9 := (zu k15 rfl).2
   have fz := v1.frozen
   have q0 := v1.cell (m := 0) rfl
   have q1 := v1.cell (m := 1) rfl
   have HV1 := hide v1
   clear v1
   go_simp
   exact zu hK _ _ ⟨true, true, true, true, true, true, true, true, true, true, true, true, true, true, true, true, true, true, n14, n15, rfl, rfl, (((((zu kB)).setCell (p := ⟨n15, 0, none⟩) g9 _)).setCell (p := ⟨n15, 1, none⟩) g9 _), (fun h => ⟨(((zu k14 h).1.ne (zu kn14_15 h rfl)).ne (zu kn14_15 h rfl)), (zu k14 h).2⟩), (fun _ => ⟨(((zu HV1).set 0 _).set 1 _), g9⟩), zu kn14_15, (fun _ => rfl), (fun _ => rfl), (fun _ => rfl), (fun _ => ⟨rfl, rfl⟩), (fun _ => rfl), (fun _ => ⟨rfl, rfl, rfl⟩), (fun _ => ⟨rfl, rfl, rfl, rfl, rfl, rfl, rfl, rfl, rfl, rfl, rfl, rfl, rfl, rfl, rfl, rfl, rfl⟩)⟩
 case hend =>
  intro Lb A W hI
  obtain ⟨u0, u1, u2, u3, u4, hI⟩ := hI
  obtain ⟨u5, u6, u7, u8, u9, hI⟩ := hI
  obtain ⟨u10, u11, u12, u13, u14, hI⟩ := hI
  obtain ⟨u15, u16, u17, n14, n15, hI⟩ := hI
  obtain ⟨hLb, hI⟩ := hI
  obtain ⟨hA, hI⟩ := hI
  obtain ⟨kB, hI⟩ := hI
  obtain ⟨k14, hI⟩ := hI
  obtain ⟨k15, hI⟩ := hI
  obtain ⟨kn14_15, hI⟩ := hI
  obtain ⟨l2, hI⟩ := hI
  obtain ⟨l3, hI⟩ := hI
  obtain ⟨l4, hI⟩ := hI
  obtain ⟨l5, hI⟩ := hI
  obtain ⟨l6, hI⟩ := hI
  obtain ⟨l16, hI⟩ := hI
  have kF := hI
  clear hI
  subst hLb
  subst hA
  intro hL
  have hl : u0 = true ∧ u1 = true ∧ u2 = true ∧ u3 = true ∧ u4 = true ∧ u5 = true ∧ u6 = true ∧ u7 = true ∧ u8 = true ∧ u9 = true ∧ u10 = true ∧ u11 = true ∧ u12 = true ∧ u13 = true ∧ u14 = true ∧ u15 = true ∧ u16 = true ∧ u17 = true := by
   have h2 := congrArg Array.toList hL
   simpa [List.replicate] using h2
  obtain ⟨rfl, rfl, rfl, rfl, rfl, rfl, rfl, rfl, rfl, rfl, rfl, rfl, rfl, rfl, rfl, rfl, rfl, rfl⟩ := hl
  exact zu HQ n14 n15 W kB (k14 rfl).1 (k14 rfl).2 (k15 rfl).1 (k15 rfl).2 (kn14_15 rfl rfl)
set_option maxHeartbeats 4000000 in
set_option maxRecDepth 100000 in
theorem ob5 {s0 s1 s2 s3 s7 s8 s9 s10 s11 s12 s13 s14 s15 s16 s17 s18 s19 s20 s21 s22 s23 s24 s25 s26 s27 s28 s29 s30 s31 s32 s33 s34 s35 s36 s37 : Value} {b4 b5 b6 : Nat} {x y x1 y1 x2 y2 e1 e2 f1 f2 r : Int} {V : World} {K_ : Act → World → Prop} 
  (H40 : Hid (V.cell? ⟨b4, 0, none⟩ = some (.int .i64 (x)))) (H41 : Hid (V.cell? ⟨b4, 1, none⟩ = some (.int .i64 (y)))) (H50 : Hid (V.cell? ⟨b5, 0, none⟩ = some (.int .i64 (x1)))) (H51 : Hid (V.cell? ⟨b5, 1, none⟩ = some (.int .i64 (y1)))) (H60 : Hid (V.cell? ⟨b6, 0, none⟩ = some (.int .i64 (x2)))) (H61 : Hid (V.cell? ⟨b6, 1, none⟩ = some (.int .i64 (y2)))) 
  (HF2 : Hid (∀ Xw, Below V.heap.size V Xw → Calls Try.prog 52 #[.agg #[.int .i64 (x1), .int .i64 (y1)], .agg #[.int .i64 (x), .int .i64 (y)]] Xw fun e w' => e = .returned (.agg #[.int .i64 (e1), .int .i64 (e2)]) ∧ Below Xw.heap.size Xw w'))
  (HF5 : Hid (∀ Xw, Below V.heap.size V Xw → Calls Try.prog 52 #[.agg #[.int .i64 (x2), .int .i64 (y2)], .agg #[.int .i64 (x), .int .i64 (y)]] Xw fun e w' => e = .returned (.agg #[.int .i64 (f1), .int .i64 (f2)]) ∧ Below Xw.heap.size Xw w'))
  (HF6 : Hid (∀ Xw, Below V.heap.size V Xw → Calls Try.prog 54 #[.agg #[.int .i64 (e1), .int .i64 (e2)], .agg #[.int .i64 (f1), .int .i64 (f2)]] Xw fun e w' => e = .returned (.int .i64 (r)) ∧ Below Xw.heap.size Xw w'))
  (hQ : ∀ (W1 : World), Below V.heap.size V W1 → K_ { tmps := #[s0, s1, s2, s3, .pointer (some ⟨b4, 0, none⟩), .pointer (some ⟨b5, 0, none⟩), .pointer (some ⟨b6, 0, none⟩), s7, s8, s9, s10, s11, s12, s13, s14, s15, s16, s17, s18, s19, s20, s21, s22, s23, s24, s25, s26, s27, s28, .agg #[.int .i64 (x1), .int .i64 (y1)], .agg #[.int .i64 (x), .int .i64 (y)], .agg #[.int .i64 (e1), .int .i64 (e2)], .agg #[.int .i64 (x2), .int .i64 (y2)], .agg #[.int .i64 (x), .int .i64 (y)], .agg #[.int .i64 (f1), .int .i64 (f2)], .int .i64 (r), .bool (decide (r < 0)), s37], defers := [] } W1) :
  Go.Code.wp Try.prog (rg90 5) (Only K_) { tmps := #[s0, s1, s2, s3, .pointer (some ⟨b4, 0, none⟩), .pointer (some ⟨b5, 0, none⟩), .pointer (some ⟨b6, 0, none⟩), s7, s8, s9, s10, s11, s12, s13, s14, s15, s16, s17, s18, s19, s20, s21, s22, s23, s24, s25, s26, s27, s28, s29, s30, s31, s32, s33, s34, s35, s36, s37], defers := [] } V := by
 have HQ := hide hQ
 clear hQ
 conv => arg 2; whnf
 refine wp_region_inv2 (fun Lb A W => ∃ (u0 u1 u2 u3 u4 u5 u6 u7 : Bool) (dm : Nat), Lb = #[u0, u1, u2, u3, u4, u5, u6, u7] ∧ A = ({ tmps := #[s0, s1, s2, s3, .pointer (some ⟨b4, 0, none⟩), .pointer (some ⟨b5, 0, none⟩), .pointer (some ⟨b6, 0, none⟩), s7, s8, s9, s10, s11, s12, s13, s14, s15, s16, s17, s18, s19, s20, s21, s22, s23, s24, s25, s26, s27, s28, (bif u0 then .agg #[.int .i64 (x1), .int .i64 (y1)] else s29), (bif u1 then .agg #[.int .i64 (x), .int .i64 (y)] else s30), (bif u2 then .agg #[.int .i64 (e1), .int .i64 (e2)] else s31), (bif u3 then .agg #[.int .i64 (x2), .int .i64 (y2)] else s32), (bif u4 then .agg #[.int .i64 (x), .int .i64 (y)] else s33), (bif u5 then .agg #[.int .i64 (f1), .int .i64 (f2)] else s34), (bif u6 then .int .i64 (r) else s35), (bif u7 then .bool (decide (r < 0)) else s36), s37], defers := [] } : Act) ∧ Below V.heap.size V W ∧ (u2 = true → u0 = true ∧ u1 = true) ∧ (u5 = true → u3 = true ∧ u4 = true ∧ u2 = true) ∧ (u6 = true → u2 = true ∧ u5 = true) ∧ (u7 = true → u0 = true ∧ u1 = true ∧ u2 = true ∧ u3 = true ∧ u4 = true ∧ u5 = true ∧ u6 = true)) (by kernel_rfl) (by kernel_rfl) ?h0 ?hstep ?hend
 case h0 =>
  exact ⟨false, false, false, false, false, false, false, false, 0, rfl, rfl, Below.drew (Below.refl _ _), zf, zf, zf, zf⟩
 case hstep =>
  intro Lb A W hI
  obtain ⟨u0, u1, u2, u3, u4, hI⟩ := hI
  obtain ⟨u5, u6, u7, dm, hI⟩ := hI
  obtain ⟨hLb, hI⟩ := hI
  obtain ⟨hA, hI⟩ := hI
  obtain ⟨kB, hI⟩ := hI
  obtain ⟨l2, hI⟩ := hI
  obtain ⟨l5, hI⟩ := hI
  obtain ⟨l6, hI⟩ := hI
  have kF := hI
  clear hI
  subst hLb
  subst hA
  replace kB := hide kB
  replace l2 := hide l2
  replace l5 := hide l5
  replace l6 := hide l6
  replace kF := hide kF
  refine ⟨?_, ?_, ?_, ?_, ?_, ?_, ?_, ?_, trivial⟩
  ·intro h0 hd K hK
   have z : u0 = false := h0
   have z7_ : u7 = false := znb fun hu => z.symm.trans ((zu kF hu).1)
   subst z7_
   subst z
   clear h0 hd
   rw [if_pos (by rfl)]
   have c0 := keep1 (zu kB) (zu H50)
   have c1 := keep1 (zu kB) (zu H51)
   go_simp
   exact zu hK _ _ ⟨true, u1, u2, u3, u4, u5, u6, false, dm, rfl, rfl, zu kB, (fun h => ⟨rfl, (zu l2 h).2⟩), zu l5, zu l6, zf⟩
  ·intro h0 hd K hK
   have z : u1 = false := h0
   have z7_ : u7 = false := znb fun hu => z.symm.trans ((zu kF hu).2.1)
   subst z7_
   subst z
   clear h0 hd
   rw [if_pos (by rfl)]
   have c0 := keep1 (zu kB) (zu H40)
   have c1 := keep1 (zu kB) (zu H41)
   go_simp
   exact zu hK _ _ ⟨u0, true, u2, u3, u4, u5, u6, false, dm, rfl, rfl, zu kB, (fun h => ⟨(zu l2 h).1, rfl⟩), zu l5, zu l6, zf⟩
  ·intro h0 hd K hK
   have z : u2 = false := h0
   have z7_ : u7 = false := znb fun hu => z.symm.trans ((zu kF hu).2.2.1)
   have zd : u0 = true ∧ u1 = true := by
    simp [Region.binds] at hd
    simp [hd]
   obtain ⟨rfl, rfl⟩ := zd
   subst z7_
   subst z
   clear h0 hd
   rw [if_pos (by rfl)]
   go_simp
   refine (zu HF2 W (zu kB)).mono ?_
   rintro e w8 ⟨rfl, hb8⟩
   exact zu hK _ _ ⟨true, true, true, u3, u4, u5, u6, false, dm, rfl, rfl, bc (zu kB) hb8, (fun _ => ⟨rfl, rfl⟩), (fun h => ⟨(zu l5 h).1, (zu l5 h).2.1, rfl⟩), (fun h => ⟨rfl, (zu l6 h).2⟩), zf⟩
  ·intro h0 hd K hK
   have z : u3 = false := h0
   have z7_ : u7 = false := znb fun hu => z.symm.trans ((zu kF hu).2.2.2.1)
   subst z7_
   subst z
   clear h0 hd
   rw [if_pos (by rfl)]
   have c0 := keep1 (zu kB) (zu H60)
   have c1 := keep1 (zu kB) (zu H61)
   go_simp
   exact zu hK _ _ ⟨u0, u1, u2, true, u4, u5, u6, false, dm, rfl, rfl, zu kB, zu l2, (fun h => ⟨rfl, (zu l5 h).2.1, (zu l5 h).2.2⟩), zu l6, zf⟩
  ·intro h0 hd K hK
   have z : u4 = false := h0
   have z7_ : u7 = false := znb fun hu => z.symm.trans ((zu kF hu).2.2.2.2.1)
   subst z7_
   subst z
   clear h0 hd
   rw [if_pos (by rfl)]
   have c0 := keep1 (zu kB) (zu H40)
   have c1 := keep1 (zu kB) (zu H41)
   go_simp
   exact zu hK _ _ ⟨u0, u1, u2, u3, true, u5, u6, false, dm, rfl, rfl, zu kB, zu l2, (fun h => ⟨(zu l5 h).1, rfl, (zu l5 h).2.2⟩), zu l6, zf⟩
  ·intro h0 hd K hK
   have z : u5 = false := h0
   have z7_ : u7 = false := znb fun hu => z.symm.trans ((zu kF hu).2.2.2.2.2.1)
   have zd : u3 = true ∧ u4 = true ∧ u2 = true := by
    simp [Region.binds] at hd
    simp [hd]
   obtain ⟨rfl, rfl, rfl⟩ := zd
   subst z7_
   subst z
   clear h0 hd
   rw [if_pos (by rfl)]
   go_simp
   refine (zu HF5 W (zu kB)).mono ?_
   rintro e w8 ⟨rfl, hb8⟩
   exact zu hK _ _ ⟨u0, u1, true, true, true, true, u6, false, dm, rfl, rfl, bc (zu kB) hb8, zu l2, (fun _ => ⟨rfl, rfl, rfl⟩), (fun h => ⟨rfl, rfl⟩), zf⟩
  ·intro h0 hd K hK
   have z : u6 = false := h0
   have z7_ : u7 = false := znb fun hu => z.symm.trans ((zu kF hu).2.2.2.2.2.2)
   have zd : u2 = true ∧ u5 = true := by
    simp [Region.binds] at hd
    simp [hd]
   obtain ⟨rfl, rfl⟩ := zd
   subst z7_
   subst z
   clear h0 hd
   rw [if_pos (by rfl)]
   go_simp
   refine (zu HF6 W (zu kB)).mono ?_
   rintro e w8 ⟨rfl, hb8⟩
   exact zu hK _ _ ⟨u0, u1, true, u3, u4, true, true, false, dm, rfl, rfl, bc (zu kB) hb8, zu l2, (fun h => ⟨(zu l5 h).1, (zu l5 h).2.1, rfl⟩), (fun _ => ⟨rfl, rfl⟩), zf⟩
  ·intro h0 hd K hK
   have z : u7 = false := h0
   have zd0 : u6 = true := by
    simp [Region.binds] at hd
    simp [hd]
   have zd : u6 = true ∧ u0 = true ∧ u1 = true ∧ u2 = true ∧ u3 = true ∧ u4 = true ∧ u5 = true := ⟨zd0, (zu l2 (zu l6 zd0).1).1, (zu l2 (zu l6 zd0).1).2, (zu l6 zd0).1, (zu l5 (zu l6 zd0).2).1, (zu l5 (zu l6 zd0).2).2.1, (zu l6 zd0).2⟩
   obtain ⟨rfl, rfl, rfl, rfl, rfl, rfl, rfl⟩ := zd
   subst z
   clear h0 hd
   rw [if_pos (by rfl)]
   go_simp
   exact zu hK _ _ ⟨true, true, true, true, true, true, true, true, dm, rfl, rfl, zu kB, (fun _ => ⟨rfl, rfl⟩), (fun _ => ⟨rfl, rfl, rfl⟩), (fun _ => ⟨rfl, rfl⟩), (fun _ => ⟨rfl, rfl, rfl, rfl, rfl, rfl, rfl⟩)⟩
 case hend =>
  intro Lb A W hI
  obtain ⟨u0, u1, u2, u3, u4, hI⟩ := hI
  obtain ⟨u5, u6, u7, dm, hI⟩ := hI
  obtain ⟨hLb, hI⟩ := hI
  obtain ⟨hA, hI⟩ := hI
  obtain ⟨kB, hI⟩ := hI
  obtain ⟨l2, hI⟩ := hI
  obtain ⟨l5, hI⟩ := hI
  obtain ⟨l6, hI⟩ := hI
  have kF := hI
  clear hI
  subst hLb
  subst hA
  intro hL
  have hl : u0 = true ∧ u1 = true ∧ u2 = true ∧ u3 = true ∧ u4 = true ∧ u5 = true ∧ u6 = true ∧ u7 = true := by
   have h2 := congrArg Array.toList hL
   simpa [List.replicate] using h2
  obtain ⟨rfl, rfl, rfl, rfl, rfl, rfl, rfl, rfl⟩ := hl
  exact zu HQ  W kB
end Go.Proofs.Ytdcecfgmfmpeeaa
