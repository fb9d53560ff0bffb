/-
  Statements of centreOf that draw their order, each walked alone. centreOf at three near points that are not on one line.
-/
import Derived.Test.YtdcecfgmfmpeeaaZalq
namespace Go.Proofs.Ytdcecfgmfmpeeaa
open Go.ChangeShapes Go.WideShapes Go.ChangeAt Go.RowKit
set_option linter.unusedVariables false
set_option linter.unusedSimpArgs false
noncomputable def rg89 (id : Nat) : Go.Code := match Try.f89.body with | some c => (regOfZ id c).getD .skip | none => .skip
set_option maxHeartbeats 4000000 in
set_option maxRecDepth 100000 in
theorem ce2 {s1 s2 s4 s5 s6 s7 s8 s9 s10 s11 s12 s13 s14 s15 s16 s17 s18 s19 s20 s21 s22 s23 s24 s25 s26 s27 s28 s29 s30 s31 s32 s33 s34 s35 s36 s37 s38 s39 s40 s41 s42 s43 s44 s45 s46 s47 s48 s49 s50 s51 s52 s53 s54 s55 s56 s57 s58 s59 s60 s61 s62 s63 s64 s65 s66 s67 s68 s69 s70 s71 s72 s73 s74 s75 s76 s77 : Value} {b b3 : Nat} {a1 a2 b1 b2 c1 c2 d1 d2 e1 e2 : Int} {V : World} {K_ : Act → World → Prop} 
  (H30 : Hid (V.cell? ⟨b3, 0, none⟩ = some (.int .i64 (a1)))) (H31 : Hid (V.cell? ⟨b3, 1, none⟩ = some (.int .i64 (a2)))) (HB0 : Hid (V.cell? ⟨b, 2, none⟩ = some (.int .i64 (b1)))) (HB1 : Hid (V.cell? ⟨b, 3, none⟩ = some (.int .i64 (b2)))) (HC0 : Hid (V.cell? ⟨b, 4, none⟩ = some (.int .i64 (c1)))) (HC1 : Hid (V.cell? ⟨b, 5, none⟩ = some (.int .i64 (c2)))) 
  (HF5 : Hid (∀ Xw, Below V.heap.size V Xw → Calls Try.prog 52 #[.agg #[.int .i64 (b1), .int .i64 (b2)], .agg #[.int .i64 (a1), .int .i64 (a2)]] Xw fun e w' => e = .returned (.agg #[.int .i64 (d1), .int .i64 (d2)]) ∧ Below Xw.heap.size Xw w'))
  (HF11 : Hid (∀ Xw, Below V.heap.size V Xw → Calls Try.prog 52 #[.agg #[.int .i64 (c1), .int .i64 (c2)], .agg #[.int .i64 (a1), .int .i64 (a2)]] Xw fun e w' => e = .returned (.agg #[.int .i64 (e1), .int .i64 (e2)]) ∧ Below Xw.heap.size Xw w'))
  (hQ : ∀ (n12 n13 : Nat) (W1 : World), Below V.heap.size V W1 → cb W1 n12 30 [.int .i64 (d1), .int .i64 (d2)] → V.heap.size ≤ n12 → cb W1 n13 30 [.int .i64 (e1), .int .i64 (e2)] → V.heap.size ≤ n13 → n12 ≠ n13 → K_ { tmps := #[.pointer (some ⟨b, 0, none⟩), s1, s2, .pointer (some ⟨b3, 0, none⟩), .pointer (some ⟨n12, 0, none⟩), .pointer (some ⟨n13, 0, none⟩), s6, s7, s8, s9, s10, s11, s12, s13, .pointer (some ⟨b, 0, none⟩), .pointer (some ⟨b, 0, none⟩), .pointer (some ⟨b, 2, none⟩), .agg #[.int .i64 (b1), .int .i64 (b2)], .agg #[.int .i64 (a1), .int .i64 (a2)], .agg #[.int .i64 (d1), .int .i64 (d2)], .pointer (some ⟨b, 0, none⟩), .pointer (some ⟨b, 0, none⟩), .pointer (some ⟨b, 4, none⟩), .agg #[.int .i64 (c1), .int .i64 (c2)], .agg #[.int .i64 (a1), .int .i64 (a2)], .agg #[.int .i64 (e1), .int .i64 (e2)], s26, s27, s28, s29, s30, s31, s32, s33, s34, s35, s36, s37, s38, s39, s40, s41, s42, s43, s44, s45, s46, s47, s48, s49, s50, s51, s52, s53, s54, s55, s56, s57, s58, s59, s60, s61, s62, s63, s64, s65, s66, s67, s68, s69, s70, s71, s72, s73, s74, s75, s76, s77], defers := [] } W1) :
  Go.Code.wp Try.prog (rg89 2) (Only K_) { tmps := #[.pointer (some ⟨b, 0, none⟩), s1, s2, .pointer (some ⟨b3, 0, none⟩), s4, s5, s6, s7, s8, s9, s10, s11, s12, s13, s14, s15, s16, s17, s18, s19, s20, s21, s22, s23, s24, s25, s26, s27, s28, s29, s30, s31, s32, s33, s34, s35, s36, s37, s38, s39, s40, s41, s42, s43, s44, s45, s46, s47, s48, s49, s50, s51, s52, s53, s54, s55, s56, s57, s58, s59, s60, s61, s62, s63, s64, s65, s66, s67, s68, s69, s70, s71, s72, s73, s74, s75, s76, s77], defers := [] } V := by
 have HQ := hide hQ
 clear hQ
 conv => arg 2; whnf
 refine wp_region_inv2 (fun Lb A W => ∃ (u0 u1 u2 u3 u4 u5 u6 u7 u8 u9 u10 u11 u12 u13 u14 u15 : Bool) (n12 : Nat) (n13 : Nat), Lb = #[u0, u1, u2, u3, u4, u5, u6, u7, u8, u9, u10, u11, u12, u13, u14, u15] ∧ A = ({ tmps := #[.pointer (some ⟨b, 0, none⟩), s1, s2, .pointer (some ⟨b3, 0, none⟩), (bif u12 then .pointer (some ⟨n12, 0, none⟩) else s4), (bif u13 then .pointer (some ⟨n13, 0, none⟩) else s5), s6, s7, s8, s9, s10, s11, s12, s13, (bif u0 then .pointer (some ⟨b, 0, none⟩) else s14), (bif u1 then .pointer (some ⟨b, 0, none⟩) else s15), (bif u2 then .pointer (some ⟨b, 2, none⟩) else s16), (bif u3 then .agg #[.int .i64 (b1), .int .i64 (b2)] else s17), (bif u4 then .agg #[.int .i64 (a1), .int .i64 (a2)] else s18), (bif u5 then .agg #[.int .i64 (d1), .int .i64 (d2)] else s19), (bif u6 then .pointer (some ⟨b, 0, none⟩) else s20), (bif u7 then .pointer (some ⟨b, 0, none⟩) else s21), (bif u8 then .pointer (some ⟨b, 4, none⟩) else s22), (bif u9 then .agg #[.int .i64 (c1), .int .i64 (c2)] else s23), (bif u10 then .agg #[.int .i64 (a1), .int .i64 (a2)] else s24), (bif u11 then .agg #[.int .i64 (e1), .int .i64 (e2)] else s25), s26, s27, s28, s29, s30, s31, s32, s33, s34, s35, s36, s37, s38, s39, s40, s41, s42, s43, s44, s45, s46, s47, s48, s49, s50, s51, s52, s53, s54, s55, s56, s57, s58, s59, s60, s61, s62, s63, s64, s65, s66, s67, s68, s69, s70, s71, s72, s73, s74, s75, s76, s77], defers := [] } : Act) ∧ Below V.heap.size V W ∧ (u12 = true → cb W n12 30 (bif u14 then [.int .i64 (d1), .int .i64 (d2)] else [.int .i64 (0), .int .i64 (0)]) ∧ V.heap.size ≤ n12) ∧ (u13 = true → cb W n13 30 (bif u15 then [.int .i64 (e1), .int .i64 (e2)] else [.int .i64 (0), .int .i64 (0)]) ∧ V.heap.size ≤ n13) ∧ (u12 = true → u13 = true → n12 ≠ n13) ∧ (u1 = true → u0 = true) ∧ (u2 = true → u1 = true) ∧ (u3 = true → u2 = true) ∧ (u5 = true → u3 = true ∧ u4 = true) ∧ (u7 = true → u6 = true) ∧ (u8 = true → u7 = true) ∧ (u9 = true → u8 = true) ∧ (u11 = true → u9 = true ∧ u10 = true ∧ u5 = true) ∧ (u14 = true → u12 = true ∧ u5 = true ∧ u11 = true ∧ u13 = true) ∧ (u15 = true → u0 = true ∧ u1 = true ∧ u2 = true ∧ u3 = true ∧ u4 = true ∧ u5 = true ∧ u6 = true ∧ u7 = true ∧ u8 = true ∧ u9 = true ∧ u10 = true ∧ u11 = true ∧ u12 = true ∧ u13 = true ∧ u14 = true)) (by kernel_rfl) (by kernel_rfl) ?h0 ?hstep ?hend
 case h0 =>
  exact ⟨false, false, false, false, false, false, false, false, false, false, false, false, false, false, false, false, 0, 0, rfl, rfl, Below.drew (Below.refl _ _), zf, zf, zf, zf, zf, zf, zf, zf, zf, zf, zf, zf, zf⟩
 case hstep =>
  intro Lb A W hI
  obtain ⟨u0, u1, u2, u3, u4, hI⟩ := hI
  obtain ⟨u5, u6, u7, u8, u9, hI⟩ := hI
  obtain ⟨u10, u11, u12, u13, u14, hI⟩ := hI
  obtain ⟨u15, n12, n13, hI⟩ := hI
  obtain ⟨hLb, hI⟩ := hI
  obtain ⟨hA, hI⟩ := hI
  obtain ⟨kB, hI⟩ := hI
  obtain ⟨k12, hI⟩ := hI
  obtain ⟨k13, hI⟩ := hI
  obtain ⟨kn12_13, hI⟩ := hI
  obtain ⟨l1, hI⟩ := hI
  obtain ⟨l2, hI⟩ := hI
  obtain ⟨l3, hI⟩ := hI
  obtain ⟨l5, hI⟩ := hI
  obtain ⟨l7, hI⟩ := hI
  obtain ⟨l8, hI⟩ := hI
  obtain ⟨l9, hI⟩ := hI
  obtain ⟨l11, hI⟩ := hI
  obtain ⟨l14, hI⟩ := hI
  have kF := hI
  clear hI
  subst hLb
  subst hA
  replace kB := hide kB
  replace k12 := hide k12
  replace k13 := hide k13
  replace kn12_13 := hide kn12_13
  replace l1 := hide l1
  replace l2 := hide l2
  replace l3 := hide l3
  replace l5 := hide l5
  replace l7 := hide l7
  replace l8 := hide l8
  replace l9 := hide l9
  replace l11 := hide l11
  replace l14 := hide l14
  replace kF := hide kF
  refine ⟨?_, ?_, ?_, ?_, ?_, ?_, ?_, ?_, ?_, ?_, ?_, ?_, ?_, ?_, ?_, ?_, trivial⟩
  ·intro h0 hd K hK
   have z : u0 = false := h0
   have z15_ : u15 = false := znb fun hu => z.symm.trans ((zu kF hu).1)
   have z14_ : u14 = false := znb fun hu => z.symm.trans ((zu l1 (zu l2 (zu l3 (zu l5 (zu l14 hu).2.1).1))))
   subst z15_
   subst z14_
   subst z
   clear h0 hd
   rw [if_pos (by rfl)]
   go_simp
   exact zu hK _ _ ⟨true, u1, u2, u3, u4, u5, u6, u7, u8, u9, u10, u11, u12, u13, false, false, n12, n13, rfl, rfl, zu kB, zu k12, zu k13, zu kn12_13, (fun h => rfl), zu l2, zu l3, zu l5, zu l7, zu l8, zu l9, zu l11, zf, zf⟩
  ·intro h0 hd K hK
   have z : u1 = false := h0
   have z15_ : u15 = false := znb fun hu => z.symm.trans ((zu kF hu).2.1)
   have z14_ : u14 = false := znb fun hu => z.symm.trans ((zu l2 (zu l3 (zu l5 (zu l14 hu).2.1).1)))
   have zd : u0 = true := by
    simp [Region.binds] at hd
    simp [hd]
   obtain ⟨rfl⟩ := zd
   subst z15_
   subst z14_
   subst z
   clear h0 hd
   rw [if_pos (by rfl)]
   go_simp
   exact zu hK _ _ ⟨true, true, u2, u3, u4, u5, u6, u7, u8, u9, u10, u11, u12, u13, false, false, n12, n13, rfl, rfl, zu kB, zu k12, zu k13, zu kn12_13, (fun _ => rfl), (fun h => rfl), zu l3, zu l5, zu l7, zu l8, zu l9, zu l11, zf, zf⟩
  ·intro h0 hd K hK
   have z : u2 = false := h0
   have z15_ : u15 = false := znb fun hu => z.symm.trans ((zu kF hu).2.2.1)
   have z14_ : u14 = false := znb fun hu => z.symm.trans ((zu l3 (zu l5 (zu l14 hu).2.1).1))
   have zd : u1 = true := by
    simp [Region.binds] at hd
    simp [hd]
   obtain ⟨rfl⟩ := zd
   subst z15_
   subst z14_
   subst z
   clear h0 hd
   rw [if_pos (by rfl)]
   go_simp
   exact zu hK _ _ ⟨u0, true, true, u3, u4, u5, u6, u7, u8, u9, u10, u11, u12, u13, false, false, n12, n13, rfl, rfl, zu kB, zu k12, zu k13, zu kn12_13, zu l1, (fun _ => rfl), (fun h => rfl), zu l5, zu l7, zu l8, zu l9, zu l11, zf, zf⟩
  ·intro h0 hd K hK
   have z : u3 = false := h0
   have z15_ : u15 = false := znb fun hu => z.symm.trans ((zu kF hu).2.2.2.1)
   have z14_ : u14 = false := znb fun hu => z.symm.trans ((zu l5 (zu l14 hu).2.1).1)
   have zd : u2 = true := by
    simp [Region.binds] at hd
    simp [hd]
   obtain ⟨rfl⟩ := zd
   subst z15_
   subst z14_
   subst z
   clear h0 hd
   rw [if_pos (by rfl)]
   have c0 := keep1 (zu kB) (zu HB0)
   have c1 := keep1 (zu kB) (zu HB1)
   go_simp
   exact zu hK _ _ ⟨u0, u1, true, true, u4, u5, u6, u7, u8, u9, u10, u11, u12, u13, false, false, n12, n13, rfl, rfl, zu kB, zu k12, zu k13, zu kn12_13, zu l1, zu l2, (fun _ => rfl), (fun h => ⟨rfl, (zu l5 h).2⟩), zu l7, zu l8, zu l9, zu l11, zf, zf⟩
  ·intro h0 hd K hK
   have z : u4 = false := h0
   have z15_ : u15 = false := znb fun hu => z.symm.trans ((zu kF hu).2.2.2.2.1)
   have z14_ : u14 = false := znb fun hu => z.symm.trans ((zu l5 (zu l14 hu).2.1).2)
   subst z15_
   subst z14_
   subst z
   clear h0 hd
   rw [if_pos (by rfl)]
   have c0 := keep1 (zu kB) (zu H30)
   have c1 := keep1 (zu kB) (zu H31)
   go_simp
   exact zu hK _ _ ⟨u0, u1, u2, u3, true, u5, u6, u7, u8, u9, u10, u11, u12, u13, false, false, n12, n13, rfl, rfl, zu kB, zu k12, zu k13, zu kn12_13, zu l1, zu l2, zu l3, (fun h => ⟨(zu l5 h).1, rfl⟩), zu l7, zu l8, zu l9, zu l11, zf, zf⟩
  ·intro h0 hd K hK
   have z : u5 = false := h0
   have z15_ : u15 = false := znb fun hu => z.symm.trans ((zu kF hu).2.2.2.2.2.1)
   have z14_ : u14 = false := znb fun hu => z.symm.trans ((zu l14 hu).2.1)
   have zd : u3 = true ∧ u4 = true := by
    simp [Region.binds] at hd
    simp [hd]
   obtain ⟨rfl, rfl⟩ := zd
   subst z15_
   subst z14_
   subst z
   clear h0 hd
   rw [if_pos (by rfl)]
   go_simp
   refine (zu HF5 W (zu kB)).mono ?_
   rintro e w8 ⟨rfl, hb8⟩
   exact zu hK _ _ ⟨u0, u1, u2, true, true, true, u6, u7, u8, u9, u10, u11, u12, u13, false, false, n12, n13, rfl, rfl, bc (zu kB) hb8, (fun h => ⟨(zu k12 h).1.bel hb8, (zu k12 h).2⟩), (fun h => ⟨(zu k13 h).1.bel hb8, (zu k13 h).2⟩), zu kn12_13, zu l1, zu l2, zu l3, (fun _ => ⟨rfl, rfl⟩), zu l7, zu l8, zu l9, (fun h => ⟨(zu l11 h).1, (zu l11 h).2.1, rfl⟩), zf, zf⟩
  ·intro h0 hd K hK
   have z : u6 = false := h0
   have z15_ : u15 = false := znb fun hu => z.symm.trans ((zu kF hu).2.2.2.2.2.2.1)
   have z14_ : u14 = false := znb fun hu => z.symm.trans ((zu l7 (zu l8 (zu l9 (zu l11 (zu l14 hu).2.2.1).1))))
   subst z15_
   subst z14_
   subst z
   clear h0 hd
   rw [if_pos (by rfl)]
   go_simp
   exact zu hK _ _ ⟨u0, u1, u2, u3, u4, u5, true, u7, u8, u9, u10, u11, u12, u13, false, false, n12, n13, rfl, rfl, zu kB, zu k12, zu k13, zu kn12_13, zu l1, zu l2, zu l3, zu l5, (fun h => rfl), zu l8, zu l9, zu l11, zf, zf⟩
  ·intro h0 hd K hK
   have z : u7 = false := h0
   have z15_ : u15 = false := znb fun hu => z.symm.trans ((zu kF hu).2.2.2.2.2.2.2.1)
   have z14_ : u14 = false := znb fun hu => z.symm.trans ((zu l8 (zu l9 (zu l11 (zu l14 hu).2.2.1).1)))
   have zd : u6 = true := by
    simp [Region.binds] at hd
    simp [hd]
   obtain ⟨rfl⟩ := zd
   subst z15_
   subst z14_
   subst z
   clear h0 hd
   rw [if_pos (by rfl)]
   go_simp
   exact zu hK _ _ ⟨u0, u1, u2, u3, u4, u5, true, true, u8, u9, u10, u11, u12, u13, false, false, n12, n13, rfl, rfl, zu kB, zu k12, zu k13, zu kn12_13, zu l1, zu l2, zu l3, zu l5, (fun _ => rfl), (fun h => rfl), zu l9, zu l11, zf, zf⟩
  ·intro h0 hd K hK
   have z : u8 = false := h0
   have z15_ : u15 = false := znb fun hu => z.symm.trans ((zu kF hu).2.2.2.2.2.2.2.2.1)
   have z14_ : u14 = false := znb fun hu => z.symm.trans ((zu l9 (zu l11 (zu l14 hu).2.2.1).1))
   have zd : u7 = true := by
    simp [Region.binds] at hd
    simp [hd]
   obtain ⟨rfl⟩ := zd
   subst z15_
   subst z14_
   subst z
   clear h0 hd
   rw [if_pos (by rfl)]
   go_simp
   exact zu hK _ _ ⟨u0, u1, u2, u3, u4, u5, u6, true, true, u9, u10, u11, u12, u13, false, false, n12, n13, rfl, rfl, zu kB, zu k12, zu k13, zu kn12_13, zu l1, zu l2, zu l3, zu l5, zu l7, (fun _ => rfl), (fun h => rfl), zu l11, zf, zf⟩
  ·intro h0 hd K hK
   have z : u9 = false := h0
   have z15_ : u15 = false := znb fun hu => z.symm.trans ((zu kF hu).2.2.2.2.2.2.2.2.2.1)
   have z14_ : u14 = false := znb fun hu => z.symm.trans ((zu l11 (zu l14 hu).2.2.1).1)
   have zd : u8 = true := by
    simp [Region.binds] at hd
    simp [hd]
   obtain ⟨rfl⟩ := zd
   subst z15_
   subst z14_
   subst z
   clear h0 hd
   rw [if_pos (by rfl)]
   have c0 := keep1 (zu kB) (zu HC0)
   have c1 := keep1 (zu kB) (zu HC1)
   go_simp
   exact zu hK _ _ ⟨u0, u1, u2, u3, u4, u5, u6, u7, true, true, u10, u11, u12, u13, false, false, n12, n13, rfl, rfl, zu kB, zu k12, zu k13, zu kn12_13, zu l1, zu l2, zu l3, zu l5, zu l7, zu l8, (fun _ => rfl), (fun h => ⟨rfl, (zu l11 h).2.1, (zu l11 h).2.2⟩), zf, zf⟩
  ·intro h0 hd K hK
   have z : u10 = false := h0
   have z15_ : u15 = false := znb fun hu => z.symm.trans ((zu kF hu).2.2.2.2.2.2.2.2.2.2.1)
   have z14_ : u14 = false := znb fun hu => z.symm.trans ((zu l11 (zu l14 hu).2.2.1).2.1)
   subst z15_
   subst z14_
   subst z
   clear h0 hd
   rw [if_pos (by rfl)]
   have c0 := keep1 (zu kB) (zu H30)
   have c1 := keep1 (zu kB) (zu H31)
   go_simp
   exact zu hK _ _ ⟨u0, u1, u2, u3, u4, u5, u6, u7, u8, u9, true, u11, u12, u13, false, false, n12, n13, rfl, rfl, zu kB, zu k12, zu k13, zu kn12_13, zu l1, zu l2, zu l3, zu l5, zu l7, zu l8, zu l9, (fun h => ⟨(zu l11 h).1, rfl, (zu l11 h).2.2⟩), zf, zf⟩
  ·intro h0 hd K hK
   have z : u11 = false := h0
   have z15_ : u15 = false := znb fun hu => z.symm.trans ((zu kF hu).2.2.2.2.2.2.2.2.2.2.2.1)
   have z14_ : u14 = false := znb fun hu => z.symm.trans ((zu l14 hu).2.2.1)
   have zd : u9 = true ∧ u10 = true ∧ u5 = true := by
    simp [Region.binds] at hd
    simp [hd]
   obtain ⟨rfl, rfl, rfl⟩ := zd
   subst z15_
   subst z14_
   subst z
   clear h0 hd
   rw [if_pos (by rfl)]
   go_simp
   refine (zu HF11 W (zu kB)).mono ?_
   rintro e w8 ⟨rfl, hb8⟩
   exact zu hK _ _ ⟨u0, u1, u2, u3, u4, true, u6, u7, u8, true, true, true, u12, u13, false, false, n12, n13, rfl, rfl, bc (zu kB) hb8, (fun h => ⟨(zu k12 h).1.bel hb8, (zu k12 h).2⟩), (fun h => ⟨(zu k13 h).1.bel hb8, (zu k13 h).2⟩), zu kn12_13, zu l1, zu l2, zu l3, zu l5, zu l7, zu l8, zu l9, (fun _ => ⟨rfl, rfl, rfl⟩), zf, zf⟩
  ·intro h0 hd K hK
   have z : u12 = false := h0
   have z15_ : u15 = false := znb fun hu => z.symm.trans ((zu kF hu).2.2.2.2.2.2.2.2.2.2.2.2.1)
   have z14_ : u14 = false := znb fun hu => z.symm.trans ((zu l14 hu).1)
   subst z15_
   subst z14_
   subst z
   clear h0 hd
   rw [if_pos (by rfl)]
   go_simp
   exact zu hK _ _ ⟨u0, u1, u2, u3, u4, u5, u6, u7, u8, u9, u10, u11, true, u13, false, false, W.heap.size, n13, rfl, rfl, ba (zu kB) _, (fun _ => ⟨cb_new W 30 _ _ rfl, (zu kB).size⟩), (fun h => ⟨(zu k13 h).1.bel (ba (Below.refl _ _) _), (zu k13 h).2⟩), (fun _ h => by have := (zu k13 h).1.lt; omega), zu l1, zu l2, zu l3, zu l5, zu l7, zu l8, zu l9, zu l11, zf, zf⟩
  ·intro h0 hd K hK
   have z : u13 = false := h0
   have z15_ : u15 = false := znb fun hu => z.symm.trans ((zu kF hu).2.2.2.2.2.2.2.2.2.2.2.2.2.1)
   have z14_ : u14 = false := znb fun hu => z.symm.trans ((zu l14 hu).2.2.2)
   subst z15_
   subst z14_
   subst z
   clear h0 hd
   rw [if_pos (by rfl)]
   go_simp
   exact zu hK _ _ ⟨u0, u1, u2, u3, u4, u5, u6, u7, u8, u9, u10, u11, u12, true, false, false, n12, W.heap.size, rfl, rfl, ba (zu kB) _, (fun h => ⟨(zu k12 h).1.bel (ba (Below.refl _ _) _), (zu k12 h).2⟩), (fun _ => ⟨cb_new W 30 _ _ rfl, (zu kB).size⟩), (fun h _ => by have := (zu k12 h).1.lt; omega), zu l1, zu l2, zu l3, zu l5, zu l7, zu l8, zu l9, zu l11, zf, zf⟩
  ·intro h0 hd K hK
   have z : u14 = false := h0
   have z15_ : u15 = false := znb fun hu => z.symm.trans ((zu kF hu).2.2.2.2.2.2.2.2.2.2.2.2.2.2)
   have zd : u12 = true ∧ u5 = true ∧ u11 = true ∧ u13 = true := by
    simp [Region.binds] at hd
    simp [hd]
   obtain ⟨rfl, rfl, rfl, rfl⟩ := zd
   subst z15_
   subst z
   clear h0 hd
   rw [if_pos (by rfl)]
   have v1 := (zu k12 rfl).1
   have g9 := (zu k12 rfl).2
   have fz := v1.frozen
   have q0 := v1.cell (m := 0) rfl
   have q1 := v1.cell (m := 1) rfl
   have HV1 := hide v1
   clear v1
   go_simp
   exact zu hK _ _ ⟨u0, u1, u2, u3, u4, true, u6, u7, u8, u9, u10, true, true, true, true, false, n12, n13, rfl, rfl, (((((zu kB)).setCell (p := ⟨n12, 0, none⟩) g9 _)).setCell (p := ⟨n12, 1, none⟩) g9 _), (fun _ => ⟨(((zu HV1).set 0 _).set 1 _), g9⟩), (fun h => ⟨(((zu k13 h).1.ne (fun e => zu kn12_13 rfl h e.symm)).ne (fun e => zu kn12_13 rfl h e.symm)), (zu k13 h).2⟩), zu kn12_13, zu l1, zu l2, zu l3, zu l5, zu l7, zu l8, zu l9, (fun h => ⟨(zu l11 h).1, (zu l11 h).2.1, rfl⟩), (fun _ => ⟨rfl, rfl, rfl, rfl⟩), zf⟩
  ·intro h0 hd K hK
   have z : u15 = false := h0
   have zd0 : u0 = true ∧ u1 = true ∧ u2 = true ∧ u3 = true ∧ u4 = true ∧ u5 = true ∧ u6 = true ∧ u7 = true ∧ u8 = true ∧ u9 = true ∧ u10 = true ∧ u11 = true ∧ u12 = true ∧ u13 = true ∧ u14 = true := by
    simp [Region.binds] at hd
    simp [hd]
   have zd : u0 = true ∧ u1 = true ∧ u2 = true ∧ u3 = true ∧ u4 = true ∧ u5 = true ∧ u6 = true ∧ u7 = true ∧ u8 = true ∧ u9 = true ∧ u10 = true ∧ u11 = true ∧ u12 = true ∧ u13 = true ∧ u14 = true := ⟨zd0.1, zd0.2.1, zd0.2.2.1, zd0.2.2.2.1, zd0.2.2.2.2.1, zd0.2.2.2.2.2.1, zd0.2.2.2.2.2.2.1, zd0.2.2.2.2.2.2.2.1, zd0.2.2.2.2.2.2.2.2.1, zd0.2.2.2.2.2.2.2.2.2.1, zd0.2.2.2.2.2.2.2.2.2.2.1, zd0.2.2.2.2.2.2.2.2.2.2.2.1, zd0.2.2.2.2.2.2.2.2.2.2.2.2.1, zd0.2.2.2.2.2.2.2.2.2.2.2.2.2.1, zd0.2.2.2.2.2.2.2.2.2.2.2.2.2.2⟩
   obtain ⟨rfl, rfl, rfl, rfl, rfl, rfl, rfl, rfl, rfl, rfl, rfl, rfl, rfl, rfl, rfl⟩ := zd
   subst z
   clear h0 hd
   rw [if_pos (by rfl)]
   have v1 := (zu k13 rfl).1
   have g9 := (zu k13 rfl).2
   have fz := v1.frozen
   have q0 := v1.cell (m := 0) rfl
   have q1 := v1.cell (m := 1) rfl
   have HV1 := hide v1
   clear v1
   go_simp
   exact zu hK _ _ ⟨true, true, true, true, true, true, true, true, true, true, true, true, true, true, true, true, n12, n13, rfl, rfl, (((((zu kB)).setCell (p := ⟨n13, 0, none⟩) g9 _)).setCell (p := ⟨n13, 1, none⟩) g9 _), (fun h => ⟨(((zu k12 h).1.ne (zu kn12_13 h rfl)).ne (zu kn12_13 h rfl)), (zu k12 h).2⟩), (fun _ => ⟨(((zu HV1).set 0 _).set 1 _), g9⟩), zu kn12_13, (fun _ => rfl), (fun _ => rfl), (fun _ => rfl), (fun _ => ⟨rfl, rfl⟩), (fun _ => rfl), (fun _ => rfl), (fun _ => rfl), (fun _ => ⟨rfl, rfl, rfl⟩), (fun _ => ⟨rfl, rfl, rfl, rfl⟩), (fun _ => ⟨rfl, rfl, rfl, rfl, rfl, rfl, rfl, rfl, rfl, rfl, rfl, rfl, rfl, rfl, rfl⟩)⟩
 case hend =>
  intro Lb A W hI
  obtain ⟨u0, u1, u2, u3, u4, hI⟩ := hI
  obtain ⟨u5, u6, u7, u8, u9, hI⟩ := hI
  obtain ⟨u10, u11, u12, u13, u14, hI⟩ := hI
  obtain ⟨u15, n12, n13, hI⟩ := hI
  obtain ⟨hLb, hI⟩ := hI
  obtain ⟨hA, hI⟩ := hI
  obtain ⟨kB, hI⟩ := hI
  obtain ⟨k12, hI⟩ := hI
  obtain ⟨k13, hI⟩ := hI
  obtain ⟨kn12_13, hI⟩ := hI
  obtain ⟨l1, hI⟩ := hI
  obtain ⟨l2, hI⟩ := hI
  obtain ⟨l3, hI⟩ := hI
  obtain ⟨l5, hI⟩ := hI
  obtain ⟨l7, hI⟩ := hI
  obtain ⟨l8, hI⟩ := hI
  obtain ⟨l9, hI⟩ := hI
  obtain ⟨l11, hI⟩ := hI
  obtain ⟨l14, hI⟩ := hI
  have kF := hI
  clear hI
  subst hLb
  subst hA
  intro hL
  have hl : u0 = true ∧ u1 = true ∧ u2 = true ∧ u3 = true ∧ u4 = true ∧ u5 = true ∧ u6 = true ∧ u7 = true ∧ u8 = true ∧ u9 = true ∧ u10 = true ∧ u11 = true ∧ u12 = true ∧ u13 = true ∧ u14 = true ∧ u15 = true := by
   have h2 := congrArg Array.toList hL
   simpa [List.replicate] using h2
  obtain ⟨rfl, rfl, rfl, rfl, rfl, rfl, rfl, rfl, rfl, rfl, rfl, rfl, rfl, rfl, rfl, rfl⟩ := hl
  exact zu HQ n12 n13 W kB (k12 rfl).1 (k12 rfl).2 (k13 rfl).1 (k13 rfl).2 (kn12_13 rfl rfl)
set_option maxHeartbeats 4000000 in
set_option maxRecDepth 100000 in
theorem ce4 {s1 s2 s7 s8 s9 s10 s11 s12 s13 s14 s15 s16 s17 s18 s19 s20 s21 s22 s23 s24 s25 s26 s27 s28 s29 s30 s31 s32 s33 s34 s35 s36 s37 s38 s39 s40 s41 s42 s43 s44 s45 s46 s47 s48 s49 s50 s51 s52 s53 s54 s55 s56 s57 s58 s59 s60 s61 s62 s63 s64 s65 s66 s67 s68 s69 s70 s71 s72 s73 s74 s75 s76 s77 : Value} {b b3 b4 b5 : Nat} {a1 a2 d1 d2 e1 e2 w bb cc p q r x u : Int} {V : World} {K_ : Act → World → Prop} 
  (H30 : Hid (V.cell? ⟨b3, 0, none⟩ = some (.int .i64 (a1)))) (H31 : Hid (V.cell? ⟨b3, 1, none⟩ = some (.int .i64 (a2)))) (H40 : Hid (V.cell? ⟨b4, 0, none⟩ = some (.int .i64 (d1)))) (H41 : Hid (V.cell? ⟨b4, 1, none⟩ = some (.int .i64 (d2)))) (H50 : Hid (V.cell? ⟨b5, 0, none⟩ = some (.int .i64 (e1)))) (H51 : Hid (V.cell? ⟨b5, 1, none⟩ = some (.int .i64 (e2)))) 
  (HW3 : Hid (IntKind.i64.wrap (a1 * w) = p))
  (HF8 : Hid (∀ Xw, Below V.heap.size V Xw → Calls Try.prog 54 #[.agg #[.int .i64 (d1), .int .i64 (d2)], .agg #[.int .i64 (d1), .int .i64 (d2)]] Xw fun e w' => e = .returned (.int .i64 (bb)) ∧ Below Xw.heap.size Xw w'))
  (HW9 : Hid (IntKind.i64.wrap (e2 * bb) = q))
  (HW10 : Hid (IntKind.i64.wrap (p + q) = r))
  (HF15 : Hid (∀ Xw, Below V.heap.size V Xw → Calls Try.prog 54 #[.agg #[.int .i64 (e1), .int .i64 (e2)], .agg #[.int .i64 (e1), .int .i64 (e2)]] Xw fun e w' => e = .returned (.int .i64 (cc)) ∧ Below Xw.heap.size Xw w'))
  (HW16 : Hid (IntKind.i64.wrap (d2 * cc) = u))
  (HW17 : Hid (IntKind.i64.wrap (r - u) = x))
  (hQ : ∀ (W1 : World), Below V.heap.size V W1 → K_ { tmps := #[.pointer (some ⟨b, 0, none⟩), s1, s2, .pointer (some ⟨b3, 0, none⟩), .pointer (some ⟨b4, 0, none⟩), .pointer (some ⟨b5, 0, none⟩), .int .i64 (w), .int .i64 (x), s8, s9, s10, s11, s12, s13, s14, s15, s16, s17, s18, s19, s20, s21, s22, s23, s24, s25, s26, s27, s28, s29, .pointer (some ⟨b3, 0, none⟩), .int .i64 (a1), .int .i64 (w), .int .i64 (p), .pointer (some ⟨b5, 1, none⟩), .int .i64 (e2), .agg #[.int .i64 (d1), .int .i64 (d2)], .agg #[.int .i64 (d1), .int .i64 (d2)], .int .i64 (bb), .int .i64 (q), .int .i64 (r), .pointer (some ⟨b4, 1, none⟩), .int .i64 (d2), .agg #[.int .i64 (e1), .int .i64 (e2)], .agg #[.int .i64 (e1), .int .i64 (e2)], .int .i64 (cc), .int .i64 (u), .int .i64 (x), s48, s49, s50, s51, s52, s53, s54, s55, s56, s57, s58, s59, s60, s61, s62, s63, s64, s65, s66, s67, s68, s69, s70, s71, s72, s73, s74, s75, s76, s77], defers := [] } W1) :
  Go.Code.wp Try.prog (rg89 4) (Only K_) { tmps := #[.pointer (some ⟨b, 0, none⟩), s1, s2, .pointer (some ⟨b3, 0, none⟩), .pointer (some ⟨b4, 0, none⟩), .pointer (some ⟨b5, 0, none⟩), .int .i64 (w), s7, s8, s9, s10, s11, s12, s13, s14, s15, s16, s17, s18, s19, s20, s21, s22, s23, s24, s25, s26, s27, s28, s29, s30, s31, s32, s33, s34, s35, s36, s37, s38, s39, s40, s41, s42, s43, s44, s45, s46, s47, s48, s49, s50, s51, s52, s53, s54, s55, s56, s57, s58, s59, s60, s61, s62, s63, s64, s65, s66, s67, s68, s69, s70, s71, s72, s73, s74, s75, s76, s77], defers := [] } V := by
 have HQ := hide hQ
 clear hQ
 conv => arg 2; whnf
 refine wp_region_inv2 (fun Lb A W => ∃ (u0 u1 u2 u3 u4 u5 u6 u7 u8 u9 u10 u11 u12 u13 u14 u15 u16 u17 u18 : Bool) (dm : Nat), Lb = #[u0, u1, u2, u3, u4, u5, u6, u7, u8, u9, u10, u11, u12, u13, u14, u15, u16, u17, u18] ∧ A = ({ tmps := #[.pointer (some ⟨b, 0, none⟩), s1, s2, .pointer (some ⟨b3, 0, none⟩), .pointer (some ⟨b4, 0, none⟩), .pointer (some ⟨b5, 0, none⟩), .int .i64 (w), (bif u18 then .int .i64 (x) else s7), s8, s9, s10, s11, s12, s13, s14, s15, s16, s17, s18, s19, s20, s21, s22, s23, s24, s25, s26, s27, s28, s29, (bif u0 then .pointer (some ⟨b3, 0, none⟩) else s30), (bif u1 then .int .i64 (a1) else s31), (bif u2 then .int .i64 (w) else s32), (bif u3 then .int .i64 (p) else s33), (bif u4 then .pointer (some ⟨b5, 1, none⟩) else s34), (bif u5 then .int .i64 (e2) else s35), (bif u6 then .agg #[.int .i64 (d1), .int .i64 (d2)] else s36), (bif u7 then .agg #[.int .i64 (d1), .int .i64 (d2)] else s37), (bif u8 then .int .i64 (bb) else s38), (bif u9 then .int .i64 (q) else s39), (bif u10 then .int .i64 (r) else s40), (bif u11 then .pointer (some ⟨b4, 1, none⟩) else s41), (bif u12 then .int .i64 (d2) else s42), (bif u13 then .agg #[.int .i64 (e1), .int .i64 (e2)] else s43), (bif u14 then .agg #[.int .i64 (e1), .int .i64 (e2)] else s44), (bif u15 then .int .i64 (cc) else s45), (bif u16 then .int .i64 (u) else s46), (bif u17 then .int .i64 (x) else s47), s48, s49, s50, s51, s52, s53, s54, s55, s56, s57, s58, s59, s60, s61, s62, s63, s64, s65, s66, s67, s68, s69, s70, s71, s72, s73, s74, s75, s76, s77], defers := [] } : Act) ∧ Below V.heap.size V W ∧ (u18 = true → u0 = true ∧ u1 = true ∧ u2 = true ∧ u3 = true ∧ u4 = true ∧ u5 = true ∧ u6 = true ∧ u7 = true ∧ u8 = true ∧ u9 = true ∧ u10 = true ∧ u11 = true ∧ u12 = true ∧ u13 = true ∧ u14 = true ∧ u15 = true ∧ u16 = true ∧ u17 = true)) (by kernel_rfl) (by kernel_rfl) ?h0 ?hstep ?hend
 case h0 =>
  exact ⟨false, false, false, false, false, false, false, false, false, false, false, false, false, false, false, false, false, false, false, 0, rfl, rfl, Below.drew (Below.refl _ _), zf⟩
 case hstep =>
  intro Lb A W hI
  obtain ⟨u0, u1, u2, u3, u4, hI⟩ := hI
  obtain ⟨u5, u6, u7, u8, u9, hI⟩ := hI
  obtain ⟨u10, u11, u12, u13, u14, hI⟩ := hI
  obtain ⟨u15, u16, u17, u18, dm, hI⟩ := hI
  obtain ⟨hLb, hI⟩ := hI
  obtain ⟨hA, hI⟩ := hI
  obtain ⟨kB, hI⟩ := hI
  have kF := hI
  clear hI
  subst hLb
  subst hA
  replace kB := hide kB
  replace kF := hide kF
  refine ⟨?_, ?_, ?_, ?_, ?_, ?_, ?_, ?_, ?_, ?_, ?_, ?_, ?_, ?_, ?_, ?_, ?_, ?_, ?_, trivial⟩
  ·intro h0 hd K hK
   have z : u0 = false := h0
   have z18_ : u18 = false := znb fun hu => z.symm.trans ((zu kF hu).1)
   subst z18_
   subst z
   clear h0 hd
   rw [if_pos (by rfl)]
   go_simp
   exact zu hK _ _ ⟨true, u1, u2, u3, u4, u5, u6, u7, u8, u9, u10, u11, u12, u13, u14, u15, u16, u17, false, dm, rfl, rfl, zu kB, zf⟩
  ·intro h0 hd K hK
   have z : u1 = false := h0
   have z18_ : u18 = false := znb fun hu => z.symm.trans ((zu kF hu).2.1)
   have zd : u0 = true := by
    simp [Region.binds] at hd
    simp [hd]
   obtain ⟨rfl⟩ := zd
   subst z18_
   subst z
   clear h0 hd
   rw [if_pos (by rfl)]
   have c0 := keep1 (zu kB) (zu H30)
   go_simp
   exact zu hK _ _ ⟨true, true, u2, u3, u4, u5, u6, u7, u8, u9, u10, u11, u12, u13, u14, u15, u16, u17, false, dm, rfl, rfl, zu kB, zf⟩
  ·intro h0 hd K hK
   have z : u2 = false := h0
   have z18_ : u18 = false := znb fun hu => z.symm.trans ((zu kF hu).2.2.1)
   subst z18_
   subst z
   clear h0 hd
   rw [if_pos (by rfl)]
   go_simp
   exact zu hK _ _ ⟨u0, u1, true, u3, u4, u5, u6, u7, u8, u9, u10, u11, u12, u13, u14, u15, u16, u17, false, dm, rfl, rfl, zu kB, zf⟩
  ·intro h0 hd K hK
   have z : u3 = false := h0
   have z18_ : u18 = false := znb fun hu => z.symm.trans ((zu kF hu).2.2.2.1)
   have zd : u1 = true ∧ u2 = true := by
    simp [Region.binds] at hd
    simp [hd]
   obtain ⟨rfl, rfl⟩ := zd
   subst z18_
   subst z
   clear h0 hd
   rw [if_pos (by rfl)]
   have wq := zu HW3
   go_simp
   exact zu hK _ _ ⟨u0, true, true, true, u4, u5, u6, u7, u8, u9, u10, u11, u12, u13, u14, u15, u16, u17, false, dm, rfl, rfl, zu kB, zf⟩
  ·intro h0 hd K hK
   have z : u4 = false := h0
   have z18_ : u18 = false := znb fun hu => z.symm.trans ((zu kF hu).2.2.2.2.1)
   subst z18_
   subst z
   clear h0 hd
   rw [if_pos (by rfl)]
   go_simp
   exact zu hK _ _ ⟨u0, u1, u2, u3, true, u5, u6, u7, u8, u9, u10, u11, u12, u13, u14, u15, u16, u17, false, dm, rfl, rfl, zu kB, zf⟩
  ·intro h0 hd K hK
   have z : u5 = false := h0
   have z18_ : u18 = false := znb fun hu => z.symm.trans ((zu kF hu).2.2.2.2.2.1)
   have zd : u4 = true := by
    simp [Region.binds] at hd
    simp [hd]
   obtain ⟨rfl⟩ := zd
   subst z18_
   subst z
   clear h0 hd
   rw [if_pos (by rfl)]
   have c0 := keep1 (zu kB) (zu H51)
   go_simp
   exact zu hK _ _ ⟨u0, u1, u2, u3, true, true, u6, u7, u8, u9, u10, u11, u12, u13, u14, u15, u16, u17, false, dm, rfl, rfl, zu kB, zf⟩
  ·intro h0 hd K hK
   have z : u6 = false := h0
   have z18_ : u18 = false := znb fun hu => z.symm.trans ((zu kF hu).2.2.2.2.2.2.1)
   subst z18_
   subst z
   clear h0 hd
   rw [if_pos (by rfl)]
   have c0 := keep1 (zu kB) (zu H40)
   have c1 := keep1 (zu kB) (zu H41)
   go_simp
   exact zu hK _ _ ⟨u0, u1, u2, u3, u4, u5, true, u7, u8, u9, u10, u11, u12, u13, u14, u15, u16, u17, false, dm, rfl, rfl, zu kB, zf⟩
  ·intro h0 hd K hK
   have z : u7 = false := h0
   have z18_ : u18 = false := znb fun hu => z.symm.trans ((zu kF hu).2.2.2.2.2.2.2.1)
   subst z18_
   subst z
   clear h0 hd
   rw [if_pos (by rfl)]
   have c0 := keep1 (zu kB) (zu H40)
   have c1 := keep1 (zu kB) (zu H41)
   go_simp
   exact zu hK _ _ ⟨u0, u1, u2, u3, u4, u5, u6, true, u8, u9, u10, u11, u12, u13, u14, u15, u16, u17, false, dm, rfl, rfl, zu kB, zf⟩
  ·intro h0 hd K hK
   have z : u8 = false := h0
   have z18_ : u18 = false := znb fun hu => z.symm.trans ((zu kF hu).2.2.2.2.2.2.2.2.1)
   have zd : u6 = true ∧ u7 = true := by
    simp [Region.binds] at hd
    simp [hd]
   obtain ⟨rfl, rfl⟩ := zd
   subst z18_
   subst z
   clear h0 hd
   rw [if_pos (by rfl)]
   go_simp
   refine (zu HF8 W (zu kB)).mono ?_
   rintro e w8 ⟨rfl, hb8⟩
   exact zu hK _ _ ⟨u0, u1, u2, u3, u4, u5, true, true, true, u9, u10, u11, u12, u13, u14, u15, u16, u17, false, dm, rfl, rfl, bc (zu kB) hb8, zf⟩
  ·intro h0 hd K hK
   have z : u9 = false := h0
   have z18_ : u18 = false := znb fun hu => z.symm.trans ((zu kF hu).2.2.2.2.2.2.2.2.2.1)
   have zd : u5 = true ∧ u8 = true := by
    simp [Region.binds] at hd
    simp [hd]
   obtain ⟨rfl, rfl⟩ := zd
   subst z18_
   subst z
   clear h0 hd
   rw [if_pos (by rfl)]
   have wq := zu HW9
   go_simp
   exact zu hK _ _ ⟨u0, u1, u2, u3, u4, true, u6, u7, true, true, u10, u11, u12, u13, u14, u15, u16, u17, false, dm, rfl, rfl, zu kB, zf⟩
  ·intro h0 hd K hK
   have z : u10 = false := h0
   have z18_ : u18 = false := znb fun hu => z.symm.trans ((zu kF hu).2.2.2.2.2.2.2.2.2.2.1)
   have zd : u3 = true ∧ u9 = true := by
    simp [Region.binds] at hd
    simp [hd]
   obtain ⟨rfl, rfl⟩ := zd
   subst z18_
   subst z
   clear h0 hd
   rw [if_pos (by rfl)]
   have wq := zu HW10
   go_simp
   exact zu hK _ _ ⟨u0, u1, u2, true, u4, u5, u6, u7, u8, true, true, u11, u12, u13, u14, u15, u16, u17, false, dm, rfl, rfl, zu kB, zf⟩
  ·intro h0 hd K hK
   have z : u11 = false := h0
   have z18_ : u18 = false := znb fun hu => z.symm.trans ((zu kF hu).2.2.2.2.2.2.2.2.2.2.2.1)
   subst z18_
   subst z
   clear h0 hd
   rw [if_pos (by rfl)]
   go_simp
   exact zu hK _ _ ⟨u0, u1, u2, u3, u4, u5, u6, u7, u8, u9, u10, true, u12, u13, u14, u15, u16, u17, false, dm, rfl, rfl, zu kB, zf⟩
  ·intro h0 hd K hK
   have z : u12 = false := h0
   have z18_ : u18 = false := znb fun hu => z.symm.trans ((zu kF hu).2.2.2.2.2.2.2.2.2.2.2.2.1)
   have zd : u11 = true := by
    simp [Region.binds] at hd
    simp [hd]
   obtain ⟨rfl⟩ := zd
   subst z18_
   subst z
   clear h0 hd
   rw [if_pos (by rfl)]
   have c0 := keep1 (zu kB) (zu H41)
   go_simp
   exact zu hK _ _ ⟨u0, u1, u2, u3, u4, u5, u6, u7, u8, u9, u10, true, true, u13, u14, u15, u16, u17, false, dm, rfl, rfl, zu kB, zf⟩
  ·intro h0 hd K hK
   have z : u13 = false := h0
   have z18_ : u18 = false := znb fun hu => z.symm.trans ((zu kF hu).2.2.2.2.2.2.2.2.2.2.2.2.2.1)
   subst z18_
   subst z
   clear h0 hd
   rw [if_pos (by rfl)]
   have c0 := keep1 (zu kB) (zu H50)
   have c1 := keep1 (zu kB) (zu H51)
   go_simp
   exact zu hK _ _ ⟨u0, u1, u2, u3, u4, u5, u6, u7, u8, u9, u10, u11, u12, true, u14, u15, u16, u17, false, dm, rfl, rfl, zu kB, zf⟩
  ·intro h0 hd K hK
   have z : u14 = false := h0
   have z18_ : u18 = false := znb fun hu => z.symm.trans ((zu kF hu).2.2.2.2.2.2.2.2.2.2.2.2.2.2.1)
   subst z18_
   subst z
   clear h0 hd
   rw [if_pos (by rfl)]
   have c0 := keep1 (zu kB) (zu H50)
   have c1 := keep1 (zu kB) (zu H51)
   go_simp
   exact zu hK _ _ ⟨u0, u1, u2, u3, u4, u5, u6, u7, u8, u9, u10, u11, u12, u13, true, u15, u16, u17, false, dm, rfl, rfl, zu kB, zf⟩
  ·intro h0 hd K hK
   have z : u15 = false := h0
   have z18_ : u18 = false := znb fun hu => z.symm.trans ((zu kF hu).2.2.2.2.2.2.2.2.2.2.2.2.2.2.2.1)
   have zd : u13 = true ∧ u14 = true ∧ u8 = true := by
    simp [Region.binds] at hd
    simp [hd]
   obtain ⟨rfl, rfl, rfl⟩ := zd
   subst z18_
   subst z
   clear h0 hd
   rw [if_pos (by rfl)]
   go_simp
   refine (zu HF15 W (zu kB)).mono ?_
   rintro e w8 ⟨rfl, hb8⟩
   exact zu hK _ _ ⟨u0, u1, u2, u3, u4, u5, u6, u7, true, u9, u10, u11, u12, true, true, true, u16, u17, false, dm, rfl, rfl, bc (zu kB) hb8, zf⟩
  ·intro h0 hd K hK
   have z : u16 = false := h0
   have z18_ : u18 = false := znb fun hu => z.symm.trans ((zu kF hu).2.2.2.2.2.2.2.2.2.2.2.2.2.2.2.2.1)
   have zd : u12 = true ∧ u15 = true := by
    simp [Region.binds] at hd
    simp [hd]
   obtain ⟨rfl, rfl⟩ := zd
   subst z18_
   subst z
   clear h0 hd
   rw [if_pos (by rfl)]
   have wq := zu HW16
   go_simp
   exact zu hK _ _ ⟨u0, u1, u2, u3, u4, u5, u6, u7, u8, u9, u10, u11, true, u13, u14, true, true, u17, false, dm, rfl, rfl, zu kB, zf⟩
  ·intro h0 hd K hK
   have z : u17 = false := h0
   have z18_ : u18 = false := znb fun hu => z.symm.trans ((zu kF hu).2.2.2.2.2.2.2.2.2.2.2.2.2.2.2.2.2)
   have zd : u10 = true ∧ u16 = true := by
    simp [Region.binds] at hd
    simp [hd]
   obtain ⟨rfl, rfl⟩ := zd
   subst z18_
   subst z
   clear h0 hd
   rw [if_pos (by rfl)]
   have wq := zu HW17
   go_simp
   exact zu hK _ _ ⟨u0, u1, u2, u3, u4, u5, u6, u7, u8, u9, true, u11, u12, u13, u14, u15, true, true, false, dm, rfl, rfl, zu kB, zf⟩
  ·intro h0 hd K hK
   have z : u18 = false := h0
   have zd0 : u0 = true ∧ u1 = true ∧ u2 = true ∧ u3 = true ∧ u4 = true ∧ u5 = true ∧ u6 = true ∧ u7 = true ∧ u8 = true ∧ u9 = true ∧ u10 = true ∧ u11 = true ∧ u12 = true ∧ u13 = true ∧ u14 = true ∧ u15 = true ∧ u16 = true ∧ u17 = true := by
    simp [Region.binds] at hd
    simp [hd]
   have zd : u0 = true ∧ u1 = true ∧ u2 = true ∧ u3 = true ∧ u4 = true ∧ u5 = true ∧ u6 = true ∧ u7 = true ∧ u8 = true ∧ u9 = true ∧ u10 = true ∧ u11 = true ∧ u12 = true ∧ u13 = true ∧ u14 = true ∧ u15 = true ∧ u16 = true ∧ u17 = true := ⟨zd0.1, zd0.2.1, zd0.2.2.1, zd0.2.2.2.1, zd0.2.2.2.2.1, zd0.2.2.2.2.2.1, zd0.2.2.2.2.2.2.1, zd0.2.2.2.2.2.2.2.1, zd0.2.2.2.2.2.2.2.2.1, zd0.2.2.2.2.2.2.2.2.2.1, zd0.2.2.2.2.2.2.2.2.2.2.1, zd0.2.2.2.2.2.2.2.2.2.2.2.1, zd0.2.2.2.2.2.2.2.2.2.2.2.2.1, zd0.2.2.2.2.2.2.2.2.2.2.2.2.2.1, zd0.2.2.2.2.2.2.2.2.2.2.2.2.2.2.1, zd0.2.2.2.2.2.2.2.2.2.2.2.2.2.2.2.1, zd0.2.2.2.2.2.2.2.2.2.2.2.2.2.2.2.2.1, zd0.2.2.2.2.2.2.2.2.2.2.2.2.2.2.2.2.2⟩
   obtain ⟨rfl, rfl, rfl, rfl, rfl, rfl, rfl, rfl, rfl, rfl, rfl, rfl, rfl, rfl, rfl, rfl, rfl, rfl⟩ := zd
   subst z
   clear h0 hd
   rw [if_pos (by rfl)]
   go_simp
   exact zu hK _ _ ⟨true, true, true, true, true, true, true, true, true, true, true, true, true, true, true, true, true, true, true, dm, rfl, rfl, zu kB, (fun _ => ⟨rfl, rfl, rfl, rfl, rfl, rfl, rfl, rfl, rfl, rfl, rfl, rfl, rfl, rfl, rfl, rfl, rfl, rfl⟩)⟩
 case hend =>
  intro Lb A W hI
  obtain ⟨u0, u1, u2, u3, u4, hI⟩ := hI
  obtain ⟨u5, u6, u7, u8, u9, hI⟩ := hI
  obtain ⟨u10, u11, u12, u13, u14, hI⟩ := hI
  obtain ⟨u15, u16, u17, u18, dm, hI⟩ := hI
  obtain ⟨hLb, hI⟩ := hI
  obtain ⟨hA, hI⟩ := hI
  obtain ⟨kB, hI⟩ := hI
  have kF := hI
  clear hI
  subst hLb
  subst hA
  intro hL
  have hl : u0 = true ∧ u1 = true ∧ u2 = true ∧ u3 = true ∧ u4 = true ∧ u5 = true ∧ u6 = true ∧ u7 = true ∧ u8 = true ∧ u9 = true ∧ u10 = true ∧ u11 = true ∧ u12 = true ∧ u13 = true ∧ u14 = true ∧ u15 = true ∧ u16 = true ∧ u17 = true ∧ u18 = true := by
   have h2 := congrArg Array.toList hL
   simpa [List.replicate] using h2
  obtain ⟨rfl, rfl, rfl, rfl, rfl, rfl, rfl, rfl, rfl, rfl, rfl, rfl, rfl, rfl, rfl, rfl, rfl, rfl, rfl⟩ := hl
  exact zu HQ  W kB
set_option maxHeartbeats 4000000 in
set_option maxRecDepth 100000 in
theorem ce5 {s1 s2 s7 s8 s9 s10 s11 s12 s13 s14 s15 s16 s17 s18 s19 s20 s21 s22 s23 s24 s25 s26 s27 s28 s29 s30 s31 s32 s33 s34 s35 s36 s37 s38 s39 s40 s41 s42 s43 s44 s45 s46 s47 s48 s49 s50 s51 s52 s53 s54 s55 s56 s57 s58 s59 s60 s61 s62 s63 s64 s65 s66 s67 s68 s69 s70 s71 s72 s73 s74 s75 s76 s77 : Value} {b b3 b4 b5 : Nat} {a1 a2 d1 d2 e1 e2 w bb cc p q r x u : Int} {V : World} {K_ : Act → World → Prop} 
  (H30 : Hid (V.cell? ⟨b3, 0, none⟩ = some (.int .i64 (a1)))) (H31 : Hid (V.cell? ⟨b3, 1, none⟩ = some (.int .i64 (a2)))) (H40 : Hid (V.cell? ⟨b4, 0, none⟩ = some (.int .i64 (d1)))) (H41 : Hid (V.cell? ⟨b4, 1, none⟩ = some (.int .i64 (d2)))) (H50 : Hid (V.cell? ⟨b5, 0, none⟩ = some (.int .i64 (e1)))) (H51 : Hid (V.cell? ⟨b5, 1, none⟩ = some (.int .i64 (e2)))) 
  (HW3 : Hid (IntKind.i64.wrap (a2 * w) = p))
  (HF8 : Hid (∀ Xw, Below V.heap.size V Xw → Calls Try.prog 54 #[.agg #[.int .i64 (e1), .int .i64 (e2)], .agg #[.int .i64 (e1), .int .i64 (e2)]] Xw fun e w' => e = .returned (.int .i64 (cc)) ∧ Below Xw.heap.size Xw w'))
  (HW9 : Hid (IntKind.i64.wrap (d1 * cc) = q))
  (HW10 : Hid (IntKind.i64.wrap (p + q) = r))
  (HF15 : Hid (∀ Xw, Below V.heap.size V Xw → Calls Try.prog 54 #[.agg #[.int .i64 (d1), .int .i64 (d2)], .agg #[.int .i64 (d1), .int .i64 (d2)]] Xw fun e w' => e = .returned (.int .i64 (bb)) ∧ Below Xw.heap.size Xw w'))
  (HW16 : Hid (IntKind.i64.wrap (e1 * bb) = u))
  (HW17 : Hid (IntKind.i64.wrap (r - u) = x))
  (hQ : ∀ (W1 : World), Below V.heap.size V W1 → K_ { tmps := #[.pointer (some ⟨b, 0, none⟩), s1, s2, .pointer (some ⟨b3, 0, none⟩), .pointer (some ⟨b4, 0, none⟩), .pointer (some ⟨b5, 0, none⟩), .int .i64 (w), s7, .int .i64 (x), s9, s10, s11, s12, s13, s14, s15, s16, s17, s18, s19, s20, s21, s22, s23, s24, s25, s26, s27, s28, s29, s30, s31, s32, s33, s34, s35, s36, s37, s38, s39, s40, s41, s42, s43, s44, s45, s46, s47, .pointer (some ⟨b3, 1, none⟩), .int .i64 (a2), .int .i64 (w), .int .i64 (p), .pointer (some ⟨b4, 0, none⟩), .int .i64 (d1), .agg #[.int .i64 (e1), .int .i64 (e2)], .agg #[.int .i64 (e1), .int .i64 (e2)], .int .i64 (cc), .int .i64 (q), .int .i64 (r), .pointer (some ⟨b5, 0, none⟩), .int .i64 (e1), .agg #[.int .i64 (d1), .int .i64 (d2)], .agg #[.int .i64 (d1), .int .i64 (d2)], .int .i64 (bb), .int .i64 (u), .int .i64 (x), s66, s67, s68, s69, s70, s71, s72, s73, s74, s75, s76, s77], defers := [] } W1) :
  Go.Code.wp Try.prog (rg89 5) (Only K_) { tmps := #[.pointer (some ⟨b, 0, none⟩), s1, s2, .pointer (some ⟨b3, 0, none⟩), .pointer (some ⟨b4, 0, none⟩), .pointer (some ⟨b5, 0, none⟩), .int .i64 (w), s7, s8, s9, s10, s11, s12, s13, s14, s15, s16, s17, s18, s19, s20, s21, s22, s23, s24, s25, s26, s27, s28, s29, s30, s31, s32, s33, s34, s35, s36, s37, s38, s39, s40, s41, s42, s43, s44, s45, s46, s47, s48, s49, s50, s51, s52, s53, s54, s55, s56, s57, s58, s59, s60, s61, s62, s63, s64, s65, s66, s67, s68, s69, s70, s71, s72, s73, s74, s75, s76, s77], defers := [] } V := by
 have HQ := hide hQ
 clear hQ
 conv => arg 2; whnf
 refine wp_region_inv2 (fun Lb A W => ∃ (u0 u1 u2 u3 u4 u5 u6 u7 u8 u9 u10 u11 u12 u13 u14 u15 u16 u17 u18 : Bool) (dm : Nat), Lb = #[u0, u1, u2, u3, u4, u5, u6, u7, u8, u9, u10, u11, u12, u13, u14, u15, u16, u17, u18] ∧ A = ({ tmps := #[.pointer (some ⟨b, 0, none⟩), s1, s2, .pointer (some ⟨b3, 0, none⟩), .pointer (some ⟨b4, 0, none⟩), .pointer (some ⟨b5, 0, none⟩), .int .i64 (w), s7, (bif u18 then .int .i64 (x) else s8), s9, s10, s11, s12, s13, s14, s15, s16, s17, s18, s19, s20, s21, s22, s23, s24, s25, s26, s27, s28, s29, s30, s31, s32, s33, s34, s35, s36, s37, s38, s39, s40, s41, s42, s43, s44, s45, s46, s47, (bif u0 then .pointer (some ⟨b3, 1, none⟩) else s48), (bif u1 then .int .i64 (a2) else s49), (bif u2 then .int .i64 (w) else s50), (bif u3 then .int .i64 (p) else s51), (bif u4 then .pointer (some ⟨b4, 0, none⟩) else s52), (bif u5 then .int .i64 (d1) else s53), (bif u6 then .agg #[.int .i64 (e1), .int .i64 (e2)] else s54), (bif u7 then .agg #[.int .i64 (e1), .int .i64 (e2)] else s55), (bif u8 then .int .i64 (cc) else s56), (bif u9 then .int .i64 (q) else s57), (bif u10 then .int .i64 (r) else s58), (bif u11 then .pointer (some ⟨b5, 0, none⟩) else s59), (bif u12 then .int .i64 (e1) else s60), (bif u13 then .agg #[.int .i64 (d1), .int .i64 (d2)] else s61), (bif u14 then .agg #[.int .i64 (d1), .int .i64 (d2)] else s62), (bif u15 then .int .i64 (bb) else s63), (bif u16 then .int .i64 (u) else s64), (bif u17 then .int .i64 (x) else s65), s66, s67, s68, s69, s70, s71, s72, s73, s74, s75, s76, s77], defers := [] } : Act) ∧ Below V.heap.size V W ∧ (u18 = true → u0 = true ∧ u1 = true ∧ u2 = true ∧ u3 = true ∧ u4 = true ∧ u5 = true ∧ u6 = true ∧ u7 = true ∧ u8 = true ∧ u9 = true ∧ u10 = true ∧ u11 = true ∧ u12 = true ∧ u13 = true ∧ u14 = true ∧ u15 = true ∧ u16 = true ∧ u17 = true)) (by kernel_rfl) (by kernel_rfl) ?h0 ?hstep ?hend
 case h0 =>
  exact ⟨false, false, false, false, false, false, false, false, false, false, false, false, false, false, false, false, false, false, false, 0, rfl, rfl, Below.drew (Below.refl _ _), zf⟩
 case hstep =>
  intro Lb A W hI
  obtain ⟨u0, u1, u2, u3, u4, hI⟩ := hI
  obtain ⟨u5, u6, u7, u8, u9, hI⟩ := hI
  obtain ⟨u10, u11, u12, u13, u14, hI⟩ := hI
  obtain ⟨u15, u16, u17, u18, dm, hI⟩ := hI
  obtain ⟨hLb, hI⟩ := hI
  obtain ⟨hA, hI⟩ := hI
  obtain ⟨kB, hI⟩ := hI
  have kF := hI
  clear hI
  subst hLb
  subst hA
  replace kB := hide kB
  replace kF := hide kF
  refine ⟨?_, ?_, ?_, ?_, ?_, ?_, ?_, ?_, ?_, ?_, ?_, ?_, ?_, ?_, ?_, ?_, ?_, ?_, ?_, trivial⟩
  ·intro h0 hd K hK
   have z : u0 = false := h0
   have z18_ : u18 = false := znb fun hu => z.symm.trans ((zu kF hu).1)
   subst z18_
   subst z
   clear h0 hd
   rw [if_pos (by rfl)]
   go_simp
   exact zu hK _ _ ⟨true, u1, u2, u3, u4, u5, u6, u7, u8, u9, u10, u11, u12, u13, u14, u15, u16, u17, false, dm, rfl, rfl, zu kB, zf⟩
  ·intro h0 hd K hK
   have z : u1 = false := h0
   have z18_ : u18 = false := znb fun hu => z.symm.trans ((zu kF hu).2.1)
   have zd : u0 = true := by
    simp [Region.binds] at hd
    simp [hd]
   obtain ⟨rfl⟩ := zd
   subst z18_
   subst z
   clear h0 hd
   rw [if_pos (by rfl)]
   have c0 := keep1 (zu kB) (zu H31)
   go_simp
   exact zu hK _ _ ⟨true, true, u2, u3, u4, u5, u6, u7, u8, u9, u10, u11, u12, u13, u14, u15, u16, u17, false, dm, rfl, rfl, zu kB, zf⟩
  ·intro h0 hd K hK
   have z : u2 = false := h0
   have z18_ : u18 = false := znb fun hu => z.symm.trans ((zu kF hu).2.2.1)
   subst z18_
   subst z
   clear h0 hd
   rw [if_pos (by rfl)]
   go_simp
   exact zu hK _ _ ⟨u0, u1, true, u3, u4, u5, u6, u7, u8, u9, u10, u11, u12, u13, u14, u15, u16, u17, false, dm, rfl, rfl, zu kB, zf⟩
  ·intro h0 hd K hK
   have z : u3 = false := h0
   have z18_ : u18 = false := znb fun hu => z.symm.trans ((zu kF hu).2.2.2.1)
   have zd : u1 = true ∧ u2 = true := by
    simp [Region.binds] at hd
    simp [hd]
   obtain ⟨rfl, rfl⟩ := zd
   subst z18_
   subst z
   clear h0 hd
   rw [if_pos (by rfl)]
   have wq := zu HW3
   go_simp
   exact zu hK _ _ ⟨u0, true, true, true, u4, u5, u6, u7, u8, u9, u10, u11, u12, u13, u14, u15, u16, u17, false, dm, rfl, rfl, zu kB, zf⟩
  ·intro h0 hd K hK
   have z : u4 = false := h0
   have z18_ : u18 = false := znb fun hu => z.symm.trans ((zu kF hu).2.2.2.2.1)
   subst z18_
   subst z
   clear h0 hd
   rw [if_pos (by rfl)]
   go_simp
   exact zu hK _ _ ⟨u0, u1, u2, u3, true, u5, u6, u7, u8, u9, u10, u11, u12, u13, u14, u15, u16, u17, false, dm, rfl, rfl, zu kB, zf⟩
  ·intro h0 hd K hK
   have z : u5 = false := h0
   have z18_ : u18 = false := znb fun hu => z.symm.trans ((zu kF hu).2.2.2.2.2.1)
   have zd : u4 = true := by
    simp [Region.binds] at hd
    simp [hd]
   obtain ⟨rfl⟩ := zd
   subst z18_
   subst z
   clear h0 hd
   rw [if_pos (by rfl)]
   have c0 := keep1 (zu kB) (zu H40)
   go_simp
   exact zu hK _ _ ⟨u0, u1, u2, u3, true, true, u6, u7, u8, u9, u10, u11, u12, u13, u14, u15, u16, u17, false, dm, rfl, rfl, zu kB, zf⟩
  ·intro h0 hd K hK
   have z : u6 = false := h0
   have z18_ : u18 = false := znb fun hu => z.symm.trans ((zu kF hu).2.2.2.2.2.2.1)
   subst z18_
   subst z
   clear h0 hd
   rw [if_pos (by rfl)]
   have c0 := keep1 (zu kB) (zu H50)
   have c1 := keep1 (zu kB) (zu H51)
   go_simp
   exact zu hK _ _ ⟨u0, u1, u2, u3, u4, u5, true, u7, u8, u9, u10, u11, u12, u13, u14, u15, u16, u17, false, dm, rfl, rfl, zu kB, zf⟩
  ·intro h0 hd K hK
   have z : u7 = false := h0
   have z18_ : u18 = false := znb fun hu => z.symm.trans ((zu kF hu).2.2.2.2.2.2.2.1)
   subst z18_
   subst z
   clear h0 hd
   rw [if_pos (by rfl)]
   have c0 := keep1 (zu kB) (zu H50)
   have c1 := keep1 (zu kB) (zu H51)
   go_simp
   exact zu hK _ _ ⟨u0, u1, u2, u3, u4, u5, u6, true, u8, u9, u10, u11, u12, u13, u14, u15, u16, u17, false, dm, rfl, rfl, zu kB, zf⟩
  ·intro h0 hd K hK
   have z : u8 = false := h0
   have z18_ : u18 = false := znb fun hu => z.symm.trans ((zu kF hu).2.2.2.2.2.2.2.2.1)
   have zd : u6 = true ∧ u7 = true := by
    simp [Region.binds] at hd
    simp [hd]
   obtain ⟨rfl, rfl⟩ := zd
   subst z18_
   subst z
   clear h0 hd
   rw [if_pos (by rfl)]
   go_simp
   refine (zu HF8 W (zu kB)).mono ?_
   rintro e w8 ⟨rfl, hb8⟩
   exact zu hK _ _ ⟨u0, u1, u2, u3, u4, u5, true, true, true, u9, u10, u11, u12, u13, u14, u15, u16, u17, false, dm, rfl, rfl, bc (zu kB) hb8, zf⟩
  ·intro h0 hd K hK
   have z : u9 = false := h0
   have z18_ : u18 = false := znb fun hu => z.symm.trans ((zu kF hu).2.2.2.2.2.2.2.2.2.1)
   have zd : u5 = true ∧ u8 = true := by
    simp [Region.binds] at hd
    simp [hd]
   obtain ⟨rfl, rfl⟩ := zd
   subst z18_
   subst z
   clear h0 hd
   rw [if_pos (by rfl)]
   have wq := zu HW9
   go_simp
   exact zu hK _ _ ⟨u0, u1, u2, u3, u4, true, u6, u7, true, true, u10, u11, u12, u13, u14, u15, u16, u17, false, dm, rfl, rfl, zu kB, zf⟩
  ·intro h0 hd K hK
   have z : u10 = false := h0
   have z18_ : u18 = false := znb fun hu => z.symm.trans ((zu kF hu).2.2.2.2.2.2.2.2.2.2.1)
   have zd : u3 = true ∧ u9 = true := by
    simp [Region.binds] at hd
    simp [hd]
   obtain ⟨rfl, rfl⟩ := zd
   subst z18_
   subst z
   clear h0 hd
   rw [if_pos (by rfl)]
   have wq := zu HW10
   go_simp
   exact zu hK _ _ ⟨u0, u1, u2, true, u4, u5, u6, u7, u8, true, true, u11, u12, u13, u14, u15, u16, u17, false, dm, rfl, rfl, zu kB, zf⟩
  ·intro h0 hd K hK
   have z : u11 = false := h0
   have z18_ : u18 = false := znb fun hu => z.symm.trans ((zu kF hu).2.2.2.2.2.2.2.2.2.2.2.1)
   subst z18_
   subst z
   clear h0 hd
   rw [if_pos (by rfl)]
   go_simp
   exact zu hK _ _ ⟨u0, u1, u2, u3, u4, u5, u6, u7, u8, u9, u10, true, u12, u13, u14, u15, u16, u17, false, dm, rfl, rfl, zu kB, zf⟩
  ·intro h0 hd K hK
   have z : u12 = false := h0
   have z18_ : u18 = false := znb fun hu => z.symm.trans ((zu kF hu).2.2.2.2.2.2.2.2.2.2.2.2.1)
   have zd : u11 = true := by
    simp [Region.binds] at hd
    simp [hd]
   obtain ⟨rfl⟩ := zd
   subst z18_
   subst z
   clear h0 hd
   rw [if_pos (by rfl)]
   have c0 := keep1 (zu kB) (zu H50)
   go_simp
   exact zu hK _ _ ⟨u0, u1, u2, u3, u4, u5, u6, u7, u8, u9, u10, true, true, u13, u14, u15, u16, u17, false, dm, rfl, rfl, zu kB, zf⟩
  ·intro h0 hd K hK
   have z : u13 = false := h0
   have z18_ : u18 = false := znb fun hu => z.symm.trans ((zu kF hu).2.2.2.2.2.2.2.2.2.2.2.2.2.1)
   subst z18_
   subst z
   clear h0 hd
   rw [if_pos (by rfl)]
   have c0 := keep1 (zu kB) (zu H40)
   have c1 := keep1 (zu kB) (zu H41)
   go_simp
   exact zu hK _ _ ⟨u0, u1, u2, u3, u4, u5, u6, u7, u8, u9, u10, u11, u12, true, u14, u15, u16, u17, false, dm, rfl, rfl, zu kB, zf⟩
  ·intro h0 hd K hK
   have z : u14 = false := h0
   have z18_ : u18 = false := znb fun hu => z.symm.trans ((zu kF hu).2.2.2.2.2.2.2.2.2.2.2.2.2.2.1)
   subst z18_
   subst z
   clear h0 hd
   rw [if_pos (by rfl)]
   have c0 := keep1 (zu kB) (zu H40)
   have c1 := keep1 (zu kB) (zu H41)
   go_simp
   exact zu hK _ _ ⟨u0, u1, u2, u3, u4, u5, u6, u7, u8, u9, u10, u11, u12, u13, true, u15, u16, u17, false, dm, rfl, rfl, zu kB, zf⟩
  ·intro h0 hd K hK
   have z : u15 = false := h0
   have z18_ : u18 = false := znb fun hu => z.symm.trans ((zu kF hu).2.2.2.2.2.2.2.2.2.2.2.2.2.2.2.1)
   have zd : u13 = true ∧ u14 = true ∧ u8 = true := by
    simp [Region.binds] at hd
    simp [hd]
   obtain ⟨rfl, rfl, rfl⟩ := zd
   subst z18_
   subst z
   clear h0 hd
   rw [if_pos (by rfl)]
   go_simp
   refine (zu HF15 W (zu kB)).mono ?_
   rintro e w8 ⟨rfl, hb8⟩
   exact zu hK _ _ ⟨u0, u1, u2, u3, u4, u5, u6, u7, true, u9, u10, u11, u12, true, true, true, u16, u17, false, dm, rfl, rfl, bc (zu kB) hb8, zf⟩
  ·intro h0 hd K hK
   have z : u16 = false := h0
   have z18_ : u18 = false := znb fun hu => z.symm.trans ((zu kF hu).2.2.2.2.2.2.2.2.2.2.2.2.2.2.2.2.1)
   have zd : u12 = true ∧ u15 = true := by
    simp [Region.binds] at hd
    simp [hd]
   obtain ⟨rfl, rfl⟩ := zd
   subst z18_
   subst z
   clear h0 hd
   rw [if_pos (by rfl)]
   have wq := zu HW16
   go_simp
   exact zu hK _ _ ⟨u0, u1, u2, u3, u4, u5, u6, u7, u8, u9, u10, u11, true, u13, u14, true, true, u17, false, dm, rfl, rfl, zu kB, zf⟩
  ·intro h0 hd K hK
   have z : u17 = false := h0
   have z18_ : u18 = false := znb fun hu => z.symm.trans ((zu kF hu).2.2.2.2.2.2.2.2.2.2.2.2.2.2.2.2.2)
   have zd : u10 = true ∧ u16 = true := by
    simp [Region.binds] at hd
    simp [hd]
   obtain ⟨rfl, rfl⟩ := zd
   subst z18_
   subst z
   clear h0 hd
   rw [if_pos (by rfl)]
   have wq := zu HW17
   go_simp
   exact zu hK _ _ ⟨u0, u1, u2, u3, u4, u5, u6, u7, u8, u9, true, u11, u12, u13, u14, u15, true, true, false, dm, rfl, rfl, zu kB, zf⟩
  ·intro h0 hd K hK
   have z : u18 = false := h0
   have zd0 : u0 = true ∧ u1 = true ∧ u2 = true ∧ u3 = true ∧ u4 = true ∧ u5 = true ∧ u6 = true ∧ u7 = true ∧ u8 = true ∧ u9 = true ∧ u10 = true ∧ u11 = true ∧ u12 = true ∧ u13 = true ∧ u14 = true ∧ u15 = true ∧ u16 = true ∧ u17 = true := by
    simp [Region.binds] at hd
    simp [hd]
   have zd : u0 = true ∧ u1 = true ∧ u2 = true ∧ u3 = true ∧ u4 = true ∧ u5 = true ∧ u6 = true ∧ u7 = true ∧ u8 = true ∧ u9 = true ∧ u10 = true ∧ u11 = true ∧ u12 = true ∧ u13 = true ∧ u14 = true ∧ u15 = true ∧ u16 = true ∧ u17 = true := ⟨zd0.1, zd0.2.1, zd0.2.2.1, zd0.2.2.2.1, zd0.2.2.2.2.1, zd0.2.2.2.2.2.1, zd0.2.2.2.2.2.2.1, zd0.2.2.2.2.2.2.2.1, zd0.2.2.2.2.2.2.2.2.1, zd0.2.2.2.2.2.2.2.2.2.1, zd0.2.2.2.2.2.2.2.2.2.2.1, zd0.2.2.2.2.2.2.2.2.2.2.2.1, zd0.2.2.2.2.2.2.2.2.2.2.2.2.1, zd0.2.2.2.2.2.2.2.2.2.2.2.2.2.1, zd0.2.2.2.2.2.2.2.2.2.2.2.2.2.2.1, zd0.2.2.2.2.2.2.2.2.2.2.2.2.2.2.2.1, zd0.2.2.2.2.2.2.2.2.2.2.2.2.2.2.2.2.1, zd0.2.2.2.2.2.2.2.2.2.2.2.2.2.2.2.2.2⟩
   obtain ⟨rfl, rfl, rfl, rfl, rfl, rfl, rfl, rfl, rfl, rfl, rfl, rfl, rfl, rfl, rfl, rfl, rfl, rfl⟩ := zd
   subst z
   clear h0 hd
   rw [if_pos (by rfl)]
   go_simp
   exact zu hK _ _ ⟨true, true, true, true, true, true, true, true, true, true, true, true, true, true, true, true, true, true, true, dm, rfl, rfl, zu kB, (fun _ => ⟨rfl, rfl, rfl, rfl, rfl, rfl, rfl, rfl, rfl, rfl, rfl, rfl, rfl, rfl, rfl, rfl, rfl, rfl⟩)⟩
 case hend =>
  intro Lb A W hI
  obtain ⟨u0, u1, u2, u3, u4, hI⟩ := hI
  obtain ⟨u5, u6, u7, u8, u9, hI⟩ := hI
  obtain ⟨u10, u11, u12, u13, u14, hI⟩ := hI
  obtain ⟨u15, u16, u17, u18, dm, hI⟩ := hI
  obtain ⟨hLb, hI⟩ := hI
  obtain ⟨hA, hI⟩ := hI
  obtain ⟨kB, hI⟩ := hI
  have kF := hI
  clear hI
  subst hLb
  subst hA
  intro hL
  have hl : u0 = true ∧ u1 = true ∧ u2 = true ∧ u3 = true ∧ u4 = true ∧ u5 = true ∧ u6 = true ∧ u7 = true ∧ u8 = true ∧ u9 = true ∧ u10 = true ∧ u11 = true ∧ u12 = true ∧ u13 = true ∧ u14 = true ∧ u15 = true ∧ u16 = true ∧ u17 = true ∧ u18 = true := by
   have h2 := congrArg Array.toList hL
   simpa [List.replicate] using h2
  obtain ⟨rfl, rfl, rfl, rfl, rfl, rfl, rfl, rfl, rfl, rfl, rfl, rfl, rfl, rfl, rfl, rfl, rfl, rfl, rfl⟩ := hl
  exact zu HQ  W kB
set_option maxHeartbeats 2000000 in
set_option maxRecDepth 100000 in
theorem cenP_core (b : Nat) (a1 a2 b1 b2 c1 c2 d1 d2 e1 e2 S wl bb cc p4 q4 r4 u4 x p5 q5 r5 u5 y sg xs ys ws X Y D : Int) (w : World)
  (HB0 : Hid (w.cell? ⟨b, 0, none⟩ = some (.int .i64 a1))) (HB1 : Hid (w.cell? ⟨b, 1, none⟩ = some (.int .i64 a2))) (HB2 : Hid (w.cell? ⟨b, 2, none⟩ = some (.int .i64 b1))) (HB3 : Hid (w.cell? ⟨b, 3, none⟩ = some (.int .i64 b2))) (HB4 : Hid (w.cell? ⟨b, 4, none⟩ = some (.int .i64 c1))) (HB5 : Hid (w.cell? ⟨b, 5, none⟩ = some (.int .i64 c2)))
  (H1 : Hid (∀ W : World, Calls Try.prog 52 #[.agg #[.int .i64 b1, .int .i64 b2], .agg #[.int .i64 a1, .int .i64 a2]] W fun e w' => e = .returned (.agg #[.int .i64 d1, .int .i64 d2]) ∧ Below W.heap.size W w'))
  (H2 : Hid (∀ W : World, Calls Try.prog 52 #[.agg #[.int .i64 c1, .int .i64 c2], .agg #[.int .i64 a1, .int .i64 a2]] W fun e w' => e = .returned (.agg #[.int .i64 e1, .int .i64 e2]) ∧ Below W.heap.size W w'))
  (H3 : Hid (∀ W : World, Calls Try.prog 55 #[.agg #[.int .i64 d1, .int .i64 d2], .agg #[.int .i64 e1, .int .i64 e2]] W fun e w' => e = .returned (.int .i64 S) ∧ Below W.heap.size W w'))
  (H4 : Hid (∀ W : World, Calls Try.prog 54 #[.agg #[.int .i64 d1, .int .i64 d2], .agg #[.int .i64 d1, .int .i64 d2]] W fun e w' => e = .returned (.int .i64 bb) ∧ Below W.heap.size W w'))
  (H5 : Hid (∀ W : World, Calls Try.prog 54 #[.agg #[.int .i64 e1, .int .i64 e2], .agg #[.int .i64 e1, .int .i64 e2]] W fun e w' => e = .returned (.int .i64 cc) ∧ Below W.heap.size W w'))
  (H6 : Hid (∀ W : World, Calls Try.prog 87 #[.int .i64 wl] W fun e w' => e = .returned (.int .i64 sg) ∧ w' = W))
  (H7 : Hid (∀ W : World, Calls Try.prog 88 #[.int .i64 xs, .int .i64 ys, .int .i64 ws] W fun e w' => e = .returned (.agg #[.int .i64 X, .int .i64 Y, .int .i64 D]) ∧ Below W.heap.size W w'))
  (W0 : Hid (IntKind.i64.wrap (2 * S) = wl))
  (W1 : Hid (IntKind.i64.wrap (a1 * wl) = p4)) (W2 : Hid (IntKind.i64.wrap (e2 * bb) = q4)) (W3 : Hid (IntKind.i64.wrap (p4 + q4) = r4)) (W4 : Hid (IntKind.i64.wrap (d2 * cc) = u4)) (W5 : Hid (IntKind.i64.wrap (r4 - u4) = x))
  (W6 : Hid (IntKind.i64.wrap (a2 * wl) = p5)) (W7 : Hid (IntKind.i64.wrap (d1 * cc) = q5)) (W8 : Hid (IntKind.i64.wrap (p5 + q5) = r5)) (W9 : Hid (IntKind.i64.wrap (e1 * bb) = u5)) (W10 : Hid (IntKind.i64.wrap (r5 - u5) = y))
  (W11 : IntKind.i64.wrap (x * sg) = xs) (W12 : IntKind.i64.wrap (y * sg) = ys) (W13 : IntKind.i64.wrap (wl * sg) = ws) :
  Calls Try.prog 89 #[.pointer (some ⟨b, 0, none⟩)] w fun e w' => e = .returned (.agg #[.int .i64 X, .int .i64 Y, .int .i64 D]) ∧ Below w.heap.size w w' := by
 have K0 : Hid (Below w.heap.size w ((w.alloc (.cells #[.int .i64 0, .int .i64 0, .int .i64 0] 70)).alloc (.cells #[.int .i64 a1, .int .i64 a2] 30))) := hide (ba (ba (Below.refl _ _) _) _)
 have R2 : Hid (cb ((w.alloc (.cells #[.int .i64 0, .int .i64 0, .int .i64 0] 70)).alloc (.cells #[.int .i64 a1, .int .i64 a2] 30)) w.heap.size 70 [.int .i64 0, .int .i64 0, .int .i64 0]) := hide (cb_new1 w 70 [.int .i64 0, .int .i64 0, .int .i64 0] _)
 have R3 : Hid (cb ((w.alloc (.cells #[.int .i64 0, .int .i64 0, .int .i64 0] 70)).alloc (.cells #[.int .i64 a1, .int .i64 a2] 30)) (w.heap.size + 1) 30 [.int .i64 a1, .int .i64 a2]) := hide (cb_new2 w 30 [.int .i64 a1, .int .i64 a2] _)
 have x0 := zu HB0
 have x1 := zu HB1
 have v0 := ka (o := .cells #[.int .i64 0, .int .i64 0, .int .i64 0] 70) x0
 have v1 := ka (o := .cells #[.int .i64 0, .int .i64 0, .int .i64 0] 70) x1
 go_enter Try.func89, Try.ntmps89
 go_wp2_with fail
 clear x0 x1 v0 v1
 have B2 := hide (keep1 (zu K0) (zu HB2))
 have B3 := hide (keep1 (zu K0) (zu HB3))
 have B4 := hide (keep1 (zu K0) (zu HB4))
 have B5 := hide (keep1 (zu K0) (zu HB5))
 generalize (w.alloc (.cells #[.int .i64 0, .int .i64 0, .int .i64 0] 70)).alloc (.cells #[.int .i64 a1, .int .i64 a2] 30) = V0 at *
 refine Go.Code.wp_mono (Only.to (fun _ _ h => h)) (ce2 (d1 := d1) (d2 := d2) (e1 := e1) (e2 := e2) (hide ((zu R3).cell (m := 0) rfl)) (hide ((zu R3).cell (m := 1) rfl)) B2 B3 B4 B5 (hide fun X _ => zu H1 X) (hide fun X _ => zu H2 X) (fun n4 n5 V1 hB1 v4 g4 v5 g5 hne => ?_))
 have K1 := hide (bc (zu K0) hB1)
 have R2a := hide ((zu R2).bel hB1)
 have R3a := hide ((zu R3).bel hB1)
 have R4 := hide v4
 have R5 := hide v5
 have y0 := v4.cell (m := 0) rfl
 have y1 := v4.cell (m := 1) rfl
 have y2 := v5.cell (m := 0) rfl
 have y3 := v5.cell (m := 1) rfl
 have z0 := zu W0
 clear R2 R3 hB1 v4 v5 B2 B3 B4 B5 HB0 HB1 HB2 HB3 HB4 HB5 H1 H2 K0 g4 g5 hne
 go_wp2_with fail
 refine (zu H3 _).mono ?_
 rintro e V2 ⟨rfl, hB2⟩
 clear y0 y1 y2 y3
 have K2 := hide (bc (zu K1) hB2)
 have R2b := hide ((zu R2a).bel hB2)
 have R3b := hide ((zu R3a).bel hB2)
 have R4b := hide ((zu R4).bel hB2)
 have R5b := hide ((zu R5).bel hB2)
 clear K1 R2a R3a R4 R5 hB2 H3
 go_wp2_with fail
 refine Go.Code.wp_mono (Only.to (fun _ _ h => h)) (ce4 (p := p4) (q := q4) (r := r4) (u := u4) (x := x) (bb := bb) (cc := cc) (hide ((zu R3b).cell (m := 0) rfl)) (hide ((zu R3b).cell (m := 1) rfl)) (hide ((zu R4b).cell (m := 0) rfl)) (hide ((zu R4b).cell (m := 1) rfl)) (hide ((zu R5b).cell (m := 0) rfl)) (hide ((zu R5b).cell (m := 1) rfl)) W1 (hide fun X _ => zu H4 X) W2 W3 (hide fun X _ => zu H5 X) W4 W5 (fun V3 hB3 => ?_))
 have K3 := hide (bc (zu K2) hB3)
 have R2c := hide ((zu R2b).bel hB3)
 have R3c := hide ((zu R3b).bel hB3)
 have R4c := hide ((zu R4b).bel hB3)
 have R5c := hide ((zu R5b).bel hB3)
 clear K2 R2b R3b R4b R5b hB3 z0
 try go_wp2_with fail
 refine Go.Code.wp_mono (Only.to (fun _ _ h => h)) (ce5 (p := p5) (q := q5) (r := r5) (u := u5) (x := y) (bb := bb) (cc := cc) (hide ((zu R3c).cell (m := 0) rfl)) (hide ((zu R3c).cell (m := 1) rfl)) (hide ((zu R4c).cell (m := 0) rfl)) (hide ((zu R4c).cell (m := 1) rfl)) (hide ((zu R5c).cell (m := 0) rfl)) (hide ((zu R5c).cell (m := 1) rfl)) W6 (hide fun X _ => zu H5 X) W7 W8 (hide fun X _ => zu H4 X) W9 W10 (fun V4 hB4 => ?_))
 have K4 := hide (bc (zu K3) hB4)
 have R2d := hide ((zu R2c).bel hB4)
 clear K3 R2c R3c R4c R5c hB4
 try go_wp2_with fail
 refine (zu H6 _).mono ?_
 rintro e V5 ⟨rfl, hq⟩
 rw [hq]
 clear hq
 go_wp2_with fail
 refine (zu H7 _).mono ?_
 rintro e V6 ⟨rfl, hB6⟩
 have K6 := hide (bc (zu K4) hB6)
 have R2e := hide ((zu R2d).bel hB6)
 have l0 := (zu R2e).lt
 have o0 := (zu R2e).cell (m := 0) rfl
 have o1 := (zu R2e).cell (m := 1) rfl
 have o2 := (zu R2e).cell (m := 2) rfl
 have f0 := (zu R2e).frozen
 clear K4 R2d hB6
 go_wp2_with fail
 have T := (((zu R2e).set 0 (.int .i64 X)).set 1 (.int .i64 Y)).set 2 (.int .i64 D)
 have hBV : Below w.heap.size w (((V6.setCell ⟨w.heap.size, 0, none⟩ (.int .i64 X)).setCell ⟨w.heap.size, 1, none⟩ (.int .i64 Y)).setCell ⟨w.heap.size, 2, none⟩ (.int .i64 D)) :=
  Below.setCell (Below.setCell (Below.setCell (zu K6) (Nat.le_refl _) _) (Nat.le_refl _) _) (Nat.le_refl _) _
 generalize ((V6.setCell ⟨w.heap.size, 0, none⟩ (.int .i64 X)).setCell ⟨w.heap.size, 1, none⟩ (.int .i64 Y)).setCell ⟨w.heap.size, 2, none⟩ (.int .i64 D) = V9 at *
 have s0 := T.cell (m := 0) rfl
 have s1 := T.cell (m := 1) rfl
 have s2 := T.cell (m := 2) rfl
 have ls := T.lt
 refine bodyPost_ret (v := .agg #[.int .i64 X, .int .i64 Y, .int .i64 D]) (by simp [results, Try.results89, go_sem, s0, s1, s2, ls]) rfl ⟨rfl, hBV⟩
end Go.Proofs.Ytdcecfgmfmpeeaa
