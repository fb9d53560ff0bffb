/-
  The statement of the model's RingOf that takes a pair.
-/
import Derived.Test.YtdcecfgmfmpeeaaRgXq
namespace Go.Proofs.Ytdcecfgmfmpeeaa
open Go.ChangeShapes Go.WideShapes Go.ChangeAt Go.RowKit
set_option linter.unusedVariables false
set_option linter.unusedSimpArgs false
set_option maxHeartbeats 4000000 in
set_option maxRecDepth 100000 in
theorem mr22 {s1 s2 s3 s4 s5 s7 s10 s11 s12 s13 s14 s15 s16 s17 s18 s19 s20 s21 s22 s23 s24 s25 s26 s27 s28 s29 s30 s31 s32 s33 s34 s35 s36 s37 s38 s39 s40 s41 s42 s43 s44 s45 s46 s47 s48 s49 s50 s51 s52 s53 s54 s55 s56 s57 s58 s59 s60 s61 s62 s63 s64 s65 s66 s67 s68 s69 s70 s71 s72 s73 s74 s75 s76 s77 s78 s79 s80 s81 s82 s83 s84 s85 s86 s87 s88 s89 s90 s91 s92 s93 s94 s95 s96 s97 s98 s99 s100 s101 s102 s103 s104 s105 s106 s107 s108 s109 s110 s111 s112 s113 s114 s115 s116 s117 s118 s119 s120 s121 s122 s123 s124 s125 s126 s127 s128 s129 s130 s131 s132 s133 s134 s135 s136 s137 s138 s139 s140 s141 s142 s143 s144 s145 s146 s147 s148 s149 s150 s151 s152 s153 s154 s155 s156 s157 s158 s159 s160 s161 s162 s163 s164 s165 s166 s167 s168 s169 s170 s171 s172 s173 s174 s175 s176 s177 s178 s179 s180 s181 s182 s183 s184 s185 s186 s187 s188 s189 s190 s191 s192 s193 s194 s195 s196 s197 s198 s199 s200 s201 : Value} {b n cap nb m nc a c i j : Nat} {x0 y0 x1 y1 X Y D N : Int} {V : World} {K_ : Act → World → Prop} 
  (HN0 : Hid (V.cell? ⟨nb, a, none⟩ = some (.int .i64 (i : Int)))) (HA0 : Hid (V.cell? ⟨b, i * 2, none⟩ = some (.int .i64 (x0)))) (HA1 : Hid (V.cell? ⟨b, i * 2 + 1, none⟩ = some (.int .i64 (y0)))) (HN1 : Hid (V.cell? ⟨nb, c, none⟩ = some (.int .i64 (j : Int)))) (HC0 : Hid (V.cell? ⟨b, j * 2, none⟩ = some (.int .i64 (x1)))) (HC1 : Hid (V.cell? ⟨b, j * 2 + 1, none⟩ = some (.int .i64 (y1)))) 
  (HX3 : Hid (a < m))
  (HX5 : Hid (i < n))
  (HX10 : Hid (c < m))
  (HX12 : Hid (j < n))
  (HF14 : Hid (∀ Xw, Below V.heap.size V Xw → Calls Try.prog 43 #[.agg #[.int .i64 (x0), .int .i64 (y0)], .agg #[.int .i64 (x1), .int .i64 (y1)]] Xw fun e w' => e = .returned (.agg #[.int .i64 (0), .int .i64 (0), .int .i64 (0), .int .i64 (0), .int .i64 (X), .int .i64 (Y), .int .i64 (D), .int .i64 (N)]) ∧ Below Xw.heap.size Xw w'))
  (hQ : ∀ (n15 : Nat) (W1 : World), Below V.heap.size V W1 → cb W1 n15 34 [.int .i64 (0), .int .i64 (0), .int .i64 (0), .int .i64 (0), .int .i64 (X), .int .i64 (Y), .int .i64 (D), .int .i64 (N)] → V.heap.size ≤ n15 → K_ { tmps := #[.slice (some ⟨b, 0, none⟩) n cap, s1, s2, s3, s4, s5, .slice (some ⟨nb, 0, none⟩) m nc, s7, .int .i64 (a : Int), .int .i64 (c : Int), .pointer (some ⟨n15, 0, none⟩), s11, s12, s13, s14, s15, s16, s17, s18, s19, s20, s21, s22, s23, s24, s25, s26, s27, s28, s29, s30, s31, s32, s33, s34, s35, s36, s37, s38, s39, s40, s41, s42, s43, s44, s45, s46, s47, s48, s49, s50, s51, s52, s53, s54, s55, s56, s57, s58, s59, s60, s61, s62, s63, s64, s65, s66, s67, s68, s69, s70, s71, s72, s73, s74, s75, s76, s77, s78, s79, s80, s81, s82, s83, s84, s85, s86, s87, s88, s89, s90, s91, s92, s93, s94, s95, s96, s97, s98, s99, s100, .slice (some ⟨b, 0, none⟩) n cap, .slice (some ⟨nb, 0, none⟩) m nc, .int .i64 (a : Int), .pointer (some ⟨nb, a, none⟩), .int .i64 (i : Int), .pointer (some ⟨b, i * 2, none⟩), .agg #[.int .i64 (x0), .int .i64 (y0)], .slice (some ⟨b, 0, none⟩) n cap, .slice (some ⟨nb, 0, none⟩) m nc, .int .i64 (c : Int), .pointer (some ⟨nb, c, none⟩), .int .i64 (j : Int), .pointer (some ⟨b, j * 2, none⟩), .agg #[.int .i64 (x1), .int .i64 (y1)], .agg #[.int .i64 (0), .int .i64 (0), .int .i64 (0), .int .i64 (0), .int .i64 (X), .int .i64 (Y), .int .i64 (D), .int .i64 (N)], s116, s117, s118, s119, s120, s121, s122, s123, s124, s125, s126, s127, s128, s129, s130, s131, s132, s133, s134, s135, s136, s137, s138, s139, s140, s141, s142, s143, s144, s145, s146, s147, s148, s149, s150, s151, s152, s153, s154, s155, s156, s157, s158, s159, s160, s161, s162, s163, s164, s165, s166, s167, s168, s169, s170, s171, s172, s173, s174, s175, s176, s177, s178, s179, s180, s181, s182, s183, s184, s185, s186, s187, s188, s189, s190, s191, s192, s193, s194, s195, s196, s197, s198, s199, s200, s201], defers := [] } W1) :
  Go.Code.wp Try.prog (rg11 22) (Only K_) { tmps := #[.slice (some ⟨b, 0, none⟩) n cap, s1, s2, s3, s4, s5, .slice (some ⟨nb, 0, none⟩) m nc, s7, .int .i64 (a : Int), .int .i64 (c : Int), s10, s11, s12, s13, s14, s15, s16, s17, s18, s19, s20, s21, s22, s23, s24, s25, s26, s27, s28, s29, s30, s31, s32, s33, s34, s35, s36, s37, s38, s39, s40, s41, s42, s43, s44, s45, s46, s47, s48, s49, s50, s51, s52, s53, s54, s55, s56, s57, s58, s59, s60, s61, s62, s63, s64, s65, s66, s67, s68, s69, s70, s71, s72, s73, s74, s75, s76, s77, s78, s79, s80, s81, s82, s83, s84, s85, s86, s87, s88, s89, s90, s91, s92, s93, s94, s95, s96, s97, s98, s99, s100, s101, s102, s103, s104, s105, s106, s107, s108, s109, s110, s111, s112, s113, s114, s115, s116, s117, s118, s119, s120, s121, s122, s123, s124, s125, s126, s127, s128, s129, s130, s131, s132, s133, s134, s135, s136, s137, s138, s139, s140, s141, s142, s143, s144, s145, s146, s147, s148, s149, s150, s151, s152, s153, s154, s155, s156, s157, s158, s159, s160, s161, s162, s163, s164, s165, s166, s167, s168, s169, s170, s171, s172, s173, s174, s175, s176, s177, s178, s179, s180, s181, s182, s183, s184, s185, s186, s187, s188, s189, s190, s191, s192, s193, s194, s195, s196, s197, s198, s199, s200, s201], defers := [] } V := by
 have HQ := hide hQ
 clear hQ
 conv => arg 2; whnf
 refine wp_region_inv2 (fun Lb A W => ∃ (u0 u1 u2 u3 u4 u5 u6 u7 u8 u9 u10 u11 u12 u13 u14 u15 u16 : Bool) (n15 : Nat), Lb = #[u0, u1, u2, u3, u4, u5, u6, u7, u8, u9, u10, u11, u12, u13, u14, u15, u16] ∧ A = ({ tmps := #[.slice (some ⟨b, 0, none⟩) n cap, s1, s2, s3, s4, s5, .slice (some ⟨nb, 0, none⟩) m nc, s7, .int .i64 (a : Int), .int .i64 (c : Int), (bif u15 then .pointer (some ⟨n15, 0, none⟩) else s10), s11, s12, s13, s14, s15, s16, s17, s18, s19, s20, s21, s22, s23, s24, s25, s26, s27, s28, s29, s30, s31, s32, s33, s34, s35, s36, s37, s38, s39, s40, s41, s42, s43, s44, s45, s46, s47, s48, s49, s50, s51, s52, s53, s54, s55, s56, s57, s58, s59, s60, s61, s62, s63, s64, s65, s66, s67, s68, s69, s70, s71, s72, s73, s74, s75, s76, s77, s78, s79, s80, s81, s82, s83, s84, s85, s86, s87, s88, s89, s90, s91, s92, s93, s94, s95, s96, s97, s98, s99, s100, (bif u0 then .slice (some ⟨b, 0, none⟩) n cap else s101), (bif u1 then .slice (some ⟨nb, 0, none⟩) m nc else s102), (bif u2 then .int .i64 (a : Int) else s103), (bif u3 then .pointer (some ⟨nb, a, none⟩) else s104), (bif u4 then .int .i64 (i : Int) else s105), (bif u5 then .pointer (some ⟨b, i * 2, none⟩) else s106), (bif u6 then .agg #[.int .i64 (x0), .int .i64 (y0)] else s107), (bif u7 then .slice (some ⟨b, 0, none⟩) n cap else s108), (bif u8 then .slice (some ⟨nb, 0, none⟩) m nc else s109), (bif u9 then .int .i64 (c : Int) else s110), (bif u10 then .pointer (some ⟨nb, c, none⟩) else s111), (bif u11 then .int .i64 (j : Int) else s112), (bif u12 then .pointer (some ⟨b, j * 2, none⟩) else s113), (bif u13 then .agg #[.int .i64 (x1), .int .i64 (y1)] else s114), (bif u14 then .agg #[.int .i64 (0), .int .i64 (0), .int .i64 (0), .int .i64 (0), .int .i64 (X), .int .i64 (Y), .int .i64 (D), .int .i64 (N)] else s115), s116, s117, s118, s119, s120, s121, s122, s123, s124, s125, s126, s127, s128, s129, s130, s131, s132, s133, s134, s135, s136, s137, s138, s139, s140, s141, s142, s143, s144, s145, s146, s147, s148, s149, s150, s151, s152, s153, s154, s155, s156, s157, s158, s159, s160, s161, s162, s163, s164, s165, s166, s167, s168, s169, s170, s171, s172, s173, s174, s175, s176, s177, s178, s179, s180, s181, s182, s183, s184, s185, s186, s187, s188, s189, s190, s191, s192, s193, s194, s195, s196, s197, s198, s199, s200, s201], defers := [] } : Act) ∧ Below V.heap.size V W ∧ (u15 = true → cb W n15 34 (bif u16 then [.int .i64 (0), .int .i64 (0), .int .i64 (0), .int .i64 (0), .int .i64 (X), .int .i64 (Y), .int .i64 (D), .int .i64 (N)] else [.int .i64 (0), .int .i64 (0), .int .i64 (0), .int .i64 (0), .int .i64 (0), .int .i64 (0), .int .i64 (0), .int .i64 (0)]) ∧ V.heap.size ≤ n15) ∧ (u16 = true → u0 = true ∧ u1 = true ∧ u2 = true ∧ u3 = true ∧ u4 = true ∧ u5 = true ∧ u6 = true ∧ u7 = true ∧ u8 = true ∧ u9 = true ∧ u10 = true ∧ u11 = true ∧ u12 = true ∧ u13 = true ∧ u14 = true ∧ u15 = true)) (by kernel_rfl) (by kernel_rfl) ?h0 ?hstep ?hend
 case h0 =>
  exact ⟨false, false, false, false, false, false, false, false, false, false, false, false, false, false, false, false, false, 0, rfl, rfl, Below.drew (Below.refl _ _), zf, zf⟩
 case hstep =>
  intro Lb A W hI
  obtain ⟨u0, u1, u2, u3, u4, hI⟩ := hI
  obtain ⟨u5, u6, u7, u8, u9, hI⟩ := hI
  obtain ⟨u10, u11, u12, u13, u14, hI⟩ := hI
  obtain ⟨u15, u16, n15, hI⟩ := hI
  obtain ⟨hLb, hI⟩ := hI
  obtain ⟨hA, hI⟩ := hI
  obtain ⟨kB, hI⟩ := hI
  obtain ⟨k15, hI⟩ := hI
  have kF := hI
  clear hI
  subst hLb
  subst hA
  replace kB := hide kB
  replace k15 := hide k15
  replace kF := hide kF
  refine ⟨?_, ?_, ?_, ?_, ?_, ?_, ?_, ?_, ?_, ?_, ?_, ?_, ?_, ?_, ?_, ?_, ?_, trivial⟩
  ·intro h0 hd K hK
   have z : u0 = false := h0
   have z16_ : u16 = false := znb fun hu => z.symm.trans ((zu kF hu).1)
   subst z16_
   subst z
   clear h0 hd
   rw [if_pos (by rfl)]
   go_simp
   exact zu hK _ _ ⟨true, u1, u2, u3, u4, u5, u6, u7, u8, u9, u10, u11, u12, u13, u14, u15, false, n15, rfl, rfl, zu kB, zu k15, zf⟩
  ·intro h0 hd K hK
   have z : u1 = false := h0
   have z16_ : u16 = false := znb fun hu => z.symm.trans ((zu kF hu).2.1)
   subst z16_
   subst z
   clear h0 hd
   rw [if_pos (by rfl)]
   go_simp
   exact zu hK _ _ ⟨u0, true, u2, u3, u4, u5, u6, u7, u8, u9, u10, u11, u12, u13, u14, u15, false, n15, rfl, rfl, zu kB, zu k15, zf⟩
  ·intro h0 hd K hK
   have z : u2 = false := h0
   have z16_ : u16 = false := znb fun hu => z.symm.trans ((zu kF hu).2.2.1)
   subst z16_
   subst z
   clear h0 hd
   rw [if_pos (by rfl)]
   go_simp
   exact zu hK _ _ ⟨u0, u1, true, u3, u4, u5, u6, u7, u8, u9, u10, u11, u12, u13, u14, u15, false, n15, rfl, rfl, zu kB, zu k15, zf⟩
  ·intro h0 hd K hK
   have z : u3 = false := h0
   have z16_ : u16 = false := znb fun hu => z.symm.trans ((zu kF hu).2.2.2.1)
   have zd : u1 = true ∧ u2 = true := by
    simp [Region.binds] at hd
    simp [hd]
   obtain ⟨rfl, rfl⟩ := zd
   subst z16_
   subst z
   clear h0 hd
   rw [if_pos (by rfl)]
   have q1 : a < m := zu HX3
   have q2 : (a : Int) < (m : Int) := by omega
   go_simp
   exact zu hK _ _ ⟨u0, true, true, true, u4, u5, u6, u7, u8, u9, u10, u11, u12, u13, u14, u15, false, n15, rfl, rfl, zu kB, zu k15, zf⟩
  ·intro h0 hd K hK
   have z : u4 = false := h0
   have z16_ : u16 = false := znb fun hu => z.symm.trans ((zu kF hu).2.2.2.2.1)
   have zd : u3 = true := by
    simp [Region.binds] at hd
    simp [hd]
   obtain ⟨rfl⟩ := zd
   subst z16_
   subst z
   clear h0 hd
   rw [if_pos (by rfl)]
   have c0 := keep1 (zu kB) (zu HN0)
   go_simp
   exact zu hK _ _ ⟨u0, u1, u2, true, true, u5, u6, u7, u8, u9, u10, u11, u12, u13, u14, u15, false, n15, rfl, rfl, zu kB, zu k15, zf⟩
  ·intro h0 hd K hK
   have z : u5 = false := h0
   have z16_ : u16 = false := znb fun hu => z.symm.trans ((zu kF hu).2.2.2.2.2.1)
   have zd : u0 = true ∧ u4 = true := by
    simp [Region.binds] at hd
    simp [hd]
   obtain ⟨rfl, rfl⟩ := zd
   subst z16_
   subst z
   clear h0 hd
   rw [if_pos (by rfl)]
   have q1 : i < n := zu HX5
   have q2 : (i : Int) < (n : Int) := by omega
   go_simp
   exact zu hK _ _ ⟨true, u1, u2, u3, true, true, u6, u7, u8, u9, u10, u11, u12, u13, u14, u15, false, n15, rfl, rfl, zu kB, zu k15, zf⟩
  ·intro h0 hd K hK
   have z : u6 = false := h0
   have z16_ : u16 = false := znb fun hu => z.symm.trans ((zu kF hu).2.2.2.2.2.2.1)
   have zd : u5 = true := by
    simp [Region.binds] at hd
    simp [hd]
   obtain ⟨rfl⟩ := zd
   subst z16_
   subst z
   clear h0 hd
   rw [if_pos (by rfl)]
   have c0 := keep1 (zu kB) (zu HA0)
   have c1 := keep1 (zu kB) (zu HA1)
   go_simp
   exact zu hK _ _ ⟨u0, u1, u2, u3, u4, true, true, u7, u8, u9, u10, u11, u12, u13, u14, u15, false, n15, rfl, rfl, zu kB, zu k15, zf⟩
  ·intro h0 hd K hK
   have z : u7 = false := h0
   have z16_ : u16 = false := znb fun hu => z.symm.trans ((zu kF hu).2.2.2.2.2.2.2.1)
   subst z16_
   subst z
   clear h0 hd
   rw [if_pos (by rfl)]
   go_simp
   exact zu hK _ _ ⟨u0, u1, u2, u3, u4, u5, u6, true, u8, u9, u10, u11, u12, u13, u14, u15, false, n15, rfl, rfl, zu kB, zu k15, zf⟩
  ·intro h0 hd K hK
   have z : u8 = false := h0
   have z16_ : u16 = false := znb fun hu => z.symm.trans ((zu kF hu).2.2.2.2.2.2.2.2.1)
   subst z16_
   subst z
   clear h0 hd
   rw [if_pos (by rfl)]
   go_simp
   exact zu hK _ _ ⟨u0, u1, u2, u3, u4, u5, u6, u7, true, u9, u10, u11, u12, u13, u14, u15, false, n15, rfl, rfl, zu kB, zu k15, zf⟩
  ·intro h0 hd K hK
   have z : u9 = false := h0
   have z16_ : u16 = false := znb fun hu => z.symm.trans ((zu kF hu).2.2.2.2.2.2.2.2.2.1)
   subst z16_
   subst z
   clear h0 hd
   rw [if_pos (by rfl)]
   go_simp
   exact zu hK _ _ ⟨u0, u1, u2, u3, u4, u5, u6, u7, u8, true, u10, u11, u12, u13, u14, u15, false, n15, rfl, rfl, zu kB, zu k15, zf⟩
  ·intro h0 hd K hK
   have z : u10 = false := h0
   have z16_ : u16 = false := znb fun hu => z.symm.trans ((zu kF hu).2.2.2.2.2.2.2.2.2.2.1)
   have zd : u8 = true ∧ u9 = true := by
    simp [Region.binds] at hd
    simp [hd]
   obtain ⟨rfl, rfl⟩ := zd
   subst z16_
   subst z
   clear h0 hd
   rw [if_pos (by rfl)]
   have q1 : c < m := zu HX10
   have q2 : (c : Int) < (m : Int) := by omega
   go_simp
   exact zu hK _ _ ⟨u0, u1, u2, u3, u4, u5, u6, u7, true, true, true, u11, u12, u13, u14, u15, false, n15, rfl, rfl, zu kB, zu k15, zf⟩
  ·intro h0 hd K hK
   have z : u11 = false := h0
   have z16_ : u16 = false := znb fun hu => z.symm.trans ((zu kF hu).2.2.2.2.2.2.2.2.2.2.2.1)
   have zd : u10 = true := by
    simp [Region.binds] at hd
    simp [hd]
   obtain ⟨rfl⟩ := zd
   subst z16_
   subst z
   clear h0 hd
   rw [if_pos (by rfl)]
   have c0 := keep1 (zu kB) (zu HN1)
   go_simp
   exact zu hK _ _ ⟨u0, u1, u2, u3, u4, u5, u6, u7, u8, u9, true, true, u12, u13, u14, u15, false, n15, rfl, rfl, zu kB, zu k15, zf⟩
  ·intro h0 hd K hK
   have z : u12 = false := h0
   have z16_ : u16 = false := znb fun hu => z.symm.trans ((zu kF hu).2.2.2.2.2.2.2.2.2.2.2.2.1)
   have zd : u7 = true ∧ u11 = true := by
    simp [Region.binds] at hd
    simp [hd]
   obtain ⟨rfl, rfl⟩ := zd
   subst z16_
   subst z
   clear h0 hd
   rw [if_pos (by rfl)]
   have q1 : j < n := zu HX12
   have q2 : (j : Int) < (n : Int) := by omega
   go_simp
   exact zu hK _ _ ⟨u0, u1, u2, u3, u4, u5, u6, true, u8, u9, u10, true, true, u13, u14, u15, false, n15, rfl, rfl, zu kB, zu k15, zf⟩
  ·intro h0 hd K hK
   have z : u13 = false := h0
   have z16_ : u16 = false := znb fun hu => z.symm.trans ((zu kF hu).2.2.2.2.2.2.2.2.2.2.2.2.2.1)
   have zd : u12 = true := by
    simp [Region.binds] at hd
    simp [hd]
   obtain ⟨rfl⟩ := zd
   subst z16_
   subst z
   clear h0 hd
   rw [if_pos (by rfl)]
   have c0 := keep1 (zu kB) (zu HC0)
   have c1 := keep1 (zu kB) (zu HC1)
   go_simp
   exact zu hK _ _ ⟨u0, u1, u2, u3, u4, u5, u6, u7, u8, u9, u10, u11, true, true, u14, u15, false, n15, rfl, rfl, zu kB, zu k15, zf⟩
  ·intro h0 hd K hK
   have z : u14 = false := h0
   have z16_ : u16 = false := znb fun hu => z.symm.trans ((zu kF hu).2.2.2.2.2.2.2.2.2.2.2.2.2.2.1)
   have zd : u6 = true ∧ u13 = true := by
    simp [Region.binds] at hd
    simp [hd]
   obtain ⟨rfl, rfl⟩ := zd
   subst z16_
   subst z
   clear h0 hd
   rw [if_pos (by rfl)]
   go_simp
   refine (zu HF14 W (zu kB)).mono ?_
   rintro e w8 ⟨rfl, hb8⟩
   exact zu hK _ _ ⟨u0, u1, u2, u3, u4, u5, true, u7, u8, u9, u10, u11, u12, true, true, u15, false, n15, rfl, rfl, bc (zu kB) hb8, (fun h => ⟨(zu k15 h).1.bel hb8, (zu k15 h).2⟩), zf⟩
  ·intro h0 hd K hK
   have z : u15 = false := h0
   have z16_ : u16 = false := znb fun hu => z.symm.trans ((zu kF hu).2.2.2.2.2.2.2.2.2.2.2.2.2.2.2)
   subst z16_
   subst z
   clear h0 hd
   rw [if_pos (by rfl)]
   go_simp
   exact zu hK _ _ ⟨u0, u1, u2, u3, u4, u5, u6, u7, u8, u9, u10, u11, u12, u13, u14, true, false, W.heap.size, rfl, rfl, ba (zu kB) _, (fun _ => ⟨cb_new W 34 _ _ rfl, (zu kB).size⟩), zf⟩
  ·intro h0 hd K hK
   have z : u16 = false := h0
   have zd0 : u0 = true ∧ u1 = true ∧ u2 = true ∧ u3 = true ∧ u4 = true ∧ u5 = true ∧ u6 = true ∧ u7 = true ∧ u8 = true ∧ u9 = true ∧ u10 = true ∧ u11 = true ∧ u12 = true ∧ u13 = true ∧ u14 = true ∧ u15 = true := by
    simp [Region.binds] at hd
    simp [hd]
   have zd : u0 = true ∧ u1 = true ∧ u2 = true ∧ u3 = true ∧ u4 = true ∧ u5 = true ∧ u6 = true ∧ u7 = true ∧ u8 = true ∧ u9 = true ∧ u10 = true ∧ u11 = true ∧ u12 = true ∧ u13 = true ∧ u14 = true ∧ u15 = true := ⟨zd0.1, zd0.2.1, zd0.2.2.1, zd0.2.2.2.1, zd0.2.2.2.2.1, zd0.2.2.2.2.2.1, zd0.2.2.2.2.2.2.1, zd0.2.2.2.2.2.2.2.1, zd0.2.2.2.2.2.2.2.2.1, zd0.2.2.2.2.2.2.2.2.2.1, zd0.2.2.2.2.2.2.2.2.2.2.1, zd0.2.2.2.2.2.2.2.2.2.2.2.1, zd0.2.2.2.2.2.2.2.2.2.2.2.2.1, zd0.2.2.2.2.2.2.2.2.2.2.2.2.2.1, zd0.2.2.2.2.2.2.2.2.2.2.2.2.2.2.1, zd0.2.2.2.2.2.2.2.2.2.2.2.2.2.2.2⟩
   obtain ⟨rfl, rfl, rfl, rfl, rfl, rfl, rfl, rfl, rfl, rfl, rfl, rfl, rfl, rfl, rfl, rfl⟩ := zd
   subst z
   clear h0 hd
   rw [if_pos (by rfl)]
   have v1 := (zu k15 rfl).1
   have g9 := (zu k15 rfl).2
   have fz := v1.frozen
   have q0 := v1.cell (m := 0) rfl
   have q1 := v1.cell (m := 1) rfl
   have q2 := v1.cell (m := 2) rfl
   have q3 := v1.cell (m := 3) rfl
   have q4 := v1.cell (m := 4) rfl
   have q5 := v1.cell (m := 5) rfl
   have q6 := v1.cell (m := 6) rfl
   have q7 := v1.cell (m := 7) rfl
   have HV1 := hide v1
   clear v1
   go_simp
   exact zu hK _ _ ⟨true, true, true, true, true, true, true, true, true, true, true, true, true, true, true, true, true, n15, rfl, rfl, (((((((((((((((((zu kB)).setCell (p := ⟨n15, 0, none⟩) g9 _)).setCell (p := ⟨n15, 1, none⟩) g9 _)).setCell (p := ⟨n15, 2, none⟩) g9 _)).setCell (p := ⟨n15, 3, none⟩) g9 _)).setCell (p := ⟨n15, 4, none⟩) g9 _)).setCell (p := ⟨n15, 5, none⟩) g9 _)).setCell (p := ⟨n15, 6, none⟩) g9 _)).setCell (p := ⟨n15, 7, none⟩) g9 _), (fun _ => ⟨(((((((((zu HV1).set 0 _).set 1 _).set 2 _).set 3 _).set 4 _).set 5 _).set 6 _).set 7 _), g9⟩), (fun _ => ⟨rfl, rfl, rfl, rfl, rfl, rfl, rfl, rfl, rfl, rfl, rfl, rfl, rfl, rfl, rfl, rfl⟩)⟩
 case hend =>
  intro Lb A W hI
  obtain ⟨u0, u1, u2, u3, u4, hI⟩ := hI
  obtain ⟨u5, u6, u7, u8, u9, hI⟩ := hI
  obtain ⟨u10, u11, u12, u13, u14, hI⟩ := hI
  obtain ⟨u15, u16, n15, hI⟩ := hI
  obtain ⟨hLb, hI⟩ := hI
  obtain ⟨hA, hI⟩ := hI
  obtain ⟨kB, hI⟩ := hI
  obtain ⟨k15, hI⟩ := hI
  have kF := hI
  clear hI
  subst hLb
  subst hA
  intro hL
  have hl : u0 = true ∧ u1 = true ∧ u2 = true ∧ u3 = true ∧ u4 = true ∧ u5 = true ∧ u6 = true ∧ u7 = true ∧ u8 = true ∧ u9 = true ∧ u10 = true ∧ u11 = true ∧ u12 = true ∧ u13 = true ∧ u14 = true ∧ u15 = true ∧ u16 = true := by
   have h2 := congrArg Array.toList hL
   simpa [List.replicate] using h2
  obtain ⟨rfl, rfl, rfl, rfl, rfl, rfl, rfl, rfl, rfl, rfl, rfl, rfl, rfl, rfl, rfl, rfl, rfl⟩ := hl
  exact zu HQ n15 W kB (k15 rfl).1 (k15 rfl).2
end Go.Proofs.Ytdcecfgmfmpeeaa
