/-
  The statement of the model's RingOf that looks for corners of the hull.
-/
import Derived.Test.YtdcecfgmfmpeeaaRgXq
namespace Go.Proofs.Ytdcecfgmfmpeeaa
open Go.ChangeShapes Go.WideShapes Go.ChangeAt Go.RowKit
set_option linter.unusedVariables false
set_option linter.unusedSimpArgs false
set_option maxHeartbeats 4000000 in
set_option maxRecDepth 100000 in
theorem mr14f {s1 s2 s3 s5 s6 s8 s9 s10 s11 s12 s13 s14 s15 s16 s17 s18 s19 s20 s21 s22 s23 s24 s25 s26 s27 s28 s29 s30 s31 s32 s33 s34 s35 s36 s37 s38 s39 s40 s41 s42 s43 s44 s45 s46 s47 s48 s49 s50 s51 s52 s53 s54 s55 s56 s57 s58 s59 s60 s61 s62 s63 s64 s65 s66 s67 s68 s69 s70 s71 s72 s73 s74 s75 s76 s77 s78 s79 s80 s81 s82 s83 s84 s85 s86 s87 s88 s89 s90 s91 s92 s93 s94 s95 s96 s97 s98 s99 s100 s101 s102 s103 s104 s105 s106 s107 s108 s109 s110 s111 s112 s113 s114 s115 s116 s117 s118 s119 s120 s121 s122 s123 s124 s125 s126 s127 s128 s129 s130 s131 s132 s133 s134 s135 s136 s137 s138 s139 s140 s141 s142 s143 s144 s145 s146 s147 s148 s149 s150 s151 s152 s153 s154 s155 s156 s157 s158 s159 s160 s161 s162 s163 s164 s165 s166 s167 s168 s169 s170 s171 s172 s173 s174 s175 s176 s177 s178 s179 s180 s181 s182 s183 s184 s185 s186 s187 s188 s189 s190 s191 s192 s193 s194 s195 s196 s197 s198 s199 s200 s201 : Value} {b n cap hb hn hc i j : Nat} {x y : Int} {V : World} {K_ : Act → World → Prop} (hji : ¬ j = i)
  (HA0 : Hid (V.cell? ⟨b, i * 2, none⟩ = some (.int .i64 (x)))) (HA1 : Hid (V.cell? ⟨b, i * 2 + 1, none⟩ = some (.int .i64 (y)))) 
  (HX3 : Hid (i < n))
  (HF5 : Hid (∀ Xw, Below V.heap.size V Xw → Calls Try.prog 29 #[.slice (some ⟨b, 0, none⟩) n cap, .agg #[.int .i64 (x), .int .i64 (y)]] Xw fun e w' => e = .returned (.int .i64 (j : Int)) ∧ Below Xw.heap.size Xw w'))
  (hQ : ∀ (W1 : World), Below V.heap.size V W1 → K_ { tmps := #[.slice (some ⟨b, 0, none⟩) n cap, s1, s2, s3, .slice (some ⟨hb, 0, none⟩) hn hc, s5, s6, .int .i64 (i : Int), s8, s9, s10, s11, s12, s13, s14, s15, s16, s17, s18, s19, s20, s21, s22, s23, s24, s25, s26, s27, s28, s29, s30, s31, s32, s33, s34, s35, s36, s37, s38, s39, s40, s41, s42, s43, s44, s45, s46, s47, s48, s49, .slice (some ⟨b, 0, none⟩) n cap, .slice (some ⟨b, 0, none⟩) n cap, .int .i64 (i : Int), .pointer (some ⟨b, i * 2, none⟩), .agg #[.int .i64 (x), .int .i64 (y)], .int .i64 (j : Int), .int .i64 (i : Int), .bool (false), .bool (false), undef, undef, undef, undef, undef, undef, undef, .bool (false), .bool (false), undef, undef, undef, undef, undef, undef, undef, undef, undef, undef, undef, undef, undef, undef, .bool (false), s83, s84, s85, s86, s87, s88, s89, s90, s91, s92, s93, s94, s95, s96, s97, s98, s99, s100, s101, s102, s103, s104, s105, s106, s107, s108, s109, s110, s111, s112, s113, s114, s115, s116, s117, s118, s119, s120, s121, s122, s123, s124, s125, s126, s127, s128, s129, s130, s131, s132, s133, s134, s135, s136, s137, s138, s139, s140, s141, s142, s143, s144, s145, s146, s147, s148, s149, s150, s151, s152, s153, s154, s155, s156, s157, s158, s159, s160, s161, s162, s163, s164, s165, s166, s167, s168, s169, s170, s171, s172, s173, s174, s175, s176, s177, s178, s179, s180, s181, s182, s183, s184, s185, s186, s187, s188, s189, s190, s191, s192, s193, s194, s195, s196, s197, s198, s199, s200, s201], defers := [] } W1) :
  Go.Code.wp Try.prog (rg11 14) (Only K_) { tmps := #[.slice (some ⟨b, 0, none⟩) n cap, s1, s2, s3, .slice (some ⟨hb, 0, none⟩) hn hc, s5, s6, .int .i64 (i : Int), s8, s9, s10, s11, s12, s13, s14, s15, s16, s17, s18, s19, s20, s21, s22, s23, s24, s25, s26, s27, s28, s29, s30, s31, s32, s33, s34, s35, s36, s37, s38, s39, s40, s41, s42, s43, s44, s45, s46, s47, s48, s49, s50, s51, s52, s53, s54, s55, s56, s57, s58, s59, s60, s61, s62, s63, s64, s65, s66, s67, s68, s69, s70, s71, s72, s73, s74, s75, s76, s77, s78, s79, s80, s81, s82, s83, s84, s85, s86, s87, s88, s89, s90, s91, s92, s93, s94, s95, s96, s97, s98, s99, s100, s101, s102, s103, s104, s105, s106, s107, s108, s109, s110, s111, s112, s113, s114, s115, s116, s117, s118, s119, s120, s121, s122, s123, s124, s125, s126, s127, s128, s129, s130, s131, s132, s133, s134, s135, s136, s137, s138, s139, s140, s141, s142, s143, s144, s145, s146, s147, s148, s149, s150, s151, s152, s153, s154, s155, s156, s157, s158, s159, s160, s161, s162, s163, s164, s165, s166, s167, s168, s169, s170, s171, s172, s173, s174, s175, s176, s177, s178, s179, s180, s181, s182, s183, s184, s185, s186, s187, s188, s189, s190, s191, s192, s193, s194, s195, s196, s197, s198, s199, s200, s201], defers := [] } V := by
 have HQ := hide hQ
 clear hQ
 have tm : ((j : Int) == (i : Int)) = false := beq_eq_false_iff_ne.2 (by omega)
 have tm2 : ¬ (j : Int) = (i : Int) := by omega
 conv => arg 2; whnf
 refine wp_region_inv2 (fun Lb A W => ∃ (u0 u1 u2 u3 u4 u5 u6 u7 u8 u9 u10 u11 u12 u13 u14 u15 u16 u17 u18 u19 u20 u21 u22 u23 u24 u25 u26 u27 u28 u29 u30 u31 u32 : Bool) (dm : Nat), Lb = #[u0, u1, u2, u3, u4, u5, u6, u7, u8, u9, u10, u11, u12, u13, u14, u15, u16, u17, u18, u19, u20, u21, u22, u23, u24, u25, u26, u27, u28, u29, u30, u31, u32] ∧ A = ({ tmps := #[.slice (some ⟨b, 0, none⟩) n cap, s1, s2, s3, .slice (some ⟨hb, 0, none⟩) hn hc, s5, s6, .int .i64 (i : Int), s8, s9, s10, s11, s12, s13, s14, s15, s16, s17, s18, s19, s20, s21, s22, s23, s24, s25, s26, s27, s28, s29, s30, s31, s32, s33, s34, s35, s36, s37, s38, s39, s40, s41, s42, s43, s44, s45, s46, s47, s48, s49, (bif u0 then .slice (some ⟨b, 0, none⟩) n cap else s50), (bif u1 then .slice (some ⟨b, 0, none⟩) n cap else s51), (bif u2 then .int .i64 (i : Int) else s52), (bif u3 then .pointer (some ⟨b, i * 2, none⟩) else s53), (bif u4 then .agg #[.int .i64 (x), .int .i64 (y)] else s54), (bif u5 then .int .i64 (j : Int) else s55), (bif u6 then .int .i64 (i : Int) else s56), (bif u7 then .bool (false) else s57), (bif u8 then .bool (false) else s58), (bif u9 then undef else s59), (bif u10 then undef else s60), (bif u11 then undef else s61), (bif u12 then undef else s62), (bif u13 then undef else s63), (bif u14 then undef else s64), (bif u15 then undef else s65), (bif u16 then .bool (false) else s66), (bif u17 then .bool (false) else s67), (bif u18 then undef else s68), (bif u19 then undef else s69), (bif u20 then undef else s70), (bif u21 then undef else s71), (bif u22 then undef else s72), (bif u23 then undef else s73), (bif u24 then undef else s74), (bif u25 then undef else s75), (bif u26 then undef else s76), (bif u27 then undef else s77), (bif u28 then undef else s78), (bif u29 then undef else s79), (bif u30 then undef else s80), (bif u31 then undef else s81), (bif u32 then .bool (false) else s82), s83, s84, s85, s86, s87, s88, s89, s90, s91, s92, s93, s94, s95, s96, s97, s98, s99, s100, s101, s102, s103, s104, s105, s106, s107, s108, s109, s110, s111, s112, s113, s114, s115, s116, s117, s118, s119, s120, s121, s122, s123, s124, s125, s126, s127, s128, s129, s130, s131, s132, s133, s134, s135, s136, s137, s138, s139, s140, s141, s142, s143, s144, s145, s146, s147, s148, s149, s150, s151, s152, s153, s154, s155, s156, s157, s158, s159, s160, s161, s162, s163, s164, s165, s166, s167, s168, s169, s170, s171, s172, s173, s174, s175, s176, s177, s178, s179, s180, s181, s182, s183, s184, s185, s186, s187, s188, s189, s190, s191, s192, s193, s194, s195, s196, s197, s198, s199, s200, s201], defers := [] } : Act) ∧ Below V.heap.size V W ∧ (u3 = true → u1 = true ∧ u2 = true) ∧ (u4 = true → u3 = true) ∧ (u5 = true → u0 = true ∧ u4 = true) ∧ (u7 = true → u5 = true ∧ u6 = true) ∧ (u8 = true → u7 = true) ∧ (u9 = true → u8 = true) ∧ (u10 = true → u8 = true) ∧ (u11 = true → u8 = true) ∧ (u12 = true → u10 = true ∧ u11 = true ∧ u8 = true) ∧ (u13 = true → u12 = true ∧ u8 = true) ∧ (u14 = true → u9 = true ∧ u13 = true ∧ u8 = true) ∧ (u15 = true → u14 = true ∧ u8 = true) ∧ (u16 = true → u8 = true ∧ u15 = true) ∧ (u17 = true → u16 = true) ∧ (u18 = true → u17 = true) ∧ (u19 = true → u17 = true) ∧ (u20 = true → u17 = true) ∧ (u21 = true → u17 = true) ∧ (u22 = true → u20 = true ∧ u21 = true ∧ u17 = true) ∧ (u23 = true → u22 = true ∧ u17 = true) ∧ (u24 = true → u19 = true ∧ u23 = true ∧ u17 = true) ∧ (u25 = true → u18 = true ∧ u24 = true ∧ u17 = true) ∧ (u26 = true → u25 = true ∧ u17 = true) ∧ (u27 = true → u17 = true) ∧ (u28 = true → u17 = true) ∧ (u29 = true → u27 = true ∧ u28 = true ∧ u17 = true) ∧ (u30 = true → u29 = true ∧ u17 = true) ∧ (u31 = true → u26 = true ∧ u30 = true ∧ u17 = true) ∧ (u32 = true → u0 = true ∧ u1 = true ∧ u2 = true ∧ u3 = true ∧ u4 = true ∧ u5 = true ∧ u6 = true ∧ u7 = true ∧ u8 = true ∧ u9 = true ∧ u10 = true ∧ u11 = true ∧ u12 = true ∧ u13 = true ∧ u14 = true ∧ u15 = true ∧ u16 = true ∧ u17 = true ∧ u18 = true ∧ u19 = true ∧ u20 = true ∧ u21 = true ∧ u22 = true ∧ u23 = true ∧ u24 = true ∧ u25 = true ∧ u26 = true ∧ u27 = true ∧ u28 = true ∧ u29 = true ∧ u30 = true ∧ u31 = true)) (by kernel_rfl) (by kernel_rfl) ?h0 ?hstep ?hend
 case h0 =>
  exact ⟨false, false, false, false, false, false, false, false, false, false, false, false, false, false, false, false, false, false, false, false, false, false, false, false, false, false, false, false, false, false, false, false, false, 0, rfl, rfl, Below.drew (Below.refl _ _), zf, zf, zf, zf, zf, zf, zf, zf, zf, zf, zf, zf, zf, zf, zf, zf, zf, zf, zf, zf, zf, zf, zf, zf, zf, zf, zf, zf, zf⟩
 case hstep =>
  intro Lb A W hI
  obtain ⟨u0, u1, u2, u3, u4, hI⟩ := hI
  obtain ⟨u5, u6, u7, u8, u9, hI⟩ := hI
  obtain ⟨u10, u11, u12, u13, u14, hI⟩ := hI
  obtain ⟨u15, u16, u17, u18, u19, hI⟩ := hI
  obtain ⟨u20, u21, u22, u23, u24, hI⟩ := hI
  obtain ⟨u25, u26, u27, u28, u29, hI⟩ := hI
  obtain ⟨u30, u31, u32, dm, hI⟩ := hI
  obtain ⟨hLb, hI⟩ := hI
  obtain ⟨hA, hI⟩ := hI
  obtain ⟨kB, hI⟩ := hI
  obtain ⟨l3, hI⟩ := hI
  obtain ⟨l4, hI⟩ := hI
  obtain ⟨l5, hI⟩ := hI
  obtain ⟨l7, hI⟩ := hI
  obtain ⟨l8, hI⟩ := hI
  obtain ⟨l9, hI⟩ := hI
  obtain ⟨l10, hI⟩ := hI
  obtain ⟨l11, hI⟩ := hI
  obtain ⟨l12, hI⟩ := hI
  obtain ⟨l13, hI⟩ := hI
  obtain ⟨l14, hI⟩ := hI
  obtain ⟨l15, hI⟩ := hI
  obtain ⟨l16, hI⟩ := hI
  obtain ⟨l17, hI⟩ := hI
  obtain ⟨l18, hI⟩ := hI
  obtain ⟨l19, hI⟩ := hI
  obtain ⟨l20, hI⟩ := hI
  obtain ⟨l21, hI⟩ := hI
  obtain ⟨l22, hI⟩ := hI
  obtain ⟨l23, hI⟩ := hI
  obtain ⟨l24, hI⟩ := hI
  obtain ⟨l25, hI⟩ := hI
  obtain ⟨l26, hI⟩ := hI
  obtain ⟨l27, hI⟩ := hI
  obtain ⟨l28, hI⟩ := hI
  obtain ⟨l29, hI⟩ := hI
  obtain ⟨l30, hI⟩ := hI
  obtain ⟨l31, hI⟩ := hI
  have kF := hI
  clear hI
  subst hLb
  subst hA
  replace kB := hide kB
  replace l3 := hide l3
  replace l4 := hide l4
  replace l5 := hide l5
  replace l7 := hide l7
  replace l8 := hide l8
  replace l9 := hide l9
  replace l10 := hide l10
  replace l11 := hide l11
  replace l12 := hide l12
  replace l13 := hide l13
  replace l14 := hide l14
  replace l15 := hide l15
  replace l16 := hide l16
  replace l17 := hide l17
  replace l18 := hide l18
  replace l19 := hide l19
  replace l20 := hide l20
  replace l21 := hide l21
  replace l22 := hide l22
  replace l23 := hide l23
  replace l24 := hide l24
  replace l25 := hide l25
  replace l26 := hide l26
  replace l27 := hide l27
  replace l28 := hide l28
  replace l29 := hide l29
  replace l30 := hide l30
  replace l31 := hide l31
  replace kF := hide kF
  refine ⟨?_, ?_, ?_, ?_, ?_, ?_, ?_, ?_, ?_, ?_, ?_, ?_, ?_, ?_, ?_, ?_, ?_, ?_, ?_, ?_, ?_, ?_, ?_, ?_, ?_, ?_, ?_, ?_, ?_, ?_, ?_, ?_, ?_, trivial⟩
  ·intro h0 hd K hK
   have z : u0 = false := h0
   have z32_ : u32 = false := znb fun hu => z.symm.trans ((zu kF hu).1)
   subst z32_
   subst z
   clear h0 hd
   rw [if_pos (by rfl)]
   go_simp
   exact zu hK _ _ ⟨true, u1, u2, u3, u4, u5, u6, u7, u8, u9, u10, u11, u12, u13, u14, u15, u16, u17, u18, u19, u20, u21, u22, u23, u24, u25, u26, u27, u28, u29, u30, u31, false, dm, rfl, rfl, zu kB, zu l3, zu l4, (fun h => ⟨rfl, (zu l5 h).2⟩), zu l7, zu l8, zu l9, zu l10, zu l11, zu l12, zu l13, zu l14, zu l15, zu l16, zu l17, zu l18, zu l19, zu l20, zu l21, zu l22, zu l23, zu l24, zu l25, zu l26, zu l27, zu l28, zu l29, zu l30, zu l31, zf⟩
  ·intro h0 hd K hK
   have z : u1 = false := h0
   have z32_ : u32 = false := znb fun hu => z.symm.trans ((zu kF hu).2.1)
   subst z32_
   subst z
   clear h0 hd
   rw [if_pos (by rfl)]
   go_simp
   exact zu hK _ _ ⟨u0, true, u2, u3, u4, u5, u6, u7, u8, u9, u10, u11, u12, u13, u14, u15, u16, u17, u18, u19, u20, u21, u22, u23, u24, u25, u26, u27, u28, u29, u30, u31, false, dm, rfl, rfl, zu kB, (fun h => ⟨rfl, (zu l3 h).2⟩), zu l4, zu l5, zu l7, zu l8, zu l9, zu l10, zu l11, zu l12, zu l13, zu l14, zu l15, zu l16, zu l17, zu l18, zu l19, zu l20, zu l21, zu l22, zu l23, zu l24, zu l25, zu l26, zu l27, zu l28, zu l29, zu l30, zu l31, zf⟩
  ·intro h0 hd K hK
   have z : u2 = false := h0
   have z32_ : u32 = false := znb fun hu => z.symm.trans ((zu kF hu).2.2.1)
   subst z32_
   subst z
   clear h0 hd
   rw [if_pos (by rfl)]
   go_simp
   exact zu hK _ _ ⟨u0, u1, true, u3, u4, u5, u6, u7, u8, u9, u10, u11, u12, u13, u14, u15, u16, u17, u18, u19, u20, u21, u22, u23, u24, u25, u26, u27, u28, u29, u30, u31, false, dm, rfl, rfl, zu kB, (fun h => ⟨(zu l3 h).1, rfl⟩), zu l4, zu l5, zu l7, zu l8, zu l9, zu l10, zu l11, zu l12, zu l13, zu l14, zu l15, zu l16, zu l17, zu l18, zu l19, zu l20, zu l21, zu l22, zu l23, zu l24, zu l25, zu l26, zu l27, zu l28, zu l29, zu l30, zu l31, zf⟩
  ·intro h0 hd K hK
   have z : u3 = false := h0
   have z32_ : u32 = false := znb fun hu => z.symm.trans ((zu kF hu).2.2.2.1)
   have zd : u1 = true ∧ u2 = true := by
    simp [Region.binds] at hd
    simp [hd]
   obtain ⟨rfl, rfl⟩ := zd
   subst z32_
   subst z
   clear h0 hd
   rw [if_pos (by rfl)]
   have q1 : i < n := zu HX3
   have q2 : (i : Int) < (n : Int) := by omega
   go_simp
   exact zu hK _ _ ⟨u0, true, true, true, u4, u5, u6, u7, u8, u9, u10, u11, u12, u13, u14, u15, u16, u17, u18, u19, u20, u21, u22, u23, u24, u25, u26, u27, u28, u29, u30, u31, false, dm, rfl, rfl, zu kB, (fun _ => ⟨rfl, rfl⟩), (fun h => rfl), zu l5, zu l7, zu l8, zu l9, zu l10, zu l11, zu l12, zu l13, zu l14, zu l15, zu l16, zu l17, zu l18, zu l19, zu l20, zu l21, zu l22, zu l23, zu l24, zu l25, zu l26, zu l27, zu l28, zu l29, zu l30, zu l31, zf⟩
  ·intro h0 hd K hK
   have z : u4 = false := h0
   have z32_ : u32 = false := znb fun hu => z.symm.trans ((zu kF hu).2.2.2.2.1)
   have zd : u3 = true := by
    simp [Region.binds] at hd
    simp [hd]
   obtain ⟨rfl⟩ := zd
   subst z32_
   subst z
   clear h0 hd
   rw [if_pos (by rfl)]
   have c0 := keep1 (zu kB) (zu HA0)
   have c1 := keep1 (zu kB) (zu HA1)
   go_simp
   exact zu hK _ _ ⟨u0, u1, u2, true, true, u5, u6, u7, u8, u9, u10, u11, u12, u13, u14, u15, u16, u17, u18, u19, u20, u21, u22, u23, u24, u25, u26, u27, u28, u29, u30, u31, false, dm, rfl, rfl, zu kB, zu l3, (fun _ => rfl), (fun h => ⟨(zu l5 h).1, rfl⟩), zu l7, zu l8, zu l9, zu l10, zu l11, zu l12, zu l13, zu l14, zu l15, zu l16, zu l17, zu l18, zu l19, zu l20, zu l21, zu l22, zu l23, zu l24, zu l25, zu l26, zu l27, zu l28, zu l29, zu l30, zu l31, zf⟩
  ·intro h0 hd K hK
   have z : u5 = false := h0
   have z32_ : u32 = false := znb fun hu => z.symm.trans ((zu kF hu).2.2.2.2.2.1)
   have zd : u0 = true ∧ u4 = true := by
    simp [Region.binds] at hd
    simp [hd]
   obtain ⟨rfl, rfl⟩ := zd
   subst z32_
   subst z
   clear h0 hd
   rw [if_pos (by rfl)]
   go_simp
   refine (zu HF5 W (zu kB)).mono ?_
   rintro e w8 ⟨rfl, hb8⟩
   exact zu hK _ _ ⟨true, u1, u2, u3, true, true, u6, u7, u8, u9, u10, u11, u12, u13, u14, u15, u16, u17, u18, u19, u20, u21, u22, u23, u24, u25, u26, u27, u28, u29, u30, u31, false, dm, rfl, rfl, bc (zu kB) hb8, zu l3, zu l4, (fun _ => ⟨rfl, rfl⟩), (fun h => ⟨rfl, (zu l7 h).2⟩), zu l8, zu l9, zu l10, zu l11, zu l12, zu l13, zu l14, zu l15, zu l16, zu l17, zu l18, zu l19, zu l20, zu l21, zu l22, zu l23, zu l24, zu l25, zu l26, zu l27, zu l28, zu l29, zu l30, zu l31, zf⟩
  ·intro h0 hd K hK
   have z : u6 = false := h0
   have z32_ : u32 = false := znb fun hu => z.symm.trans ((zu kF hu).2.2.2.2.2.2.1)
   subst z32_
   subst z
   clear h0 hd
   rw [if_pos (by rfl)]
   go_simp
   exact zu hK _ _ ⟨u0, u1, u2, u3, u4, u5, true, u7, u8, u9, u10, u11, u12, u13, u14, u15, u16, u17, u18, u19, u20, u21, u22, u23, u24, u25, u26, u27, u28, u29, u30, u31, false, dm, rfl, rfl, zu kB, zu l3, zu l4, zu l5, (fun h => ⟨(zu l7 h).1, rfl⟩), zu l8, zu l9, zu l10, zu l11, zu l12, zu l13, zu l14, zu l15, zu l16, zu l17, zu l18, zu l19, zu l20, zu l21, zu l22, zu l23, zu l24, zu l25, zu l26, zu l27, zu l28, zu l29, zu l30, zu l31, zf⟩
  ·intro h0 hd K hK
   have z : u7 = false := h0
   have z32_ : u32 = false := znb fun hu => z.symm.trans ((zu kF hu).2.2.2.2.2.2.2.1)
   have zd : u5 = true ∧ u6 = true := by
    simp [Region.binds] at hd
    simp [hd]
   obtain ⟨rfl, rfl⟩ := zd
   subst z32_
   subst z
   clear h0 hd
   rw [if_pos (by rfl)]
   go_simp
   exact zu hK _ _ ⟨u0, u1, u2, u3, u4, true, true, true, u8, u9, u10, u11, u12, u13, u14, u15, u16, u17, u18, u19, u20, u21, u22, u23, u24, u25, u26, u27, u28, u29, u30, u31, false, dm, rfl, rfl, zu kB, zu l3, zu l4, zu l5, (fun _ => ⟨rfl, rfl⟩), (fun h => rfl), zu l9, zu l10, zu l11, zu l12, zu l13, zu l14, zu l15, zu l16, zu l17, zu l18, zu l19, zu l20, zu l21, zu l22, zu l23, zu l24, zu l25, zu l26, zu l27, zu l28, zu l29, zu l30, zu l31, zf⟩
  ·intro h0 hd K hK
   have z : u8 = false := h0
   have z32_ : u32 = false := znb fun hu => z.symm.trans ((zu kF hu).2.2.2.2.2.2.2.2.1)
   have zd : u7 = true := by
    simp [Region.binds] at hd
    simp [hd]
   obtain ⟨rfl⟩ := zd
   subst z32_
   subst z
   clear h0 hd
   rw [if_pos (by rfl)]
   go_simp
   exact zu hK _ _ ⟨u0, u1, u2, u3, u4, u5, u6, true, true, u9, u10, u11, u12, u13, u14, u15, u16, u17, u18, u19, u20, u21, u22, u23, u24, u25, u26, u27, u28, u29, u30, u31, false, dm, rfl, rfl, zu kB, zu l3, zu l4, zu l5, zu l7, (fun _ => rfl), (fun h => rfl), (fun h => rfl), (fun h => rfl), (fun h => ⟨(zu l12 h).1, (zu l12 h).2.1, rfl⟩), (fun h => ⟨(zu l13 h).1, rfl⟩), (fun h => ⟨(zu l14 h).1, (zu l14 h).2.1, rfl⟩), (fun h => ⟨(zu l15 h).1, rfl⟩), (fun h => ⟨rfl, (zu l16 h).2⟩), zu l17, zu l18, zu l19, zu l20, zu l21, zu l22, zu l23, zu l24, zu l25, zu l26, zu l27, zu l28, zu l29, zu l30, zu l31, zf⟩
  ·intro h0 hd K hK
   have z : u9 = false := h0
   have z32_ : u32 = false := znb fun hu => z.symm.trans ((zu kF hu).2.2.2.2.2.2.2.2.2.1)
   have zd : u8 = true := by
    simp [Region.binds] at hd
    simp [hd]
   obtain ⟨rfl⟩ := zd
   subst z32_
   subst z
   clear h0 hd
   rw [if_neg (Bool.eq_false_iff.1 (by rfl))]
   try go_simp
   exact zu hK _ _ ⟨u0, u1, u2, u3, u4, u5, u6, u7, true, true, u10, u11, u12, u13, u14, u15, u16, u17, u18, u19, u20, u21, u22, u23, u24, u25, u26, u27, u28, u29, u30, u31, false, dm, rfl, rfl, zu kB, zu l3, zu l4, zu l5, zu l7, zu l8, (fun _ => rfl), (fun h => rfl), (fun h => rfl), (fun h => ⟨(zu l12 h).1, (zu l12 h).2.1, rfl⟩), (fun h => ⟨(zu l13 h).1, rfl⟩), (fun h => ⟨rfl, (zu l14 h).2.1, rfl⟩), (fun h => ⟨(zu l15 h).1, rfl⟩), (fun h => ⟨rfl, (zu l16 h).2⟩), zu l17, zu l18, zu l19, zu l20, zu l21, zu l22, zu l23, zu l24, zu l25, zu l26, zu l27, zu l28, zu l29, zu l30, zu l31, zf⟩
  ·intro h0 hd K hK
   have z : u10 = false := h0
   have z32_ : u32 = false := znb fun hu => z.symm.trans ((zu kF hu).2.2.2.2.2.2.2.2.2.2.1)
   have zd : u8 = true := by
    simp [Region.binds] at hd
    simp [hd]
   obtain ⟨rfl⟩ := zd
   subst z32_
   subst z
   clear h0 hd
   rw [if_neg (Bool.eq_false_iff.1 (by rfl))]
   try go_simp
   exact zu hK _ _ ⟨u0, u1, u2, u3, u4, u5, u6, u7, true, u9, true, u11, u12, u13, u14, u15, u16, u17, u18, u19, u20, u21, u22, u23, u24, u25, u26, u27, u28, u29, u30, u31, false, dm, rfl, rfl, zu kB, zu l3, zu l4, zu l5, zu l7, zu l8, (fun h => rfl), (fun _ => rfl), (fun h => rfl), (fun h => ⟨rfl, (zu l12 h).2.1, rfl⟩), (fun h => ⟨(zu l13 h).1, rfl⟩), (fun h => ⟨(zu l14 h).1, (zu l14 h).2.1, rfl⟩), (fun h => ⟨(zu l15 h).1, rfl⟩), (fun h => ⟨rfl, (zu l16 h).2⟩), zu l17, zu l18, zu l19, zu l20, zu l21, zu l22, zu l23, zu l24, zu l25, zu l26, zu l27, zu l28, zu l29, zu l30, zu l31, zf⟩
  ·intro h0 hd K hK
   have z : u11 = false := h0
   have z32_ : u32 = false := znb fun hu => z.symm.trans ((zu kF hu).2.2.2.2.2.2.2.2.2.2.2.1)
   have zd : u8 = true := by
    simp [Region.binds] at hd
    simp [hd]
   obtain ⟨rfl⟩ := zd
   subst z32_
   subst z
   clear h0 hd
   rw [if_neg (Bool.eq_false_iff.1 (by rfl))]
   try go_simp
   exact zu hK _ _ ⟨u0, u1, u2, u3, u4, u5, u6, u7, true, u9, u10, true, u12, u13, u14, u15, u16, u17, u18, u19, u20, u21, u22, u23, u24, u25, u26, u27, u28, u29, u30, u31, false, dm, rfl, rfl, zu kB, zu l3, zu l4, zu l5, zu l7, zu l8, (fun h => rfl), (fun h => rfl), (fun _ => rfl), (fun h => ⟨(zu l12 h).1, rfl, rfl⟩), (fun h => ⟨(zu l13 h).1, rfl⟩), (fun h => ⟨(zu l14 h).1, (zu l14 h).2.1, rfl⟩), (fun h => ⟨(zu l15 h).1, rfl⟩), (fun h => ⟨rfl, (zu l16 h).2⟩), zu l17, zu l18, zu l19, zu l20, zu l21, zu l22, zu l23, zu l24, zu l25, zu l26, zu l27, zu l28, zu l29, zu l30, zu l31, zf⟩
  ·intro h0 hd K hK
   have z : u12 = false := h0
   have z32_ : u32 = false := znb fun hu => z.symm.trans ((zu kF hu).2.2.2.2.2.2.2.2.2.2.2.2.1)
   have zd : u10 = true ∧ u11 = true ∧ u8 = true := by
    simp [Region.binds] at hd
    simp [hd]
   obtain ⟨rfl, rfl, rfl⟩ := zd
   subst z32_
   subst z
   clear h0 hd
   rw [if_neg (Bool.eq_false_iff.1 (by rfl))]
   try go_simp
   exact zu hK _ _ ⟨u0, u1, u2, u3, u4, u5, u6, u7, true, u9, true, true, true, u13, u14, u15, u16, u17, u18, u19, u20, u21, u22, u23, u24, u25, u26, u27, u28, u29, u30, u31, false, dm, rfl, rfl, zu kB, zu l3, zu l4, zu l5, zu l7, zu l8, (fun h => rfl), (fun h => rfl), (fun h => rfl), (fun _ => ⟨rfl, rfl, rfl⟩), (fun h => ⟨rfl, rfl⟩), (fun h => ⟨(zu l14 h).1, (zu l14 h).2.1, rfl⟩), (fun h => ⟨(zu l15 h).1, rfl⟩), (fun h => ⟨rfl, (zu l16 h).2⟩), zu l17, zu l18, zu l19, zu l20, zu l21, zu l22, zu l23, zu l24, zu l25, zu l26, zu l27, zu l28, zu l29, zu l30, zu l31, zf⟩
  ·intro h0 hd K hK
   have z : u13 = false := h0
   have z32_ : u32 = false := znb fun hu => z.symm.trans ((zu kF hu).2.2.2.2.2.2.2.2.2.2.2.2.2.1)
   have zd : u12 = true ∧ u8 = true := by
    simp [Region.binds] at hd
    simp [hd]
   obtain ⟨rfl, rfl⟩ := zd
   subst z32_
   subst z
   clear h0 hd
   rw [if_neg (Bool.eq_false_iff.1 (by rfl))]
   try go_simp
   exact zu hK _ _ ⟨u0, u1, u2, u3, u4, u5, u6, u7, true, u9, u10, u11, true, true, u14, u15, u16, u17, u18, u19, u20, u21, u22, u23, u24, u25, u26, u27, u28, u29, u30, u31, false, dm, rfl, rfl, zu kB, zu l3, zu l4, zu l5, zu l7, zu l8, (fun h => rfl), (fun h => rfl), (fun h => rfl), (fun h => ⟨(zu l12 h).1, (zu l12 h).2.1, rfl⟩), (fun _ => ⟨rfl, rfl⟩), (fun h => ⟨(zu l14 h).1, rfl, rfl⟩), (fun h => ⟨(zu l15 h).1, rfl⟩), (fun h => ⟨rfl, (zu l16 h).2⟩), zu l17, zu l18, zu l19, zu l20, zu l21, zu l22, zu l23, zu l24, zu l25, zu l26, zu l27, zu l28, zu l29, zu l30, zu l31, zf⟩
  ·intro h0 hd K hK
   have z : u14 = false := h0
   have z32_ : u32 = false := znb fun hu => z.symm.trans ((zu kF hu).2.2.2.2.2.2.2.2.2.2.2.2.2.2.1)
   have zd : u9 = true ∧ u13 = true ∧ u8 = true := by
    simp [Region.binds] at hd
    simp [hd]
   obtain ⟨rfl, rfl, rfl⟩ := zd
   subst z32_
   subst z
   clear h0 hd
   rw [if_neg (Bool.eq_false_iff.1 (by rfl))]
   try go_simp
   exact zu hK _ _ ⟨u0, u1, u2, u3, u4, u5, u6, u7, true, true, u10, u11, u12, true, true, u15, u16, u17, u18, u19, u20, u21, u22, u23, u24, u25, u26, u27, u28, u29, u30, u31, false, dm, rfl, rfl, zu kB, zu l3, zu l4, zu l5, zu l7, zu l8, (fun h => rfl), (fun h => rfl), (fun h => rfl), (fun h => ⟨(zu l12 h).1, (zu l12 h).2.1, rfl⟩), (fun h => ⟨(zu l13 h).1, rfl⟩), (fun _ => ⟨rfl, rfl, rfl⟩), (fun h => ⟨rfl, rfl⟩), (fun h => ⟨rfl, (zu l16 h).2⟩), zu l17, zu l18, zu l19, zu l20, zu l21, zu l22, zu l23, zu l24, zu l25, zu l26, zu l27, zu l28, zu l29, zu l30, zu l31, zf⟩
  ·intro h0 hd K hK
   have z : u15 = false := h0
   have z32_ : u32 = false := znb fun hu => z.symm.trans ((zu kF hu).2.2.2.2.2.2.2.2.2.2.2.2.2.2.2.1)
   have zd : u14 = true ∧ u8 = true := by
    simp [Region.binds] at hd
    simp [hd]
   obtain ⟨rfl, rfl⟩ := zd
   subst z32_
   subst z
   clear h0 hd
   rw [if_neg (Bool.eq_false_iff.1 (by rfl))]
   try go_simp
   exact zu hK _ _ ⟨u0, u1, u2, u3, u4, u5, u6, u7, true, u9, u10, u11, u12, u13, true, true, u16, u17, u18, u19, u20, u21, u22, u23, u24, u25, u26, u27, u28, u29, u30, u31, false, dm, rfl, rfl, zu kB, zu l3, zu l4, zu l5, zu l7, zu l8, (fun h => rfl), (fun h => rfl), (fun h => rfl), (fun h => ⟨(zu l12 h).1, (zu l12 h).2.1, rfl⟩), (fun h => ⟨(zu l13 h).1, rfl⟩), (fun h => ⟨(zu l14 h).1, (zu l14 h).2.1, rfl⟩), (fun _ => ⟨rfl, rfl⟩), (fun h => ⟨rfl, rfl⟩), zu l17, zu l18, zu l19, zu l20, zu l21, zu l22, zu l23, zu l24, zu l25, zu l26, zu l27, zu l28, zu l29, zu l30, zu l31, zf⟩
  ·intro h0 hd K hK
   have z : u16 = false := h0
   have z32_ : u32 = false := znb fun hu => z.symm.trans ((zu kF hu).2.2.2.2.2.2.2.2.2.2.2.2.2.2.2.2.1)
   have zd : u8 = true ∧ u15 = true := by
    simp [Region.binds] at hd
    simp [hd]
   obtain ⟨rfl, rfl⟩ := zd
   subst z32_
   subst z
   clear h0 hd
   rw [if_pos (by rfl)]
   go_simp
   exact zu hK _ _ ⟨u0, u1, u2, u3, u4, u5, u6, u7, true, u9, u10, u11, u12, u13, u14, true, true, u17, u18, u19, u20, u21, u22, u23, u24, u25, u26, u27, u28, u29, u30, u31, false, dm, rfl, rfl, zu kB, zu l3, zu l4, zu l5, zu l7, zu l8, (fun h => rfl), (fun h => rfl), (fun h => rfl), (fun h => ⟨(zu l12 h).1, (zu l12 h).2.1, rfl⟩), (fun h => ⟨(zu l13 h).1, rfl⟩), (fun h => ⟨(zu l14 h).1, (zu l14 h).2.1, rfl⟩), (fun h => ⟨(zu l15 h).1, rfl⟩), (fun _ => ⟨rfl, rfl⟩), (fun h => rfl), zu l18, zu l19, zu l20, zu l21, zu l22, zu l23, zu l24, zu l25, zu l26, zu l27, zu l28, zu l29, zu l30, zu l31, zf⟩
  ·intro h0 hd K hK
   have z : u17 = false := h0
   have z32_ : u32 = false := znb fun hu => z.symm.trans ((zu kF hu).2.2.2.2.2.2.2.2.2.2.2.2.2.2.2.2.2.1)
   have zd : u16 = true := by
    simp [Region.binds] at hd
    simp [hd]
   obtain ⟨rfl⟩ := zd
   subst z32_
   subst z
   clear h0 hd
   rw [if_pos (by rfl)]
   go_simp
   exact zu hK _ _ ⟨u0, u1, u2, u3, u4, u5, u6, u7, u8, u9, u10, u11, u12, u13, u14, u15, true, true, u18, u19, u20, u21, u22, u23, u24, u25, u26, u27, u28, u29, u30, u31, false, dm, rfl, rfl, zu kB, zu l3, zu l4, zu l5, zu l7, zu l8, zu l9, zu l10, zu l11, zu l12, zu l13, zu l14, zu l15, zu l16, (fun _ => rfl), (fun h => rfl), (fun h => rfl), (fun h => rfl), (fun h => rfl), (fun h => ⟨(zu l22 h).1, (zu l22 h).2.1, rfl⟩), (fun h => ⟨(zu l23 h).1, rfl⟩), (fun h => ⟨(zu l24 h).1, (zu l24 h).2.1, rfl⟩), (fun h => ⟨(zu l25 h).1, (zu l25 h).2.1, rfl⟩), (fun h => ⟨(zu l26 h).1, rfl⟩), (fun h => rfl), (fun h => rfl), (fun h => ⟨(zu l29 h).1, (zu l29 h).2.1, rfl⟩), (fun h => ⟨(zu l30 h).1, rfl⟩), (fun h => ⟨(zu l31 h).1, (zu l31 h).2.1, rfl⟩), zf⟩
  ·intro h0 hd K hK
   have z : u18 = false := h0
   have z32_ : u32 = false := znb fun hu => z.symm.trans ((zu kF hu).2.2.2.2.2.2.2.2.2.2.2.2.2.2.2.2.2.2.1)
   have zd : u17 = true := by
    simp [Region.binds] at hd
    simp [hd]
   obtain ⟨rfl⟩ := zd
   subst z32_
   subst z
   clear h0 hd
   rw [if_neg (Bool.eq_false_iff.1 (by rfl))]
   try go_simp
   exact zu hK _ _ ⟨u0, u1, u2, u3, u4, u5, u6, u7, u8, u9, u10, u11, u12, u13, u14, u15, u16, true, true, u19, u20, u21, u22, u23, u24, u25, u26, u27, u28, u29, u30, u31, false, dm, rfl, rfl, zu kB, zu l3, zu l4, zu l5, zu l7, zu l8, zu l9, zu l10, zu l11, zu l12, zu l13, zu l14, zu l15, zu l16, zu l17, (fun _ => rfl), (fun h => rfl), (fun h => rfl), (fun h => rfl), (fun h => ⟨(zu l22 h).1, (zu l22 h).2.1, rfl⟩), (fun h => ⟨(zu l23 h).1, rfl⟩), (fun h => ⟨(zu l24 h).1, (zu l24 h).2.1, rfl⟩), (fun h => ⟨rfl, (zu l25 h).2.1, rfl⟩), (fun h => ⟨(zu l26 h).1, rfl⟩), (fun h => rfl), (fun h => rfl), (fun h => ⟨(zu l29 h).1, (zu l29 h).2.1, rfl⟩), (fun h => ⟨(zu l30 h).1, rfl⟩), (fun h => ⟨(zu l31 h).1, (zu l31 h).2.1, rfl⟩), zf⟩
  ·intro h0 hd K hK
   have z : u19 = false := h0
   have z32_ : u32 = false := znb fun hu => z.symm.trans ((zu kF hu).2.2.2.2.2.2.2.2.2.2.2.2.2.2.2.2.2.2.2.1)
   have zd : u17 = true := by
    simp [Region.binds] at hd
    simp [hd]
   obtain ⟨rfl⟩ := zd
   subst z32_
   subst z
   clear h0 hd
   rw [if_neg (Bool.eq_false_iff.1 (by rfl))]
   try go_simp
   exact zu hK _ _ ⟨u0, u1, u2, u3, u4, u5, u6, u7, u8, u9, u10, u11, u12, u13, u14, u15, u16, true, u18, true, u20, u21, u22, u23, u24, u25, u26, u27, u28, u29, u30, u31, false, dm, rfl, rfl, zu kB, zu l3, zu l4, zu l5, zu l7, zu l8, zu l9, zu l10, zu l11, zu l12, zu l13, zu l14, zu l15, zu l16, zu l17, (fun h => rfl), (fun _ => rfl), (fun h => rfl), (fun h => rfl), (fun h => ⟨(zu l22 h).1, (zu l22 h).2.1, rfl⟩), (fun h => ⟨(zu l23 h).1, rfl⟩), (fun h => ⟨rfl, (zu l24 h).2.1, rfl⟩), (fun h => ⟨(zu l25 h).1, (zu l25 h).2.1, rfl⟩), (fun h => ⟨(zu l26 h).1, rfl⟩), (fun h => rfl), (fun h => rfl), (fun h => ⟨(zu l29 h).1, (zu l29 h).2.1, rfl⟩), (fun h => ⟨(zu l30 h).1, rfl⟩), (fun h => ⟨(zu l31 h).1, (zu l31 h).2.1, rfl⟩), zf⟩
  ·intro h0 hd K hK
   have z : u20 = false := h0
   have z32_ : u32 = false := znb fun hu => z.symm.trans ((zu kF hu).2.2.2.2.2.2.2.2.2.2.2.2.2.2.2.2.2.2.2.2.1)
   have zd : u17 = true := by
    simp [Region.binds] at hd
    simp [hd]
   obtain ⟨rfl⟩ := zd
   subst z32_
   subst z
   clear h0 hd
   rw [if_neg (Bool.eq_false_iff.1 (by rfl))]
   try go_simp
   exact zu hK _ _ ⟨u0, u1, u2, u3, u4, u5, u6, u7, u8, u9, u10, u11, u12, u13, u14, u15, u16, true, u18, u19, true, u21, u22, u23, u24, u25, u26, u27, u28, u29, u30, u31, false, dm, rfl, rfl, zu kB, zu l3, zu l4, zu l5, zu l7, zu l8, zu l9, zu l10, zu l11, zu l12, zu l13, zu l14, zu l15, zu l16, zu l17, (fun h => rfl), (fun h => rfl), (fun _ => rfl), (fun h => rfl), (fun h => ⟨rfl, (zu l22 h).2.1, rfl⟩), (fun h => ⟨(zu l23 h).1, rfl⟩), (fun h => ⟨(zu l24 h).1, (zu l24 h).2.1, rfl⟩), (fun h => ⟨(zu l25 h).1, (zu l25 h).2.1, rfl⟩), (fun h => ⟨(zu l26 h).1, rfl⟩), (fun h => rfl), (fun h => rfl), (fun h => ⟨(zu l29 h).1, (zu l29 h).2.1, rfl⟩), (fun h => ⟨(zu l30 h).1, rfl⟩), (fun h => ⟨(zu l31 h).1, (zu l31 h).2.1, rfl⟩), zf⟩
  ·intro h0 hd K hK
   have z : u21 = false := h0
   have z32_ : u32 = false := znb fun hu => z.symm.trans ((zu kF hu).2.2.2.2.2.2.2.2.2.2.2.2.2.2.2.2.2.2.2.2.2.1)
   have zd : u17 = true := by
    simp [Region.binds] at hd
    simp [hd]
   obtain ⟨rfl⟩ := zd
   subst z32_
   subst z
   clear h0 hd
   rw [if_neg (Bool.eq_false_iff.1 (by rfl))]
   try go_simp
   exact zu hK _ _ ⟨u0, u1, u2, u3, u4, u5, u6, u7, u8, u9, u10, u11, u12, u13, u14, u15, u16, true, u18, u19, u20, true, u22, u23, u24, u25, u26, u27, u28, u29, u30, u31, false, dm, rfl, rfl, zu kB, zu l3, zu l4, zu l5, zu l7, zu l8, zu l9, zu l10, zu l11, zu l12, zu l13, zu l14, zu l15, zu l16, zu l17, (fun h => rfl), (fun h => rfl), (fun h => rfl), (fun _ => rfl), (fun h => ⟨(zu l22 h).1, rfl, rfl⟩), (fun h => ⟨(zu l23 h).1, rfl⟩), (fun h => ⟨(zu l24 h).1, (zu l24 h).2.1, rfl⟩), (fun h => ⟨(zu l25 h).1, (zu l25 h).2.1, rfl⟩), (fun h => ⟨(zu l26 h).1, rfl⟩), (fun h => rfl), (fun h => rfl), (fun h => ⟨(zu l29 h).1, (zu l29 h).2.1, rfl⟩), (fun h => ⟨(zu l30 h).1, rfl⟩), (fun h => ⟨(zu l31 h).1, (zu l31 h).2.1, rfl⟩), zf⟩
  ·intro h0 hd K hK
   have z : u22 = false := h0
   have z32_ : u32 = false := znb fun hu => z.symm.trans ((zu kF hu).2.2.2.2.2.2.2.2.2.2.2.2.2.2.2.2.2.2.2.2.2.2.1)
   have zd : u20 = true ∧ u21 = true ∧ u17 = true := by
    simp [Region.binds] at hd
    simp [hd]
   obtain ⟨rfl, rfl, rfl⟩ := zd
   subst z32_
   subst z
   clear h0 hd
   rw [if_neg (Bool.eq_false_iff.1 (by rfl))]
   try go_simp
   exact zu hK _ _ ⟨u0, u1, u2, u3, u4, u5, u6, u7, u8, u9, u10, u11, u12, u13, u14, u15, u16, true, u18, u19, true, true, true, u23, u24, u25, u26, u27, u28, u29, u30, u31, false, dm, rfl, rfl, zu kB, zu l3, zu l4, zu l5, zu l7, zu l8, zu l9, zu l10, zu l11, zu l12, zu l13, zu l14, zu l15, zu l16, zu l17, (fun h => rfl), (fun h => rfl), (fun h => rfl), (fun h => rfl), (fun _ => ⟨rfl, rfl, rfl⟩), (fun h => ⟨rfl, rfl⟩), (fun h => ⟨(zu l24 h).1, (zu l24 h).2.1, rfl⟩), (fun h => ⟨(zu l25 h).1, (zu l25 h).2.1, rfl⟩), (fun h => ⟨(zu l26 h).1, rfl⟩), (fun h => rfl), (fun h => rfl), (fun h => ⟨(zu l29 h).1, (zu l29 h).2.1, rfl⟩), (fun h => ⟨(zu l30 h).1, rfl⟩), (fun h => ⟨(zu l31 h).1, (zu l31 h).2.1, rfl⟩), zf⟩
  ·intro h0 hd K hK
   have z : u23 = false := h0
   have z32_ : u32 = false := znb fun hu => z.symm.trans ((zu kF hu).2.2.2.2.2.2.2.2.2.2.2.2.2.2.2.2.2.2.2.2.2.2.2.1)
   have zd : u22 = true ∧ u17 = true := by
    simp [Region.binds] at hd
    simp [hd]
   obtain ⟨rfl, rfl⟩ := zd
   subst z32_
   subst z
   clear h0 hd
   rw [if_neg (Bool.eq_false_iff.1 (by rfl))]
   try go_simp
   exact zu hK _ _ ⟨u0, u1, u2, u3, u4, u5, u6, u7, u8, u9, u10, u11, u12, u13, u14, u15, u16, true, u18, u19, u20, u21, true, true, u24, u25, u26, u27, u28, u29, u30, u31, false, dm, rfl, rfl, zu kB, zu l3, zu l4, zu l5, zu l7, zu l8, zu l9, zu l10, zu l11, zu l12, zu l13, zu l14, zu l15, zu l16, zu l17, (fun h => rfl), (fun h => rfl), (fun h => rfl), (fun h => rfl), (fun h => ⟨(zu l22 h).1, (zu l22 h).2.1, rfl⟩), (fun _ => ⟨rfl, rfl⟩), (fun h => ⟨(zu l24 h).1, rfl, rfl⟩), (fun h => ⟨(zu l25 h).1, (zu l25 h).2.1, rfl⟩), (fun h => ⟨(zu l26 h).1, rfl⟩), (fun h => rfl), (fun h => rfl), (fun h => ⟨(zu l29 h).1, (zu l29 h).2.1, rfl⟩), (fun h => ⟨(zu l30 h).1, rfl⟩), (fun h => ⟨(zu l31 h).1, (zu l31 h).2.1, rfl⟩), zf⟩
  ·intro h0 hd K hK
   have z : u24 = false := h0
   have z32_ : u32 = false := znb fun hu => z.symm.trans ((zu kF hu).2.2.2.2.2.2.2.2.2.2.2.2.2.2.2.2.2.2.2.2.2.2.2.2.1)
   have zd : u19 = true ∧ u23 = true ∧ u17 = true := by
    simp [Region.binds] at hd
    simp [hd]
   obtain ⟨rfl, rfl, rfl⟩ := zd
   subst z32_
   subst z
   clear h0 hd
   rw [if_neg (Bool.eq_false_iff.1 (by rfl))]
   try go_simp
   exact zu hK _ _ ⟨u0, u1, u2, u3, u4, u5, u6, u7, u8, u9, u10, u11, u12, u13, u14, u15, u16, true, u18, true, u20, u21, u22, true, true, u25, u26, u27, u28, u29, u30, u31, false, dm, rfl, rfl, zu kB, zu l3, zu l4, zu l5, zu l7, zu l8, zu l9, zu l10, zu l11, zu l12, zu l13, zu l14, zu l15, zu l16, zu l17, (fun h => rfl), (fun h => rfl), (fun h => rfl), (fun h => rfl), (fun h => ⟨(zu l22 h).1, (zu l22 h).2.1, rfl⟩), (fun h => ⟨(zu l23 h).1, rfl⟩), (fun _ => ⟨rfl, rfl, rfl⟩), (fun h => ⟨(zu l25 h).1, rfl, rfl⟩), (fun h => ⟨(zu l26 h).1, rfl⟩), (fun h => rfl), (fun h => rfl), (fun h => ⟨(zu l29 h).1, (zu l29 h).2.1, rfl⟩), (fun h => ⟨(zu l30 h).1, rfl⟩), (fun h => ⟨(zu l31 h).1, (zu l31 h).2.1, rfl⟩), zf⟩
  ·intro h0 hd K hK
   have z : u25 = false := h0
   have z32_ : u32 = false := znb fun hu => z.symm.trans ((zu kF hu).2.2.2.2.2.2.2.2.2.2.2.2.2.2.2.2.2.2.2.2.2.2.2.2.2.1)
   have zd : u18 = true ∧ u24 = true ∧ u17 = true := by
    simp [Region.binds] at hd
    simp [hd]
   obtain ⟨rfl, rfl, rfl⟩ := zd
   subst z32_
   subst z
   clear h0 hd
   rw [if_neg (Bool.eq_false_iff.1 (by rfl))]
   try go_simp
   exact zu hK _ _ ⟨u0, u1, u2, u3, u4, u5, u6, u7, u8, u9, u10, u11, u12, u13, u14, u15, u16, true, true, u19, u20, u21, u22, u23, true, true, u26, u27, u28, u29, u30, u31, false, dm, rfl, rfl, zu kB, zu l3, zu l4, zu l5, zu l7, zu l8, zu l9, zu l10, zu l11, zu l12, zu l13, zu l14, zu l15, zu l16, zu l17, (fun h => rfl), (fun h => rfl), (fun h => rfl), (fun h => rfl), (fun h => ⟨(zu l22 h).1, (zu l22 h).2.1, rfl⟩), (fun h => ⟨(zu l23 h).1, rfl⟩), (fun h => ⟨(zu l24 h).1, (zu l24 h).2.1, rfl⟩), (fun _ => ⟨rfl, rfl, rfl⟩), (fun h => ⟨rfl, rfl⟩), (fun h => rfl), (fun h => rfl), (fun h => ⟨(zu l29 h).1, (zu l29 h).2.1, rfl⟩), (fun h => ⟨(zu l30 h).1, rfl⟩), (fun h => ⟨(zu l31 h).1, (zu l31 h).2.1, rfl⟩), zf⟩
  ·intro h0 hd K hK
   have z : u26 = false := h0
   have z32_ : u32 = false := znb fun hu => z.symm.trans ((zu kF hu).2.2.2.2.2.2.2.2.2.2.2.2.2.2.2.2.2.2.2.2.2.2.2.2.2.2.1)
   have zd : u25 = true ∧ u17 = true := by
    simp [Region.binds] at hd
    simp [hd]
   obtain ⟨rfl, rfl⟩ := zd
   subst z32_
   subst z
   clear h0 hd
   rw [if_neg (Bool.eq_false_iff.1 (by rfl))]
   try go_simp
   exact zu hK _ _ ⟨u0, u1, u2, u3, u4, u5, u6, u7, u8, u9, u10, u11, u12, u13, u14, u15, u16, true, u18, u19, u20, u21, u22, u23, u24, true, true, u27, u28, u29, u30, u31, false, dm, rfl, rfl, zu kB, zu l3, zu l4, zu l5, zu l7, zu l8, zu l9, zu l10, zu l11, zu l12, zu l13, zu l14, zu l15, zu l16, zu l17, (fun h => rfl), (fun h => rfl), (fun h => rfl), (fun h => rfl), (fun h => ⟨(zu l22 h).1, (zu l22 h).2.1, rfl⟩), (fun h => ⟨(zu l23 h).1, rfl⟩), (fun h => ⟨(zu l24 h).1, (zu l24 h).2.1, rfl⟩), (fun h => ⟨(zu l25 h).1, (zu l25 h).2.1, rfl⟩), (fun _ => ⟨rfl, rfl⟩), (fun h => rfl), (fun h => rfl), (fun h => ⟨(zu l29 h).1, (zu l29 h).2.1, rfl⟩), (fun h => ⟨(zu l30 h).1, rfl⟩), (fun h => ⟨rfl, (zu l31 h).2.1, rfl⟩), zf⟩
  ·intro h0 hd K hK
   have z : u27 = false := h0
   have z32_ : u32 = false := znb fun hu => z.symm.trans ((zu kF hu).2.2.2.2.2.2.2.2.2.2.2.2.2.2.2.2.2.2.2.2.2.2.2.2.2.2.2.1)
   have zd : u17 = true := by
    simp [Region.binds] at hd
    simp [hd]
   obtain ⟨rfl⟩ := zd
   subst z32_
   subst z
   clear h0 hd
   rw [if_neg (Bool.eq_false_iff.1 (by rfl))]
   try go_simp
   exact zu hK _ _ ⟨u0, u1, u2, u3, u4, u5, u6, u7, u8, u9, u10, u11, u12, u13, u14, u15, u16, true, u18, u19, u20, u21, u22, u23, u24, u25, u26, true, u28, u29, u30, u31, false, dm, rfl, rfl, zu kB, zu l3, zu l4, zu l5, zu l7, zu l8, zu l9, zu l10, zu l11, zu l12, zu l13, zu l14, zu l15, zu l16, zu l17, (fun h => rfl), (fun h => rfl), (fun h => rfl), (fun h => rfl), (fun h => ⟨(zu l22 h).1, (zu l22 h).2.1, rfl⟩), (fun h => ⟨(zu l23 h).1, rfl⟩), (fun h => ⟨(zu l24 h).1, (zu l24 h).2.1, rfl⟩), (fun h => ⟨(zu l25 h).1, (zu l25 h).2.1, rfl⟩), (fun h => ⟨(zu l26 h).1, rfl⟩), (fun _ => rfl), (fun h => rfl), (fun h => ⟨rfl, (zu l29 h).2.1, rfl⟩), (fun h => ⟨(zu l30 h).1, rfl⟩), (fun h => ⟨(zu l31 h).1, (zu l31 h).2.1, rfl⟩), zf⟩
  ·intro h0 hd K hK
   have z : u28 = false := h0
   have z32_ : u32 = false := znb fun hu => z.symm.trans ((zu kF hu).2.2.2.2.2.2.2.2.2.2.2.2.2.2.2.2.2.2.2.2.2.2.2.2.2.2.2.2.1)
   have zd : u17 = true := by
    simp [Region.binds] at hd
    simp [hd]
   obtain ⟨rfl⟩ := zd
   subst z32_
   subst z
   clear h0 hd
   rw [if_neg (Bool.eq_false_iff.1 (by rfl))]
   try go_simp
   exact zu hK _ _ ⟨u0, u1, u2, u3, u4, u5, u6, u7, u8, u9, u10, u11, u12, u13, u14, u15, u16, true, u18, u19, u20, u21, u22, u23, u24, u25, u26, u27, true, u29, u30, u31, false, dm, rfl, rfl, zu kB, zu l3, zu l4, zu l5, zu l7, zu l8, zu l9, zu l10, zu l11, zu l12, zu l13, zu l14, zu l15, zu l16, zu l17, (fun h => rfl), (fun h => rfl), (fun h => rfl), (fun h => rfl), (fun h => ⟨(zu l22 h).1, (zu l22 h).2.1, rfl⟩), (fun h => ⟨(zu l23 h).1, rfl⟩), (fun h => ⟨(zu l24 h).1, (zu l24 h).2.1, rfl⟩), (fun h => ⟨(zu l25 h).1, (zu l25 h).2.1, rfl⟩), (fun h => ⟨(zu l26 h).1, rfl⟩), (fun h => rfl), (fun _ => rfl), (fun h => ⟨(zu l29 h).1, rfl, rfl⟩), (fun h => ⟨(zu l30 h).1, rfl⟩), (fun h => ⟨(zu l31 h).1, (zu l31 h).2.1, rfl⟩), zf⟩
  ·intro h0 hd K hK
   have z : u29 = false := h0
   have z32_ : u32 = false := znb fun hu => z.symm.trans ((zu kF hu).2.2.2.2.2.2.2.2.2.2.2.2.2.2.2.2.2.2.2.2.2.2.2.2.2.2.2.2.2.1)
   have zd : u27 = true ∧ u28 = true ∧ u17 = true := by
    simp [Region.binds] at hd
    simp [hd]
   obtain ⟨rfl, rfl, rfl⟩ := zd
   subst z32_
   subst z
   clear h0 hd
   rw [if_neg (Bool.eq_false_iff.1 (by rfl))]
   try go_simp
   exact zu hK _ _ ⟨u0, u1, u2, u3, u4, u5, u6, u7, u8, u9, u10, u11, u12, u13, u14, u15, u16, true, u18, u19, u20, u21, u22, u23, u24, u25, u26, true, true, true, u30, u31, false, dm, rfl, rfl, zu kB, zu l3, zu l4, zu l5, zu l7, zu l8, zu l9, zu l10, zu l11, zu l12, zu l13, zu l14, zu l15, zu l16, zu l17, (fun h => rfl), (fun h => rfl), (fun h => rfl), (fun h => rfl), (fun h => ⟨(zu l22 h).1, (zu l22 h).2.1, rfl⟩), (fun h => ⟨(zu l23 h).1, rfl⟩), (fun h => ⟨(zu l24 h).1, (zu l24 h).2.1, rfl⟩), (fun h => ⟨(zu l25 h).1, (zu l25 h).2.1, rfl⟩), (fun h => ⟨(zu l26 h).1, rfl⟩), (fun h => rfl), (fun h => rfl), (fun _ => ⟨rfl, rfl, rfl⟩), (fun h => ⟨rfl, rfl⟩), (fun h => ⟨(zu l31 h).1, (zu l31 h).2.1, rfl⟩), zf⟩
  ·intro h0 hd K hK
   have z : u30 = false := h0
   have z32_ : u32 = false := znb fun hu => z.symm.trans ((zu kF hu).2.2.2.2.2.2.2.2.2.2.2.2.2.2.2.2.2.2.2.2.2.2.2.2.2.2.2.2.2.2.1)
   have zd : u29 = true ∧ u17 = true := by
    simp [Region.binds] at hd
    simp [hd]
   obtain ⟨rfl, rfl⟩ := zd
   subst z32_
   subst z
   clear h0 hd
   rw [if_neg (Bool.eq_false_iff.1 (by rfl))]
   try go_simp
   exact zu hK _ _ ⟨u0, u1, u2, u3, u4, u5, u6, u7, u8, u9, u10, u11, u12, u13, u14, u15, u16, true, u18, u19, u20, u21, u22, u23, u24, u25, u26, u27, u28, true, true, u31, false, dm, rfl, rfl, zu kB, zu l3, zu l4, zu l5, zu l7, zu l8, zu l9, zu l10, zu l11, zu l12, zu l13, zu l14, zu l15, zu l16, zu l17, (fun h => rfl), (fun h => rfl), (fun h => rfl), (fun h => rfl), (fun h => ⟨(zu l22 h).1, (zu l22 h).2.1, rfl⟩), (fun h => ⟨(zu l23 h).1, rfl⟩), (fun h => ⟨(zu l24 h).1, (zu l24 h).2.1, rfl⟩), (fun h => ⟨(zu l25 h).1, (zu l25 h).2.1, rfl⟩), (fun h => ⟨(zu l26 h).1, rfl⟩), (fun h => rfl), (fun h => rfl), (fun h => ⟨(zu l29 h).1, (zu l29 h).2.1, rfl⟩), (fun _ => ⟨rfl, rfl⟩), (fun h => ⟨(zu l31 h).1, rfl, rfl⟩), zf⟩
  ·intro h0 hd K hK
   have z : u31 = false := h0
   have z32_ : u32 = false := znb fun hu => z.symm.trans ((zu kF hu).2.2.2.2.2.2.2.2.2.2.2.2.2.2.2.2.2.2.2.2.2.2.2.2.2.2.2.2.2.2.2)
   have zd : u26 = true ∧ u30 = true ∧ u17 = true := by
    simp [Region.binds] at hd
    simp [hd]
   obtain ⟨rfl, rfl, rfl⟩ := zd
   subst z32_
   subst z
   clear h0 hd
   rw [if_neg (Bool.eq_false_iff.1 (by rfl))]
   try go_simp
   exact zu hK _ _ ⟨u0, u1, u2, u3, u4, u5, u6, u7, u8, u9, u10, u11, u12, u13, u14, u15, u16, true, u18, u19, u20, u21, u22, u23, u24, u25, true, u27, u28, u29, true, true, false, dm, rfl, rfl, zu kB, zu l3, zu l4, zu l5, zu l7, zu l8, zu l9, zu l10, zu l11, zu l12, zu l13, zu l14, zu l15, zu l16, zu l17, (fun h => rfl), (fun h => rfl), (fun h => rfl), (fun h => rfl), (fun h => ⟨(zu l22 h).1, (zu l22 h).2.1, rfl⟩), (fun h => ⟨(zu l23 h).1, rfl⟩), (fun h => ⟨(zu l24 h).1, (zu l24 h).2.1, rfl⟩), (fun h => ⟨(zu l25 h).1, (zu l25 h).2.1, rfl⟩), (fun h => ⟨(zu l26 h).1, rfl⟩), (fun h => rfl), (fun h => rfl), (fun h => ⟨(zu l29 h).1, (zu l29 h).2.1, rfl⟩), (fun h => ⟨(zu l30 h).1, rfl⟩), (fun _ => ⟨rfl, rfl, rfl⟩), zf⟩
  ·intro h0 hd K hK
   have z : u32 = false := h0
   have zd0 : u17 = true ∧ u31 = true := by
    simp [Region.binds] at hd
    simp [hd]
   have zd : u17 = true ∧ u31 = true ∧ u0 = true ∧ u1 = true ∧ u2 = true ∧ u3 = true ∧ u4 = true ∧ u5 = true ∧ u6 = true ∧ u7 = true ∧ u8 = true ∧ u9 = true ∧ u10 = true ∧ u11 = true ∧ u12 = true ∧ u13 = true ∧ u14 = true ∧ u15 = true ∧ u16 = true ∧ u18 = true ∧ u19 = true ∧ u20 = true ∧ u21 = true ∧ u22 = true ∧ u23 = true ∧ u24 = true ∧ u25 = true ∧ u26 = true ∧ u27 = true ∧ u28 = true ∧ u29 = true ∧ u30 = true := ⟨zd0.1, zd0.2, (zu l5 (zu l7 (zu l8 (zu l16 (zu l17 zd0.1)).1)).1).1, (zu l3 (zu l4 (zu l5 (zu l7 (zu l8 (zu l16 (zu l17 zd0.1)).1)).1).2)).1, (zu l3 (zu l4 (zu l5 (zu l7 (zu l8 (zu l16 (zu l17 zd0.1)).1)).1).2)).2, (zu l4 (zu l5 (zu l7 (zu l8 (zu l16 (zu l17 zd0.1)).1)).1).2), (zu l5 (zu l7 (zu l8 (zu l16 (zu l17 zd0.1)).1)).1).2, (zu l7 (zu l8 (zu l16 (zu l17 zd0.1)).1)).1, (zu l7 (zu l8 (zu l16 (zu l17 zd0.1)).1)).2, (zu l8 (zu l16 (zu l17 zd0.1)).1), (zu l16 (zu l17 zd0.1)).1, (zu l14 (zu l15 (zu l16 (zu l17 zd0.1)).2).1).1, (zu l12 (zu l13 (zu l14 (zu l15 (zu l16 (zu l17 zd0.1)).2).1).2.1).1).1, (zu l12 (zu l13 (zu l14 (zu l15 (zu l16 (zu l17 zd0.1)).2).1).2.1).1).2.1, (zu l13 (zu l14 (zu l15 (zu l16 (zu l17 zd0.1)).2).1).2.1).1, (zu l14 (zu l15 (zu l16 (zu l17 zd0.1)).2).1).2.1, (zu l15 (zu l16 (zu l17 zd0.1)).2).1, (zu l16 (zu l17 zd0.1)).2, (zu l17 zd0.1), (zu l25 (zu l26 (zu l31 zd0.2).1).1).1, (zu l24 (zu l25 (zu l26 (zu l31 zd0.2).1).1).2.1).1, (zu l22 (zu l23 (zu l24 (zu l25 (zu l26 (zu l31 zd0.2).1).1).2.1).2.1).1).1, (zu l22 (zu l23 (zu l24 (zu l25 (zu l26 (zu l31 zd0.2).1).1).2.1).2.1).1).2.1, (zu l23 (zu l24 (zu l25 (zu l26 (zu l31 zd0.2).1).1).2.1).2.1).1, (zu l24 (zu l25 (zu l26 (zu l31 zd0.2).1).1).2.1).2.1, (zu l25 (zu l26 (zu l31 zd0.2).1).1).2.1, (zu l26 (zu l31 zd0.2).1).1, (zu l31 zd0.2).1, (zu l29 (zu l30 (zu l31 zd0.2).2.1).1).1, (zu l29 (zu l30 (zu l31 zd0.2).2.1).1).2.1, (zu l30 (zu l31 zd0.2).2.1).1, (zu l31 zd0.2).2.1⟩
   obtain ⟨rfl, rfl, rfl, rfl, rfl, rfl, rfl, rfl, rfl, rfl, rfl, rfl, rfl, rfl, rfl, rfl, rfl, rfl, rfl, rfl, rfl, rfl, rfl, rfl, rfl, rfl, rfl, rfl, rfl, rfl, rfl, rfl⟩ := zd
   subst z
   clear h0 hd
   rw [if_pos (by rfl)]
   go_simp
   exact zu hK _ _ ⟨true, true, true, true, true, true, true, true, true, true, true, true, true, true, true, true, true, true, true, true, true, true, true, true, true, true, true, true, true, true, true, true, true, dm, rfl, rfl, zu kB, (fun _ => ⟨rfl, rfl⟩), (fun _ => rfl), (fun _ => ⟨rfl, rfl⟩), (fun _ => ⟨rfl, rfl⟩), (fun _ => rfl), (fun _ => rfl), (fun _ => rfl), (fun _ => rfl), (fun _ => ⟨rfl, rfl, rfl⟩), (fun _ => ⟨rfl, rfl⟩), (fun _ => ⟨rfl, rfl, rfl⟩), (fun _ => ⟨rfl, rfl⟩), (fun _ => ⟨rfl, rfl⟩), (fun _ => rfl), (fun _ => rfl), (fun _ => rfl), (fun _ => rfl), (fun _ => rfl), (fun _ => ⟨rfl, rfl, rfl⟩), (fun _ => ⟨rfl, rfl⟩), (fun _ => ⟨rfl, rfl, rfl⟩), (fun _ => ⟨rfl, rfl, rfl⟩), (fun _ => ⟨rfl, rfl⟩), (fun _ => rfl), (fun _ => rfl), (fun _ => ⟨rfl, rfl, rfl⟩), (fun _ => ⟨rfl, rfl⟩), (fun _ => ⟨rfl, rfl, rfl⟩), (fun _ => ⟨rfl, rfl, rfl, rfl, rfl, rfl, rfl, rfl, rfl, rfl, rfl, rfl, rfl, rfl, rfl, rfl, rfl, rfl, rfl, rfl, rfl, rfl, rfl, rfl, rfl, rfl, rfl, rfl, rfl, rfl, rfl, rfl⟩)⟩
 case hend =>
  intro Lb A W hI
  obtain ⟨u0, u1, u2, u3, u4, hI⟩ := hI
  obtain ⟨u5, u6, u7, u8, u9, hI⟩ := hI
  obtain ⟨u10, u11, u12, u13, u14, hI⟩ := hI
  obtain ⟨u15, u16, u17, u18, u19, hI⟩ := hI
  obtain ⟨u20, u21, u22, u23, u24, hI⟩ := hI
  obtain ⟨u25, u26, u27, u28, u29, hI⟩ := hI
  obtain ⟨u30, u31, u32, dm, hI⟩ := hI
  obtain ⟨hLb, hI⟩ := hI
  obtain ⟨hA, hI⟩ := hI
  obtain ⟨kB, hI⟩ := hI
  obtain ⟨l3, hI⟩ := hI
  obtain ⟨l4, hI⟩ := hI
  obtain ⟨l5, hI⟩ := hI
  obtain ⟨l7, hI⟩ := hI
  obtain ⟨l8, hI⟩ := hI
  obtain ⟨l9, hI⟩ := hI
  obtain ⟨l10, hI⟩ := hI
  obtain ⟨l11, hI⟩ := hI
  obtain ⟨l12, hI⟩ := hI
  obtain ⟨l13, hI⟩ := hI
  obtain ⟨l14, hI⟩ := hI
  obtain ⟨l15, hI⟩ := hI
  obtain ⟨l16, hI⟩ := hI
  obtain ⟨l17, hI⟩ := hI
  obtain ⟨l18, hI⟩ := hI
  obtain ⟨l19, hI⟩ := hI
  obtain ⟨l20, hI⟩ := hI
  obtain ⟨l21, hI⟩ := hI
  obtain ⟨l22, hI⟩ := hI
  obtain ⟨l23, hI⟩ := hI
  obtain ⟨l24, hI⟩ := hI
  obtain ⟨l25, hI⟩ := hI
  obtain ⟨l26, hI⟩ := hI
  obtain ⟨l27, hI⟩ := hI
  obtain ⟨l28, hI⟩ := hI
  obtain ⟨l29, hI⟩ := hI
  obtain ⟨l30, hI⟩ := hI
  obtain ⟨l31, hI⟩ := hI
  have kF := hI
  clear hI
  subst hLb
  subst hA
  intro hL
  have hl : u0 = true ∧ u1 = true ∧ u2 = true ∧ u3 = true ∧ u4 = true ∧ u5 = true ∧ u6 = true ∧ u7 = true ∧ u8 = true ∧ u9 = true ∧ u10 = true ∧ u11 = true ∧ u12 = true ∧ u13 = true ∧ u14 = true ∧ u15 = true ∧ u16 = true ∧ u17 = true ∧ u18 = true ∧ u19 = true ∧ u20 = true ∧ u21 = true ∧ u22 = true ∧ u23 = true ∧ u24 = true ∧ u25 = true ∧ u26 = true ∧ u27 = true ∧ u28 = true ∧ u29 = true ∧ u30 = true ∧ u31 = true ∧ u32 = true := by
   have h2 := congrArg Array.toList hL
   simpa [List.replicate] using h2
  obtain ⟨rfl, rfl, rfl, rfl, rfl, rfl, rfl, rfl, rfl, rfl, rfl, rfl, rfl, rfl, rfl, rfl, rfl, rfl, rfl, rfl, rfl, rfl, rfl, rfl, rfl, rfl, rfl, rfl, rfl, rfl, rfl, rfl, rfl⟩ := hl
  exact zu HQ  W kB
end Go.Proofs.Ytdcecfgmfmpeeaa
