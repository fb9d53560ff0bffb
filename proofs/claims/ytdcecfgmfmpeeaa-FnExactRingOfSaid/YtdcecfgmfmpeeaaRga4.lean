/-
  The statement of the model's RingOf that looks for corners of the hull. The same statement, where the point is the first at its place. The statement of the model's RingOf that takes a pair. The statement of the model's RingOf that takes three. The model's RingOf where there are corners enough. The model's RingOf at every list: it is the program's.
-/
import Derived.Test.YtdcecfgmfmpeeaaRga1
import Derived.Test.YtdcecfgmfmpeeaaRga3
namespace Go.Proofs.Ytdcecfgmfmpeeaa
open Go.ChangeShapes Go.WideShapes Go.ChangeAt Go.RowKit
set_option linter.unusedVariables false
set_option linter.unusedSimpArgs false

set_option maxHeartbeats 4000000 in
set_option maxRecDepth 100000 in
theorem mr14f {s1 s2 s3 s5 s6 s8 s9 s10 s11 s12 s13 s14 s15 s16 s17 s18 s19 s20 s21 s22 s23 s24 s25 s26 s27 s28 s29 s30 s31 s32 s33 s34 s35 s36 s37 s38 s39 s40 s41 s42 s43 s44 s45 s46 s47 s48 s49 s50 s51 s52 s53 s54 s55 s56 s57 s58 s59 s60 s61 s62 s63 s64 s65 s66 s67 s68 s69 s70 s71 s72 s73 s74 s75 s76 s77 s78 s79 s80 s81 s82 s83 s84 s85 s86 s87 s88 s89 s90 s91 s92 s93 s94 s95 s96 s97 s98 s99 s100 s101 s102 s103 s104 s105 s106 s107 s108 s109 s110 s111 s112 s113 s114 s115 s116 s117 s118 s119 s120 s121 s122 s123 s124 s125 s126 s127 s128 s129 s130 s131 s132 s133 s134 s135 s136 s137 s138 s139 s140 s141 s142 s143 s144 s145 s146 s147 s148 s149 s150 s151 s152 s153 s154 s155 s156 s157 s158 s159 s160 s161 s162 s163 s164 s165 s166 s167 s168 s169 s170 s171 s172 s173 s174 s175 s176 s177 s178 s179 s180 s181 s182 s183 s184 s185 s186 s187 s188 s189 s190 s191 s192 s193 s194 s195 s196 s197 s198 s199 s200 s201 : Value} {b n cap hb hn hc i j : Nat} {x y : Int} {V : World} {K_ : Act → World → Prop} (hji : ¬ j = i)
    (HA0 : Hid (V.cell? ⟨b, i * 2, none⟩ = some (.int .i64 (x)))) (HA1 : Hid (V.cell? ⟨b, i * 2 + 1, none⟩ = some (.int .i64 (y)))) 
    (HX3 : Hid (i < n))
    (HF5 : Hid (∀ Xw, Below V.heap.size V Xw → Calls Try.prog 29 #[.slice (some ⟨b, 0, none⟩) n cap, .agg #[.int .i64 (x), .int .i64 (y)]] Xw fun e w' => e = .returned (.int .i64 (j : Int)) ∧ Below Xw.heap.size Xw w'))
    (hQ : ∀ (W1 : World), Below V.heap.size V W1 → K_ { tmps := #[.slice (some ⟨b, 0, none⟩) n cap, s1, s2, s3, .slice (some ⟨hb, 0, none⟩) hn hc, s5, s6, .int .i64 (i : Int), s8, s9, s10, s11, s12, s13, s14, s15, s16, s17, s18, s19, s20, s21, s22, s23, s24, s25, s26, s27, s28, s29, s30, s31, s32, s33, s34, s35, s36, s37, s38, s39, s40, s41, s42, s43, s44, s45, s46, s47, s48, s49, .slice (some ⟨b, 0, none⟩) n cap, .slice (some ⟨b, 0, none⟩) n cap, .int .i64 (i : Int), .pointer (some ⟨b, i * 2, none⟩), .agg #[.int .i64 (x), .int .i64 (y)], .int .i64 (j : Int), .int .i64 (i : Int), .bool (false), .bool (false), undef, undef, undef, undef, undef, undef, undef, .bool (false), .bool (false), undef, undef, undef, undef, undef, undef, undef, undef, undef, undef, undef, undef, undef, undef, .bool (false), s83, s84, s85, s86, s87, s88, s89, s90, s91, s92, s93, s94, s95, s96, s97, s98, s99, s100, s101, s102, s103, s104, s105, s106, s107, s108, s109, s110, s111, s112, s113, s114, s115, s116, s117, s118, s119, s120, s121, s122, s123, s124, s125, s126, s127, s128, s129, s130, s131, s132, s133, s134, s135, s136, s137, s138, s139, s140, s141, s142, s143, s144, s145, s146, s147, s148, s149, s150, s151, s152, s153, s154, s155, s156, s157, s158, s159, s160, s161, s162, s163, s164, s165, s166, s167, s168, s169, s170, s171, s172, s173, s174, s175, s176, s177, s178, s179, s180, s181, s182, s183, s184, s185, s186, s187, s188, s189, s190, s191, s192, s193, s194, s195, s196, s197, s198, s199, s200, s201], defers := [] } W1) :
    Go.Code.wp Try.prog (rg11 14) (Only K_) { tmps := #[.slice (some ⟨b, 0, none⟩) n cap, s1, s2, s3, .slice (some ⟨hb, 0, none⟩) hn hc, s5, s6, .int .i64 (i : Int), s8, s9, s10, s11, s12, s13, s14, s15, s16, s17, s18, s19, s20, s21, s22, s23, s24, s25, s26, s27, s28, s29, s30, s31, s32, s33, s34, s35, s36, s37, s38, s39, s40, s41, s42, s43, s44, s45, s46, s47, s48, s49, s50, s51, s52, s53, s54, s55, s56, s57, s58, s59, s60, s61, s62, s63, s64, s65, s66, s67, s68, s69, s70, s71, s72, s73, s74, s75, s76, s77, s78, s79, s80, s81, s82, s83, s84, s85, s86, s87, s88, s89, s90, s91, s92, s93, s94, s95, s96, s97, s98, s99, s100, s101, s102, s103, s104, s105, s106, s107, s108, s109, s110, s111, s112, s113, s114, s115, s116, s117, s118, s119, s120, s121, s122, s123, s124, s125, s126, s127, s128, s129, s130, s131, s132, s133, s134, s135, s136, s137, s138, s139, s140, s141, s142, s143, s144, s145, s146, s147, s148, s149, s150, s151, s152, s153, s154, s155, s156, s157, s158, s159, s160, s161, s162, s163, s164, s165, s166, s167, s168, s169, s170, s171, s172, s173, s174, s175, s176, s177, s178, s179, s180, s181, s182, s183, s184, s185, s186, s187, s188, s189, s190, s191, s192, s193, s194, s195, s196, s197, s198, s199, s200, s201], defers := [] } V := by
  have HQ := hide hQ
  clear hQ
  have tm : ((j : Int) == (i : Int)) = false := beq_eq_false_iff_ne.2 (by omega)
  have tm2 : ¬ (j : Int) = (i : Int) := by omega
  conv => arg 2; whnf
  refine wp_region_inv2 (fun Lb A W => ∃ (u0 u1 u2 u3 u4 u5 u6 u7 u8 u9 u10 u11 u12 u13 u14 u15 u16 u17 u18 u19 u20 u21 u22 u23 u24 u25 u26 u27 u28 u29 u30 u31 u32 : Bool) (dm : Nat), Lb = #[u0, u1, u2, u3, u4, u5, u6, u7, u8, u9, u10, u11, u12, u13, u14, u15, u16, u17, u18, u19, u20, u21, u22, u23, u24, u25, u26, u27, u28, u29, u30, u31, u32] ∧ A = ({ tmps := #[.slice (some ⟨b, 0, none⟩) n cap, s1, s2, s3, .slice (some ⟨hb, 0, none⟩) hn hc, s5, s6, .int .i64 (i : Int), s8, s9, s10, s11, s12, s13, s14, s15, s16, s17, s18, s19, s20, s21, s22, s23, s24, s25, s26, s27, s28, s29, s30, s31, s32, s33, s34, s35, s36, s37, s38, s39, s40, s41, s42, s43, s44, s45, s46, s47, s48, s49, (bif u0 then .slice (some ⟨b, 0, none⟩) n cap else s50), (bif u1 then .slice (some ⟨b, 0, none⟩) n cap else s51), (bif u2 then .int .i64 (i : Int) else s52), (bif u3 then .pointer (some ⟨b, i * 2, none⟩) else s53), (bif u4 then .agg #[.int .i64 (x), .int .i64 (y)] else s54), (bif u5 then .int .i64 (j : Int) else s55), (bif u6 then .int .i64 (i : Int) else s56), (bif u7 then .bool (false) else s57), (bif u8 then .bool (false) else s58), (bif u9 then undef else s59), (bif u10 then undef else s60), (bif u11 then undef else s61), (bif u12 then undef else s62), (bif u13 then undef else s63), (bif u14 then undef else s64), (bif u15 then undef else s65), (bif u16 then .bool (false) else s66), (bif u17 then .bool (false) else s67), (bif u18 then undef else s68), (bif u19 then undef else s69), (bif u20 then undef else s70), (bif u21 then undef else s71), (bif u22 then undef else s72), (bif u23 then undef else s73), (bif u24 then undef else s74), (bif u25 then undef else s75), (bif u26 then undef else s76), (bif u27 then undef else s77), (bif u28 then undef else s78), (bif u29 then undef else s79), (bif u30 then undef else s80), (bif u31 then undef else s81), (bif u32 then .bool (false) else s82), s83, s84, s85, s86, s87, s88, s89, s90, s91, s92, s93, s94, s95, s96, s97, s98, s99, s100, s101, s102, s103, s104, s105, s106, s107, s108, s109, s110, s111, s112, s113, s114, s115, s116, s117, s118, s119, s120, s121, s122, s123, s124, s125, s126, s127, s128, s129, s130, s131, s132, s133, s134, s135, s136, s137, s138, s139, s140, s141, s142, s143, s144, s145, s146, s147, s148, s149, s150, s151, s152, s153, s154, s155, s156, s157, s158, s159, s160, s161, s162, s163, s164, s165, s166, s167, s168, s169, s170, s171, s172, s173, s174, s175, s176, s177, s178, s179, s180, s181, s182, s183, s184, s185, s186, s187, s188, s189, s190, s191, s192, s193, s194, s195, s196, s197, s198, s199, s200, s201], defers := [] } : Act) ∧ Below V.heap.size V W ∧ (u3 = true → u1 = true ∧ u2 = true) ∧ (u4 = true → u3 = true) ∧ (u5 = true → u0 = true ∧ u4 = true) ∧ (u7 = true → u5 = true ∧ u6 = true) ∧ (u8 = true → u7 = true) ∧ (u9 = true → u8 = true) ∧ (u10 = true → u8 = true) ∧ (u11 = true → u8 = true) ∧ (u12 = true → u10 = true ∧ u11 = true ∧ u8 = true) ∧ (u13 = true → u12 = true ∧ u8 = true) ∧ (u14 = true → u9 = true ∧ u13 = true ∧ u8 = true) ∧ (u15 = true → u14 = true ∧ u8 = true) ∧ (u16 = true → u8 = true ∧ u15 = true) ∧ (u17 = true → u16 = true) ∧ (u18 = true → u17 = true) ∧ (u19 = true → u17 = true) ∧ (u20 = true → u17 = true) ∧ (u21 = true → u17 = true) ∧ (u22 = true → u20 = true ∧ u21 = true ∧ u17 = true) ∧ (u23 = true → u22 = true ∧ u17 = true) ∧ (u24 = true → u19 = true ∧ u23 = true ∧ u17 = true) ∧ (u25 = true → u18 = true ∧ u24 = true ∧ u17 = true) ∧ (u26 = true → u25 = true ∧ u17 = true) ∧ (u27 = true → u17 = true) ∧ (u28 = true → u17 = true) ∧ (u29 = true → u27 = true ∧ u28 = true ∧ u17 = true) ∧ (u30 = true → u29 = true ∧ u17 = true) ∧ (u31 = true → u26 = true ∧ u30 = true ∧ u17 = true) ∧ (u32 = true → u0 = true ∧ u1 = true ∧ u2 = true ∧ u3 = true ∧ u4 = true ∧ u5 = true ∧ u6 = true ∧ u7 = true ∧ u8 = true ∧ u9 = true ∧ u10 = true ∧ u11 = true ∧ u12 = true ∧ u13 = true ∧ u14 = true ∧ u15 = true ∧ u16 = true ∧ u17 = true ∧ u18 = true ∧ u19 = true ∧ u20 = true ∧ u21 = true ∧ u22 = true ∧ u23 = true ∧ u24 = true ∧ u25 = true ∧ u26 = true ∧ u27 = true ∧ u28 = true ∧ u29 = true ∧ u30 = true ∧ u31 = true)) (by kernel_rfl) (by kernel_rfl) ?h0 ?hstep ?hend
  case h0 =>
    exact ⟨false, false, false, false, false, false, false, false, false, false, false, false, false, false, false, false, false, false, false, false, false, false, false, false, false, false, false, false, false, false, false, false, false, 0, rfl, rfl, Below.drew (Below.refl _ _), (fun h => nomatch h), (fun h => nomatch h), (fun h => nomatch h), (fun h => nomatch h), (fun h => nomatch h), (fun h => nomatch h), (fun h => nomatch h), (fun h => nomatch h), (fun h => nomatch h), (fun h => nomatch h), (fun h => nomatch h), (fun h => nomatch h), (fun h => nomatch h), (fun h => nomatch h), (fun h => nomatch h), (fun h => nomatch h), (fun h => nomatch h), (fun h => nomatch h), (fun h => nomatch h), (fun h => nomatch h), (fun h => nomatch h), (fun h => nomatch h), (fun h => nomatch h), (fun h => nomatch h), (fun h => nomatch h), (fun h => nomatch h), (fun h => nomatch h), (fun h => nomatch h), (fun h => nomatch h)⟩
  case hstep =>
    intro Lb A W hI
    obtain ⟨u0, hI⟩ := hI
    obtain ⟨u1, hI⟩ := hI
    obtain ⟨u2, hI⟩ := hI
    obtain ⟨u3, hI⟩ := hI
    obtain ⟨u4, hI⟩ := hI
    obtain ⟨u5, hI⟩ := hI
    obtain ⟨u6, hI⟩ := hI
    obtain ⟨u7, hI⟩ := hI
    obtain ⟨u8, hI⟩ := hI
    obtain ⟨u9, hI⟩ := hI
    obtain ⟨u10, hI⟩ := hI
    obtain ⟨u11, hI⟩ := hI
    obtain ⟨u12, hI⟩ := hI
    obtain ⟨u13, hI⟩ := hI
    obtain ⟨u14, hI⟩ := hI
    obtain ⟨u15, hI⟩ := hI
    obtain ⟨u16, hI⟩ := hI
    obtain ⟨u17, hI⟩ := hI
    obtain ⟨u18, hI⟩ := hI
    obtain ⟨u19, hI⟩ := hI
    obtain ⟨u20, hI⟩ := hI
    obtain ⟨u21, hI⟩ := hI
    obtain ⟨u22, hI⟩ := hI
    obtain ⟨u23, hI⟩ := hI
    obtain ⟨u24, hI⟩ := hI
    obtain ⟨u25, hI⟩ := hI
    obtain ⟨u26, hI⟩ := hI
    obtain ⟨u27, hI⟩ := hI
    obtain ⟨u28, hI⟩ := hI
    obtain ⟨u29, hI⟩ := hI
    obtain ⟨u30, hI⟩ := hI
    obtain ⟨u31, hI⟩ := hI
    obtain ⟨u32, hI⟩ := hI
    obtain ⟨dm, hI⟩ := hI
    obtain ⟨hLb, hI⟩ := hI
    obtain ⟨hA, hI⟩ := hI
    obtain ⟨kB, hI⟩ := hI
    obtain ⟨c3, hI⟩ := hI
    obtain ⟨c4, hI⟩ := hI
    obtain ⟨c5, hI⟩ := hI
    obtain ⟨c7, hI⟩ := hI
    obtain ⟨c8, hI⟩ := hI
    obtain ⟨c9, hI⟩ := hI
    obtain ⟨c10, hI⟩ := hI
    obtain ⟨c11, hI⟩ := hI
    obtain ⟨c12, hI⟩ := hI
    obtain ⟨c13, hI⟩ := hI
    obtain ⟨c14, hI⟩ := hI
    obtain ⟨c15, hI⟩ := hI
    obtain ⟨c16, hI⟩ := hI
    obtain ⟨c17, hI⟩ := hI
    obtain ⟨c18, hI⟩ := hI
    obtain ⟨c19, hI⟩ := hI
    obtain ⟨c20, hI⟩ := hI
    obtain ⟨c21, hI⟩ := hI
    obtain ⟨c22, hI⟩ := hI
    obtain ⟨c23, hI⟩ := hI
    obtain ⟨c24, hI⟩ := hI
    obtain ⟨c25, hI⟩ := hI
    obtain ⟨c26, hI⟩ := hI
    obtain ⟨c27, hI⟩ := hI
    obtain ⟨c28, hI⟩ := hI
    obtain ⟨c29, hI⟩ := hI
    obtain ⟨c30, hI⟩ := hI
    obtain ⟨c31, hI⟩ := hI
    have kF := hI
    clear hI
    subst hLb
    subst hA
    have H_kB := hide kB
    have H_c3 := hide c3
    have H_c4 := hide c4
    have H_c5 := hide c5
    have H_c7 := hide c7
    have H_c8 := hide c8
    have H_c9 := hide c9
    have H_c10 := hide c10
    have H_c11 := hide c11
    have H_c12 := hide c12
    have H_c13 := hide c13
    have H_c14 := hide c14
    have H_c15 := hide c15
    have H_c16 := hide c16
    have H_c17 := hide c17
    have H_c18 := hide c18
    have H_c19 := hide c19
    have H_c20 := hide c20
    have H_c21 := hide c21
    have H_c22 := hide c22
    have H_c23 := hide c23
    have H_c24 := hide c24
    have H_c25 := hide c25
    have H_c26 := hide c26
    have H_c27 := hide c27
    have H_c28 := hide c28
    have H_c29 := hide c29
    have H_c30 := hide c30
    have H_c31 := hide c31
    have H_kF := hide kF
    clear kB c3 c4 c5 c7 c8 c9 c10 c11 c12 c13 c14 c15 c16 c17 c18 c19 c20 c21 c22 c23 c24 c25 c26 c27 c28 c29 c30 c31 kF
    refine ⟨?_, ?_, ?_, ?_, ?_, ?_, ?_, ?_, ?_, ?_, ?_, ?_, ?_, ?_, ?_, ?_, ?_, ?_, ?_, ?_, ?_, ?_, ?_, ?_, ?_, ?_, ?_, ?_, ?_, ?_, ?_, ?_, ?_, trivial⟩
    · intro h0 hd K hK
      have z : u0 = false := h0
      have z32_ : u32 = false := by
        cases hu : u32 with
        | false => rfl
        | true => exact nomatch z.symm.trans ((unhide H_kF hu).1)
      subst z32_
      subst z
      clear h0 hd
      rw [if_pos (by rfl)]
      go_simp
      exact unhide hK _ _ ⟨true, u1, u2, u3, u4, u5, u6, u7, u8, u9, u10, u11, u12, u13, u14, u15, u16, u17, u18, u19, u20, u21, u22, u23, u24, u25, u26, u27, u28, u29, u30, u31, false, dm, rfl, rfl, unhide H_kB, unhide H_c3, unhide H_c4, (fun h => ⟨rfl, (unhide H_c5 h).2⟩), unhide H_c7, unhide H_c8, unhide H_c9, unhide H_c10, unhide H_c11, unhide H_c12, unhide H_c13, unhide H_c14, unhide H_c15, unhide H_c16, unhide H_c17, unhide H_c18, unhide H_c19, unhide H_c20, unhide H_c21, unhide H_c22, unhide H_c23, unhide H_c24, unhide H_c25, unhide H_c26, unhide H_c27, unhide H_c28, unhide H_c29, unhide H_c30, unhide H_c31, (fun h => nomatch h)⟩
    · intro h0 hd K hK
      have z : u1 = false := h0
      have z32_ : u32 = false := by
        cases hu : u32 with
        | false => rfl
        | true => exact nomatch z.symm.trans ((unhide H_kF hu).2.1)
      subst z32_
      subst z
      clear h0 hd
      rw [if_pos (by rfl)]
      go_simp
      exact unhide hK _ _ ⟨u0, true, u2, u3, u4, u5, u6, u7, u8, u9, u10, u11, u12, u13, u14, u15, u16, u17, u18, u19, u20, u21, u22, u23, u24, u25, u26, u27, u28, u29, u30, u31, false, dm, rfl, rfl, unhide H_kB, (fun h => ⟨rfl, (unhide H_c3 h).2⟩), unhide H_c4, unhide H_c5, unhide H_c7, unhide H_c8, unhide H_c9, unhide H_c10, unhide H_c11, unhide H_c12, unhide H_c13, unhide H_c14, unhide H_c15, unhide H_c16, unhide H_c17, unhide H_c18, unhide H_c19, unhide H_c20, unhide H_c21, unhide H_c22, unhide H_c23, unhide H_c24, unhide H_c25, unhide H_c26, unhide H_c27, unhide H_c28, unhide H_c29, unhide H_c30, unhide H_c31, (fun h => nomatch h)⟩
    · intro h0 hd K hK
      have z : u2 = false := h0
      have z32_ : u32 = false := by
        cases hu : u32 with
        | false => rfl
        | true => exact nomatch z.symm.trans ((unhide H_kF hu).2.2.1)
      subst z32_
      subst z
      clear h0 hd
      rw [if_pos (by rfl)]
      go_simp
      exact unhide hK _ _ ⟨u0, u1, true, u3, u4, u5, u6, u7, u8, u9, u10, u11, u12, u13, u14, u15, u16, u17, u18, u19, u20, u21, u22, u23, u24, u25, u26, u27, u28, u29, u30, u31, false, dm, rfl, rfl, unhide H_kB, (fun h => ⟨(unhide H_c3 h).1, rfl⟩), unhide H_c4, unhide H_c5, unhide H_c7, unhide H_c8, unhide H_c9, unhide H_c10, unhide H_c11, unhide H_c12, unhide H_c13, unhide H_c14, unhide H_c15, unhide H_c16, unhide H_c17, unhide H_c18, unhide H_c19, unhide H_c20, unhide H_c21, unhide H_c22, unhide H_c23, unhide H_c24, unhide H_c25, unhide H_c26, unhide H_c27, unhide H_c28, unhide H_c29, unhide H_c30, unhide H_c31, (fun h => nomatch h)⟩
    · intro h0 hd K hK
      have z : u3 = false := h0
      have z32_ : u32 = false := by
        cases hu : u32 with
        | false => rfl
        | true => exact nomatch z.symm.trans ((unhide H_kF hu).2.2.2.1)
      have zd : u1 = true ∧ u2 = true := by
        simp [Region.binds] at hd
        simp [hd]
      obtain ⟨rfl, rfl⟩ := zd
      subst z32_
      subst z
      clear h0 hd
      rw [if_pos (by rfl)]
      have q1 : i < n := unhide HX3
      have q2 : (i : Int) < (n : Int) := by omega
      go_simp
      exact unhide hK _ _ ⟨u0, true, true, true, u4, u5, u6, u7, u8, u9, u10, u11, u12, u13, u14, u15, u16, u17, u18, u19, u20, u21, u22, u23, u24, u25, u26, u27, u28, u29, u30, u31, false, dm, rfl, rfl, unhide H_kB, (fun _ => ⟨rfl, rfl⟩), (fun h => rfl), unhide H_c5, unhide H_c7, unhide H_c8, unhide H_c9, unhide H_c10, unhide H_c11, unhide H_c12, unhide H_c13, unhide H_c14, unhide H_c15, unhide H_c16, unhide H_c17, unhide H_c18, unhide H_c19, unhide H_c20, unhide H_c21, unhide H_c22, unhide H_c23, unhide H_c24, unhide H_c25, unhide H_c26, unhide H_c27, unhide H_c28, unhide H_c29, unhide H_c30, unhide H_c31, (fun h => nomatch h)⟩
    · intro h0 hd K hK
      have z : u4 = false := h0
      have z32_ : u32 = false := by
        cases hu : u32 with
        | false => rfl
        | true => exact nomatch z.symm.trans ((unhide H_kF hu).2.2.2.2.1)
      have zd : u3 = true := by
        simp [Region.binds] at hd
        simp [hd]
      obtain ⟨rfl⟩ := zd
      subst z32_
      subst z
      clear h0 hd
      rw [if_pos (by rfl)]
      have c0 := keep1 (unhide H_kB) (unhide HA0)
      have c1 := keep1 (unhide H_kB) (unhide HA1)
      go_simp
      exact unhide hK _ _ ⟨u0, u1, u2, true, true, u5, u6, u7, u8, u9, u10, u11, u12, u13, u14, u15, u16, u17, u18, u19, u20, u21, u22, u23, u24, u25, u26, u27, u28, u29, u30, u31, false, dm, rfl, rfl, unhide H_kB, unhide H_c3, (fun _ => rfl), (fun h => ⟨(unhide H_c5 h).1, rfl⟩), unhide H_c7, unhide H_c8, unhide H_c9, unhide H_c10, unhide H_c11, unhide H_c12, unhide H_c13, unhide H_c14, unhide H_c15, unhide H_c16, unhide H_c17, unhide H_c18, unhide H_c19, unhide H_c20, unhide H_c21, unhide H_c22, unhide H_c23, unhide H_c24, unhide H_c25, unhide H_c26, unhide H_c27, unhide H_c28, unhide H_c29, unhide H_c30, unhide H_c31, (fun h => nomatch h)⟩
    · intro h0 hd K hK
      have z : u5 = false := h0
      have z32_ : u32 = false := by
        cases hu : u32 with
        | false => rfl
        | true => exact nomatch z.symm.trans ((unhide H_kF hu).2.2.2.2.2.1)
      have zd : u0 = true ∧ u4 = true := by
        simp [Region.binds] at hd
        simp [hd]
      obtain ⟨rfl, rfl⟩ := zd
      subst z32_
      subst z
      clear h0 hd
      rw [if_pos (by rfl)]
      go_simp
      refine (unhide HF5 W (unhide H_kB)).mono ?_
      rintro e w8 ⟨rfl, hb8⟩
      exact unhide hK _ _ ⟨true, u1, u2, u3, true, true, u6, u7, u8, u9, u10, u11, u12, u13, u14, u15, u16, u17, u18, u19, u20, u21, u22, u23, u24, u25, u26, u27, u28, u29, u30, u31, false, dm, rfl, rfl, bc (unhide H_kB) hb8, unhide H_c3, unhide H_c4, (fun _ => ⟨rfl, rfl⟩), (fun h => ⟨rfl, (unhide H_c7 h).2⟩), unhide H_c8, unhide H_c9, unhide H_c10, unhide H_c11, unhide H_c12, unhide H_c13, unhide H_c14, unhide H_c15, unhide H_c16, unhide H_c17, unhide H_c18, unhide H_c19, unhide H_c20, unhide H_c21, unhide H_c22, unhide H_c23, unhide H_c24, unhide H_c25, unhide H_c26, unhide H_c27, unhide H_c28, unhide H_c29, unhide H_c30, unhide H_c31, (fun h => nomatch h)⟩
    · intro h0 hd K hK
      have z : u6 = false := h0
      have z32_ : u32 = false := by
        cases hu : u32 with
        | false => rfl
        | true => exact nomatch z.symm.trans ((unhide H_kF hu).2.2.2.2.2.2.1)
      subst z32_
      subst z
      clear h0 hd
      rw [if_pos (by rfl)]
      go_simp
      exact unhide hK _ _ ⟨u0, u1, u2, u3, u4, u5, true, u7, u8, u9, u10, u11, u12, u13, u14, u15, u16, u17, u18, u19, u20, u21, u22, u23, u24, u25, u26, u27, u28, u29, u30, u31, false, dm, rfl, rfl, unhide H_kB, unhide H_c3, unhide H_c4, unhide H_c5, (fun h => ⟨(unhide H_c7 h).1, rfl⟩), unhide H_c8, unhide H_c9, unhide H_c10, unhide H_c11, unhide H_c12, unhide H_c13, unhide H_c14, unhide H_c15, unhide H_c16, unhide H_c17, unhide H_c18, unhide H_c19, unhide H_c20, unhide H_c21, unhide H_c22, unhide H_c23, unhide H_c24, unhide H_c25, unhide H_c26, unhide H_c27, unhide H_c28, unhide H_c29, unhide H_c30, unhide H_c31, (fun h => nomatch h)⟩
    · intro h0 hd K hK
      have z : u7 = false := h0
      have z32_ : u32 = false := by
        cases hu : u32 with
        | false => rfl
        | true => exact nomatch z.symm.trans ((unhide H_kF hu).2.2.2.2.2.2.2.1)
      have zd : u5 = true ∧ u6 = true := by
        simp [Region.binds] at hd
        simp [hd]
      obtain ⟨rfl, rfl⟩ := zd
      subst z32_
      subst z
      clear h0 hd
      rw [if_pos (by rfl)]
      go_simp
      exact unhide hK _ _ ⟨u0, u1, u2, u3, u4, true, true, true, u8, u9, u10, u11, u12, u13, u14, u15, u16, u17, u18, u19, u20, u21, u22, u23, u24, u25, u26, u27, u28, u29, u30, u31, false, dm, rfl, rfl, unhide H_kB, unhide H_c3, unhide H_c4, unhide H_c5, (fun _ => ⟨rfl, rfl⟩), (fun h => rfl), unhide H_c9, unhide H_c10, unhide H_c11, unhide H_c12, unhide H_c13, unhide H_c14, unhide H_c15, unhide H_c16, unhide H_c17, unhide H_c18, unhide H_c19, unhide H_c20, unhide H_c21, unhide H_c22, unhide H_c23, unhide H_c24, unhide H_c25, unhide H_c26, unhide H_c27, unhide H_c28, unhide H_c29, unhide H_c30, unhide H_c31, (fun h => nomatch h)⟩
    · intro h0 hd K hK
      have z : u8 = false := h0
      have z32_ : u32 = false := by
        cases hu : u32 with
        | false => rfl
        | true => exact nomatch z.symm.trans ((unhide H_kF hu).2.2.2.2.2.2.2.2.1)
      have zd : u7 = true := by
        simp [Region.binds] at hd
        simp [hd]
      obtain ⟨rfl⟩ := zd
      subst z32_
      subst z
      clear h0 hd
      rw [if_pos (by rfl)]
      go_simp
      exact unhide hK _ _ ⟨u0, u1, u2, u3, u4, u5, u6, true, true, u9, u10, u11, u12, u13, u14, u15, u16, u17, u18, u19, u20, u21, u22, u23, u24, u25, u26, u27, u28, u29, u30, u31, false, dm, rfl, rfl, unhide H_kB, unhide H_c3, unhide H_c4, unhide H_c5, unhide H_c7, (fun _ => rfl), (fun h => rfl), (fun h => rfl), (fun h => rfl), (fun h => ⟨(unhide H_c12 h).1, (unhide H_c12 h).2.1, rfl⟩), (fun h => ⟨(unhide H_c13 h).1, rfl⟩), (fun h => ⟨(unhide H_c14 h).1, (unhide H_c14 h).2.1, rfl⟩), (fun h => ⟨(unhide H_c15 h).1, rfl⟩), (fun h => ⟨rfl, (unhide H_c16 h).2⟩), unhide H_c17, unhide H_c18, unhide H_c19, unhide H_c20, unhide H_c21, unhide H_c22, unhide H_c23, unhide H_c24, unhide H_c25, unhide H_c26, unhide H_c27, unhide H_c28, unhide H_c29, unhide H_c30, unhide H_c31, (fun h => nomatch h)⟩
    · intro h0 hd K hK
      have z : u9 = false := h0
      have z32_ : u32 = false := by
        cases hu : u32 with
        | false => rfl
        | true => exact nomatch z.symm.trans ((unhide H_kF hu).2.2.2.2.2.2.2.2.2.1)
      have zd : u8 = true := by
        simp [Region.binds] at hd
        simp [hd]
      obtain ⟨rfl⟩ := zd
      subst z32_
      subst z
      clear h0 hd
      rw [if_neg (Bool.eq_false_iff.1 (by rfl))]
      try go_simp
      exact unhide hK _ _ ⟨u0, u1, u2, u3, u4, u5, u6, u7, true, true, u10, u11, u12, u13, u14, u15, u16, u17, u18, u19, u20, u21, u22, u23, u24, u25, u26, u27, u28, u29, u30, u31, false, dm, rfl, rfl, unhide H_kB, unhide H_c3, unhide H_c4, unhide H_c5, unhide H_c7, unhide H_c8, (fun _ => rfl), (fun h => rfl), (fun h => rfl), (fun h => ⟨(unhide H_c12 h).1, (unhide H_c12 h).2.1, rfl⟩), (fun h => ⟨(unhide H_c13 h).1, rfl⟩), (fun h => ⟨rfl, (unhide H_c14 h).2.1, rfl⟩), (fun h => ⟨(unhide H_c15 h).1, rfl⟩), (fun h => ⟨rfl, (unhide H_c16 h).2⟩), unhide H_c17, unhide H_c18, unhide H_c19, unhide H_c20, unhide H_c21, unhide H_c22, unhide H_c23, unhide H_c24, unhide H_c25, unhide H_c26, unhide H_c27, unhide H_c28, unhide H_c29, unhide H_c30, unhide H_c31, (fun h => nomatch h)⟩
    · intro h0 hd K hK
      have z : u10 = false := h0
      have z32_ : u32 = false := by
        cases hu : u32 with
        | false => rfl
        | true => exact nomatch z.symm.trans ((unhide H_kF hu).2.2.2.2.2.2.2.2.2.2.1)
      have zd : u8 = true := by
        simp [Region.binds] at hd
        simp [hd]
      obtain ⟨rfl⟩ := zd
      subst z32_
      subst z
      clear h0 hd
      rw [if_neg (Bool.eq_false_iff.1 (by rfl))]
      try go_simp
      exact unhide hK _ _ ⟨u0, u1, u2, u3, u4, u5, u6, u7, true, u9, true, u11, u12, u13, u14, u15, u16, u17, u18, u19, u20, u21, u22, u23, u24, u25, u26, u27, u28, u29, u30, u31, false, dm, rfl, rfl, unhide H_kB, unhide H_c3, unhide H_c4, unhide H_c5, unhide H_c7, unhide H_c8, (fun h => rfl), (fun _ => rfl), (fun h => rfl), (fun h => ⟨rfl, (unhide H_c12 h).2.1, rfl⟩), (fun h => ⟨(unhide H_c13 h).1, rfl⟩), (fun h => ⟨(unhide H_c14 h).1, (unhide H_c14 h).2.1, rfl⟩), (fun h => ⟨(unhide H_c15 h).1, rfl⟩), (fun h => ⟨rfl, (unhide H_c16 h).2⟩), unhide H_c17, unhide H_c18, unhide H_c19, unhide H_c20, unhide H_c21, unhide H_c22, unhide H_c23, unhide H_c24, unhide H_c25, unhide H_c26, unhide H_c27, unhide H_c28, unhide H_c29, unhide H_c30, unhide H_c31, (fun h => nomatch h)⟩
    · intro h0 hd K hK
      have z : u11 = false := h0
      have z32_ : u32 = false := by
        cases hu : u32 with
        | false => rfl
        | true => exact nomatch z.symm.trans ((unhide H_kF hu).2.2.2.2.2.2.2.2.2.2.2.1)
      have zd : u8 = true := by
        simp [Region.binds] at hd
        simp [hd]
      obtain ⟨rfl⟩ := zd
      subst z32_
      subst z
      clear h0 hd
      rw [if_neg (Bool.eq_false_iff.1 (by rfl))]
      try go_simp
      exact unhide hK _ _ ⟨u0, u1, u2, u3, u4, u5, u6, u7, true, u9, u10, true, u12, u13, u14, u15, u16, u17, u18, u19, u20, u21, u22, u23, u24, u25, u26, u27, u28, u29, u30, u31, false, dm, rfl, rfl, unhide H_kB, unhide H_c3, unhide H_c4, unhide H_c5, unhide H_c7, unhide H_c8, (fun h => rfl), (fun h => rfl), (fun _ => rfl), (fun h => ⟨(unhide H_c12 h).1, rfl, rfl⟩), (fun h => ⟨(unhide H_c13 h).1, rfl⟩), (fun h => ⟨(unhide H_c14 h).1, (unhide H_c14 h).2.1, rfl⟩), (fun h => ⟨(unhide H_c15 h).1, rfl⟩), (fun h => ⟨rfl, (unhide H_c16 h).2⟩), unhide H_c17, unhide H_c18, unhide H_c19, unhide H_c20, unhide H_c21, unhide H_c22, unhide H_c23, unhide H_c24, unhide H_c25, unhide H_c26, unhide H_c27, unhide H_c28, unhide H_c29, unhide H_c30, unhide H_c31, (fun h => nomatch h)⟩
    · intro h0 hd K hK
      have z : u12 = false := h0
      have z32_ : u32 = false := by
        cases hu : u32 with
        | false => rfl
        | true => exact nomatch z.symm.trans ((unhide H_kF hu).2.2.2.2.2.2.2.2.2.2.2.2.1)
      have zd : u10 = true ∧ u11 = true ∧ u8 = true := by
        simp [Region.binds] at hd
        simp [hd]
      obtain ⟨rfl, rfl, rfl⟩ := zd
      subst z32_
      subst z
      clear h0 hd
      rw [if_neg (Bool.eq_false_iff.1 (by rfl))]
      try go_simp
      exact unhide hK _ _ ⟨u0, u1, u2, u3, u4, u5, u6, u7, true, u9, true, true, true, u13, u14, u15, u16, u17, u18, u19, u20, u21, u22, u23, u24, u25, u26, u27, u28, u29, u30, u31, false, dm, rfl, rfl, unhide H_kB, unhide H_c3, unhide H_c4, unhide H_c5, unhide H_c7, unhide H_c8, (fun h => rfl), (fun h => rfl), (fun h => rfl), (fun _ => ⟨rfl, rfl, rfl⟩), (fun h => ⟨rfl, rfl⟩), (fun h => ⟨(unhide H_c14 h).1, (unhide H_c14 h).2.1, rfl⟩), (fun h => ⟨(unhide H_c15 h).1, rfl⟩), (fun h => ⟨rfl, (unhide H_c16 h).2⟩), unhide H_c17, unhide H_c18, unhide H_c19, unhide H_c20, unhide H_c21, unhide H_c22, unhide H_c23, unhide H_c24, unhide H_c25, unhide H_c26, unhide H_c27, unhide H_c28, unhide H_c29, unhide H_c30, unhide H_c31, (fun h => nomatch h)⟩
    · intro h0 hd K hK
      have z : u13 = false := h0
      have z32_ : u32 = false := by
        cases hu : u32 with
        | false => rfl
        | true => exact nomatch z.symm.trans ((unhide H_kF hu).2.2.2.2.2.2.2.2.2.2.2.2.2.1)
      have zd : u12 = true ∧ u8 = true := by
        simp [Region.binds] at hd
        simp [hd]
      obtain ⟨rfl, rfl⟩ := zd
      subst z32_
      subst z
      clear h0 hd
      rw [if_neg (Bool.eq_false_iff.1 (by rfl))]
      try go_simp
      exact unhide hK _ _ ⟨u0, u1, u2, u3, u4, u5, u6, u7, true, u9, u10, u11, true, true, u14, u15, u16, u17, u18, u19, u20, u21, u22, u23, u24, u25, u26, u27, u28, u29, u30, u31, false, dm, rfl, rfl, unhide H_kB, unhide H_c3, unhide H_c4, unhide H_c5, unhide H_c7, unhide H_c8, (fun h => rfl), (fun h => rfl), (fun h => rfl), (fun h => ⟨(unhide H_c12 h).1, (unhide H_c12 h).2.1, rfl⟩), (fun _ => ⟨rfl, rfl⟩), (fun h => ⟨(unhide H_c14 h).1, rfl, rfl⟩), (fun h => ⟨(unhide H_c15 h).1, rfl⟩), (fun h => ⟨rfl, (unhide H_c16 h).2⟩), unhide H_c17, unhide H_c18, unhide H_c19, unhide H_c20, unhide H_c21, unhide H_c22, unhide H_c23, unhide H_c24, unhide H_c25, unhide H_c26, unhide H_c27, unhide H_c28, unhide H_c29, unhide H_c30, unhide H_c31, (fun h => nomatch h)⟩
    · intro h0 hd K hK
      have z : u14 = false := h0
      have z32_ : u32 = false := by
        cases hu : u32 with
        | false => rfl
        | true => exact nomatch z.symm.trans ((unhide H_kF hu).2.2.2.2.2.2.2.2.2.2.2.2.2.2.1)
      have zd : u9 = true ∧ u13 = true ∧ u8 = true := by
        simp [Region.binds] at hd
        simp [hd]
      obtain ⟨rfl, rfl, rfl⟩ := zd
      subst z32_
      subst z
      clear h0 hd
      rw [if_neg (Bool.eq_false_iff.1 (by rfl))]
      try go_simp
      exact unhide hK _ _ ⟨u0, u1, u2, u3, u4, u5, u6, u7, true, true, u10, u11, u12, true, true, u15, u16, u17, u18, u19, u20, u21, u22, u23, u24, u25, u26, u27, u28, u29, u30, u31, false, dm, rfl, rfl, unhide H_kB, unhide H_c3, unhide H_c4, unhide H_c5, unhide H_c7, unhide H_c8, (fun h => rfl), (fun h => rfl), (fun h => rfl), (fun h => ⟨(unhide H_c12 h).1, (unhide H_c12 h).2.1, rfl⟩), (fun h => ⟨(unhide H_c13 h).1, rfl⟩), (fun _ => ⟨rfl, rfl, rfl⟩), (fun h => ⟨rfl, rfl⟩), (fun h => ⟨rfl, (unhide H_c16 h).2⟩), unhide H_c17, unhide H_c18, unhide H_c19, unhide H_c20, unhide H_c21, unhide H_c22, unhide H_c23, unhide H_c24, unhide H_c25, unhide H_c26, unhide H_c27, unhide H_c28, unhide H_c29, unhide H_c30, unhide H_c31, (fun h => nomatch h)⟩
    · intro h0 hd K hK
      have z : u15 = false := h0
      have z32_ : u32 = false := by
        cases hu : u32 with
        | false => rfl
        | true => exact nomatch z.symm.trans ((unhide H_kF hu).2.2.2.2.2.2.2.2.2.2.2.2.2.2.2.1)
      have zd : u14 = true ∧ u8 = true := by
        simp [Region.binds] at hd
        simp [hd]
      obtain ⟨rfl, rfl⟩ := zd
      subst z32_
      subst z
      clear h0 hd
      rw [if_neg (Bool.eq_false_iff.1 (by rfl))]
      try go_simp
      exact unhide hK _ _ ⟨u0, u1, u2, u3, u4, u5, u6, u7, true, u9, u10, u11, u12, u13, true, true, u16, u17, u18, u19, u20, u21, u22, u23, u24, u25, u26, u27, u28, u29, u30, u31, false, dm, rfl, rfl, unhide H_kB, unhide H_c3, unhide H_c4, unhide H_c5, unhide H_c7, unhide H_c8, (fun h => rfl), (fun h => rfl), (fun h => rfl), (fun h => ⟨(unhide H_c12 h).1, (unhide H_c12 h).2.1, rfl⟩), (fun h => ⟨(unhide H_c13 h).1, rfl⟩), (fun h => ⟨(unhide H_c14 h).1, (unhide H_c14 h).2.1, rfl⟩), (fun _ => ⟨rfl, rfl⟩), (fun h => ⟨rfl, rfl⟩), unhide H_c17, unhide H_c18, unhide H_c19, unhide H_c20, unhide H_c21, unhide H_c22, unhide H_c23, unhide H_c24, unhide H_c25, unhide H_c26, unhide H_c27, unhide H_c28, unhide H_c29, unhide H_c30, unhide H_c31, (fun h => nomatch h)⟩
    · intro h0 hd K hK
      have z : u16 = false := h0
      have z32_ : u32 = false := by
        cases hu : u32 with
        | false => rfl
        | true => exact nomatch z.symm.trans ((unhide H_kF hu).2.2.2.2.2.2.2.2.2.2.2.2.2.2.2.2.1)
      have zd : u8 = true ∧ u15 = true := by
        simp [Region.binds] at hd
        simp [hd]
      obtain ⟨rfl, rfl⟩ := zd
      subst z32_
      subst z
      clear h0 hd
      rw [if_pos (by rfl)]
      go_simp
      exact unhide hK _ _ ⟨u0, u1, u2, u3, u4, u5, u6, u7, true, u9, u10, u11, u12, u13, u14, true, true, u17, u18, u19, u20, u21, u22, u23, u24, u25, u26, u27, u28, u29, u30, u31, false, dm, rfl, rfl, unhide H_kB, unhide H_c3, unhide H_c4, unhide H_c5, unhide H_c7, unhide H_c8, (fun h => rfl), (fun h => rfl), (fun h => rfl), (fun h => ⟨(unhide H_c12 h).1, (unhide H_c12 h).2.1, rfl⟩), (fun h => ⟨(unhide H_c13 h).1, rfl⟩), (fun h => ⟨(unhide H_c14 h).1, (unhide H_c14 h).2.1, rfl⟩), (fun h => ⟨(unhide H_c15 h).1, rfl⟩), (fun _ => ⟨rfl, rfl⟩), (fun h => rfl), unhide H_c18, unhide H_c19, unhide H_c20, unhide H_c21, unhide H_c22, unhide H_c23, unhide H_c24, unhide H_c25, unhide H_c26, unhide H_c27, unhide H_c28, unhide H_c29, unhide H_c30, unhide H_c31, (fun h => nomatch h)⟩
    · intro h0 hd K hK
      have z : u17 = false := h0
      have z32_ : u32 = false := by
        cases hu : u32 with
        | false => rfl
        | true => exact nomatch z.symm.trans ((unhide H_kF hu).2.2.2.2.2.2.2.2.2.2.2.2.2.2.2.2.2.1)
      have zd : u16 = true := by
        simp [Region.binds] at hd
        simp [hd]
      obtain ⟨rfl⟩ := zd
      subst z32_
      subst z
      clear h0 hd
      rw [if_pos (by rfl)]
      go_simp
      exact unhide hK _ _ ⟨u0, u1, u2, u3, u4, u5, u6, u7, u8, u9, u10, u11, u12, u13, u14, u15, true, true, u18, u19, u20, u21, u22, u23, u24, u25, u26, u27, u28, u29, u30, u31, false, dm, rfl, rfl, unhide H_kB, unhide H_c3, unhide H_c4, unhide H_c5, unhide H_c7, unhide H_c8, unhide H_c9, unhide H_c10, unhide H_c11, unhide H_c12, unhide H_c13, unhide H_c14, unhide H_c15, unhide H_c16, (fun _ => rfl), (fun h => rfl), (fun h => rfl), (fun h => rfl), (fun h => rfl), (fun h => ⟨(unhide H_c22 h).1, (unhide H_c22 h).2.1, rfl⟩), (fun h => ⟨(unhide H_c23 h).1, rfl⟩), (fun h => ⟨(unhide H_c24 h).1, (unhide H_c24 h).2.1, rfl⟩), (fun h => ⟨(unhide H_c25 h).1, (unhide H_c25 h).2.1, rfl⟩), (fun h => ⟨(unhide H_c26 h).1, rfl⟩), (fun h => rfl), (fun h => rfl), (fun h => ⟨(unhide H_c29 h).1, (unhide H_c29 h).2.1, rfl⟩), (fun h => ⟨(unhide H_c30 h).1, rfl⟩), (fun h => ⟨(unhide H_c31 h).1, (unhide H_c31 h).2.1, rfl⟩), (fun h => nomatch h)⟩
    · intro h0 hd K hK
      have z : u18 = false := h0
      have z32_ : u32 = false := by
        cases hu : u32 with
        | false => rfl
        | true => exact nomatch z.symm.trans ((unhide H_kF hu).2.2.2.2.2.2.2.2.2.2.2.2.2.2.2.2.2.2.1)
      have zd : u17 = true := by
        simp [Region.binds] at hd
        simp [hd]
      obtain ⟨rfl⟩ := zd
      subst z32_
      subst z
      clear h0 hd
      rw [if_neg (Bool.eq_false_iff.1 (by rfl))]
      try go_simp
      exact unhide hK _ _ ⟨u0, u1, u2, u3, u4, u5, u6, u7, u8, u9, u10, u11, u12, u13, u14, u15, u16, true, true, u19, u20, u21, u22, u23, u24, u25, u26, u27, u28, u29, u30, u31, false, dm, rfl, rfl, unhide H_kB, unhide H_c3, unhide H_c4, unhide H_c5, unhide H_c7, unhide H_c8, unhide H_c9, unhide H_c10, unhide H_c11, unhide H_c12, unhide H_c13, unhide H_c14, unhide H_c15, unhide H_c16, unhide H_c17, (fun _ => rfl), (fun h => rfl), (fun h => rfl), (fun h => rfl), (fun h => ⟨(unhide H_c22 h).1, (unhide H_c22 h).2.1, rfl⟩), (fun h => ⟨(unhide H_c23 h).1, rfl⟩), (fun h => ⟨(unhide H_c24 h).1, (unhide H_c24 h).2.1, rfl⟩), (fun h => ⟨rfl, (unhide H_c25 h).2.1, rfl⟩), (fun h => ⟨(unhide H_c26 h).1, rfl⟩), (fun h => rfl), (fun h => rfl), (fun h => ⟨(unhide H_c29 h).1, (unhide H_c29 h).2.1, rfl⟩), (fun h => ⟨(unhide H_c30 h).1, rfl⟩), (fun h => ⟨(unhide H_c31 h).1, (unhide H_c31 h).2.1, rfl⟩), (fun h => nomatch h)⟩
    · intro h0 hd K hK
      have z : u19 = false := h0
      have z32_ : u32 = false := by
        cases hu : u32 with
        | false => rfl
        | true => exact nomatch z.symm.trans ((unhide H_kF hu).2.2.2.2.2.2.2.2.2.2.2.2.2.2.2.2.2.2.2.1)
      have zd : u17 = true := by
        simp [Region.binds] at hd
        simp [hd]
      obtain ⟨rfl⟩ := zd
      subst z32_
      subst z
      clear h0 hd
      rw [if_neg (Bool.eq_false_iff.1 (by rfl))]
      try go_simp
      exact unhide hK _ _ ⟨u0, u1, u2, u3, u4, u5, u6, u7, u8, u9, u10, u11, u12, u13, u14, u15, u16, true, u18, true, u20, u21, u22, u23, u24, u25, u26, u27, u28, u29, u30, u31, false, dm, rfl, rfl, unhide H_kB, unhide H_c3, unhide H_c4, unhide H_c5, unhide H_c7, unhide H_c8, unhide H_c9, unhide H_c10, unhide H_c11, unhide H_c12, unhide H_c13, unhide H_c14, unhide H_c15, unhide H_c16, unhide H_c17, (fun h => rfl), (fun _ => rfl), (fun h => rfl), (fun h => rfl), (fun h => ⟨(unhide H_c22 h).1, (unhide H_c22 h).2.1, rfl⟩), (fun h => ⟨(unhide H_c23 h).1, rfl⟩), (fun h => ⟨rfl, (unhide H_c24 h).2.1, rfl⟩), (fun h => ⟨(unhide H_c25 h).1, (unhide H_c25 h).2.1, rfl⟩), (fun h => ⟨(unhide H_c26 h).1, rfl⟩), (fun h => rfl), (fun h => rfl), (fun h => ⟨(unhide H_c29 h).1, (unhide H_c29 h).2.1, rfl⟩), (fun h => ⟨(unhide H_c30 h).1, rfl⟩), (fun h => ⟨(unhide H_c31 h).1, (unhide H_c31 h).2.1, rfl⟩), (fun h => nomatch h)⟩
    · intro h0 hd K hK
      have z : u20 = false := h0
      have z32_ : u32 = false := by
        cases hu : u32 with
        | false => rfl
        | true => exact nomatch z.symm.trans ((unhide H_kF hu).2.2.2.2.2.2.2.2.2.2.2.2.2.2.2.2.2.2.2.2.1)
      have zd : u17 = true := by
        simp [Region.binds] at hd
        simp [hd]
      obtain ⟨rfl⟩ := zd
      subst z32_
      subst z
      clear h0 hd
      rw [if_neg (Bool.eq_false_iff.1 (by rfl))]
      try go_simp
      exact unhide hK _ _ ⟨u0, u1, u2, u3, u4, u5, u6, u7, u8, u9, u10, u11, u12, u13, u14, u15, u16, true, u18, u19, true, u21, u22, u23, u24, u25, u26, u27, u28, u29, u30, u31, false, dm, rfl, rfl, unhide H_kB, unhide H_c3, unhide H_c4, unhide H_c5, unhide H_c7, unhide H_c8, unhide H_c9, unhide H_c10, unhide H_c11, unhide H_c12, unhide H_c13, unhide H_c14, unhide H_c15, unhide H_c16, unhide H_c17, (fun h => rfl), (fun h => rfl), (fun _ => rfl), (fun h => rfl), (fun h => ⟨rfl, (unhide H_c22 h).2.1, rfl⟩), (fun h => ⟨(unhide H_c23 h).1, rfl⟩), (fun h => ⟨(unhide H_c24 h).1, (unhide H_c24 h).2.1, rfl⟩), (fun h => ⟨(unhide H_c25 h).1, (unhide H_c25 h).2.1, rfl⟩), (fun h => ⟨(unhide H_c26 h).1, rfl⟩), (fun h => rfl), (fun h => rfl), (fun h => ⟨(unhide H_c29 h).1, (unhide H_c29 h).2.1, rfl⟩), (fun h => ⟨(unhide H_c30 h).1, rfl⟩), (fun h => ⟨(unhide H_c31 h).1, (unhide H_c31 h).2.1, rfl⟩), (fun h => nomatch h)⟩
    · intro h0 hd K hK
      have z : u21 = false := h0
      have z32_ : u32 = false := by
        cases hu : u32 with
        | false => rfl
        | true => exact nomatch z.symm.trans ((unhide H_kF hu).2.2.2.2.2.2.2.2.2.2.2.2.2.2.2.2.2.2.2.2.2.1)
      have zd : u17 = true := by
        simp [Region.binds] at hd
        simp [hd]
      obtain ⟨rfl⟩ := zd
      subst z32_
      subst z
      clear h0 hd
      rw [if_neg (Bool.eq_false_iff.1 (by rfl))]
      try go_simp
      exact unhide hK _ _ ⟨u0, u1, u2, u3, u4, u5, u6, u7, u8, u9, u10, u11, u12, u13, u14, u15, u16, true, u18, u19, u20, true, u22, u23, u24, u25, u26, u27, u28, u29, u30, u31, false, dm, rfl, rfl, unhide H_kB, unhide H_c3, unhide H_c4, unhide H_c5, unhide H_c7, unhide H_c8, unhide H_c9, unhide H_c10, unhide H_c11, unhide H_c12, unhide H_c13, unhide H_c14, unhide H_c15, unhide H_c16, unhide H_c17, (fun h => rfl), (fun h => rfl), (fun h => rfl), (fun _ => rfl), (fun h => ⟨(unhide H_c22 h).1, rfl, rfl⟩), (fun h => ⟨(unhide H_c23 h).1, rfl⟩), (fun h => ⟨(unhide H_c24 h).1, (unhide H_c24 h).2.1, rfl⟩), (fun h => ⟨(unhide H_c25 h).1, (unhide H_c25 h).2.1, rfl⟩), (fun h => ⟨(unhide H_c26 h).1, rfl⟩), (fun h => rfl), (fun h => rfl), (fun h => ⟨(unhide H_c29 h).1, (unhide H_c29 h).2.1, rfl⟩), (fun h => ⟨(unhide H_c30 h).1, rfl⟩), (fun h => ⟨(unhide H_c31 h).1, (unhide H_c31 h).2.1, rfl⟩), (fun h => nomatch h)⟩
    · intro h0 hd K hK
      have z : u22 = false := h0
      have z32_ : u32 = false := by
        cases hu : u32 with
        | false => rfl
        | true => exact nomatch z.symm.trans ((unhide H_kF hu).2.2.2.2.2.2.2.2.2.2.2.2.2.2.2.2.2.2.2.2.2.2.1)
      have zd : u20 = true ∧ u21 = true ∧ u17 = true := by
        simp [Region.binds] at hd
        simp [hd]
      obtain ⟨rfl, rfl, rfl⟩ := zd
      subst z32_
      subst z
      clear h0 hd
      rw [if_neg (Bool.eq_false_iff.1 (by rfl))]
      try go_simp
      exact unhide hK _ _ ⟨u0, u1, u2, u3, u4, u5, u6, u7, u8, u9, u10, u11, u12, u13, u14, u15, u16, true, u18, u19, true, true, true, u23, u24, u25, u26, u27, u28, u29, u30, u31, false, dm, rfl, rfl, unhide H_kB, unhide H_c3, unhide H_c4, unhide H_c5, unhide H_c7, unhide H_c8, unhide H_c9, unhide H_c10, unhide H_c11, unhide H_c12, unhide H_c13, unhide H_c14, unhide H_c15, unhide H_c16, unhide H_c17, (fun h => rfl), (fun h => rfl), (fun h => rfl), (fun h => rfl), (fun _ => ⟨rfl, rfl, rfl⟩), (fun h => ⟨rfl, rfl⟩), (fun h => ⟨(unhide H_c24 h).1, (unhide H_c24 h).2.1, rfl⟩), (fun h => ⟨(unhide H_c25 h).1, (unhide H_c25 h).2.1, rfl⟩), (fun h => ⟨(unhide H_c26 h).1, rfl⟩), (fun h => rfl), (fun h => rfl), (fun h => ⟨(unhide H_c29 h).1, (unhide H_c29 h).2.1, rfl⟩), (fun h => ⟨(unhide H_c30 h).1, rfl⟩), (fun h => ⟨(unhide H_c31 h).1, (unhide H_c31 h).2.1, rfl⟩), (fun h => nomatch h)⟩
    · intro h0 hd K hK
      have z : u23 = false := h0
      have z32_ : u32 = false := by
        cases hu : u32 with
        | false => rfl
        | true => exact nomatch z.symm.trans ((unhide H_kF hu).2.2.2.2.2.2.2.2.2.2.2.2.2.2.2.2.2.2.2.2.2.2.2.1)
      have zd : u22 = true ∧ u17 = true := by
        simp [Region.binds] at hd
        simp [hd]
      obtain ⟨rfl, rfl⟩ := zd
      subst z32_
      subst z
      clear h0 hd
      rw [if_neg (Bool.eq_false_iff.1 (by rfl))]
      try go_simp
      exact unhide hK _ _ ⟨u0, u1, u2, u3, u4, u5, u6, u7, u8, u9, u10, u11, u12, u13, u14, u15, u16, true, u18, u19, u20, u21, true, true, u24, u25, u26, u27, u28, u29, u30, u31, false, dm, rfl, rfl, unhide H_kB, unhide H_c3, unhide H_c4, unhide H_c5, unhide H_c7, unhide H_c8, unhide H_c9, unhide H_c10, unhide H_c11, unhide H_c12, unhide H_c13, unhide H_c14, unhide H_c15, unhide H_c16, unhide H_c17, (fun h => rfl), (fun h => rfl), (fun h => rfl), (fun h => rfl), (fun h => ⟨(unhide H_c22 h).1, (unhide H_c22 h).2.1, rfl⟩), (fun _ => ⟨rfl, rfl⟩), (fun h => ⟨(unhide H_c24 h).1, rfl, rfl⟩), (fun h => ⟨(unhide H_c25 h).1, (unhide H_c25 h).2.1, rfl⟩), (fun h => ⟨(unhide H_c26 h).1, rfl⟩), (fun h => rfl), (fun h => rfl), (fun h => ⟨(unhide H_c29 h).1, (unhide H_c29 h).2.1, rfl⟩), (fun h => ⟨(unhide H_c30 h).1, rfl⟩), (fun h => ⟨(unhide H_c31 h).1, (unhide H_c31 h).2.1, rfl⟩), (fun h => nomatch h)⟩
    · intro h0 hd K hK
      have z : u24 = false := h0
      have z32_ : u32 = false := by
        cases hu : u32 with
        | false => rfl
        | true => exact nomatch z.symm.trans ((unhide H_kF hu).2.2.2.2.2.2.2.2.2.2.2.2.2.2.2.2.2.2.2.2.2.2.2.2.1)
      have zd : u19 = true ∧ u23 = true ∧ u17 = true := by
        simp [Region.binds] at hd
        simp [hd]
      obtain ⟨rfl, rfl, rfl⟩ := zd
      subst z32_
      subst z
      clear h0 hd
      rw [if_neg (Bool.eq_false_iff.1 (by rfl))]
      try go_simp
      exact unhide hK _ _ ⟨u0, u1, u2, u3, u4, u5, u6, u7, u8, u9, u10, u11, u12, u13, u14, u15, u16, true, u18, true, u20, u21, u22, true, true, u25, u26, u27, u28, u29, u30, u31, false, dm, rfl, rfl, unhide H_kB, unhide H_c3, unhide H_c4, unhide H_c5, unhide H_c7, unhide H_c8, unhide H_c9, unhide H_c10, unhide H_c11, unhide H_c12, unhide H_c13, unhide H_c14, unhide H_c15, unhide H_c16, unhide H_c17, (fun h => rfl), (fun h => rfl), (fun h => rfl), (fun h => rfl), (fun h => ⟨(unhide H_c22 h).1, (unhide H_c22 h).2.1, rfl⟩), (fun h => ⟨(unhide H_c23 h).1, rfl⟩), (fun _ => ⟨rfl, rfl, rfl⟩), (fun h => ⟨(unhide H_c25 h).1, rfl, rfl⟩), (fun h => ⟨(unhide H_c26 h).1, rfl⟩), (fun h => rfl), (fun h => rfl), (fun h => ⟨(unhide H_c29 h).1, (unhide H_c29 h).2.1, rfl⟩), (fun h => ⟨(unhide H_c30 h).1, rfl⟩), (fun h => ⟨(unhide H_c31 h).1, (unhide H_c31 h).2.1, rfl⟩), (fun h => nomatch h)⟩
    · intro h0 hd K hK
      have z : u25 = false := h0
      have z32_ : u32 = false := by
        cases hu : u32 with
        | false => rfl
        | true => exact nomatch z.symm.trans ((unhide H_kF hu).2.2.2.2.2.2.2.2.2.2.2.2.2.2.2.2.2.2.2.2.2.2.2.2.2.1)
      have zd : u18 = true ∧ u24 = true ∧ u17 = true := by
        simp [Region.binds] at hd
        simp [hd]
      obtain ⟨rfl, rfl, rfl⟩ := zd
      subst z32_
      subst z
      clear h0 hd
      rw [if_neg (Bool.eq_false_iff.1 (by rfl))]
      try go_simp
      exact unhide hK _ _ ⟨u0, u1, u2, u3, u4, u5, u6, u7, u8, u9, u10, u11, u12, u13, u14, u15, u16, true, true, u19, u20, u21, u22, u23, true, true, u26, u27, u28, u29, u30, u31, false, dm, rfl, rfl, unhide H_kB, unhide H_c3, unhide H_c4, unhide H_c5, unhide H_c7, unhide H_c8, unhide H_c9, unhide H_c10, unhide H_c11, unhide H_c12, unhide H_c13, unhide H_c14, unhide H_c15, unhide H_c16, unhide H_c17, (fun h => rfl), (fun h => rfl), (fun h => rfl), (fun h => rfl), (fun h => ⟨(unhide H_c22 h).1, (unhide H_c22 h).2.1, rfl⟩), (fun h => ⟨(unhide H_c23 h).1, rfl⟩), (fun h => ⟨(unhide H_c24 h).1, (unhide H_c24 h).2.1, rfl⟩), (fun _ => ⟨rfl, rfl, rfl⟩), (fun h => ⟨rfl, rfl⟩), (fun h => rfl), (fun h => rfl), (fun h => ⟨(unhide H_c29 h).1, (unhide H_c29 h).2.1, rfl⟩), (fun h => ⟨(unhide H_c30 h).1, rfl⟩), (fun h => ⟨(unhide H_c31 h).1, (unhide H_c31 h).2.1, rfl⟩), (fun h => nomatch h)⟩
    · intro h0 hd K hK
      have z : u26 = false := h0
      have z32_ : u32 = false := by
        cases hu : u32 with
        | false => rfl
        | true => exact nomatch z.symm.trans ((unhide H_kF hu).2.2.2.2.2.2.2.2.2.2.2.2.2.2.2.2.2.2.2.2.2.2.2.2.2.2.1)
      have zd : u25 = true ∧ u17 = true := by
        simp [Region.binds] at hd
        simp [hd]
      obtain ⟨rfl, rfl⟩ := zd
      subst z32_
      subst z
      clear h0 hd
      rw [if_neg (Bool.eq_false_iff.1 (by rfl))]
      try go_simp
      exact unhide hK _ _ ⟨u0, u1, u2, u3, u4, u5, u6, u7, u8, u9, u10, u11, u12, u13, u14, u15, u16, true, u18, u19, u20, u21, u22, u23, u24, true, true, u27, u28, u29, u30, u31, false, dm, rfl, rfl, unhide H_kB, unhide H_c3, unhide H_c4, unhide H_c5, unhide H_c7, unhide H_c8, unhide H_c9, unhide H_c10, unhide H_c11, unhide H_c12, unhide H_c13, unhide H_c14, unhide H_c15, unhide H_c16, unhide H_c17, (fun h => rfl), (fun h => rfl), (fun h => rfl), (fun h => rfl), (fun h => ⟨(unhide H_c22 h).1, (unhide H_c22 h).2.1, rfl⟩), (fun h => ⟨(unhide H_c23 h).1, rfl⟩), (fun h => ⟨(unhide H_c24 h).1, (unhide H_c24 h).2.1, rfl⟩), (fun h => ⟨(unhide H_c25 h).1, (unhide H_c25 h).2.1, rfl⟩), (fun _ => ⟨rfl, rfl⟩), (fun h => rfl), (fun h => rfl), (fun h => ⟨(unhide H_c29 h).1, (unhide H_c29 h).2.1, rfl⟩), (fun h => ⟨(unhide H_c30 h).1, rfl⟩), (fun h => ⟨rfl, (unhide H_c31 h).2.1, rfl⟩), (fun h => nomatch h)⟩
    · intro h0 hd K hK
      have z : u27 = false := h0
      have z32_ : u32 = false := by
        cases hu : u32 with
        | false => rfl
        | true => exact nomatch z.symm.trans ((unhide H_kF hu).2.2.2.2.2.2.2.2.2.2.2.2.2.2.2.2.2.2.2.2.2.2.2.2.2.2.2.1)
      have zd : u17 = true := by
        simp [Region.binds] at hd
        simp [hd]
      obtain ⟨rfl⟩ := zd
      subst z32_
      subst z
      clear h0 hd
      rw [if_neg (Bool.eq_false_iff.1 (by rfl))]
      try go_simp
      exact unhide hK _ _ ⟨u0, u1, u2, u3, u4, u5, u6, u7, u8, u9, u10, u11, u12, u13, u14, u15, u16, true, u18, u19, u20, u21, u22, u23, u24, u25, u26, true, u28, u29, u30, u31, false, dm, rfl, rfl, unhide H_kB, unhide H_c3, unhide H_c4, unhide H_c5, unhide H_c7, unhide H_c8, unhide H_c9, unhide H_c10, unhide H_c11, unhide H_c12, unhide H_c13, unhide H_c14, unhide H_c15, unhide H_c16, unhide H_c17, (fun h => rfl), (fun h => rfl), (fun h => rfl), (fun h => rfl), (fun h => ⟨(unhide H_c22 h).1, (unhide H_c22 h).2.1, rfl⟩), (fun h => ⟨(unhide H_c23 h).1, rfl⟩), (fun h => ⟨(unhide H_c24 h).1, (unhide H_c24 h).2.1, rfl⟩), (fun h => ⟨(unhide H_c25 h).1, (unhide H_c25 h).2.1, rfl⟩), (fun h => ⟨(unhide H_c26 h).1, rfl⟩), (fun _ => rfl), (fun h => rfl), (fun h => ⟨rfl, (unhide H_c29 h).2.1, rfl⟩), (fun h => ⟨(unhide H_c30 h).1, rfl⟩), (fun h => ⟨(unhide H_c31 h).1, (unhide H_c31 h).2.1, rfl⟩), (fun h => nomatch h)⟩
    · intro h0 hd K hK
      have z : u28 = false := h0
      have z32_ : u32 = false := by
        cases hu : u32 with
        | false => rfl
        | true => exact nomatch z.symm.trans ((unhide H_kF hu).2.2.2.2.2.2.2.2.2.2.2.2.2.2.2.2.2.2.2.2.2.2.2.2.2.2.2.2.1)
      have zd : u17 = true := by
        simp [Region.binds] at hd
        simp [hd]
      obtain ⟨rfl⟩ := zd
      subst z32_
      subst z
      clear h0 hd
      rw [if_neg (Bool.eq_false_iff.1 (by rfl))]
      try go_simp
      exact unhide hK _ _ ⟨u0, u1, u2, u3, u4, u5, u6, u7, u8, u9, u10, u11, u12, u13, u14, u15, u16, true, u18, u19, u20, u21, u22, u23, u24, u25, u26, u27, true, u29, u30, u31, false, dm, rfl, rfl, unhide H_kB, unhide H_c3, unhide H_c4, unhide H_c5, unhide H_c7, unhide H_c8, unhide H_c9, unhide H_c10, unhide H_c11, unhide H_c12, unhide H_c13, unhide H_c14, unhide H_c15, unhide H_c16, unhide H_c17, (fun h => rfl), (fun h => rfl), (fun h => rfl), (fun h => rfl), (fun h => ⟨(unhide H_c22 h).1, (unhide H_c22 h).2.1, rfl⟩), (fun h => ⟨(unhide H_c23 h).1, rfl⟩), (fun h => ⟨(unhide H_c24 h).1, (unhide H_c24 h).2.1, rfl⟩), (fun h => ⟨(unhide H_c25 h).1, (unhide H_c25 h).2.1, rfl⟩), (fun h => ⟨(unhide H_c26 h).1, rfl⟩), (fun h => rfl), (fun _ => rfl), (fun h => ⟨(unhide H_c29 h).1, rfl, rfl⟩), (fun h => ⟨(unhide H_c30 h).1, rfl⟩), (fun h => ⟨(unhide H_c31 h).1, (unhide H_c31 h).2.1, rfl⟩), (fun h => nomatch h)⟩
    · intro h0 hd K hK
      have z : u29 = false := h0
      have z32_ : u32 = false := by
        cases hu : u32 with
        | false => rfl
        | true => exact nomatch z.symm.trans ((unhide H_kF hu).2.2.2.2.2.2.2.2.2.2.2.2.2.2.2.2.2.2.2.2.2.2.2.2.2.2.2.2.2.1)
      have zd : u27 = true ∧ u28 = true ∧ u17 = true := by
        simp [Region.binds] at hd
        simp [hd]
      obtain ⟨rfl, rfl, rfl⟩ := zd
      subst z32_
      subst z
      clear h0 hd
      rw [if_neg (Bool.eq_false_iff.1 (by rfl))]
      try go_simp
      exact unhide hK _ _ ⟨u0, u1, u2, u3, u4, u5, u6, u7, u8, u9, u10, u11, u12, u13, u14, u15, u16, true, u18, u19, u20, u21, u22, u23, u24, u25, u26, true, true, true, u30, u31, false, dm, rfl, rfl, unhide H_kB, unhide H_c3, unhide H_c4, unhide H_c5, unhide H_c7, unhide H_c8, unhide H_c9, unhide H_c10, unhide H_c11, unhide H_c12, unhide H_c13, unhide H_c14, unhide H_c15, unhide H_c16, unhide H_c17, (fun h => rfl), (fun h => rfl), (fun h => rfl), (fun h => rfl), (fun h => ⟨(unhide H_c22 h).1, (unhide H_c22 h).2.1, rfl⟩), (fun h => ⟨(unhide H_c23 h).1, rfl⟩), (fun h => ⟨(unhide H_c24 h).1, (unhide H_c24 h).2.1, rfl⟩), (fun h => ⟨(unhide H_c25 h).1, (unhide H_c25 h).2.1, rfl⟩), (fun h => ⟨(unhide H_c26 h).1, rfl⟩), (fun h => rfl), (fun h => rfl), (fun _ => ⟨rfl, rfl, rfl⟩), (fun h => ⟨rfl, rfl⟩), (fun h => ⟨(unhide H_c31 h).1, (unhide H_c31 h).2.1, rfl⟩), (fun h => nomatch h)⟩
    · intro h0 hd K hK
      have z : u30 = false := h0
      have z32_ : u32 = false := by
        cases hu : u32 with
        | false => rfl
        | true => exact nomatch z.symm.trans ((unhide H_kF hu).2.2.2.2.2.2.2.2.2.2.2.2.2.2.2.2.2.2.2.2.2.2.2.2.2.2.2.2.2.2.1)
      have zd : u29 = true ∧ u17 = true := by
        simp [Region.binds] at hd
        simp [hd]
      obtain ⟨rfl, rfl⟩ := zd
      subst z32_
      subst z
      clear h0 hd
      rw [if_neg (Bool.eq_false_iff.1 (by rfl))]
      try go_simp
      exact unhide hK _ _ ⟨u0, u1, u2, u3, u4, u5, u6, u7, u8, u9, u10, u11, u12, u13, u14, u15, u16, true, u18, u19, u20, u21, u22, u23, u24, u25, u26, u27, u28, true, true, u31, false, dm, rfl, rfl, unhide H_kB, unhide H_c3, unhide H_c4, unhide H_c5, unhide H_c7, unhide H_c8, unhide H_c9, unhide H_c10, unhide H_c11, unhide H_c12, unhide H_c13, unhide H_c14, unhide H_c15, unhide H_c16, unhide H_c17, (fun h => rfl), (fun h => rfl), (fun h => rfl), (fun h => rfl), (fun h => ⟨(unhide H_c22 h).1, (unhide H_c22 h).2.1, rfl⟩), (fun h => ⟨(unhide H_c23 h).1, rfl⟩), (fun h => ⟨(unhide H_c24 h).1, (unhide H_c24 h).2.1, rfl⟩), (fun h => ⟨(unhide H_c25 h).1, (unhide H_c25 h).2.1, rfl⟩), (fun h => ⟨(unhide H_c26 h).1, rfl⟩), (fun h => rfl), (fun h => rfl), (fun h => ⟨(unhide H_c29 h).1, (unhide H_c29 h).2.1, rfl⟩), (fun _ => ⟨rfl, rfl⟩), (fun h => ⟨(unhide H_c31 h).1, rfl, rfl⟩), (fun h => nomatch h)⟩
    · intro h0 hd K hK
      have z : u31 = false := h0
      have z32_ : u32 = false := by
        cases hu : u32 with
        | false => rfl
        | true => exact nomatch z.symm.trans ((unhide H_kF hu).2.2.2.2.2.2.2.2.2.2.2.2.2.2.2.2.2.2.2.2.2.2.2.2.2.2.2.2.2.2.2)
      have zd : u26 = true ∧ u30 = true ∧ u17 = true := by
        simp [Region.binds] at hd
        simp [hd]
      obtain ⟨rfl, rfl, rfl⟩ := zd
      subst z32_
      subst z
      clear h0 hd
      rw [if_neg (Bool.eq_false_iff.1 (by rfl))]
      try go_simp
      exact unhide hK _ _ ⟨u0, u1, u2, u3, u4, u5, u6, u7, u8, u9, u10, u11, u12, u13, u14, u15, u16, true, u18, u19, u20, u21, u22, u23, u24, u25, true, u27, u28, u29, true, true, false, dm, rfl, rfl, unhide H_kB, unhide H_c3, unhide H_c4, unhide H_c5, unhide H_c7, unhide H_c8, unhide H_c9, unhide H_c10, unhide H_c11, unhide H_c12, unhide H_c13, unhide H_c14, unhide H_c15, unhide H_c16, unhide H_c17, (fun h => rfl), (fun h => rfl), (fun h => rfl), (fun h => rfl), (fun h => ⟨(unhide H_c22 h).1, (unhide H_c22 h).2.1, rfl⟩), (fun h => ⟨(unhide H_c23 h).1, rfl⟩), (fun h => ⟨(unhide H_c24 h).1, (unhide H_c24 h).2.1, rfl⟩), (fun h => ⟨(unhide H_c25 h).1, (unhide H_c25 h).2.1, rfl⟩), (fun h => ⟨(unhide H_c26 h).1, rfl⟩), (fun h => rfl), (fun h => rfl), (fun h => ⟨(unhide H_c29 h).1, (unhide H_c29 h).2.1, rfl⟩), (fun h => ⟨(unhide H_c30 h).1, rfl⟩), (fun _ => ⟨rfl, rfl, rfl⟩), (fun h => nomatch h)⟩
    · intro h0 hd K hK
      have z : u32 = false := h0
      have zd0 : u17 = true ∧ u31 = true := by
        simp [Region.binds] at hd
        simp [hd]
      have zd : u17 = true ∧ u31 = true ∧ u0 = true ∧ u1 = true ∧ u2 = true ∧ u3 = true ∧ u4 = true ∧ u5 = true ∧ u6 = true ∧ u7 = true ∧ u8 = true ∧ u9 = true ∧ u10 = true ∧ u11 = true ∧ u12 = true ∧ u13 = true ∧ u14 = true ∧ u15 = true ∧ u16 = true ∧ u18 = true ∧ u19 = true ∧ u20 = true ∧ u21 = true ∧ u22 = true ∧ u23 = true ∧ u24 = true ∧ u25 = true ∧ u26 = true ∧ u27 = true ∧ u28 = true ∧ u29 = true ∧ u30 = true := ⟨zd0.1, zd0.2, (unhide H_c5 (unhide H_c7 (unhide H_c8 (unhide H_c16 (unhide H_c17 zd0.1)).1)).1).1, (unhide H_c3 (unhide H_c4 (unhide H_c5 (unhide H_c7 (unhide H_c8 (unhide H_c16 (unhide H_c17 zd0.1)).1)).1).2)).1, (unhide H_c3 (unhide H_c4 (unhide H_c5 (unhide H_c7 (unhide H_c8 (unhide H_c16 (unhide H_c17 zd0.1)).1)).1).2)).2, (unhide H_c4 (unhide H_c5 (unhide H_c7 (unhide H_c8 (unhide H_c16 (unhide H_c17 zd0.1)).1)).1).2), (unhide H_c5 (unhide H_c7 (unhide H_c8 (unhide H_c16 (unhide H_c17 zd0.1)).1)).1).2, (unhide H_c7 (unhide H_c8 (unhide H_c16 (unhide H_c17 zd0.1)).1)).1, (unhide H_c7 (unhide H_c8 (unhide H_c16 (unhide H_c17 zd0.1)).1)).2, (unhide H_c8 (unhide H_c16 (unhide H_c17 zd0.1)).1), (unhide H_c16 (unhide H_c17 zd0.1)).1, (unhide H_c14 (unhide H_c15 (unhide H_c16 (unhide H_c17 zd0.1)).2).1).1, (unhide H_c12 (unhide H_c13 (unhide H_c14 (unhide H_c15 (unhide H_c16 (unhide H_c17 zd0.1)).2).1).2.1).1).1, (unhide H_c12 (unhide H_c13 (unhide H_c14 (unhide H_c15 (unhide H_c16 (unhide H_c17 zd0.1)).2).1).2.1).1).2.1, (unhide H_c13 (unhide H_c14 (unhide H_c15 (unhide H_c16 (unhide H_c17 zd0.1)).2).1).2.1).1, (unhide H_c14 (unhide H_c15 (unhide H_c16 (unhide H_c17 zd0.1)).2).1).2.1, (unhide H_c15 (unhide H_c16 (unhide H_c17 zd0.1)).2).1, (unhide H_c16 (unhide H_c17 zd0.1)).2, (unhide H_c17 zd0.1), (unhide H_c25 (unhide H_c26 (unhide H_c31 zd0.2).1).1).1, (unhide H_c24 (unhide H_c25 (unhide H_c26 (unhide H_c31 zd0.2).1).1).2.1).1, (unhide H_c22 (unhide H_c23 (unhide H_c24 (unhide H_c25 (unhide H_c26 (unhide H_c31 zd0.2).1).1).2.1).2.1).1).1, (unhide H_c22 (unhide H_c23 (unhide H_c24 (unhide H_c25 (unhide H_c26 (unhide H_c31 zd0.2).1).1).2.1).2.1).1).2.1, (unhide H_c23 (unhide H_c24 (unhide H_c25 (unhide H_c26 (unhide H_c31 zd0.2).1).1).2.1).2.1).1, (unhide H_c24 (unhide H_c25 (unhide H_c26 (unhide H_c31 zd0.2).1).1).2.1).2.1, (unhide H_c25 (unhide H_c26 (unhide H_c31 zd0.2).1).1).2.1, (unhide H_c26 (unhide H_c31 zd0.2).1).1, (unhide H_c31 zd0.2).1, (unhide H_c29 (unhide H_c30 (unhide H_c31 zd0.2).2.1).1).1, (unhide H_c29 (unhide H_c30 (unhide H_c31 zd0.2).2.1).1).2.1, (unhide H_c30 (unhide H_c31 zd0.2).2.1).1, (unhide H_c31 zd0.2).2.1⟩
      obtain ⟨rfl, rfl, rfl, rfl, rfl, rfl, rfl, rfl, rfl, rfl, rfl, rfl, rfl, rfl, rfl, rfl, rfl, rfl, rfl, rfl, rfl, rfl, rfl, rfl, rfl, rfl, rfl, rfl, rfl, rfl, rfl, rfl⟩ := zd
      subst z
      clear h0 hd
      rw [if_pos (by rfl)]
      go_simp
      exact unhide hK _ _ ⟨true, true, true, true, true, true, true, true, true, true, true, true, true, true, true, true, true, true, true, true, true, true, true, true, true, true, true, true, true, true, true, true, true, dm, rfl, rfl, unhide H_kB, (fun _ => ⟨rfl, rfl⟩), (fun _ => rfl), (fun _ => ⟨rfl, rfl⟩), (fun _ => ⟨rfl, rfl⟩), (fun _ => rfl), (fun _ => rfl), (fun _ => rfl), (fun _ => rfl), (fun _ => ⟨rfl, rfl, rfl⟩), (fun _ => ⟨rfl, rfl⟩), (fun _ => ⟨rfl, rfl, rfl⟩), (fun _ => ⟨rfl, rfl⟩), (fun _ => ⟨rfl, rfl⟩), (fun _ => rfl), (fun _ => rfl), (fun _ => rfl), (fun _ => rfl), (fun _ => rfl), (fun _ => ⟨rfl, rfl, rfl⟩), (fun _ => ⟨rfl, rfl⟩), (fun _ => ⟨rfl, rfl, rfl⟩), (fun _ => ⟨rfl, rfl, rfl⟩), (fun _ => ⟨rfl, rfl⟩), (fun _ => rfl), (fun _ => rfl), (fun _ => ⟨rfl, rfl, rfl⟩), (fun _ => ⟨rfl, rfl⟩), (fun _ => ⟨rfl, rfl, rfl⟩), (fun _ => ⟨rfl, rfl, rfl, rfl, rfl, rfl, rfl, rfl, rfl, rfl, rfl, rfl, rfl, rfl, rfl, rfl, rfl, rfl, rfl, rfl, rfl, rfl, rfl, rfl, rfl, rfl, rfl, rfl, rfl, rfl, rfl, rfl⟩)⟩
  case hend =>
    intro Lb A W hI
    obtain ⟨u0, hI⟩ := hI
    obtain ⟨u1, hI⟩ := hI
    obtain ⟨u2, hI⟩ := hI
    obtain ⟨u3, hI⟩ := hI
    obtain ⟨u4, hI⟩ := hI
    obtain ⟨u5, hI⟩ := hI
    obtain ⟨u6, hI⟩ := hI
    obtain ⟨u7, hI⟩ := hI
    obtain ⟨u8, hI⟩ := hI
    obtain ⟨u9, hI⟩ := hI
    obtain ⟨u10, hI⟩ := hI
    obtain ⟨u11, hI⟩ := hI
    obtain ⟨u12, hI⟩ := hI
    obtain ⟨u13, hI⟩ := hI
    obtain ⟨u14, hI⟩ := hI
    obtain ⟨u15, hI⟩ := hI
    obtain ⟨u16, hI⟩ := hI
    obtain ⟨u17, hI⟩ := hI
    obtain ⟨u18, hI⟩ := hI
    obtain ⟨u19, hI⟩ := hI
    obtain ⟨u20, hI⟩ := hI
    obtain ⟨u21, hI⟩ := hI
    obtain ⟨u22, hI⟩ := hI
    obtain ⟨u23, hI⟩ := hI
    obtain ⟨u24, hI⟩ := hI
    obtain ⟨u25, hI⟩ := hI
    obtain ⟨u26, hI⟩ := hI
    obtain ⟨u27, hI⟩ := hI
    obtain ⟨u28, hI⟩ := hI
    obtain ⟨u29, hI⟩ := hI
    obtain ⟨u30, hI⟩ := hI
    obtain ⟨u31, hI⟩ := hI
    obtain ⟨u32, hI⟩ := hI
    obtain ⟨dm, hI⟩ := hI
    obtain ⟨hLb, hI⟩ := hI
    obtain ⟨hA, hI⟩ := hI
    obtain ⟨kB, hI⟩ := hI
    obtain ⟨c3, hI⟩ := hI
    obtain ⟨c4, hI⟩ := hI
    obtain ⟨c5, hI⟩ := hI
    obtain ⟨c7, hI⟩ := hI
    obtain ⟨c8, hI⟩ := hI
    obtain ⟨c9, hI⟩ := hI
    obtain ⟨c10, hI⟩ := hI
    obtain ⟨c11, hI⟩ := hI
    obtain ⟨c12, hI⟩ := hI
    obtain ⟨c13, hI⟩ := hI
    obtain ⟨c14, hI⟩ := hI
    obtain ⟨c15, hI⟩ := hI
    obtain ⟨c16, hI⟩ := hI
    obtain ⟨c17, hI⟩ := hI
    obtain ⟨c18, hI⟩ := hI
    obtain ⟨c19, hI⟩ := hI
    obtain ⟨c20, hI⟩ := hI
    obtain ⟨c21, hI⟩ := hI
    obtain ⟨c22, hI⟩ := hI
    obtain ⟨c23, hI⟩ := hI
    obtain ⟨c24, hI⟩ := hI
    obtain ⟨c25, hI⟩ := hI
    obtain ⟨c26, hI⟩ := hI
    obtain ⟨c27, hI⟩ := hI
    obtain ⟨c28, hI⟩ := hI
    obtain ⟨c29, hI⟩ := hI
    obtain ⟨c30, hI⟩ := hI
    obtain ⟨c31, hI⟩ := hI
    have kF := hI
    clear hI
    subst hLb
    subst hA
    intro hL
    have hl : u0 = true ∧ u1 = true ∧ u2 = true ∧ u3 = true ∧ u4 = true ∧ u5 = true ∧ u6 = true ∧ u7 = true ∧ u8 = true ∧ u9 = true ∧ u10 = true ∧ u11 = true ∧ u12 = true ∧ u13 = true ∧ u14 = true ∧ u15 = true ∧ u16 = true ∧ u17 = true ∧ u18 = true ∧ u19 = true ∧ u20 = true ∧ u21 = true ∧ u22 = true ∧ u23 = true ∧ u24 = true ∧ u25 = true ∧ u26 = true ∧ u27 = true ∧ u28 = true ∧ u29 = true ∧ u30 = true ∧ u31 = true ∧ u32 = true := by
      have h2 := congrArg Array.toList hL
      simpa [List.replicate] using h2
    obtain ⟨rfl, rfl, rfl, rfl, rfl, rfl, rfl, rfl, rfl, rfl, rfl, rfl, rfl, rfl, rfl, rfl, rfl, rfl, rfl, rfl, rfl, rfl, rfl, rfl, rfl, rfl, rfl, rfl, rfl, rfl, rfl, rfl, rfl⟩ := hl
    exact unhide HQ  W kB

end Go.Proofs.Ytdcecfgmfmpeeaa

namespace Go.Proofs.Ytdcecfgmfmpeeaa
open Go.ChangeShapes Go.WideShapes Go.ChangeAt Go.RowKit
set_option linter.unusedVariables false
set_option linter.unusedSimpArgs false

theorem ite2 {α : Type} (p q : Prop) [Decidable p] [Decidable q] (x : Bool → α) : (if p then if q then x true else x false else x false) = x (decide p && decide q) := by
  by_cases hp : p <;> by_cases hq : q <;> simp [hp, hq]
set_option maxHeartbeats 4000000 in
set_option maxRecDepth 100000 in
theorem mr14t {s1 s2 s3 s5 s6 s8 s9 s10 s11 s12 s13 s14 s15 s16 s17 s18 s19 s20 s21 s22 s23 s24 s25 s26 s27 s28 s29 s30 s31 s32 s33 s34 s35 s36 s37 s38 s39 s40 s41 s42 s43 s44 s45 s46 s47 s48 s49 s50 s51 s52 s53 s54 s55 s56 s57 s58 s59 s60 s61 s62 s63 s64 s65 s66 s67 s68 s69 s70 s71 s72 s73 s74 s75 s76 s77 s78 s79 s80 s81 s82 s83 s84 s85 s86 s87 s88 s89 s90 s91 s92 s93 s94 s95 s96 s97 s98 s99 s100 s101 s102 s103 s104 s105 s106 s107 s108 s109 s110 s111 s112 s113 s114 s115 s116 s117 s118 s119 s120 s121 s122 s123 s124 s125 s126 s127 s128 s129 s130 s131 s132 s133 s134 s135 s136 s137 s138 s139 s140 s141 s142 s143 s144 s145 s146 s147 s148 s149 s150 s151 s152 s153 s154 s155 s156 s157 s158 s159 s160 s161 s162 s163 s164 s165 s166 s167 s168 s169 s170 s171 s172 s173 s174 s175 s176 s177 s178 s179 s180 s181 s182 s183 s184 s185 s186 s187 s188 s189 s190 s191 s192 s193 s194 s195 s196 s197 s198 s199 s200 s201 : Value} {b n cap hb hn hc i j k : Nat} {x y hx hy : Int} {V : World} {K_ : Act → World → Prop} (hji : j = i)
    (HA0 : Hid (V.cell? ⟨b, i * 2, none⟩ = some (.int .i64 (x)))) (HA1 : Hid (V.cell? ⟨b, i * 2 + 1, none⟩ = some (.int .i64 (y)))) (HK0 : Hid (V.cell? ⟨hb, k * 2, none⟩ = some (.int .i64 (hx)))) (HK1 : Hid (V.cell? ⟨hb, k * 2 + 1, none⟩ = some (.int .i64 (hy)))) 
    (HX3 : Hid (i < n))
    (HF5 : Hid (∀ Xw, Below V.heap.size V Xw → Calls Try.prog 29 #[.slice (some ⟨b, 0, none⟩) n cap, .agg #[.int .i64 (x), .int .i64 (y)]] Xw fun e w' => e = .returned (.int .i64 (j : Int)) ∧ Below Xw.heap.size Xw w'))
    (HX12 : Hid (i < n))
    (HF14 : Hid (∀ Xw, Below V.heap.size V Xw → Calls Try.prog 29 #[.slice (some ⟨hb, 0, none⟩) hn hc, .agg #[.int .i64 (x), .int .i64 (y)]] Xw fun e w' => e = .returned (.int .i64 (k : Int)) ∧ Below Xw.heap.size Xw w'))
    (HX22 : Hid (i < n))
    (HF24 : Hid (∀ Xw, Below V.heap.size V Xw → Calls Try.prog 29 #[.slice (some ⟨hb, 0, none⟩) hn hc, .agg #[.int .i64 (x), .int .i64 (y)]] Xw fun e w' => e = .returned (.int .i64 (k : Int)) ∧ Below Xw.heap.size Xw w'))
    (HX25 : Hid (k < hn))
    (HX29 : Hid (i < n))
    (hQ : ∀ (W1 : World), Below V.heap.size V W1 → K_ { tmps := #[.slice (some ⟨b, 0, none⟩) n cap, s1, s2, s3, .slice (some ⟨hb, 0, none⟩) hn hc, s5, s6, .int .i64 (i : Int), s8, s9, s10, s11, s12, s13, s14, s15, s16, s17, s18, s19, s20, s21, s22, s23, s24, s25, s26, s27, s28, s29, s30, s31, s32, s33, s34, s35, s36, s37, s38, s39, s40, s41, s42, s43, s44, s45, s46, s47, s48, s49, .slice (some ⟨b, 0, none⟩) n cap, .slice (some ⟨b, 0, none⟩) n cap, .int .i64 (i : Int), .pointer (some ⟨b, i * 2, none⟩), .agg #[.int .i64 (x), .int .i64 (y)], .int .i64 (j : Int), .int .i64 (i : Int), .bool (true), .bool (true), .slice (some ⟨hb, 0, none⟩) hn hc, .slice (some ⟨b, 0, none⟩) n cap, .int .i64 (i : Int), .pointer (some ⟨b, i * 2, none⟩), .agg #[.int .i64 (x), .int .i64 (y)], .int .i64 (k : Int), .bool (true), .bool (true), .bool (true), .slice (some ⟨hb, 0, none⟩) hn hc, .slice (some ⟨hb, 0, none⟩) hn hc, .slice (some ⟨b, 0, none⟩) n cap, .int .i64 (i : Int), .pointer (some ⟨b, i * 2, none⟩), .agg #[.int .i64 (x), .int .i64 (y)], .int .i64 (k : Int), .pointer (some ⟨hb, k * 2, none⟩), .agg #[.int .i64 (hx), .int .i64 (hy)], .slice (some ⟨b, 0, none⟩) n cap, .int .i64 (i : Int), .pointer (some ⟨b, i * 2, none⟩), .agg #[.int .i64 (x), .int .i64 (y)], .bool (decide (hx = x) && decide (hy = y)), .bool (decide (hx = x) && decide (hy = y)), s83, s84, s85, s86, s87, s88, s89, s90, s91, s92, s93, s94, s95, s96, s97, s98, s99, s100, s101, s102, s103, s104, s105, s106, s107, s108, s109, s110, s111, s112, s113, s114, s115, s116, s117, s118, s119, s120, s121, s122, s123, s124, s125, s126, s127, s128, s129, s130, s131, s132, s133, s134, s135, s136, s137, s138, s139, s140, s141, s142, s143, s144, s145, s146, s147, s148, s149, s150, s151, s152, s153, s154, s155, s156, s157, s158, s159, s160, s161, s162, s163, s164, s165, s166, s167, s168, s169, s170, s171, s172, s173, s174, s175, s176, s177, s178, s179, s180, s181, s182, s183, s184, s185, s186, s187, s188, s189, s190, s191, s192, s193, s194, s195, s196, s197, s198, s199, s200, s201], defers := [] } W1) :
    Go.Code.wp Try.prog (rg11 14) (Only K_) { tmps := #[.slice (some ⟨b, 0, none⟩) n cap, s1, s2, s3, .slice (some ⟨hb, 0, none⟩) hn hc, s5, s6, .int .i64 (i : Int), s8, s9, s10, s11, s12, s13, s14, s15, s16, s17, s18, s19, s20, s21, s22, s23, s24, s25, s26, s27, s28, s29, s30, s31, s32, s33, s34, s35, s36, s37, s38, s39, s40, s41, s42, s43, s44, s45, s46, s47, s48, s49, s50, s51, s52, s53, s54, s55, s56, s57, s58, s59, s60, s61, s62, s63, s64, s65, s66, s67, s68, s69, s70, s71, s72, s73, s74, s75, s76, s77, s78, s79, s80, s81, s82, s83, s84, s85, s86, s87, s88, s89, s90, s91, s92, s93, s94, s95, s96, s97, s98, s99, s100, s101, s102, s103, s104, s105, s106, s107, s108, s109, s110, s111, s112, s113, s114, s115, s116, s117, s118, s119, s120, s121, s122, s123, s124, s125, s126, s127, s128, s129, s130, s131, s132, s133, s134, s135, s136, s137, s138, s139, s140, s141, s142, s143, s144, s145, s146, s147, s148, s149, s150, s151, s152, s153, s154, s155, s156, s157, s158, s159, s160, s161, s162, s163, s164, s165, s166, s167, s168, s169, s170, s171, s172, s173, s174, s175, s176, s177, s178, s179, s180, s181, s182, s183, s184, s185, s186, s187, s188, s189, s190, s191, s192, s193, s194, s195, s196, s197, s198, s199, s200, s201], defers := [] } V := by
  have HQ := hide hQ
  clear hQ
  have tm : ((j : Int) == (i : Int)) = true := beq_iff_eq.2 (by omega)
  have tm2 : (0 : Int) ≤ (k : Int) := by omega
  have tm3 : decide ((0 : Int) ≤ (k : Int)) = true := decide_eq_true tm2
  have HJI := hide hji
  clear hji
  conv => arg 2; whnf
  refine wp_region_inv2 (fun Lb A W => ∃ (u0 u1 u2 u3 u4 u5 u6 u7 u8 u9 u10 u11 u12 u13 u14 u15 u16 u17 u18 u19 u20 u21 u22 u23 u24 u25 u26 u27 u28 u29 u30 u31 u32 : Bool) (dm : Nat), Lb = #[u0, u1, u2, u3, u4, u5, u6, u7, u8, u9, u10, u11, u12, u13, u14, u15, u16, u17, u18, u19, u20, u21, u22, u23, u24, u25, u26, u27, u28, u29, u30, u31, u32] ∧ A = ({ tmps := #[.slice (some ⟨b, 0, none⟩) n cap, s1, s2, s3, .slice (some ⟨hb, 0, none⟩) hn hc, s5, s6, .int .i64 (i : Int), s8, s9, s10, s11, s12, s13, s14, s15, s16, s17, s18, s19, s20, s21, s22, s23, s24, s25, s26, s27, s28, s29, s30, s31, s32, s33, s34, s35, s36, s37, s38, s39, s40, s41, s42, s43, s44, s45, s46, s47, s48, s49, (bif u0 then .slice (some ⟨b, 0, none⟩) n cap else s50), (bif u1 then .slice (some ⟨b, 0, none⟩) n cap else s51), (bif u2 then .int .i64 (i : Int) else s52), (bif u3 then .pointer (some ⟨b, i * 2, none⟩) else s53), (bif u4 then .agg #[.int .i64 (x), .int .i64 (y)] else s54), (bif u5 then .int .i64 (j : Int) else s55), (bif u6 then .int .i64 (i : Int) else s56), (bif u7 then .bool (true) else s57), (bif u8 then .bool (true) else s58), (bif u9 then .slice (some ⟨hb, 0, none⟩) hn hc else s59), (bif u10 then .slice (some ⟨b, 0, none⟩) n cap else s60), (bif u11 then .int .i64 (i : Int) else s61), (bif u12 then .pointer (some ⟨b, i * 2, none⟩) else s62), (bif u13 then .agg #[.int .i64 (x), .int .i64 (y)] else s63), (bif u14 then .int .i64 (k : Int) else s64), (bif u15 then .bool (true) else s65), (bif u16 then .bool (true) else s66), (bif u17 then .bool (true) else s67), (bif u18 then .slice (some ⟨hb, 0, none⟩) hn hc else s68), (bif u19 then .slice (some ⟨hb, 0, none⟩) hn hc else s69), (bif u20 then .slice (some ⟨b, 0, none⟩) n cap else s70), (bif u21 then .int .i64 (i : Int) else s71), (bif u22 then .pointer (some ⟨b, i * 2, none⟩) else s72), (bif u23 then .agg #[.int .i64 (x), .int .i64 (y)] else s73), (bif u24 then .int .i64 (k : Int) else s74), (bif u25 then .pointer (some ⟨hb, k * 2, none⟩) else s75), (bif u26 then .agg #[.int .i64 (hx), .int .i64 (hy)] else s76), (bif u27 then .slice (some ⟨b, 0, none⟩) n cap else s77), (bif u28 then .int .i64 (i : Int) else s78), (bif u29 then .pointer (some ⟨b, i * 2, none⟩) else s79), (bif u30 then .agg #[.int .i64 (x), .int .i64 (y)] else s80), (bif u31 then .bool (decide (hx = x) && decide (hy = y)) else s81), (bif u32 then .bool (decide (hx = x) && decide (hy = y)) else s82), s83, s84, s85, s86, s87, s88, s89, s90, s91, s92, s93, s94, s95, s96, s97, s98, s99, s100, s101, s102, s103, s104, s105, s106, s107, s108, s109, s110, s111, s112, s113, s114, s115, s116, s117, s118, s119, s120, s121, s122, s123, s124, s125, s126, s127, s128, s129, s130, s131, s132, s133, s134, s135, s136, s137, s138, s139, s140, s141, s142, s143, s144, s145, s146, s147, s148, s149, s150, s151, s152, s153, s154, s155, s156, s157, s158, s159, s160, s161, s162, s163, s164, s165, s166, s167, s168, s169, s170, s171, s172, s173, s174, s175, s176, s177, s178, s179, s180, s181, s182, s183, s184, s185, s186, s187, s188, s189, s190, s191, s192, s193, s194, s195, s196, s197, s198, s199, s200, s201], defers := [] } : Act) ∧ Below V.heap.size V W ∧ (u3 = true → u1 = true ∧ u2 = true) ∧ (u4 = true → u3 = true) ∧ (u5 = true → u0 = true ∧ u4 = true) ∧ (u7 = true → u5 = true ∧ u6 = true) ∧ (u8 = true → u7 = true) ∧ (u9 = true → u8 = true) ∧ (u10 = true → u8 = true) ∧ (u11 = true → u8 = true) ∧ (u12 = true → u10 = true ∧ u11 = true ∧ u8 = true) ∧ (u13 = true → u12 = true ∧ u8 = true) ∧ (u14 = true → u9 = true ∧ u13 = true ∧ u8 = true) ∧ (u15 = true → u14 = true ∧ u8 = true) ∧ (u16 = true → u8 = true ∧ u15 = true) ∧ (u17 = true → u16 = true) ∧ (u18 = true → u17 = true) ∧ (u19 = true → u17 = true) ∧ (u20 = true → u17 = true) ∧ (u21 = true → u17 = true) ∧ (u22 = true → u20 = true ∧ u21 = true ∧ u17 = true) ∧ (u23 = true → u22 = true ∧ u17 = true) ∧ (u24 = true → u19 = true ∧ u23 = true ∧ u17 = true) ∧ (u25 = true → u18 = true ∧ u24 = true ∧ u17 = true) ∧ (u26 = true → u25 = true ∧ u17 = true) ∧ (u27 = true → u17 = true) ∧ (u28 = true → u17 = true) ∧ (u29 = true → u27 = true ∧ u28 = true ∧ u17 = true) ∧ (u30 = true → u29 = true ∧ u17 = true) ∧ (u31 = true → u26 = true ∧ u30 = true ∧ u17 = true) ∧ (u32 = true → u0 = true ∧ u1 = true ∧ u2 = true ∧ u3 = true ∧ u4 = true ∧ u5 = true ∧ u6 = true ∧ u7 = true ∧ u8 = true ∧ u9 = true ∧ u10 = true ∧ u11 = true ∧ u12 = true ∧ u13 = true ∧ u14 = true ∧ u15 = true ∧ u16 = true ∧ u17 = true ∧ u18 = true ∧ u19 = true ∧ u20 = true ∧ u21 = true ∧ u22 = true ∧ u23 = true ∧ u24 = true ∧ u25 = true ∧ u26 = true ∧ u27 = true ∧ u28 = true ∧ u29 = true ∧ u30 = true ∧ u31 = true)) (by kernel_rfl) (by kernel_rfl) ?h0 ?hstep ?hend
  case h0 =>
    exact ⟨false, false, false, false, false, false, false, false, false, false, false, false, false, false, false, false, false, false, false, false, false, false, false, false, false, false, false, false, false, false, false, false, false, 0, rfl, rfl, Below.drew (Below.refl _ _), (fun h => nomatch h), (fun h => nomatch h), (fun h => nomatch h), (fun h => nomatch h), (fun h => nomatch h), (fun h => nomatch h), (fun h => nomatch h), (fun h => nomatch h), (fun h => nomatch h), (fun h => nomatch h), (fun h => nomatch h), (fun h => nomatch h), (fun h => nomatch h), (fun h => nomatch h), (fun h => nomatch h), (fun h => nomatch h), (fun h => nomatch h), (fun h => nomatch h), (fun h => nomatch h), (fun h => nomatch h), (fun h => nomatch h), (fun h => nomatch h), (fun h => nomatch h), (fun h => nomatch h), (fun h => nomatch h), (fun h => nomatch h), (fun h => nomatch h), (fun h => nomatch h), (fun h => nomatch h)⟩
  case hstep =>
    intro Lb A W hI
    obtain ⟨u0, hI⟩ := hI
    obtain ⟨u1, hI⟩ := hI
    obtain ⟨u2, hI⟩ := hI
    obtain ⟨u3, hI⟩ := hI
    obtain ⟨u4, hI⟩ := hI
    obtain ⟨u5, hI⟩ := hI
    obtain ⟨u6, hI⟩ := hI
    obtain ⟨u7, hI⟩ := hI
    obtain ⟨u8, hI⟩ := hI
    obtain ⟨u9, hI⟩ := hI
    obtain ⟨u10, hI⟩ := hI
    obtain ⟨u11, hI⟩ := hI
    obtain ⟨u12, hI⟩ := hI
    obtain ⟨u13, hI⟩ := hI
    obtain ⟨u14, hI⟩ := hI
    obtain ⟨u15, hI⟩ := hI
    obtain ⟨u16, hI⟩ := hI
    obtain ⟨u17, hI⟩ := hI
    obtain ⟨u18, hI⟩ := hI
    obtain ⟨u19, hI⟩ := hI
    obtain ⟨u20, hI⟩ := hI
    obtain ⟨u21, hI⟩ := hI
    obtain ⟨u22, hI⟩ := hI
    obtain ⟨u23, hI⟩ := hI
    obtain ⟨u24, hI⟩ := hI
    obtain ⟨u25, hI⟩ := hI
    obtain ⟨u26, hI⟩ := hI
    obtain ⟨u27, hI⟩ := hI
    obtain ⟨u28, hI⟩ := hI
    obtain ⟨u29, hI⟩ := hI
    obtain ⟨u30, hI⟩ := hI
    obtain ⟨u31, hI⟩ := hI
    obtain ⟨u32, hI⟩ := hI
    obtain ⟨dm, hI⟩ := hI
    obtain ⟨hLb, hI⟩ := hI
    obtain ⟨hA, hI⟩ := hI
    obtain ⟨kB, hI⟩ := hI
    obtain ⟨c3, hI⟩ := hI
    obtain ⟨c4, hI⟩ := hI
    obtain ⟨c5, hI⟩ := hI
    obtain ⟨c7, hI⟩ := hI
    obtain ⟨c8, hI⟩ := hI
    obtain ⟨c9, hI⟩ := hI
    obtain ⟨c10, hI⟩ := hI
    obtain ⟨c11, hI⟩ := hI
    obtain ⟨c12, hI⟩ := hI
    obtain ⟨c13, hI⟩ := hI
    obtain ⟨c14, hI⟩ := hI
    obtain ⟨c15, hI⟩ := hI
    obtain ⟨c16, hI⟩ := hI
    obtain ⟨c17, hI⟩ := hI
    obtain ⟨c18, hI⟩ := hI
    obtain ⟨c19, hI⟩ := hI
    obtain ⟨c20, hI⟩ := hI
    obtain ⟨c21, hI⟩ := hI
    obtain ⟨c22, hI⟩ := hI
    obtain ⟨c23, hI⟩ := hI
    obtain ⟨c24, hI⟩ := hI
    obtain ⟨c25, hI⟩ := hI
    obtain ⟨c26, hI⟩ := hI
    obtain ⟨c27, hI⟩ := hI
    obtain ⟨c28, hI⟩ := hI
    obtain ⟨c29, hI⟩ := hI
    obtain ⟨c30, hI⟩ := hI
    obtain ⟨c31, hI⟩ := hI
    have kF := hI
    clear hI
    subst hLb
    subst hA
    have H_kB := hide kB
    have H_c3 := hide c3
    have H_c4 := hide c4
    have H_c5 := hide c5
    have H_c7 := hide c7
    have H_c8 := hide c8
    have H_c9 := hide c9
    have H_c10 := hide c10
    have H_c11 := hide c11
    have H_c12 := hide c12
    have H_c13 := hide c13
    have H_c14 := hide c14
    have H_c15 := hide c15
    have H_c16 := hide c16
    have H_c17 := hide c17
    have H_c18 := hide c18
    have H_c19 := hide c19
    have H_c20 := hide c20
    have H_c21 := hide c21
    have H_c22 := hide c22
    have H_c23 := hide c23
    have H_c24 := hide c24
    have H_c25 := hide c25
    have H_c26 := hide c26
    have H_c27 := hide c27
    have H_c28 := hide c28
    have H_c29 := hide c29
    have H_c30 := hide c30
    have H_c31 := hide c31
    have H_kF := hide kF
    clear kB c3 c4 c5 c7 c8 c9 c10 c11 c12 c13 c14 c15 c16 c17 c18 c19 c20 c21 c22 c23 c24 c25 c26 c27 c28 c29 c30 c31 kF
    refine ⟨?_, ?_, ?_, ?_, ?_, ?_, ?_, ?_, ?_, ?_, ?_, ?_, ?_, ?_, ?_, ?_, ?_, ?_, ?_, ?_, ?_, ?_, ?_, ?_, ?_, ?_, ?_, ?_, ?_, ?_, ?_, ?_, ?_, trivial⟩
    · intro h0 hd K hK
      have z : u0 = false := h0
      have z32_ : u32 = false := by
        cases hu : u32 with
        | false => rfl
        | true => exact nomatch z.symm.trans ((unhide H_kF hu).1)
      subst z32_
      subst z
      clear h0 hd
      rw [if_pos (by rfl)]
      go_simp
      exact unhide hK _ _ ⟨true, u1, u2, u3, u4, u5, u6, u7, u8, u9, u10, u11, u12, u13, u14, u15, u16, u17, u18, u19, u20, u21, u22, u23, u24, u25, u26, u27, u28, u29, u30, u31, false, dm, rfl, rfl, unhide H_kB, unhide H_c3, unhide H_c4, (fun h => ⟨rfl, (unhide H_c5 h).2⟩), unhide H_c7, unhide H_c8, unhide H_c9, unhide H_c10, unhide H_c11, unhide H_c12, unhide H_c13, unhide H_c14, unhide H_c15, unhide H_c16, unhide H_c17, unhide H_c18, unhide H_c19, unhide H_c20, unhide H_c21, unhide H_c22, unhide H_c23, unhide H_c24, unhide H_c25, unhide H_c26, unhide H_c27, unhide H_c28, unhide H_c29, unhide H_c30, unhide H_c31, (fun h => nomatch h)⟩
    · intro h0 hd K hK
      have z : u1 = false := h0
      have z32_ : u32 = false := by
        cases hu : u32 with
        | false => rfl
        | true => exact nomatch z.symm.trans ((unhide H_kF hu).2.1)
      subst z32_
      subst z
      clear h0 hd
      rw [if_pos (by rfl)]
      go_simp
      exact unhide hK _ _ ⟨u0, true, u2, u3, u4, u5, u6, u7, u8, u9, u10, u11, u12, u13, u14, u15, u16, u17, u18, u19, u20, u21, u22, u23, u24, u25, u26, u27, u28, u29, u30, u31, false, dm, rfl, rfl, unhide H_kB, (fun h => ⟨rfl, (unhide H_c3 h).2⟩), unhide H_c4, unhide H_c5, unhide H_c7, unhide H_c8, unhide H_c9, unhide H_c10, unhide H_c11, unhide H_c12, unhide H_c13, unhide H_c14, unhide H_c15, unhide H_c16, unhide H_c17, unhide H_c18, unhide H_c19, unhide H_c20, unhide H_c21, unhide H_c22, unhide H_c23, unhide H_c24, unhide H_c25, unhide H_c26, unhide H_c27, unhide H_c28, unhide H_c29, unhide H_c30, unhide H_c31, (fun h => nomatch h)⟩
    · intro h0 hd K hK
      have z : u2 = false := h0
      have z32_ : u32 = false := by
        cases hu : u32 with
        | false => rfl
        | true => exact nomatch z.symm.trans ((unhide H_kF hu).2.2.1)
      subst z32_
      subst z
      clear h0 hd
      rw [if_pos (by rfl)]
      go_simp
      exact unhide hK _ _ ⟨u0, u1, true, u3, u4, u5, u6, u7, u8, u9, u10, u11, u12, u13, u14, u15, u16, u17, u18, u19, u20, u21, u22, u23, u24, u25, u26, u27, u28, u29, u30, u31, false, dm, rfl, rfl, unhide H_kB, (fun h => ⟨(unhide H_c3 h).1, rfl⟩), unhide H_c4, unhide H_c5, unhide H_c7, unhide H_c8, unhide H_c9, unhide H_c10, unhide H_c11, unhide H_c12, unhide H_c13, unhide H_c14, unhide H_c15, unhide H_c16, unhide H_c17, unhide H_c18, unhide H_c19, unhide H_c20, unhide H_c21, unhide H_c22, unhide H_c23, unhide H_c24, unhide H_c25, unhide H_c26, unhide H_c27, unhide H_c28, unhide H_c29, unhide H_c30, unhide H_c31, (fun h => nomatch h)⟩
    · intro h0 hd K hK
      have z : u3 = false := h0
      have z32_ : u32 = false := by
        cases hu : u32 with
        | false => rfl
        | true => exact nomatch z.symm.trans ((unhide H_kF hu).2.2.2.1)
      have zd : u1 = true ∧ u2 = true := by
        simp [Region.binds] at hd
        simp [hd]
      obtain ⟨rfl, rfl⟩ := zd
      subst z32_
      subst z
      clear h0 hd
      rw [if_pos (by rfl)]
      have q1 : i < n := unhide HX3
      have q2 : (i : Int) < (n : Int) := by omega
      go_simp
      exact unhide hK _ _ ⟨u0, true, true, true, u4, u5, u6, u7, u8, u9, u10, u11, u12, u13, u14, u15, u16, u17, u18, u19, u20, u21, u22, u23, u24, u25, u26, u27, u28, u29, u30, u31, false, dm, rfl, rfl, unhide H_kB, (fun _ => ⟨rfl, rfl⟩), (fun h => rfl), unhide H_c5, unhide H_c7, unhide H_c8, unhide H_c9, unhide H_c10, unhide H_c11, unhide H_c12, unhide H_c13, unhide H_c14, unhide H_c15, unhide H_c16, unhide H_c17, unhide H_c18, unhide H_c19, unhide H_c20, unhide H_c21, unhide H_c22, unhide H_c23, unhide H_c24, unhide H_c25, unhide H_c26, unhide H_c27, unhide H_c28, unhide H_c29, unhide H_c30, unhide H_c31, (fun h => nomatch h)⟩
    · intro h0 hd K hK
      have z : u4 = false := h0
      have z32_ : u32 = false := by
        cases hu : u32 with
        | false => rfl
        | true => exact nomatch z.symm.trans ((unhide H_kF hu).2.2.2.2.1)
      have zd : u3 = true := by
        simp [Region.binds] at hd
        simp [hd]
      obtain ⟨rfl⟩ := zd
      subst z32_
      subst z
      clear h0 hd
      rw [if_pos (by rfl)]
      have c0 := keep1 (unhide H_kB) (unhide HA0)
      have c1 := keep1 (unhide H_kB) (unhide HA1)
      go_simp
      exact unhide hK _ _ ⟨u0, u1, u2, true, true, u5, u6, u7, u8, u9, u10, u11, u12, u13, u14, u15, u16, u17, u18, u19, u20, u21, u22, u23, u24, u25, u26, u27, u28, u29, u30, u31, false, dm, rfl, rfl, unhide H_kB, unhide H_c3, (fun _ => rfl), (fun h => ⟨(unhide H_c5 h).1, rfl⟩), unhide H_c7, unhide H_c8, unhide H_c9, unhide H_c10, unhide H_c11, unhide H_c12, unhide H_c13, unhide H_c14, unhide H_c15, unhide H_c16, unhide H_c17, unhide H_c18, unhide H_c19, unhide H_c20, unhide H_c21, unhide H_c22, unhide H_c23, unhide H_c24, unhide H_c25, unhide H_c26, unhide H_c27, unhide H_c28, unhide H_c29, unhide H_c30, unhide H_c31, (fun h => nomatch h)⟩
    · intro h0 hd K hK
      have z : u5 = false := h0
      have z32_ : u32 = false := by
        cases hu : u32 with
        | false => rfl
        | true => exact nomatch z.symm.trans ((unhide H_kF hu).2.2.2.2.2.1)
      have zd : u0 = true ∧ u4 = true := by
        simp [Region.binds] at hd
        simp [hd]
      obtain ⟨rfl, rfl⟩ := zd
      subst z32_
      subst z
      clear h0 hd
      rw [if_pos (by rfl)]
      go_simp
      refine (unhide HF5 W (unhide H_kB)).mono ?_
      rintro e w8 ⟨rfl, hb8⟩
      exact unhide hK _ _ ⟨true, u1, u2, u3, true, true, u6, u7, u8, u9, u10, u11, u12, u13, u14, u15, u16, u17, u18, u19, u20, u21, u22, u23, u24, u25, u26, u27, u28, u29, u30, u31, false, dm, rfl, rfl, bc (unhide H_kB) hb8, unhide H_c3, unhide H_c4, (fun _ => ⟨rfl, rfl⟩), (fun h => ⟨rfl, (unhide H_c7 h).2⟩), unhide H_c8, unhide H_c9, unhide H_c10, unhide H_c11, unhide H_c12, unhide H_c13, unhide H_c14, unhide H_c15, unhide H_c16, unhide H_c17, unhide H_c18, unhide H_c19, unhide H_c20, unhide H_c21, unhide H_c22, unhide H_c23, unhide H_c24, unhide H_c25, unhide H_c26, unhide H_c27, unhide H_c28, unhide H_c29, unhide H_c30, unhide H_c31, (fun h => nomatch h)⟩
    · intro h0 hd K hK
      have z : u6 = false := h0
      have z32_ : u32 = false := by
        cases hu : u32 with
        | false => rfl
        | true => exact nomatch z.symm.trans ((unhide H_kF hu).2.2.2.2.2.2.1)
      subst z32_
      subst z
      clear h0 hd
      rw [if_pos (by rfl)]
      go_simp
      exact unhide hK _ _ ⟨u0, u1, u2, u3, u4, u5, true, u7, u8, u9, u10, u11, u12, u13, u14, u15, u16, u17, u18, u19, u20, u21, u22, u23, u24, u25, u26, u27, u28, u29, u30, u31, false, dm, rfl, rfl, unhide H_kB, unhide H_c3, unhide H_c4, unhide H_c5, (fun h => ⟨(unhide H_c7 h).1, rfl⟩), unhide H_c8, unhide H_c9, unhide H_c10, unhide H_c11, unhide H_c12, unhide H_c13, unhide H_c14, unhide H_c15, unhide H_c16, unhide H_c17, unhide H_c18, unhide H_c19, unhide H_c20, unhide H_c21, unhide H_c22, unhide H_c23, unhide H_c24, unhide H_c25, unhide H_c26, unhide H_c27, unhide H_c28, unhide H_c29, unhide H_c30, unhide H_c31, (fun h => nomatch h)⟩
    · intro h0 hd K hK
      have z : u7 = false := h0
      have z32_ : u32 = false := by
        cases hu : u32 with
        | false => rfl
        | true => exact nomatch z.symm.trans ((unhide H_kF hu).2.2.2.2.2.2.2.1)
      have zd : u5 = true ∧ u6 = true := by
        simp [Region.binds] at hd
        simp [hd]
      obtain ⟨rfl, rfl⟩ := zd
      subst z32_
      subst z
      clear h0 hd
      rw [if_pos (by rfl)]
      go_simp
      exact unhide hK _ _ ⟨u0, u1, u2, u3, u4, true, true, true, u8, u9, u10, u11, u12, u13, u14, u15, u16, u17, u18, u19, u20, u21, u22, u23, u24, u25, u26, u27, u28, u29, u30, u31, false, dm, rfl, rfl, unhide H_kB, unhide H_c3, unhide H_c4, unhide H_c5, (fun _ => ⟨rfl, rfl⟩), (fun h => rfl), unhide H_c9, unhide H_c10, unhide H_c11, unhide H_c12, unhide H_c13, unhide H_c14, unhide H_c15, unhide H_c16, unhide H_c17, unhide H_c18, unhide H_c19, unhide H_c20, unhide H_c21, unhide H_c22, unhide H_c23, unhide H_c24, unhide H_c25, unhide H_c26, unhide H_c27, unhide H_c28, unhide H_c29, unhide H_c30, unhide H_c31, (fun h => nomatch h)⟩
    · intro h0 hd K hK
      have z : u8 = false := h0
      have z32_ : u32 = false := by
        cases hu : u32 with
        | false => rfl
        | true => exact nomatch z.symm.trans ((unhide H_kF hu).2.2.2.2.2.2.2.2.1)
      have zd : u7 = true := by
        simp [Region.binds] at hd
        simp [hd]
      obtain ⟨rfl⟩ := zd
      subst z32_
      subst z
      clear h0 hd
      rw [if_pos (by rfl)]
      go_simp
      exact unhide hK _ _ ⟨u0, u1, u2, u3, u4, u5, u6, true, true, u9, u10, u11, u12, u13, u14, u15, u16, u17, u18, u19, u20, u21, u22, u23, u24, u25, u26, u27, u28, u29, u30, u31, false, dm, rfl, rfl, unhide H_kB, unhide H_c3, unhide H_c4, unhide H_c5, unhide H_c7, (fun _ => rfl), (fun h => rfl), (fun h => rfl), (fun h => rfl), (fun h => ⟨(unhide H_c12 h).1, (unhide H_c12 h).2.1, rfl⟩), (fun h => ⟨(unhide H_c13 h).1, rfl⟩), (fun h => ⟨(unhide H_c14 h).1, (unhide H_c14 h).2.1, rfl⟩), (fun h => ⟨(unhide H_c15 h).1, rfl⟩), (fun h => ⟨rfl, (unhide H_c16 h).2⟩), unhide H_c17, unhide H_c18, unhide H_c19, unhide H_c20, unhide H_c21, unhide H_c22, unhide H_c23, unhide H_c24, unhide H_c25, unhide H_c26, unhide H_c27, unhide H_c28, unhide H_c29, unhide H_c30, unhide H_c31, (fun h => nomatch h)⟩
    · intro h0 hd K hK
      have z : u9 = false := h0
      have z32_ : u32 = false := by
        cases hu : u32 with
        | false => rfl
        | true => exact nomatch z.symm.trans ((unhide H_kF hu).2.2.2.2.2.2.2.2.2.1)
      have zd : u8 = true := by
        simp [Region.binds] at hd
        simp [hd]
      obtain ⟨rfl⟩ := zd
      subst z32_
      subst z
      clear h0 hd
      rw [if_pos (by rfl)]
      go_simp
      exact unhide hK _ _ ⟨u0, u1, u2, u3, u4, u5, u6, u7, true, true, u10, u11, u12, u13, u14, u15, u16, u17, u18, u19, u20, u21, u22, u23, u24, u25, u26, u27, u28, u29, u30, u31, false, dm, rfl, rfl, unhide H_kB, unhide H_c3, unhide H_c4, unhide H_c5, unhide H_c7, unhide H_c8, (fun _ => rfl), (fun h => rfl), (fun h => rfl), (fun h => ⟨(unhide H_c12 h).1, (unhide H_c12 h).2.1, rfl⟩), (fun h => ⟨(unhide H_c13 h).1, rfl⟩), (fun h => ⟨rfl, (unhide H_c14 h).2.1, rfl⟩), (fun h => ⟨(unhide H_c15 h).1, rfl⟩), (fun h => ⟨rfl, (unhide H_c16 h).2⟩), unhide H_c17, unhide H_c18, unhide H_c19, unhide H_c20, unhide H_c21, unhide H_c22, unhide H_c23, unhide H_c24, unhide H_c25, unhide H_c26, unhide H_c27, unhide H_c28, unhide H_c29, unhide H_c30, unhide H_c31, (fun h => nomatch h)⟩
    · intro h0 hd K hK
      have z : u10 = false := h0
      have z32_ : u32 = false := by
        cases hu : u32 with
        | false => rfl
        | true => exact nomatch z.symm.trans ((unhide H_kF hu).2.2.2.2.2.2.2.2.2.2.1)
      have zd : u8 = true := by
        simp [Region.binds] at hd
        simp [hd]
      obtain ⟨rfl⟩ := zd
      subst z32_
      subst z
      clear h0 hd
      rw [if_pos (by rfl)]
      go_simp
      exact unhide hK _ _ ⟨u0, u1, u2, u3, u4, u5, u6, u7, true, u9, true, u11, u12, u13, u14, u15, u16, u17, u18, u19, u20, u21, u22, u23, u24, u25, u26, u27, u28, u29, u30, u31, false, dm, rfl, rfl, unhide H_kB, unhide H_c3, unhide H_c4, unhide H_c5, unhide H_c7, unhide H_c8, (fun h => rfl), (fun _ => rfl), (fun h => rfl), (fun h => ⟨rfl, (unhide H_c12 h).2.1, rfl⟩), (fun h => ⟨(unhide H_c13 h).1, rfl⟩), (fun h => ⟨(unhide H_c14 h).1, (unhide H_c14 h).2.1, rfl⟩), (fun h => ⟨(unhide H_c15 h).1, rfl⟩), (fun h => ⟨rfl, (unhide H_c16 h).2⟩), unhide H_c17, unhide H_c18, unhide H_c19, unhide H_c20, unhide H_c21, unhide H_c22, unhide H_c23, unhide H_c24, unhide H_c25, unhide H_c26, unhide H_c27, unhide H_c28, unhide H_c29, unhide H_c30, unhide H_c31, (fun h => nomatch h)⟩
    · intro h0 hd K hK
      have z : u11 = false := h0
      have z32_ : u32 = false := by
        cases hu : u32 with
        | false => rfl
        | true => exact nomatch z.symm.trans ((unhide H_kF hu).2.2.2.2.2.2.2.2.2.2.2.1)
      have zd : u8 = true := by
        simp [Region.binds] at hd
        simp [hd]
      obtain ⟨rfl⟩ := zd
      subst z32_
      subst z
      clear h0 hd
      rw [if_pos (by rfl)]
      go_simp
      exact unhide hK _ _ ⟨u0, u1, u2, u3, u4, u5, u6, u7, true, u9, u10, true, u12, u13, u14, u15, u16, u17, u18, u19, u20, u21, u22, u23, u24, u25, u26, u27, u28, u29, u30, u31, false, dm, rfl, rfl, unhide H_kB, unhide H_c3, unhide H_c4, unhide H_c5, unhide H_c7, unhide H_c8, (fun h => rfl), (fun h => rfl), (fun _ => rfl), (fun h => ⟨(unhide H_c12 h).1, rfl, rfl⟩), (fun h => ⟨(unhide H_c13 h).1, rfl⟩), (fun h => ⟨(unhide H_c14 h).1, (unhide H_c14 h).2.1, rfl⟩), (fun h => ⟨(unhide H_c15 h).1, rfl⟩), (fun h => ⟨rfl, (unhide H_c16 h).2⟩), unhide H_c17, unhide H_c18, unhide H_c19, unhide H_c20, unhide H_c21, unhide H_c22, unhide H_c23, unhide H_c24, unhide H_c25, unhide H_c26, unhide H_c27, unhide H_c28, unhide H_c29, unhide H_c30, unhide H_c31, (fun h => nomatch h)⟩
    · intro h0 hd K hK
      have z : u12 = false := h0
      have z32_ : u32 = false := by
        cases hu : u32 with
        | false => rfl
        | true => exact nomatch z.symm.trans ((unhide H_kF hu).2.2.2.2.2.2.2.2.2.2.2.2.1)
      have zd : u10 = true ∧ u11 = true ∧ u8 = true := by
        simp [Region.binds] at hd
        simp [hd]
      obtain ⟨rfl, rfl, rfl⟩ := zd
      subst z32_
      subst z
      clear h0 hd
      rw [if_pos (by rfl)]
      have q1 : i < n := unhide HX12
      have q2 : (i : Int) < (n : Int) := by omega
      go_simp
      exact unhide hK _ _ ⟨u0, u1, u2, u3, u4, u5, u6, u7, true, u9, true, true, true, u13, u14, u15, u16, u17, u18, u19, u20, u21, u22, u23, u24, u25, u26, u27, u28, u29, u30, u31, false, dm, rfl, rfl, unhide H_kB, unhide H_c3, unhide H_c4, unhide H_c5, unhide H_c7, unhide H_c8, (fun h => rfl), (fun h => rfl), (fun h => rfl), (fun _ => ⟨rfl, rfl, rfl⟩), (fun h => ⟨rfl, rfl⟩), (fun h => ⟨(unhide H_c14 h).1, (unhide H_c14 h).2.1, rfl⟩), (fun h => ⟨(unhide H_c15 h).1, rfl⟩), (fun h => ⟨rfl, (unhide H_c16 h).2⟩), unhide H_c17, unhide H_c18, unhide H_c19, unhide H_c20, unhide H_c21, unhide H_c22, unhide H_c23, unhide H_c24, unhide H_c25, unhide H_c26, unhide H_c27, unhide H_c28, unhide H_c29, unhide H_c30, unhide H_c31, (fun h => nomatch h)⟩
    · intro h0 hd K hK
      have z : u13 = false := h0
      have z32_ : u32 = false := by
        cases hu : u32 with
        | false => rfl
        | true => exact nomatch z.symm.trans ((unhide H_kF hu).2.2.2.2.2.2.2.2.2.2.2.2.2.1)
      have zd : u12 = true ∧ u8 = true := by
        simp [Region.binds] at hd
        simp [hd]
      obtain ⟨rfl, rfl⟩ := zd
      subst z32_
      subst z
      clear h0 hd
      rw [if_pos (by rfl)]
      have c0 := keep1 (unhide H_kB) (unhide HA0)
      have c1 := keep1 (unhide H_kB) (unhide HA1)
      go_simp
      exact unhide hK _ _ ⟨u0, u1, u2, u3, u4, u5, u6, u7, true, u9, u10, u11, true, true, u14, u15, u16, u17, u18, u19, u20, u21, u22, u23, u24, u25, u26, u27, u28, u29, u30, u31, false, dm, rfl, rfl, unhide H_kB, unhide H_c3, unhide H_c4, unhide H_c5, unhide H_c7, unhide H_c8, (fun h => rfl), (fun h => rfl), (fun h => rfl), (fun h => ⟨(unhide H_c12 h).1, (unhide H_c12 h).2.1, rfl⟩), (fun _ => ⟨rfl, rfl⟩), (fun h => ⟨(unhide H_c14 h).1, rfl, rfl⟩), (fun h => ⟨(unhide H_c15 h).1, rfl⟩), (fun h => ⟨rfl, (unhide H_c16 h).2⟩), unhide H_c17, unhide H_c18, unhide H_c19, unhide H_c20, unhide H_c21, unhide H_c22, unhide H_c23, unhide H_c24, unhide H_c25, unhide H_c26, unhide H_c27, unhide H_c28, unhide H_c29, unhide H_c30, unhide H_c31, (fun h => nomatch h)⟩
    · intro h0 hd K hK
      have z : u14 = false := h0
      have z32_ : u32 = false := by
        cases hu : u32 with
        | false => rfl
        | true => exact nomatch z.symm.trans ((unhide H_kF hu).2.2.2.2.2.2.2.2.2.2.2.2.2.2.1)
      have zd : u9 = true ∧ u13 = true ∧ u8 = true := by
        simp [Region.binds] at hd
        simp [hd]
      obtain ⟨rfl, rfl, rfl⟩ := zd
      subst z32_
      subst z
      clear h0 hd
      rw [if_pos (by rfl)]
      go_simp
      refine (unhide HF14 W (unhide H_kB)).mono ?_
      rintro e w8 ⟨rfl, hb8⟩
      exact unhide hK _ _ ⟨u0, u1, u2, u3, u4, u5, u6, u7, true, true, u10, u11, u12, true, true, u15, u16, u17, u18, u19, u20, u21, u22, u23, u24, u25, u26, u27, u28, u29, u30, u31, false, dm, rfl, rfl, bc (unhide H_kB) hb8, unhide H_c3, unhide H_c4, unhide H_c5, unhide H_c7, unhide H_c8, (fun h => rfl), (fun h => rfl), (fun h => rfl), (fun h => ⟨(unhide H_c12 h).1, (unhide H_c12 h).2.1, rfl⟩), (fun h => ⟨(unhide H_c13 h).1, rfl⟩), (fun _ => ⟨rfl, rfl, rfl⟩), (fun h => ⟨rfl, rfl⟩), (fun h => ⟨rfl, (unhide H_c16 h).2⟩), unhide H_c17, unhide H_c18, unhide H_c19, unhide H_c20, unhide H_c21, unhide H_c22, unhide H_c23, unhide H_c24, unhide H_c25, unhide H_c26, unhide H_c27, unhide H_c28, unhide H_c29, unhide H_c30, unhide H_c31, (fun h => nomatch h)⟩
    · intro h0 hd K hK
      have z : u15 = false := h0
      have z32_ : u32 = false := by
        cases hu : u32 with
        | false => rfl
        | true => exact nomatch z.symm.trans ((unhide H_kF hu).2.2.2.2.2.2.2.2.2.2.2.2.2.2.2.1)
      have zd : u14 = true ∧ u8 = true := by
        simp [Region.binds] at hd
        simp [hd]
      obtain ⟨rfl, rfl⟩ := zd
      subst z32_
      subst z
      clear h0 hd
      rw [if_pos (by rfl)]
      go_simp
      exact unhide hK _ _ ⟨u0, u1, u2, u3, u4, u5, u6, u7, true, u9, u10, u11, u12, u13, true, true, u16, u17, u18, u19, u20, u21, u22, u23, u24, u25, u26, u27, u28, u29, u30, u31, false, dm, rfl, rfl, unhide H_kB, unhide H_c3, unhide H_c4, unhide H_c5, unhide H_c7, unhide H_c8, (fun h => rfl), (fun h => rfl), (fun h => rfl), (fun h => ⟨(unhide H_c12 h).1, (unhide H_c12 h).2.1, rfl⟩), (fun h => ⟨(unhide H_c13 h).1, rfl⟩), (fun h => ⟨(unhide H_c14 h).1, (unhide H_c14 h).2.1, rfl⟩), (fun _ => ⟨rfl, rfl⟩), (fun h => ⟨rfl, rfl⟩), unhide H_c17, unhide H_c18, unhide H_c19, unhide H_c20, unhide H_c21, unhide H_c22, unhide H_c23, unhide H_c24, unhide H_c25, unhide H_c26, unhide H_c27, unhide H_c28, unhide H_c29, unhide H_c30, unhide H_c31, (fun h => nomatch h)⟩
    · intro h0 hd K hK
      have z : u16 = false := h0
      have z32_ : u32 = false := by
        cases hu : u32 with
        | false => rfl
        | true => exact nomatch z.symm.trans ((unhide H_kF hu).2.2.2.2.2.2.2.2.2.2.2.2.2.2.2.2.1)
      have zd : u8 = true ∧ u15 = true := by
        simp [Region.binds] at hd
        simp [hd]
      obtain ⟨rfl, rfl⟩ := zd
      subst z32_
      subst z
      clear h0 hd
      rw [if_pos (by rfl)]
      go_simp
      exact unhide hK _ _ ⟨u0, u1, u2, u3, u4, u5, u6, u7, true, u9, u10, u11, u12, u13, u14, true, true, u17, u18, u19, u20, u21, u22, u23, u24, u25, u26, u27, u28, u29, u30, u31, false, dm, rfl, rfl, unhide H_kB, unhide H_c3, unhide H_c4, unhide H_c5, unhide H_c7, unhide H_c8, (fun h => rfl), (fun h => rfl), (fun h => rfl), (fun h => ⟨(unhide H_c12 h).1, (unhide H_c12 h).2.1, rfl⟩), (fun h => ⟨(unhide H_c13 h).1, rfl⟩), (fun h => ⟨(unhide H_c14 h).1, (unhide H_c14 h).2.1, rfl⟩), (fun h => ⟨(unhide H_c15 h).1, rfl⟩), (fun _ => ⟨rfl, rfl⟩), (fun h => rfl), unhide H_c18, unhide H_c19, unhide H_c20, unhide H_c21, unhide H_c22, unhide H_c23, unhide H_c24, unhide H_c25, unhide H_c26, unhide H_c27, unhide H_c28, unhide H_c29, unhide H_c30, unhide H_c31, (fun h => nomatch h)⟩
    · intro h0 hd K hK
      have z : u17 = false := h0
      have z32_ : u32 = false := by
        cases hu : u32 with
        | false => rfl
        | true => exact nomatch z.symm.trans ((unhide H_kF hu).2.2.2.2.2.2.2.2.2.2.2.2.2.2.2.2.2.1)
      have zd : u16 = true := by
        simp [Region.binds] at hd
        simp [hd]
      obtain ⟨rfl⟩ := zd
      subst z32_
      subst z
      clear h0 hd
      rw [if_pos (by rfl)]
      go_simp
      exact unhide hK _ _ ⟨u0, u1, u2, u3, u4, u5, u6, u7, u8, u9, u10, u11, u12, u13, u14, u15, true, true, u18, u19, u20, u21, u22, u23, u24, u25, u26, u27, u28, u29, u30, u31, false, dm, rfl, rfl, unhide H_kB, unhide H_c3, unhide H_c4, unhide H_c5, unhide H_c7, unhide H_c8, unhide H_c9, unhide H_c10, unhide H_c11, unhide H_c12, unhide H_c13, unhide H_c14, unhide H_c15, unhide H_c16, (fun _ => rfl), (fun h => rfl), (fun h => rfl), (fun h => rfl), (fun h => rfl), (fun h => ⟨(unhide H_c22 h).1, (unhide H_c22 h).2.1, rfl⟩), (fun h => ⟨(unhide H_c23 h).1, rfl⟩), (fun h => ⟨(unhide H_c24 h).1, (unhide H_c24 h).2.1, rfl⟩), (fun h => ⟨(unhide H_c25 h).1, (unhide H_c25 h).2.1, rfl⟩), (fun h => ⟨(unhide H_c26 h).1, rfl⟩), (fun h => rfl), (fun h => rfl), (fun h => ⟨(unhide H_c29 h).1, (unhide H_c29 h).2.1, rfl⟩), (fun h => ⟨(unhide H_c30 h).1, rfl⟩), (fun h => ⟨(unhide H_c31 h).1, (unhide H_c31 h).2.1, rfl⟩), (fun h => nomatch h)⟩
    · intro h0 hd K hK
      have z : u18 = false := h0
      have z32_ : u32 = false := by
        cases hu : u32 with
        | false => rfl
        | true => exact nomatch z.symm.trans ((unhide H_kF hu).2.2.2.2.2.2.2.2.2.2.2.2.2.2.2.2.2.2.1)
      have zd : u17 = true := by
        simp [Region.binds] at hd
        simp [hd]
      obtain ⟨rfl⟩ := zd
      subst z32_
      subst z
      clear h0 hd
      rw [if_pos (by rfl)]
      go_simp
      exact unhide hK _ _ ⟨u0, u1, u2, u3, u4, u5, u6, u7, u8, u9, u10, u11, u12, u13, u14, u15, u16, true, true, u19, u20, u21, u22, u23, u24, u25, u26, u27, u28, u29, u30, u31, false, dm, rfl, rfl, unhide H_kB, unhide H_c3, unhide H_c4, unhide H_c5, unhide H_c7, unhide H_c8, unhide H_c9, unhide H_c10, unhide H_c11, unhide H_c12, unhide H_c13, unhide H_c14, unhide H_c15, unhide H_c16, unhide H_c17, (fun _ => rfl), (fun h => rfl), (fun h => rfl), (fun h => rfl), (fun h => ⟨(unhide H_c22 h).1, (unhide H_c22 h).2.1, rfl⟩), (fun h => ⟨(unhide H_c23 h).1, rfl⟩), (fun h => ⟨(unhide H_c24 h).1, (unhide H_c24 h).2.1, rfl⟩), (fun h => ⟨rfl, (unhide H_c25 h).2.1, rfl⟩), (fun h => ⟨(unhide H_c26 h).1, rfl⟩), (fun h => rfl), (fun h => rfl), (fun h => ⟨(unhide H_c29 h).1, (unhide H_c29 h).2.1, rfl⟩), (fun h => ⟨(unhide H_c30 h).1, rfl⟩), (fun h => ⟨(unhide H_c31 h).1, (unhide H_c31 h).2.1, rfl⟩), (fun h => nomatch h)⟩
    · intro h0 hd K hK
      have z : u19 = false := h0
      have z32_ : u32 = false := by
        cases hu : u32 with
        | false => rfl
        | true => exact nomatch z.symm.trans ((unhide H_kF hu).2.2.2.2.2.2.2.2.2.2.2.2.2.2.2.2.2.2.2.1)
      have zd : u17 = true := by
        simp [Region.binds] at hd
        simp [hd]
      obtain ⟨rfl⟩ := zd
      subst z32_
      subst z
      clear h0 hd
      rw [if_pos (by rfl)]
      go_simp
      exact unhide hK _ _ ⟨u0, u1, u2, u3, u4, u5, u6, u7, u8, u9, u10, u11, u12, u13, u14, u15, u16, true, u18, true, u20, u21, u22, u23, u24, u25, u26, u27, u28, u29, u30, u31, false, dm, rfl, rfl, unhide H_kB, unhide H_c3, unhide H_c4, unhide H_c5, unhide H_c7, unhide H_c8, unhide H_c9, unhide H_c10, unhide H_c11, unhide H_c12, unhide H_c13, unhide H_c14, unhide H_c15, unhide H_c16, unhide H_c17, (fun h => rfl), (fun _ => rfl), (fun h => rfl), (fun h => rfl), (fun h => ⟨(unhide H_c22 h).1, (unhide H_c22 h).2.1, rfl⟩), (fun h => ⟨(unhide H_c23 h).1, rfl⟩), (fun h => ⟨rfl, (unhide H_c24 h).2.1, rfl⟩), (fun h => ⟨(unhide H_c25 h).1, (unhide H_c25 h).2.1, rfl⟩), (fun h => ⟨(unhide H_c26 h).1, rfl⟩), (fun h => rfl), (fun h => rfl), (fun h => ⟨(unhide H_c29 h).1, (unhide H_c29 h).2.1, rfl⟩), (fun h => ⟨(unhide H_c30 h).1, rfl⟩), (fun h => ⟨(unhide H_c31 h).1, (unhide H_c31 h).2.1, rfl⟩), (fun h => nomatch h)⟩
    · intro h0 hd K hK
      have z : u20 = false := h0
      have z32_ : u32 = false := by
        cases hu : u32 with
        | false => rfl
        | true => exact nomatch z.symm.trans ((unhide H_kF hu).2.2.2.2.2.2.2.2.2.2.2.2.2.2.2.2.2.2.2.2.1)
      have zd : u17 = true := by
        simp [Region.binds] at hd
        simp [hd]
      obtain ⟨rfl⟩ := zd
      subst z32_
      subst z
      clear h0 hd
      rw [if_pos (by rfl)]
      go_simp
      exact unhide hK _ _ ⟨u0, u1, u2, u3, u4, u5, u6, u7, u8, u9, u10, u11, u12, u13, u14, u15, u16, true, u18, u19, true, u21, u22, u23, u24, u25, u26, u27, u28, u29, u30, u31, false, dm, rfl, rfl, unhide H_kB, unhide H_c3, unhide H_c4, unhide H_c5, unhide H_c7, unhide H_c8, unhide H_c9, unhide H_c10, unhide H_c11, unhide H_c12, unhide H_c13, unhide H_c14, unhide H_c15, unhide H_c16, unhide H_c17, (fun h => rfl), (fun h => rfl), (fun _ => rfl), (fun h => rfl), (fun h => ⟨rfl, (unhide H_c22 h).2.1, rfl⟩), (fun h => ⟨(unhide H_c23 h).1, rfl⟩), (fun h => ⟨(unhide H_c24 h).1, (unhide H_c24 h).2.1, rfl⟩), (fun h => ⟨(unhide H_c25 h).1, (unhide H_c25 h).2.1, rfl⟩), (fun h => ⟨(unhide H_c26 h).1, rfl⟩), (fun h => rfl), (fun h => rfl), (fun h => ⟨(unhide H_c29 h).1, (unhide H_c29 h).2.1, rfl⟩), (fun h => ⟨(unhide H_c30 h).1, rfl⟩), (fun h => ⟨(unhide H_c31 h).1, (unhide H_c31 h).2.1, rfl⟩), (fun h => nomatch h)⟩
    · intro h0 hd K hK
      have z : u21 = false := h0
      have z32_ : u32 = false := by
        cases hu : u32 with
        | false => rfl
        | true => exact nomatch z.symm.trans ((unhide H_kF hu).2.2.2.2.2.2.2.2.2.2.2.2.2.2.2.2.2.2.2.2.2.1)
      have zd : u17 = true := by
        simp [Region.binds] at hd
        simp [hd]
      obtain ⟨rfl⟩ := zd
      subst z32_
      subst z
      clear h0 hd
      rw [if_pos (by rfl)]
      go_simp
      exact unhide hK _ _ ⟨u0, u1, u2, u3, u4, u5, u6, u7, u8, u9, u10, u11, u12, u13, u14, u15, u16, true, u18, u19, u20, true, u22, u23, u24, u25, u26, u27, u28, u29, u30, u31, false, dm, rfl, rfl, unhide H_kB, unhide H_c3, unhide H_c4, unhide H_c5, unhide H_c7, unhide H_c8, unhide H_c9, unhide H_c10, unhide H_c11, unhide H_c12, unhide H_c13, unhide H_c14, unhide H_c15, unhide H_c16, unhide H_c17, (fun h => rfl), (fun h => rfl), (fun h => rfl), (fun _ => rfl), (fun h => ⟨(unhide H_c22 h).1, rfl, rfl⟩), (fun h => ⟨(unhide H_c23 h).1, rfl⟩), (fun h => ⟨(unhide H_c24 h).1, (unhide H_c24 h).2.1, rfl⟩), (fun h => ⟨(unhide H_c25 h).1, (unhide H_c25 h).2.1, rfl⟩), (fun h => ⟨(unhide H_c26 h).1, rfl⟩), (fun h => rfl), (fun h => rfl), (fun h => ⟨(unhide H_c29 h).1, (unhide H_c29 h).2.1, rfl⟩), (fun h => ⟨(unhide H_c30 h).1, rfl⟩), (fun h => ⟨(unhide H_c31 h).1, (unhide H_c31 h).2.1, rfl⟩), (fun h => nomatch h)⟩
    · intro h0 hd K hK
      have z : u22 = false := h0
      have z32_ : u32 = false := by
        cases hu : u32 with
        | false => rfl
        | true => exact nomatch z.symm.trans ((unhide H_kF hu).2.2.2.2.2.2.2.2.2.2.2.2.2.2.2.2.2.2.2.2.2.2.1)
      have zd : u20 = true ∧ u21 = true ∧ u17 = true := by
        simp [Region.binds] at hd
        simp [hd]
      obtain ⟨rfl, rfl, rfl⟩ := zd
      subst z32_
      subst z
      clear h0 hd
      rw [if_pos (by rfl)]
      have q1 : i < n := unhide HX22
      have q2 : (i : Int) < (n : Int) := by omega
      go_simp
      exact unhide hK _ _ ⟨u0, u1, u2, u3, u4, u5, u6, u7, u8, u9, u10, u11, u12, u13, u14, u15, u16, true, u18, u19, true, true, true, u23, u24, u25, u26, u27, u28, u29, u30, u31, false, dm, rfl, rfl, unhide H_kB, unhide H_c3, unhide H_c4, unhide H_c5, unhide H_c7, unhide H_c8, unhide H_c9, unhide H_c10, unhide H_c11, unhide H_c12, unhide H_c13, unhide H_c14, unhide H_c15, unhide H_c16, unhide H_c17, (fun h => rfl), (fun h => rfl), (fun h => rfl), (fun h => rfl), (fun _ => ⟨rfl, rfl, rfl⟩), (fun h => ⟨rfl, rfl⟩), (fun h => ⟨(unhide H_c24 h).1, (unhide H_c24 h).2.1, rfl⟩), (fun h => ⟨(unhide H_c25 h).1, (unhide H_c25 h).2.1, rfl⟩), (fun h => ⟨(unhide H_c26 h).1, rfl⟩), (fun h => rfl), (fun h => rfl), (fun h => ⟨(unhide H_c29 h).1, (unhide H_c29 h).2.1, rfl⟩), (fun h => ⟨(unhide H_c30 h).1, rfl⟩), (fun h => ⟨(unhide H_c31 h).1, (unhide H_c31 h).2.1, rfl⟩), (fun h => nomatch h)⟩
    · intro h0 hd K hK
      have z : u23 = false := h0
      have z32_ : u32 = false := by
        cases hu : u32 with
        | false => rfl
        | true => exact nomatch z.symm.trans ((unhide H_kF hu).2.2.2.2.2.2.2.2.2.2.2.2.2.2.2.2.2.2.2.2.2.2.2.1)
      have zd : u22 = true ∧ u17 = true := by
        simp [Region.binds] at hd
        simp [hd]
      obtain ⟨rfl, rfl⟩ := zd
      subst z32_
      subst z
      clear h0 hd
      rw [if_pos (by rfl)]
      have c0 := keep1 (unhide H_kB) (unhide HA0)
      have c1 := keep1 (unhide H_kB) (unhide HA1)
      go_simp
      exact unhide hK _ _ ⟨u0, u1, u2, u3, u4, u5, u6, u7, u8, u9, u10, u11, u12, u13, u14, u15, u16, true, u18, u19, u20, u21, true, true, u24, u25, u26, u27, u28, u29, u30, u31, false, dm, rfl, rfl, unhide H_kB, unhide H_c3, unhide H_c4, unhide H_c5, unhide H_c7, unhide H_c8, unhide H_c9, unhide H_c10, unhide H_c11, unhide H_c12, unhide H_c13, unhide H_c14, unhide H_c15, unhide H_c16, unhide H_c17, (fun h => rfl), (fun h => rfl), (fun h => rfl), (fun h => rfl), (fun h => ⟨(unhide H_c22 h).1, (unhide H_c22 h).2.1, rfl⟩), (fun _ => ⟨rfl, rfl⟩), (fun h => ⟨(unhide H_c24 h).1, rfl, rfl⟩), (fun h => ⟨(unhide H_c25 h).1, (unhide H_c25 h).2.1, rfl⟩), (fun h => ⟨(unhide H_c26 h).1, rfl⟩), (fun h => rfl), (fun h => rfl), (fun h => ⟨(unhide H_c29 h).1, (unhide H_c29 h).2.1, rfl⟩), (fun h => ⟨(unhide H_c30 h).1, rfl⟩), (fun h => ⟨(unhide H_c31 h).1, (unhide H_c31 h).2.1, rfl⟩), (fun h => nomatch h)⟩
    · intro h0 hd K hK
      have z : u24 = false := h0
      have z32_ : u32 = false := by
        cases hu : u32 with
        | false => rfl
        | true => exact nomatch z.symm.trans ((unhide H_kF hu).2.2.2.2.2.2.2.2.2.2.2.2.2.2.2.2.2.2.2.2.2.2.2.2.1)
      have zd : u19 = true ∧ u23 = true ∧ u17 = true := by
        simp [Region.binds] at hd
        simp [hd]
      obtain ⟨rfl, rfl, rfl⟩ := zd
      subst z32_
      subst z
      clear h0 hd
      rw [if_pos (by rfl)]
      go_simp
      refine (unhide HF24 W (unhide H_kB)).mono ?_
      rintro e w8 ⟨rfl, hb8⟩
      exact unhide hK _ _ ⟨u0, u1, u2, u3, u4, u5, u6, u7, u8, u9, u10, u11, u12, u13, u14, u15, u16, true, u18, true, u20, u21, u22, true, true, u25, u26, u27, u28, u29, u30, u31, false, dm, rfl, rfl, bc (unhide H_kB) hb8, unhide H_c3, unhide H_c4, unhide H_c5, unhide H_c7, unhide H_c8, unhide H_c9, unhide H_c10, unhide H_c11, unhide H_c12, unhide H_c13, unhide H_c14, unhide H_c15, unhide H_c16, unhide H_c17, (fun h => rfl), (fun h => rfl), (fun h => rfl), (fun h => rfl), (fun h => ⟨(unhide H_c22 h).1, (unhide H_c22 h).2.1, rfl⟩), (fun h => ⟨(unhide H_c23 h).1, rfl⟩), (fun _ => ⟨rfl, rfl, rfl⟩), (fun h => ⟨(unhide H_c25 h).1, rfl, rfl⟩), (fun h => ⟨(unhide H_c26 h).1, rfl⟩), (fun h => rfl), (fun h => rfl), (fun h => ⟨(unhide H_c29 h).1, (unhide H_c29 h).2.1, rfl⟩), (fun h => ⟨(unhide H_c30 h).1, rfl⟩), (fun h => ⟨(unhide H_c31 h).1, (unhide H_c31 h).2.1, rfl⟩), (fun h => nomatch h)⟩
    · intro h0 hd K hK
      have z : u25 = false := h0
      have z32_ : u32 = false := by
        cases hu : u32 with
        | false => rfl
        | true => exact nomatch z.symm.trans ((unhide H_kF hu).2.2.2.2.2.2.2.2.2.2.2.2.2.2.2.2.2.2.2.2.2.2.2.2.2.1)
      have zd : u18 = true ∧ u24 = true ∧ u17 = true := by
        simp [Region.binds] at hd
        simp [hd]
      obtain ⟨rfl, rfl, rfl⟩ := zd
      subst z32_
      subst z
      clear h0 hd
      rw [if_pos (by rfl)]
      have q1 : k < hn := unhide HX25
      have q2 : (k : Int) < (hn : Int) := by omega
      go_simp
      exact unhide hK _ _ ⟨u0, u1, u2, u3, u4, u5, u6, u7, u8, u9, u10, u11, u12, u13, u14, u15, u16, true, true, u19, u20, u21, u22, u23, true, true, u26, u27, u28, u29, u30, u31, false, dm, rfl, rfl, unhide H_kB, unhide H_c3, unhide H_c4, unhide H_c5, unhide H_c7, unhide H_c8, unhide H_c9, unhide H_c10, unhide H_c11, unhide H_c12, unhide H_c13, unhide H_c14, unhide H_c15, unhide H_c16, unhide H_c17, (fun h => rfl), (fun h => rfl), (fun h => rfl), (fun h => rfl), (fun h => ⟨(unhide H_c22 h).1, (unhide H_c22 h).2.1, rfl⟩), (fun h => ⟨(unhide H_c23 h).1, rfl⟩), (fun h => ⟨(unhide H_c24 h).1, (unhide H_c24 h).2.1, rfl⟩), (fun _ => ⟨rfl, rfl, rfl⟩), (fun h => ⟨rfl, rfl⟩), (fun h => rfl), (fun h => rfl), (fun h => ⟨(unhide H_c29 h).1, (unhide H_c29 h).2.1, rfl⟩), (fun h => ⟨(unhide H_c30 h).1, rfl⟩), (fun h => ⟨(unhide H_c31 h).1, (unhide H_c31 h).2.1, rfl⟩), (fun h => nomatch h)⟩
    · intro h0 hd K hK
      have z : u26 = false := h0
      have z32_ : u32 = false := by
        cases hu : u32 with
        | false => rfl
        | true => exact nomatch z.symm.trans ((unhide H_kF hu).2.2.2.2.2.2.2.2.2.2.2.2.2.2.2.2.2.2.2.2.2.2.2.2.2.2.1)
      have zd : u25 = true ∧ u17 = true := by
        simp [Region.binds] at hd
        simp [hd]
      obtain ⟨rfl, rfl⟩ := zd
      subst z32_
      subst z
      clear h0 hd
      rw [if_pos (by rfl)]
      have c0 := keep1 (unhide H_kB) (unhide HK0)
      have c1 := keep1 (unhide H_kB) (unhide HK1)
      go_simp
      exact unhide hK _ _ ⟨u0, u1, u2, u3, u4, u5, u6, u7, u8, u9, u10, u11, u12, u13, u14, u15, u16, true, u18, u19, u20, u21, u22, u23, u24, true, true, u27, u28, u29, u30, u31, false, dm, rfl, rfl, unhide H_kB, unhide H_c3, unhide H_c4, unhide H_c5, unhide H_c7, unhide H_c8, unhide H_c9, unhide H_c10, unhide H_c11, unhide H_c12, unhide H_c13, unhide H_c14, unhide H_c15, unhide H_c16, unhide H_c17, (fun h => rfl), (fun h => rfl), (fun h => rfl), (fun h => rfl), (fun h => ⟨(unhide H_c22 h).1, (unhide H_c22 h).2.1, rfl⟩), (fun h => ⟨(unhide H_c23 h).1, rfl⟩), (fun h => ⟨(unhide H_c24 h).1, (unhide H_c24 h).2.1, rfl⟩), (fun h => ⟨(unhide H_c25 h).1, (unhide H_c25 h).2.1, rfl⟩), (fun _ => ⟨rfl, rfl⟩), (fun h => rfl), (fun h => rfl), (fun h => ⟨(unhide H_c29 h).1, (unhide H_c29 h).2.1, rfl⟩), (fun h => ⟨(unhide H_c30 h).1, rfl⟩), (fun h => ⟨rfl, (unhide H_c31 h).2.1, rfl⟩), (fun h => nomatch h)⟩
    · intro h0 hd K hK
      have z : u27 = false := h0
      have z32_ : u32 = false := by
        cases hu : u32 with
        | false => rfl
        | true => exact nomatch z.symm.trans ((unhide H_kF hu).2.2.2.2.2.2.2.2.2.2.2.2.2.2.2.2.2.2.2.2.2.2.2.2.2.2.2.1)
      have zd : u17 = true := by
        simp [Region.binds] at hd
        simp [hd]
      obtain ⟨rfl⟩ := zd
      subst z32_
      subst z
      clear h0 hd
      rw [if_pos (by rfl)]
      go_simp
      exact unhide hK _ _ ⟨u0, u1, u2, u3, u4, u5, u6, u7, u8, u9, u10, u11, u12, u13, u14, u15, u16, true, u18, u19, u20, u21, u22, u23, u24, u25, u26, true, u28, u29, u30, u31, false, dm, rfl, rfl, unhide H_kB, unhide H_c3, unhide H_c4, unhide H_c5, unhide H_c7, unhide H_c8, unhide H_c9, unhide H_c10, unhide H_c11, unhide H_c12, unhide H_c13, unhide H_c14, unhide H_c15, unhide H_c16, unhide H_c17, (fun h => rfl), (fun h => rfl), (fun h => rfl), (fun h => rfl), (fun h => ⟨(unhide H_c22 h).1, (unhide H_c22 h).2.1, rfl⟩), (fun h => ⟨(unhide H_c23 h).1, rfl⟩), (fun h => ⟨(unhide H_c24 h).1, (unhide H_c24 h).2.1, rfl⟩), (fun h => ⟨(unhide H_c25 h).1, (unhide H_c25 h).2.1, rfl⟩), (fun h => ⟨(unhide H_c26 h).1, rfl⟩), (fun _ => rfl), (fun h => rfl), (fun h => ⟨rfl, (unhide H_c29 h).2.1, rfl⟩), (fun h => ⟨(unhide H_c30 h).1, rfl⟩), (fun h => ⟨(unhide H_c31 h).1, (unhide H_c31 h).2.1, rfl⟩), (fun h => nomatch h)⟩
    · intro h0 hd K hK
      have z : u28 = false := h0
      have z32_ : u32 = false := by
        cases hu : u32 with
        | false => rfl
        | true => exact nomatch z.symm.trans ((unhide H_kF hu).2.2.2.2.2.2.2.2.2.2.2.2.2.2.2.2.2.2.2.2.2.2.2.2.2.2.2.2.1)
      have zd : u17 = true := by
        simp [Region.binds] at hd
        simp [hd]
      obtain ⟨rfl⟩ := zd
      subst z32_
      subst z
      clear h0 hd
      rw [if_pos (by rfl)]
      go_simp
      exact unhide hK _ _ ⟨u0, u1, u2, u3, u4, u5, u6, u7, u8, u9, u10, u11, u12, u13, u14, u15, u16, true, u18, u19, u20, u21, u22, u23, u24, u25, u26, u27, true, u29, u30, u31, false, dm, rfl, rfl, unhide H_kB, unhide H_c3, unhide H_c4, unhide H_c5, unhide H_c7, unhide H_c8, unhide H_c9, unhide H_c10, unhide H_c11, unhide H_c12, unhide H_c13, unhide H_c14, unhide H_c15, unhide H_c16, unhide H_c17, (fun h => rfl), (fun h => rfl), (fun h => rfl), (fun h => rfl), (fun h => ⟨(unhide H_c22 h).1, (unhide H_c22 h).2.1, rfl⟩), (fun h => ⟨(unhide H_c23 h).1, rfl⟩), (fun h => ⟨(unhide H_c24 h).1, (unhide H_c24 h).2.1, rfl⟩), (fun h => ⟨(unhide H_c25 h).1, (unhide H_c25 h).2.1, rfl⟩), (fun h => ⟨(unhide H_c26 h).1, rfl⟩), (fun h => rfl), (fun _ => rfl), (fun h => ⟨(unhide H_c29 h).1, rfl, rfl⟩), (fun h => ⟨(unhide H_c30 h).1, rfl⟩), (fun h => ⟨(unhide H_c31 h).1, (unhide H_c31 h).2.1, rfl⟩), (fun h => nomatch h)⟩
    · intro h0 hd K hK
      have z : u29 = false := h0
      have z32_ : u32 = false := by
        cases hu : u32 with
        | false => rfl
        | true => exact nomatch z.symm.trans ((unhide H_kF hu).2.2.2.2.2.2.2.2.2.2.2.2.2.2.2.2.2.2.2.2.2.2.2.2.2.2.2.2.2.1)
      have zd : u27 = true ∧ u28 = true ∧ u17 = true := by
        simp [Region.binds] at hd
        simp [hd]
      obtain ⟨rfl, rfl, rfl⟩ := zd
      subst z32_
      subst z
      clear h0 hd
      rw [if_pos (by rfl)]
      have q1 : i < n := unhide HX29
      have q2 : (i : Int) < (n : Int) := by omega
      go_simp
      exact unhide hK _ _ ⟨u0, u1, u2, u3, u4, u5, u6, u7, u8, u9, u10, u11, u12, u13, u14, u15, u16, true, u18, u19, u20, u21, u22, u23, u24, u25, u26, true, true, true, u30, u31, false, dm, rfl, rfl, unhide H_kB, unhide H_c3, unhide H_c4, unhide H_c5, unhide H_c7, unhide H_c8, unhide H_c9, unhide H_c10, unhide H_c11, unhide H_c12, unhide H_c13, unhide H_c14, unhide H_c15, unhide H_c16, unhide H_c17, (fun h => rfl), (fun h => rfl), (fun h => rfl), (fun h => rfl), (fun h => ⟨(unhide H_c22 h).1, (unhide H_c22 h).2.1, rfl⟩), (fun h => ⟨(unhide H_c23 h).1, rfl⟩), (fun h => ⟨(unhide H_c24 h).1, (unhide H_c24 h).2.1, rfl⟩), (fun h => ⟨(unhide H_c25 h).1, (unhide H_c25 h).2.1, rfl⟩), (fun h => ⟨(unhide H_c26 h).1, rfl⟩), (fun h => rfl), (fun h => rfl), (fun _ => ⟨rfl, rfl, rfl⟩), (fun h => ⟨rfl, rfl⟩), (fun h => ⟨(unhide H_c31 h).1, (unhide H_c31 h).2.1, rfl⟩), (fun h => nomatch h)⟩
    · intro h0 hd K hK
      have z : u30 = false := h0
      have z32_ : u32 = false := by
        cases hu : u32 with
        | false => rfl
        | true => exact nomatch z.symm.trans ((unhide H_kF hu).2.2.2.2.2.2.2.2.2.2.2.2.2.2.2.2.2.2.2.2.2.2.2.2.2.2.2.2.2.2.1)
      have zd : u29 = true ∧ u17 = true := by
        simp [Region.binds] at hd
        simp [hd]
      obtain ⟨rfl, rfl⟩ := zd
      subst z32_
      subst z
      clear h0 hd
      rw [if_pos (by rfl)]
      have c0 := keep1 (unhide H_kB) (unhide HA0)
      have c1 := keep1 (unhide H_kB) (unhide HA1)
      go_simp
      exact unhide hK _ _ ⟨u0, u1, u2, u3, u4, u5, u6, u7, u8, u9, u10, u11, u12, u13, u14, u15, u16, true, u18, u19, u20, u21, u22, u23, u24, u25, u26, u27, u28, true, true, u31, false, dm, rfl, rfl, unhide H_kB, unhide H_c3, unhide H_c4, unhide H_c5, unhide H_c7, unhide H_c8, unhide H_c9, unhide H_c10, unhide H_c11, unhide H_c12, unhide H_c13, unhide H_c14, unhide H_c15, unhide H_c16, unhide H_c17, (fun h => rfl), (fun h => rfl), (fun h => rfl), (fun h => rfl), (fun h => ⟨(unhide H_c22 h).1, (unhide H_c22 h).2.1, rfl⟩), (fun h => ⟨(unhide H_c23 h).1, rfl⟩), (fun h => ⟨(unhide H_c24 h).1, (unhide H_c24 h).2.1, rfl⟩), (fun h => ⟨(unhide H_c25 h).1, (unhide H_c25 h).2.1, rfl⟩), (fun h => ⟨(unhide H_c26 h).1, rfl⟩), (fun h => rfl), (fun h => rfl), (fun h => ⟨(unhide H_c29 h).1, (unhide H_c29 h).2.1, rfl⟩), (fun _ => ⟨rfl, rfl⟩), (fun h => ⟨(unhide H_c31 h).1, rfl, rfl⟩), (fun h => nomatch h)⟩
    · intro h0 hd K hK
      have z : u31 = false := h0
      have z32_ : u32 = false := by
        cases hu : u32 with
        | false => rfl
        | true => exact nomatch z.symm.trans ((unhide H_kF hu).2.2.2.2.2.2.2.2.2.2.2.2.2.2.2.2.2.2.2.2.2.2.2.2.2.2.2.2.2.2.2)
      have zd : u26 = true ∧ u30 = true ∧ u17 = true := by
        simp [Region.binds] at hd
        simp [hd]
      obtain ⟨rfl, rfl, rfl⟩ := zd
      subst z32_
      subst z
      clear h0 hd
      rw [if_pos (by rfl)]
      go_simp
      have e2 : (if hx = x then if hy = y then Result.ok (Next.value (Value.bool true)) W else Result.ok (Next.value (Value.bool false)) W else Result.ok (Next.value (Value.bool false)) W) = Result.ok (Next.value (Value.bool (decide (hx = x) && decide (hy = y)))) W := ite2 _ _ (fun b => Result.ok (Next.value (Value.bool b)) W)
      rw [e2]
      go_simp
      exact unhide hK _ _ ⟨u0, u1, u2, u3, u4, u5, u6, u7, u8, u9, u10, u11, u12, u13, u14, u15, u16, true, u18, u19, u20, u21, u22, u23, u24, u25, true, u27, u28, u29, true, true, false, dm, rfl, rfl, unhide H_kB, unhide H_c3, unhide H_c4, unhide H_c5, unhide H_c7, unhide H_c8, unhide H_c9, unhide H_c10, unhide H_c11, unhide H_c12, unhide H_c13, unhide H_c14, unhide H_c15, unhide H_c16, unhide H_c17, (fun h => rfl), (fun h => rfl), (fun h => rfl), (fun h => rfl), (fun h => ⟨(unhide H_c22 h).1, (unhide H_c22 h).2.1, rfl⟩), (fun h => ⟨(unhide H_c23 h).1, rfl⟩), (fun h => ⟨(unhide H_c24 h).1, (unhide H_c24 h).2.1, rfl⟩), (fun h => ⟨(unhide H_c25 h).1, (unhide H_c25 h).2.1, rfl⟩), (fun h => ⟨(unhide H_c26 h).1, rfl⟩), (fun h => rfl), (fun h => rfl), (fun h => ⟨(unhide H_c29 h).1, (unhide H_c29 h).2.1, rfl⟩), (fun h => ⟨(unhide H_c30 h).1, rfl⟩), (fun _ => ⟨rfl, rfl, rfl⟩), (fun h => nomatch h)⟩
    · intro h0 hd K hK
      have z : u32 = false := h0
      have zd0 : u17 = true ∧ u31 = true := by
        simp [Region.binds] at hd
        simp [hd]
      have zd : u17 = true ∧ u31 = true ∧ u0 = true ∧ u1 = true ∧ u2 = true ∧ u3 = true ∧ u4 = true ∧ u5 = true ∧ u6 = true ∧ u7 = true ∧ u8 = true ∧ u9 = true ∧ u10 = true ∧ u11 = true ∧ u12 = true ∧ u13 = true ∧ u14 = true ∧ u15 = true ∧ u16 = true ∧ u18 = true ∧ u19 = true ∧ u20 = true ∧ u21 = true ∧ u22 = true ∧ u23 = true ∧ u24 = true ∧ u25 = true ∧ u26 = true ∧ u27 = true ∧ u28 = true ∧ u29 = true ∧ u30 = true := ⟨zd0.1, zd0.2, (unhide H_c5 (unhide H_c7 (unhide H_c8 (unhide H_c16 (unhide H_c17 zd0.1)).1)).1).1, (unhide H_c3 (unhide H_c4 (unhide H_c5 (unhide H_c7 (unhide H_c8 (unhide H_c16 (unhide H_c17 zd0.1)).1)).1).2)).1, (unhide H_c3 (unhide H_c4 (unhide H_c5 (unhide H_c7 (unhide H_c8 (unhide H_c16 (unhide H_c17 zd0.1)).1)).1).2)).2, (unhide H_c4 (unhide H_c5 (unhide H_c7 (unhide H_c8 (unhide H_c16 (unhide H_c17 zd0.1)).1)).1).2), (unhide H_c5 (unhide H_c7 (unhide H_c8 (unhide H_c16 (unhide H_c17 zd0.1)).1)).1).2, (unhide H_c7 (unhide H_c8 (unhide H_c16 (unhide H_c17 zd0.1)).1)).1, (unhide H_c7 (unhide H_c8 (unhide H_c16 (unhide H_c17 zd0.1)).1)).2, (unhide H_c8 (unhide H_c16 (unhide H_c17 zd0.1)).1), (unhide H_c16 (unhide H_c17 zd0.1)).1, (unhide H_c14 (unhide H_c15 (unhide H_c16 (unhide H_c17 zd0.1)).2).1).1, (unhide H_c12 (unhide H_c13 (unhide H_c14 (unhide H_c15 (unhide H_c16 (unhide H_c17 zd0.1)).2).1).2.1).1).1, (unhide H_c12 (unhide H_c13 (unhide H_c14 (unhide H_c15 (unhide H_c16 (unhide H_c17 zd0.1)).2).1).2.1).1).2.1, (unhide H_c13 (unhide H_c14 (unhide H_c15 (unhide H_c16 (unhide H_c17 zd0.1)).2).1).2.1).1, (unhide H_c14 (unhide H_c15 (unhide H_c16 (unhide H_c17 zd0.1)).2).1).2.1, (unhide H_c15 (unhide H_c16 (unhide H_c17 zd0.1)).2).1, (unhide H_c16 (unhide H_c17 zd0.1)).2, (unhide H_c17 zd0.1), (unhide H_c25 (unhide H_c26 (unhide H_c31 zd0.2).1).1).1, (unhide H_c24 (unhide H_c25 (unhide H_c26 (unhide H_c31 zd0.2).1).1).2.1).1, (unhide H_c22 (unhide H_c23 (unhide H_c24 (unhide H_c25 (unhide H_c26 (unhide H_c31 zd0.2).1).1).2.1).2.1).1).1, (unhide H_c22 (unhide H_c23 (unhide H_c24 (unhide H_c25 (unhide H_c26 (unhide H_c31 zd0.2).1).1).2.1).2.1).1).2.1, (unhide H_c23 (unhide H_c24 (unhide H_c25 (unhide H_c26 (unhide H_c31 zd0.2).1).1).2.1).2.1).1, (unhide H_c24 (unhide H_c25 (unhide H_c26 (unhide H_c31 zd0.2).1).1).2.1).2.1, (unhide H_c25 (unhide H_c26 (unhide H_c31 zd0.2).1).1).2.1, (unhide H_c26 (unhide H_c31 zd0.2).1).1, (unhide H_c31 zd0.2).1, (unhide H_c29 (unhide H_c30 (unhide H_c31 zd0.2).2.1).1).1, (unhide H_c29 (unhide H_c30 (unhide H_c31 zd0.2).2.1).1).2.1, (unhide H_c30 (unhide H_c31 zd0.2).2.1).1, (unhide H_c31 zd0.2).2.1⟩
      obtain ⟨rfl, rfl, rfl, rfl, rfl, rfl, rfl, rfl, rfl, rfl, rfl, rfl, rfl, rfl, rfl, rfl, rfl, rfl, rfl, rfl, rfl, rfl, rfl, rfl, rfl, rfl, rfl, rfl, rfl, rfl, rfl, rfl⟩ := zd
      subst z
      clear h0 hd
      rw [if_pos (by rfl)]
      go_simp
      exact unhide hK _ _ ⟨true, true, true, true, true, true, true, true, true, true, true, true, true, true, true, true, true, true, true, true, true, true, true, true, true, true, true, true, true, true, true, true, true, dm, rfl, rfl, unhide H_kB, (fun _ => ⟨rfl, rfl⟩), (fun _ => rfl), (fun _ => ⟨rfl, rfl⟩), (fun _ => ⟨rfl, rfl⟩), (fun _ => rfl), (fun _ => rfl), (fun _ => rfl), (fun _ => rfl), (fun _ => ⟨rfl, rfl, rfl⟩), (fun _ => ⟨rfl, rfl⟩), (fun _ => ⟨rfl, rfl, rfl⟩), (fun _ => ⟨rfl, rfl⟩), (fun _ => ⟨rfl, rfl⟩), (fun _ => rfl), (fun _ => rfl), (fun _ => rfl), (fun _ => rfl), (fun _ => rfl), (fun _ => ⟨rfl, rfl, rfl⟩), (fun _ => ⟨rfl, rfl⟩), (fun _ => ⟨rfl, rfl, rfl⟩), (fun _ => ⟨rfl, rfl, rfl⟩), (fun _ => ⟨rfl, rfl⟩), (fun _ => rfl), (fun _ => rfl), (fun _ => ⟨rfl, rfl, rfl⟩), (fun _ => ⟨rfl, rfl⟩), (fun _ => ⟨rfl, rfl, rfl⟩), (fun _ => ⟨rfl, rfl, rfl, rfl, rfl, rfl, rfl, rfl, rfl, rfl, rfl, rfl, rfl, rfl, rfl, rfl, rfl, rfl, rfl, rfl, rfl, rfl, rfl, rfl, rfl, rfl, rfl, rfl, rfl, rfl, rfl, rfl⟩)⟩
  case hend =>
    intro Lb A W hI
    obtain ⟨u0, hI⟩ := hI
    obtain ⟨u1, hI⟩ := hI
    obtain ⟨u2, hI⟩ := hI
    obtain ⟨u3, hI⟩ := hI
    obtain ⟨u4, hI⟩ := hI
    obtain ⟨u5, hI⟩ := hI
    obtain ⟨u6, hI⟩ := hI
    obtain ⟨u7, hI⟩ := hI
    obtain ⟨u8, hI⟩ := hI
    obtain ⟨u9, hI⟩ := hI
    obtain ⟨u10, hI⟩ := hI
    obtain ⟨u11, hI⟩ := hI
    obtain ⟨u12, hI⟩ := hI
    obtain ⟨u13, hI⟩ := hI
    obtain ⟨u14, hI⟩ := hI
    obtain ⟨u15, hI⟩ := hI
    obtain ⟨u16, hI⟩ := hI
    obtain ⟨u17, hI⟩ := hI
    obtain ⟨u18, hI⟩ := hI
    obtain ⟨u19, hI⟩ := hI
    obtain ⟨u20, hI⟩ := hI
    obtain ⟨u21, hI⟩ := hI
    obtain ⟨u22, hI⟩ := hI
    obtain ⟨u23, hI⟩ := hI
    obtain ⟨u24, hI⟩ := hI
    obtain ⟨u25, hI⟩ := hI
    obtain ⟨u26, hI⟩ := hI
    obtain ⟨u27, hI⟩ := hI
    obtain ⟨u28, hI⟩ := hI
    obtain ⟨u29, hI⟩ := hI
    obtain ⟨u30, hI⟩ := hI
    obtain ⟨u31, hI⟩ := hI
    obtain ⟨u32, hI⟩ := hI
    obtain ⟨dm, hI⟩ := hI
    obtain ⟨hLb, hI⟩ := hI
    obtain ⟨hA, hI⟩ := hI
    obtain ⟨kB, hI⟩ := hI
    obtain ⟨c3, hI⟩ := hI
    obtain ⟨c4, hI⟩ := hI
    obtain ⟨c5, hI⟩ := hI
    obtain ⟨c7, hI⟩ := hI
    obtain ⟨c8, hI⟩ := hI
    obtain ⟨c9, hI⟩ := hI
    obtain ⟨c10, hI⟩ := hI
    obtain ⟨c11, hI⟩ := hI
    obtain ⟨c12, hI⟩ := hI
    obtain ⟨c13, hI⟩ := hI
    obtain ⟨c14, hI⟩ := hI
    obtain ⟨c15, hI⟩ := hI
    obtain ⟨c16, hI⟩ := hI
    obtain ⟨c17, hI⟩ := hI
    obtain ⟨c18, hI⟩ := hI
    obtain ⟨c19, hI⟩ := hI
    obtain ⟨c20, hI⟩ := hI
    obtain ⟨c21, hI⟩ := hI
    obtain ⟨c22, hI⟩ := hI
    obtain ⟨c23, hI⟩ := hI
    obtain ⟨c24, hI⟩ := hI
    obtain ⟨c25, hI⟩ := hI
    obtain ⟨c26, hI⟩ := hI
    obtain ⟨c27, hI⟩ := hI
    obtain ⟨c28, hI⟩ := hI
    obtain ⟨c29, hI⟩ := hI
    obtain ⟨c30, hI⟩ := hI
    obtain ⟨c31, hI⟩ := hI
    have kF := hI
    clear hI
    subst hLb
    subst hA
    intro hL
    have hl : u0 = true ∧ u1 = true ∧ u2 = true ∧ u3 = true ∧ u4 = true ∧ u5 = true ∧ u6 = true ∧ u7 = true ∧ u8 = true ∧ u9 = true ∧ u10 = true ∧ u11 = true ∧ u12 = true ∧ u13 = true ∧ u14 = true ∧ u15 = true ∧ u16 = true ∧ u17 = true ∧ u18 = true ∧ u19 = true ∧ u20 = true ∧ u21 = true ∧ u22 = true ∧ u23 = true ∧ u24 = true ∧ u25 = true ∧ u26 = true ∧ u27 = true ∧ u28 = true ∧ u29 = true ∧ u30 = true ∧ u31 = true ∧ u32 = true := by
      have h2 := congrArg Array.toList hL
      simpa [List.replicate] using h2
    obtain ⟨rfl, rfl, rfl, rfl, rfl, rfl, rfl, rfl, rfl, rfl, rfl, rfl, rfl, rfl, rfl, rfl, rfl, rfl, rfl, rfl, rfl, rfl, rfl, rfl, rfl, rfl, rfl, rfl, rfl, rfl, rfl, rfl, rfl⟩ := hl
    exact unhide HQ  W kB

end Go.Proofs.Ytdcecfgmfmpeeaa

namespace Go.Proofs.Ytdcecfgmfmpeeaa
open Go.ChangeShapes Go.WideShapes Go.ChangeAt Go.RowKit
set_option linter.unusedVariables false
set_option linter.unusedSimpArgs false

set_option maxHeartbeats 4000000 in
set_option maxRecDepth 100000 in
theorem mr22 {s1 s2 s3 s4 s5 s7 s10 s11 s12 s13 s14 s15 s16 s17 s18 s19 s20 s21 s22 s23 s24 s25 s26 s27 s28 s29 s30 s31 s32 s33 s34 s35 s36 s37 s38 s39 s40 s41 s42 s43 s44 s45 s46 s47 s48 s49 s50 s51 s52 s53 s54 s55 s56 s57 s58 s59 s60 s61 s62 s63 s64 s65 s66 s67 s68 s69 s70 s71 s72 s73 s74 s75 s76 s77 s78 s79 s80 s81 s82 s83 s84 s85 s86 s87 s88 s89 s90 s91 s92 s93 s94 s95 s96 s97 s98 s99 s100 s101 s102 s103 s104 s105 s106 s107 s108 s109 s110 s111 s112 s113 s114 s115 s116 s117 s118 s119 s120 s121 s122 s123 s124 s125 s126 s127 s128 s129 s130 s131 s132 s133 s134 s135 s136 s137 s138 s139 s140 s141 s142 s143 s144 s145 s146 s147 s148 s149 s150 s151 s152 s153 s154 s155 s156 s157 s158 s159 s160 s161 s162 s163 s164 s165 s166 s167 s168 s169 s170 s171 s172 s173 s174 s175 s176 s177 s178 s179 s180 s181 s182 s183 s184 s185 s186 s187 s188 s189 s190 s191 s192 s193 s194 s195 s196 s197 s198 s199 s200 s201 : Value} {b n cap nb m nc a c i j : Nat} {x0 y0 x1 y1 X Y D N : Int} {V : World} {K_ : Act → World → Prop} 
    (HN0 : Hid (V.cell? ⟨nb, a, none⟩ = some (.int .i64 (i : Int)))) (HA0 : Hid (V.cell? ⟨b, i * 2, none⟩ = some (.int .i64 (x0)))) (HA1 : Hid (V.cell? ⟨b, i * 2 + 1, none⟩ = some (.int .i64 (y0)))) (HN1 : Hid (V.cell? ⟨nb, c, none⟩ = some (.int .i64 (j : Int)))) (HC0 : Hid (V.cell? ⟨b, j * 2, none⟩ = some (.int .i64 (x1)))) (HC1 : Hid (V.cell? ⟨b, j * 2 + 1, none⟩ = some (.int .i64 (y1)))) 
    (HX3 : Hid (a < m))
    (HX5 : Hid (i < n))
    (HX10 : Hid (c < m))
    (HX12 : Hid (j < n))
    (HF14 : Hid (∀ Xw, Below V.heap.size V Xw → Calls Try.prog 43 #[.agg #[.int .i64 (x0), .int .i64 (y0)], .agg #[.int .i64 (x1), .int .i64 (y1)]] Xw fun e w' => e = .returned (.agg #[.int .i64 (0), .int .i64 (0), .int .i64 (0), .int .i64 (0), .int .i64 (X), .int .i64 (Y), .int .i64 (D), .int .i64 (N)]) ∧ Below Xw.heap.size Xw w'))
    (hQ : ∀ (n15 : Nat) (W1 : World), Below V.heap.size V W1 → cb W1 n15 34 [.int .i64 (0), .int .i64 (0), .int .i64 (0), .int .i64 (0), .int .i64 (X), .int .i64 (Y), .int .i64 (D), .int .i64 (N)] → V.heap.size ≤ n15 → K_ { tmps := #[.slice (some ⟨b, 0, none⟩) n cap, s1, s2, s3, s4, s5, .slice (some ⟨nb, 0, none⟩) m nc, s7, .int .i64 (a : Int), .int .i64 (c : Int), .pointer (some ⟨n15, 0, none⟩), s11, s12, s13, s14, s15, s16, s17, s18, s19, s20, s21, s22, s23, s24, s25, s26, s27, s28, s29, s30, s31, s32, s33, s34, s35, s36, s37, s38, s39, s40, s41, s42, s43, s44, s45, s46, s47, s48, s49, s50, s51, s52, s53, s54, s55, s56, s57, s58, s59, s60, s61, s62, s63, s64, s65, s66, s67, s68, s69, s70, s71, s72, s73, s74, s75, s76, s77, s78, s79, s80, s81, s82, s83, s84, s85, s86, s87, s88, s89, s90, s91, s92, s93, s94, s95, s96, s97, s98, s99, s100, .slice (some ⟨b, 0, none⟩) n cap, .slice (some ⟨nb, 0, none⟩) m nc, .int .i64 (a : Int), .pointer (some ⟨nb, a, none⟩), .int .i64 (i : Int), .pointer (some ⟨b, i * 2, none⟩), .agg #[.int .i64 (x0), .int .i64 (y0)], .slice (some ⟨b, 0, none⟩) n cap, .slice (some ⟨nb, 0, none⟩) m nc, .int .i64 (c : Int), .pointer (some ⟨nb, c, none⟩), .int .i64 (j : Int), .pointer (some ⟨b, j * 2, none⟩), .agg #[.int .i64 (x1), .int .i64 (y1)], .agg #[.int .i64 (0), .int .i64 (0), .int .i64 (0), .int .i64 (0), .int .i64 (X), .int .i64 (Y), .int .i64 (D), .int .i64 (N)], s116, s117, s118, s119, s120, s121, s122, s123, s124, s125, s126, s127, s128, s129, s130, s131, s132, s133, s134, s135, s136, s137, s138, s139, s140, s141, s142, s143, s144, s145, s146, s147, s148, s149, s150, s151, s152, s153, s154, s155, s156, s157, s158, s159, s160, s161, s162, s163, s164, s165, s166, s167, s168, s169, s170, s171, s172, s173, s174, s175, s176, s177, s178, s179, s180, s181, s182, s183, s184, s185, s186, s187, s188, s189, s190, s191, s192, s193, s194, s195, s196, s197, s198, s199, s200, s201], defers := [] } W1) :
    Go.Code.wp Try.prog (rg11 22) (Only K_) { tmps := #[.slice (some ⟨b, 0, none⟩) n cap, s1, s2, s3, s4, s5, .slice (some ⟨nb, 0, none⟩) m nc, s7, .int .i64 (a : Int), .int .i64 (c : Int), s10, s11, s12, s13, s14, s15, s16, s17, s18, s19, s20, s21, s22, s23, s24, s25, s26, s27, s28, s29, s30, s31, s32, s33, s34, s35, s36, s37, s38, s39, s40, s41, s42, s43, s44, s45, s46, s47, s48, s49, s50, s51, s52, s53, s54, s55, s56, s57, s58, s59, s60, s61, s62, s63, s64, s65, s66, s67, s68, s69, s70, s71, s72, s73, s74, s75, s76, s77, s78, s79, s80, s81, s82, s83, s84, s85, s86, s87, s88, s89, s90, s91, s92, s93, s94, s95, s96, s97, s98, s99, s100, s101, s102, s103, s104, s105, s106, s107, s108, s109, s110, s111, s112, s113, s114, s115, s116, s117, s118, s119, s120, s121, s122, s123, s124, s125, s126, s127, s128, s129, s130, s131, s132, s133, s134, s135, s136, s137, s138, s139, s140, s141, s142, s143, s144, s145, s146, s147, s148, s149, s150, s151, s152, s153, s154, s155, s156, s157, s158, s159, s160, s161, s162, s163, s164, s165, s166, s167, s168, s169, s170, s171, s172, s173, s174, s175, s176, s177, s178, s179, s180, s181, s182, s183, s184, s185, s186, s187, s188, s189, s190, s191, s192, s193, s194, s195, s196, s197, s198, s199, s200, s201], defers := [] } V := by
  have HQ := hide hQ
  clear hQ
  conv => arg 2; whnf
  refine wp_region_inv2 (fun Lb A W => ∃ (u0 u1 u2 u3 u4 u5 u6 u7 u8 u9 u10 u11 u12 u13 u14 u15 u16 : Bool) (n15 : Nat), Lb = #[u0, u1, u2, u3, u4, u5, u6, u7, u8, u9, u10, u11, u12, u13, u14, u15, u16] ∧ A = ({ tmps := #[.slice (some ⟨b, 0, none⟩) n cap, s1, s2, s3, s4, s5, .slice (some ⟨nb, 0, none⟩) m nc, s7, .int .i64 (a : Int), .int .i64 (c : Int), (bif u15 then .pointer (some ⟨n15, 0, none⟩) else s10), s11, s12, s13, s14, s15, s16, s17, s18, s19, s20, s21, s22, s23, s24, s25, s26, s27, s28, s29, s30, s31, s32, s33, s34, s35, s36, s37, s38, s39, s40, s41, s42, s43, s44, s45, s46, s47, s48, s49, s50, s51, s52, s53, s54, s55, s56, s57, s58, s59, s60, s61, s62, s63, s64, s65, s66, s67, s68, s69, s70, s71, s72, s73, s74, s75, s76, s77, s78, s79, s80, s81, s82, s83, s84, s85, s86, s87, s88, s89, s90, s91, s92, s93, s94, s95, s96, s97, s98, s99, s100, (bif u0 then .slice (some ⟨b, 0, none⟩) n cap else s101), (bif u1 then .slice (some ⟨nb, 0, none⟩) m nc else s102), (bif u2 then .int .i64 (a : Int) else s103), (bif u3 then .pointer (some ⟨nb, a, none⟩) else s104), (bif u4 then .int .i64 (i : Int) else s105), (bif u5 then .pointer (some ⟨b, i * 2, none⟩) else s106), (bif u6 then .agg #[.int .i64 (x0), .int .i64 (y0)] else s107), (bif u7 then .slice (some ⟨b, 0, none⟩) n cap else s108), (bif u8 then .slice (some ⟨nb, 0, none⟩) m nc else s109), (bif u9 then .int .i64 (c : Int) else s110), (bif u10 then .pointer (some ⟨nb, c, none⟩) else s111), (bif u11 then .int .i64 (j : Int) else s112), (bif u12 then .pointer (some ⟨b, j * 2, none⟩) else s113), (bif u13 then .agg #[.int .i64 (x1), .int .i64 (y1)] else s114), (bif u14 then .agg #[.int .i64 (0), .int .i64 (0), .int .i64 (0), .int .i64 (0), .int .i64 (X), .int .i64 (Y), .int .i64 (D), .int .i64 (N)] else s115), s116, s117, s118, s119, s120, s121, s122, s123, s124, s125, s126, s127, s128, s129, s130, s131, s132, s133, s134, s135, s136, s137, s138, s139, s140, s141, s142, s143, s144, s145, s146, s147, s148, s149, s150, s151, s152, s153, s154, s155, s156, s157, s158, s159, s160, s161, s162, s163, s164, s165, s166, s167, s168, s169, s170, s171, s172, s173, s174, s175, s176, s177, s178, s179, s180, s181, s182, s183, s184, s185, s186, s187, s188, s189, s190, s191, s192, s193, s194, s195, s196, s197, s198, s199, s200, s201], defers := [] } : Act) ∧ Below V.heap.size V W ∧ (u15 = true → cb W n15 34 (bif u16 then [.int .i64 (0), .int .i64 (0), .int .i64 (0), .int .i64 (0), .int .i64 (X), .int .i64 (Y), .int .i64 (D), .int .i64 (N)] else [.int .i64 (0), .int .i64 (0), .int .i64 (0), .int .i64 (0), .int .i64 (0), .int .i64 (0), .int .i64 (0), .int .i64 (0)]) ∧ V.heap.size ≤ n15) ∧ (u3 = true → u1 = true ∧ u2 = true) ∧ (u4 = true → u3 = true) ∧ (u5 = true → u0 = true ∧ u4 = true) ∧ (u6 = true → u5 = true) ∧ (u10 = true → u8 = true ∧ u9 = true) ∧ (u11 = true → u10 = true) ∧ (u12 = true → u7 = true ∧ u11 = true) ∧ (u13 = true → u12 = true) ∧ (u14 = true → u6 = true ∧ u13 = true) ∧ (u16 = true → u0 = true ∧ u1 = true ∧ u2 = true ∧ u3 = true ∧ u4 = true ∧ u5 = true ∧ u6 = true ∧ u7 = true ∧ u8 = true ∧ u9 = true ∧ u10 = true ∧ u11 = true ∧ u12 = true ∧ u13 = true ∧ u14 = true ∧ u15 = true)) (by kernel_rfl) (by kernel_rfl) ?h0 ?hstep ?hend
  case h0 =>
    exact ⟨false, false, false, false, false, false, false, false, false, false, false, false, false, false, false, false, false, 0, rfl, rfl, Below.drew (Below.refl _ _), (fun h => nomatch h), (fun h => nomatch h), (fun h => nomatch h), (fun h => nomatch h), (fun h => nomatch h), (fun h => nomatch h), (fun h => nomatch h), (fun h => nomatch h), (fun h => nomatch h), (fun h => nomatch h), (fun h => nomatch h)⟩
  case hstep =>
    intro Lb A W hI
    obtain ⟨u0, hI⟩ := hI
    obtain ⟨u1, hI⟩ := hI
    obtain ⟨u2, hI⟩ := hI
    obtain ⟨u3, hI⟩ := hI
    obtain ⟨u4, hI⟩ := hI
    obtain ⟨u5, hI⟩ := hI
    obtain ⟨u6, hI⟩ := hI
    obtain ⟨u7, hI⟩ := hI
    obtain ⟨u8, hI⟩ := hI
    obtain ⟨u9, hI⟩ := hI
    obtain ⟨u10, hI⟩ := hI
    obtain ⟨u11, hI⟩ := hI
    obtain ⟨u12, hI⟩ := hI
    obtain ⟨u13, hI⟩ := hI
    obtain ⟨u14, hI⟩ := hI
    obtain ⟨u15, hI⟩ := hI
    obtain ⟨u16, hI⟩ := hI
    obtain ⟨n15, hI⟩ := hI
    obtain ⟨hLb, hI⟩ := hI
    obtain ⟨hA, hI⟩ := hI
    obtain ⟨kB, hI⟩ := hI
    obtain ⟨k15, hI⟩ := hI
    obtain ⟨c3, hI⟩ := hI
    obtain ⟨c4, hI⟩ := hI
    obtain ⟨c5, hI⟩ := hI
    obtain ⟨c6, hI⟩ := hI
    obtain ⟨c10, hI⟩ := hI
    obtain ⟨c11, hI⟩ := hI
    obtain ⟨c12, hI⟩ := hI
    obtain ⟨c13, hI⟩ := hI
    obtain ⟨c14, hI⟩ := hI
    have kF := hI
    clear hI
    subst hLb
    subst hA
    have H_kB := hide kB
    have H_k15 := hide k15
    have H_c3 := hide c3
    have H_c4 := hide c4
    have H_c5 := hide c5
    have H_c6 := hide c6
    have H_c10 := hide c10
    have H_c11 := hide c11
    have H_c12 := hide c12
    have H_c13 := hide c13
    have H_c14 := hide c14
    have H_kF := hide kF
    clear kB k15 c3 c4 c5 c6 c10 c11 c12 c13 c14 kF
    refine ⟨?_, ?_, ?_, ?_, ?_, ?_, ?_, ?_, ?_, ?_, ?_, ?_, ?_, ?_, ?_, ?_, ?_, trivial⟩
    · intro h0 hd K hK
      have z : u0 = false := h0
      have z16_ : u16 = false := by
        cases hu : u16 with
        | false => rfl
        | true => exact nomatch z.symm.trans ((unhide H_kF hu).1)
      subst z16_
      subst z
      clear h0 hd
      rw [if_pos (by rfl)]
      go_simp
      exact unhide hK _ _ ⟨true, u1, u2, u3, u4, u5, u6, u7, u8, u9, u10, u11, u12, u13, u14, u15, false, n15, rfl, rfl, unhide H_kB, unhide H_k15, unhide H_c3, unhide H_c4, (fun h => ⟨rfl, (unhide H_c5 h).2⟩), unhide H_c6, unhide H_c10, unhide H_c11, unhide H_c12, unhide H_c13, unhide H_c14, (fun h => nomatch h)⟩
    · intro h0 hd K hK
      have z : u1 = false := h0
      have z16_ : u16 = false := by
        cases hu : u16 with
        | false => rfl
        | true => exact nomatch z.symm.trans ((unhide H_kF hu).2.1)
      subst z16_
      subst z
      clear h0 hd
      rw [if_pos (by rfl)]
      go_simp
      exact unhide hK _ _ ⟨u0, true, u2, u3, u4, u5, u6, u7, u8, u9, u10, u11, u12, u13, u14, u15, false, n15, rfl, rfl, unhide H_kB, unhide H_k15, (fun h => ⟨rfl, (unhide H_c3 h).2⟩), unhide H_c4, unhide H_c5, unhide H_c6, unhide H_c10, unhide H_c11, unhide H_c12, unhide H_c13, unhide H_c14, (fun h => nomatch h)⟩
    · intro h0 hd K hK
      have z : u2 = false := h0
      have z16_ : u16 = false := by
        cases hu : u16 with
        | false => rfl
        | true => exact nomatch z.symm.trans ((unhide H_kF hu).2.2.1)
      subst z16_
      subst z
      clear h0 hd
      rw [if_pos (by rfl)]
      go_simp
      exact unhide hK _ _ ⟨u0, u1, true, u3, u4, u5, u6, u7, u8, u9, u10, u11, u12, u13, u14, u15, false, n15, rfl, rfl, unhide H_kB, unhide H_k15, (fun h => ⟨(unhide H_c3 h).1, rfl⟩), unhide H_c4, unhide H_c5, unhide H_c6, unhide H_c10, unhide H_c11, unhide H_c12, unhide H_c13, unhide H_c14, (fun h => nomatch h)⟩
    · intro h0 hd K hK
      have z : u3 = false := h0
      have z16_ : u16 = false := by
        cases hu : u16 with
        | false => rfl
        | true => exact nomatch z.symm.trans ((unhide H_kF hu).2.2.2.1)
      have zd : u1 = true ∧ u2 = true := by
        simp [Region.binds] at hd
        simp [hd]
      obtain ⟨rfl, rfl⟩ := zd
      subst z16_
      subst z
      clear h0 hd
      rw [if_pos (by rfl)]
      have q1 : a < m := unhide HX3
      have q2 : (a : Int) < (m : Int) := by omega
      go_simp
      exact unhide hK _ _ ⟨u0, true, true, true, u4, u5, u6, u7, u8, u9, u10, u11, u12, u13, u14, u15, false, n15, rfl, rfl, unhide H_kB, unhide H_k15, (fun _ => ⟨rfl, rfl⟩), (fun h => rfl), unhide H_c5, unhide H_c6, unhide H_c10, unhide H_c11, unhide H_c12, unhide H_c13, unhide H_c14, (fun h => nomatch h)⟩
    · intro h0 hd K hK
      have z : u4 = false := h0
      have z16_ : u16 = false := by
        cases hu : u16 with
        | false => rfl
        | true => exact nomatch z.symm.trans ((unhide H_kF hu).2.2.2.2.1)
      have zd : u3 = true := by
        simp [Region.binds] at hd
        simp [hd]
      obtain ⟨rfl⟩ := zd
      subst z16_
      subst z
      clear h0 hd
      rw [if_pos (by rfl)]
      have c0 := keep1 (unhide H_kB) (unhide HN0)
      go_simp
      exact unhide hK _ _ ⟨u0, u1, u2, true, true, u5, u6, u7, u8, u9, u10, u11, u12, u13, u14, u15, false, n15, rfl, rfl, unhide H_kB, unhide H_k15, unhide H_c3, (fun _ => rfl), (fun h => ⟨(unhide H_c5 h).1, rfl⟩), unhide H_c6, unhide H_c10, unhide H_c11, unhide H_c12, unhide H_c13, unhide H_c14, (fun h => nomatch h)⟩
    · intro h0 hd K hK
      have z : u5 = false := h0
      have z16_ : u16 = false := by
        cases hu : u16 with
        | false => rfl
        | true => exact nomatch z.symm.trans ((unhide H_kF hu).2.2.2.2.2.1)
      have zd : u0 = true ∧ u4 = true := by
        simp [Region.binds] at hd
        simp [hd]
      obtain ⟨rfl, rfl⟩ := zd
      subst z16_
      subst z
      clear h0 hd
      rw [if_pos (by rfl)]
      have q1 : i < n := unhide HX5
      have q2 : (i : Int) < (n : Int) := by omega
      go_simp
      exact unhide hK _ _ ⟨true, u1, u2, u3, true, true, u6, u7, u8, u9, u10, u11, u12, u13, u14, u15, false, n15, rfl, rfl, unhide H_kB, unhide H_k15, unhide H_c3, unhide H_c4, (fun _ => ⟨rfl, rfl⟩), (fun h => rfl), unhide H_c10, unhide H_c11, unhide H_c12, unhide H_c13, unhide H_c14, (fun h => nomatch h)⟩
    · intro h0 hd K hK
      have z : u6 = false := h0
      have z16_ : u16 = false := by
        cases hu : u16 with
        | false => rfl
        | true => exact nomatch z.symm.trans ((unhide H_kF hu).2.2.2.2.2.2.1)
      have zd : u5 = true := by
        simp [Region.binds] at hd
        simp [hd]
      obtain ⟨rfl⟩ := zd
      subst z16_
      subst z
      clear h0 hd
      rw [if_pos (by rfl)]
      have c0 := keep1 (unhide H_kB) (unhide HA0)
      have c1 := keep1 (unhide H_kB) (unhide HA1)
      go_simp
      exact unhide hK _ _ ⟨u0, u1, u2, u3, u4, true, true, u7, u8, u9, u10, u11, u12, u13, u14, u15, false, n15, rfl, rfl, unhide H_kB, unhide H_k15, unhide H_c3, unhide H_c4, unhide H_c5, (fun _ => rfl), unhide H_c10, unhide H_c11, unhide H_c12, unhide H_c13, (fun h => ⟨rfl, (unhide H_c14 h).2⟩), (fun h => nomatch h)⟩
    · intro h0 hd K hK
      have z : u7 = false := h0
      have z16_ : u16 = false := by
        cases hu : u16 with
        | false => rfl
        | true => exact nomatch z.symm.trans ((unhide H_kF hu).2.2.2.2.2.2.2.1)
      subst z16_
      subst z
      clear h0 hd
      rw [if_pos (by rfl)]
      go_simp
      exact unhide hK _ _ ⟨u0, u1, u2, u3, u4, u5, u6, true, u8, u9, u10, u11, u12, u13, u14, u15, false, n15, rfl, rfl, unhide H_kB, unhide H_k15, unhide H_c3, unhide H_c4, unhide H_c5, unhide H_c6, unhide H_c10, unhide H_c11, (fun h => ⟨rfl, (unhide H_c12 h).2⟩), unhide H_c13, unhide H_c14, (fun h => nomatch h)⟩
    · intro h0 hd K hK
      have z : u8 = false := h0
      have z16_ : u16 = false := by
        cases hu : u16 with
        | false => rfl
        | true => exact nomatch z.symm.trans ((unhide H_kF hu).2.2.2.2.2.2.2.2.1)
      subst z16_
      subst z
      clear h0 hd
      rw [if_pos (by rfl)]
      go_simp
      exact unhide hK _ _ ⟨u0, u1, u2, u3, u4, u5, u6, u7, true, u9, u10, u11, u12, u13, u14, u15, false, n15, rfl, rfl, unhide H_kB, unhide H_k15, unhide H_c3, unhide H_c4, unhide H_c5, unhide H_c6, (fun h => ⟨rfl, (unhide H_c10 h).2⟩), unhide H_c11, unhide H_c12, unhide H_c13, unhide H_c14, (fun h => nomatch h)⟩
    · intro h0 hd K hK
      have z : u9 = false := h0
      have z16_ : u16 = false := by
        cases hu : u16 with
        | false => rfl
        | true => exact nomatch z.symm.trans ((unhide H_kF hu).2.2.2.2.2.2.2.2.2.1)
      subst z16_
      subst z
      clear h0 hd
      rw [if_pos (by rfl)]
      go_simp
      exact unhide hK _ _ ⟨u0, u1, u2, u3, u4, u5, u6, u7, u8, true, u10, u11, u12, u13, u14, u15, false, n15, rfl, rfl, unhide H_kB, unhide H_k15, unhide H_c3, unhide H_c4, unhide H_c5, unhide H_c6, (fun h => ⟨(unhide H_c10 h).1, rfl⟩), unhide H_c11, unhide H_c12, unhide H_c13, unhide H_c14, (fun h => nomatch h)⟩
    · intro h0 hd K hK
      have z : u10 = false := h0
      have z16_ : u16 = false := by
        cases hu : u16 with
        | false => rfl
        | true => exact nomatch z.symm.trans ((unhide H_kF hu).2.2.2.2.2.2.2.2.2.2.1)
      have zd : u8 = true ∧ u9 = true := by
        simp [Region.binds] at hd
        simp [hd]
      obtain ⟨rfl, rfl⟩ := zd
      subst z16_
      subst z
      clear h0 hd
      rw [if_pos (by rfl)]
      have q1 : c < m := unhide HX10
      have q2 : (c : Int) < (m : Int) := by omega
      go_simp
      exact unhide hK _ _ ⟨u0, u1, u2, u3, u4, u5, u6, u7, true, true, true, u11, u12, u13, u14, u15, false, n15, rfl, rfl, unhide H_kB, unhide H_k15, unhide H_c3, unhide H_c4, unhide H_c5, unhide H_c6, (fun _ => ⟨rfl, rfl⟩), (fun h => rfl), unhide H_c12, unhide H_c13, unhide H_c14, (fun h => nomatch h)⟩
    · intro h0 hd K hK
      have z : u11 = false := h0
      have z16_ : u16 = false := by
        cases hu : u16 with
        | false => rfl
        | true => exact nomatch z.symm.trans ((unhide H_kF hu).2.2.2.2.2.2.2.2.2.2.2.1)
      have zd : u10 = true := by
        simp [Region.binds] at hd
        simp [hd]
      obtain ⟨rfl⟩ := zd
      subst z16_
      subst z
      clear h0 hd
      rw [if_pos (by rfl)]
      have c0 := keep1 (unhide H_kB) (unhide HN1)
      go_simp
      exact unhide hK _ _ ⟨u0, u1, u2, u3, u4, u5, u6, u7, u8, u9, true, true, u12, u13, u14, u15, false, n15, rfl, rfl, unhide H_kB, unhide H_k15, unhide H_c3, unhide H_c4, unhide H_c5, unhide H_c6, unhide H_c10, (fun _ => rfl), (fun h => ⟨(unhide H_c12 h).1, rfl⟩), unhide H_c13, unhide H_c14, (fun h => nomatch h)⟩
    · intro h0 hd K hK
      have z : u12 = false := h0
      have z16_ : u16 = false := by
        cases hu : u16 with
        | false => rfl
        | true => exact nomatch z.symm.trans ((unhide H_kF hu).2.2.2.2.2.2.2.2.2.2.2.2.1)
      have zd : u7 = true ∧ u11 = true := by
        simp [Region.binds] at hd
        simp [hd]
      obtain ⟨rfl, rfl⟩ := zd
      subst z16_
      subst z
      clear h0 hd
      rw [if_pos (by rfl)]
      have q1 : j < n := unhide HX12
      have q2 : (j : Int) < (n : Int) := by omega
      go_simp
      exact unhide hK _ _ ⟨u0, u1, u2, u3, u4, u5, u6, true, u8, u9, u10, true, true, u13, u14, u15, false, n15, rfl, rfl, unhide H_kB, unhide H_k15, unhide H_c3, unhide H_c4, unhide H_c5, unhide H_c6, unhide H_c10, unhide H_c11, (fun _ => ⟨rfl, rfl⟩), (fun h => rfl), unhide H_c14, (fun h => nomatch h)⟩
    · intro h0 hd K hK
      have z : u13 = false := h0
      have z16_ : u16 = false := by
        cases hu : u16 with
        | false => rfl
        | true => exact nomatch z.symm.trans ((unhide H_kF hu).2.2.2.2.2.2.2.2.2.2.2.2.2.1)
      have zd : u12 = true := by
        simp [Region.binds] at hd
        simp [hd]
      obtain ⟨rfl⟩ := zd
      subst z16_
      subst z
      clear h0 hd
      rw [if_pos (by rfl)]
      have c0 := keep1 (unhide H_kB) (unhide HC0)
      have c1 := keep1 (unhide H_kB) (unhide HC1)
      go_simp
      exact unhide hK _ _ ⟨u0, u1, u2, u3, u4, u5, u6, u7, u8, u9, u10, u11, true, true, u14, u15, false, n15, rfl, rfl, unhide H_kB, unhide H_k15, unhide H_c3, unhide H_c4, unhide H_c5, unhide H_c6, unhide H_c10, unhide H_c11, unhide H_c12, (fun _ => rfl), (fun h => ⟨(unhide H_c14 h).1, rfl⟩), (fun h => nomatch h)⟩
    · intro h0 hd K hK
      have z : u14 = false := h0
      have z16_ : u16 = false := by
        cases hu : u16 with
        | false => rfl
        | true => exact nomatch z.symm.trans ((unhide H_kF hu).2.2.2.2.2.2.2.2.2.2.2.2.2.2.1)
      have zd : u6 = true ∧ u13 = true := by
        simp [Region.binds] at hd
        simp [hd]
      obtain ⟨rfl, rfl⟩ := zd
      subst z16_
      subst z
      clear h0 hd
      rw [if_pos (by rfl)]
      go_simp
      refine (unhide HF14 W (unhide H_kB)).mono ?_
      rintro e w8 ⟨rfl, hb8⟩
      exact unhide hK _ _ ⟨u0, u1, u2, u3, u4, u5, true, u7, u8, u9, u10, u11, u12, true, true, u15, false, n15, rfl, rfl, bc (unhide H_kB) hb8, (fun h => ⟨(unhide H_k15 h).1.bel hb8, (unhide H_k15 h).2⟩), unhide H_c3, unhide H_c4, unhide H_c5, unhide H_c6, unhide H_c10, unhide H_c11, unhide H_c12, unhide H_c13, (fun _ => ⟨rfl, rfl⟩), (fun h => nomatch h)⟩
    · intro h0 hd K hK
      have z : u15 = false := h0
      have z16_ : u16 = false := by
        cases hu : u16 with
        | false => rfl
        | true => exact nomatch z.symm.trans ((unhide H_kF hu).2.2.2.2.2.2.2.2.2.2.2.2.2.2.2)
      subst z16_
      subst z
      clear h0 hd
      rw [if_pos (by rfl)]
      go_simp
      exact unhide hK _ _ ⟨u0, u1, u2, u3, u4, u5, u6, u7, u8, u9, u10, u11, u12, u13, u14, true, false, W.heap.size, rfl, rfl, ba (unhide H_kB) _, (fun _ => ⟨cb_new W 34 _ _ rfl, (unhide H_kB).size⟩), unhide H_c3, unhide H_c4, unhide H_c5, unhide H_c6, unhide H_c10, unhide H_c11, unhide H_c12, unhide H_c13, unhide H_c14, (fun h => nomatch h)⟩
    · intro h0 hd K hK
      have z : u16 = false := h0
      have zd0 : u15 = true ∧ u14 = true := by
        simp [Region.binds] at hd
        simp [hd]
      have zd : u15 = true ∧ u14 = true ∧ u0 = true ∧ u1 = true ∧ u2 = true ∧ u3 = true ∧ u4 = true ∧ u5 = true ∧ u6 = true ∧ u7 = true ∧ u8 = true ∧ u9 = true ∧ u10 = true ∧ u11 = true ∧ u12 = true ∧ u13 = true := ⟨zd0.1, zd0.2, (unhide H_c5 (unhide H_c6 (unhide H_c14 zd0.2).1)).1, (unhide H_c3 (unhide H_c4 (unhide H_c5 (unhide H_c6 (unhide H_c14 zd0.2).1)).2)).1, (unhide H_c3 (unhide H_c4 (unhide H_c5 (unhide H_c6 (unhide H_c14 zd0.2).1)).2)).2, (unhide H_c4 (unhide H_c5 (unhide H_c6 (unhide H_c14 zd0.2).1)).2), (unhide H_c5 (unhide H_c6 (unhide H_c14 zd0.2).1)).2, (unhide H_c6 (unhide H_c14 zd0.2).1), (unhide H_c14 zd0.2).1, (unhide H_c12 (unhide H_c13 (unhide H_c14 zd0.2).2)).1, (unhide H_c10 (unhide H_c11 (unhide H_c12 (unhide H_c13 (unhide H_c14 zd0.2).2)).2)).1, (unhide H_c10 (unhide H_c11 (unhide H_c12 (unhide H_c13 (unhide H_c14 zd0.2).2)).2)).2, (unhide H_c11 (unhide H_c12 (unhide H_c13 (unhide H_c14 zd0.2).2)).2), (unhide H_c12 (unhide H_c13 (unhide H_c14 zd0.2).2)).2, (unhide H_c13 (unhide H_c14 zd0.2).2), (unhide H_c14 zd0.2).2⟩
      obtain ⟨rfl, rfl, rfl, rfl, rfl, rfl, rfl, rfl, rfl, rfl, rfl, rfl, rfl, rfl, rfl, rfl⟩ := zd
      subst z
      clear h0 hd
      rw [if_pos (by rfl)]
      have v1 := (unhide H_k15 rfl).1
      have g9 := (unhide H_k15 rfl).2
      have fz := v1.frozen
      have q0 := v1.cell (m := 0) rfl
      have q1 := v1.cell (m := 1) rfl
      have q2 := v1.cell (m := 2) rfl
      have q3 := v1.cell (m := 3) rfl
      have q4 := v1.cell (m := 4) rfl
      have q5 := v1.cell (m := 5) rfl
      have q6 := v1.cell (m := 6) rfl
      have q7 := v1.cell (m := 7) rfl
      have HV1 := hide v1
      clear v1
      go_simp
      exact unhide hK _ _ ⟨true, true, true, true, true, true, true, true, true, true, true, true, true, true, true, true, true, n15, rfl, rfl, (((((((((((((((((unhide H_kB)).setCell (p := ⟨n15, 0, none⟩) g9 _)).setCell (p := ⟨n15, 1, none⟩) g9 _)).setCell (p := ⟨n15, 2, none⟩) g9 _)).setCell (p := ⟨n15, 3, none⟩) g9 _)).setCell (p := ⟨n15, 4, none⟩) g9 _)).setCell (p := ⟨n15, 5, none⟩) g9 _)).setCell (p := ⟨n15, 6, none⟩) g9 _)).setCell (p := ⟨n15, 7, none⟩) g9 _), (fun _ => ⟨(((((((((unhide HV1).set 0 _).set 1 _).set 2 _).set 3 _).set 4 _).set 5 _).set 6 _).set 7 _), g9⟩), (fun _ => ⟨rfl, rfl⟩), (fun _ => rfl), (fun _ => ⟨rfl, rfl⟩), (fun _ => rfl), (fun _ => ⟨rfl, rfl⟩), (fun _ => rfl), (fun _ => ⟨rfl, rfl⟩), (fun _ => rfl), (fun _ => ⟨rfl, rfl⟩), (fun _ => ⟨rfl, rfl, rfl, rfl, rfl, rfl, rfl, rfl, rfl, rfl, rfl, rfl, rfl, rfl, rfl, rfl⟩)⟩
  case hend =>
    intro Lb A W hI
    obtain ⟨u0, hI⟩ := hI
    obtain ⟨u1, hI⟩ := hI
    obtain ⟨u2, hI⟩ := hI
    obtain ⟨u3, hI⟩ := hI
    obtain ⟨u4, hI⟩ := hI
    obtain ⟨u5, hI⟩ := hI
    obtain ⟨u6, hI⟩ := hI
    obtain ⟨u7, hI⟩ := hI
    obtain ⟨u8, hI⟩ := hI
    obtain ⟨u9, hI⟩ := hI
    obtain ⟨u10, hI⟩ := hI
    obtain ⟨u11, hI⟩ := hI
    obtain ⟨u12, hI⟩ := hI
    obtain ⟨u13, hI⟩ := hI
    obtain ⟨u14, hI⟩ := hI
    obtain ⟨u15, hI⟩ := hI
    obtain ⟨u16, hI⟩ := hI
    obtain ⟨n15, hI⟩ := hI
    obtain ⟨hLb, hI⟩ := hI
    obtain ⟨hA, hI⟩ := hI
    obtain ⟨kB, hI⟩ := hI
    obtain ⟨k15, hI⟩ := hI
    obtain ⟨c3, hI⟩ := hI
    obtain ⟨c4, hI⟩ := hI
    obtain ⟨c5, hI⟩ := hI
    obtain ⟨c6, hI⟩ := hI
    obtain ⟨c10, hI⟩ := hI
    obtain ⟨c11, hI⟩ := hI
    obtain ⟨c12, hI⟩ := hI
    obtain ⟨c13, hI⟩ := hI
    obtain ⟨c14, hI⟩ := hI
    have kF := hI
    clear hI
    subst hLb
    subst hA
    intro hL
    have hl : u0 = true ∧ u1 = true ∧ u2 = true ∧ u3 = true ∧ u4 = true ∧ u5 = true ∧ u6 = true ∧ u7 = true ∧ u8 = true ∧ u9 = true ∧ u10 = true ∧ u11 = true ∧ u12 = true ∧ u13 = true ∧ u14 = true ∧ u15 = true ∧ u16 = true := by
      have h2 := congrArg Array.toList hL
      simpa [List.replicate] using h2
    obtain ⟨rfl, rfl, rfl, rfl, rfl, rfl, rfl, rfl, rfl, rfl, rfl, rfl, rfl, rfl, rfl, rfl, rfl⟩ := hl
    exact unhide HQ n15 W kB (k15 rfl).1 (k15 rfl).2

end Go.Proofs.Ytdcecfgmfmpeeaa

namespace Go.Proofs.Ytdcecfgmfmpeeaa
open Go.ChangeShapes Go.WideShapes Go.ChangeAt Go.RowKit
set_option linter.unusedVariables false
set_option linter.unusedSimpArgs false

set_option maxHeartbeats 4000000 in
set_option maxRecDepth 100000 in
theorem mr37 {s1 s2 s3 s4 s5 s7 s8 s9 s10 s14 s15 s16 s17 s18 s19 s20 s21 s22 s23 s24 s25 s26 s27 s28 s29 s30 s31 s32 s33 s34 s35 s36 s37 s38 s39 s40 s41 s42 s43 s44 s45 s46 s47 s48 s49 s50 s51 s52 s53 s54 s55 s56 s57 s58 s59 s60 s61 s62 s63 s64 s65 s66 s67 s68 s69 s70 s71 s72 s73 s74 s75 s76 s77 s78 s79 s80 s81 s82 s83 s84 s85 s86 s87 s88 s89 s90 s91 s92 s93 s94 s95 s96 s97 s98 s99 s100 s101 s102 s103 s104 s105 s106 s107 s108 s109 s110 s111 s112 s113 s114 s115 s116 s117 s118 s119 s120 s121 s122 s123 s124 s125 s126 s127 s128 s129 s130 s131 s132 s133 s134 s135 s136 s137 s138 s139 s140 s141 s142 s143 s144 s145 s146 s147 s148 s149 s150 s151 s152 s153 s154 s155 s156 s157 s158 s159 s160 s161 s162 s163 s164 s165 s166 s167 s168 s169 s170 s171 s172 s173 s174 s175 s176 s177 s178 s179 s180 s181 s182 s183 s184 s185 s186 s187 s188 s189 s190 s191 s192 s193 s194 s195 s196 s197 s198 s199 s200 s201 : Value} {b n cap nb m nc a c d i j l : Nat} {x0 y0 x1 y1 x2 y2 X Y D N : Int} {ok : Bool} {V : World} {K_ : Act → World → Prop} 
    (HN0 : Hid (V.cell? ⟨nb, a, none⟩ = some (.int .i64 (i : Int)))) (HA0 : Hid (V.cell? ⟨b, i * 2, none⟩ = some (.int .i64 (x0)))) (HA1 : Hid (V.cell? ⟨b, i * 2 + 1, none⟩ = some (.int .i64 (y0)))) (HN1 : Hid (V.cell? ⟨nb, c, none⟩ = some (.int .i64 (j : Int)))) (HC0 : Hid (V.cell? ⟨b, j * 2, none⟩ = some (.int .i64 (x1)))) (HC1 : Hid (V.cell? ⟨b, j * 2 + 1, none⟩ = some (.int .i64 (y1)))) (HN2 : Hid (V.cell? ⟨nb, d, none⟩ = some (.int .i64 (l : Int)))) (HE0 : Hid (V.cell? ⟨b, l * 2, none⟩ = some (.int .i64 (x2)))) (HE1 : Hid (V.cell? ⟨b, l * 2 + 1, none⟩ = some (.int .i64 (y2)))) 
    (HX3 : Hid (a < m))
    (HX5 : Hid (i < n))
    (HX10 : Hid (c < m))
    (HX12 : Hid (j < n))
    (HX17 : Hid (d < m))
    (HX19 : Hid (l < n))
    (HF21 : Hid (∀ Xw, Below V.heap.size V Xw → Calls Try.prog 45 #[.agg #[.int .i64 (x0), .int .i64 (y0)], .agg #[.int .i64 (x1), .int .i64 (y1)], .agg #[.int .i64 (x2), .int .i64 (y2)]] Xw fun e w' => e = .returned (.tuple #[.agg #[.int .i64 (0), .int .i64 (0), .int .i64 (0), .int .i64 (0), .int .i64 (X), .int .i64 (Y), .int .i64 (D), .int .i64 (N)], .bool (ok)]) ∧ Below Xw.heap.size Xw w'))
    (hQ : ∀ (n25 : Nat) (W1 : World), Below V.heap.size V W1 → cb W1 n25 34 [.int .i64 (0), .int .i64 (0), .int .i64 (0), .int .i64 (0), .int .i64 (X), .int .i64 (Y), .int .i64 (D), .int .i64 (N)] → V.heap.size ≤ n25 → K_ { tmps := #[.slice (some ⟨b, 0, none⟩) n cap, s1, s2, s3, s4, s5, .slice (some ⟨nb, 0, none⟩) m nc, s7, s8, s9, s10, .int .i64 (a : Int), .int .i64 (c : Int), .int .i64 (d : Int), .pointer (some ⟨n25, 0, none⟩), .bool (ok), s16, s17, s18, s19, s20, s21, s22, s23, s24, s25, s26, s27, s28, s29, s30, s31, s32, s33, s34, s35, s36, s37, s38, s39, s40, s41, s42, s43, s44, s45, s46, s47, s48, s49, s50, s51, s52, s53, s54, s55, s56, s57, s58, s59, s60, s61, s62, s63, s64, s65, s66, s67, s68, s69, s70, s71, s72, s73, s74, s75, s76, s77, s78, s79, s80, s81, s82, s83, s84, s85, s86, s87, s88, s89, s90, s91, s92, s93, s94, s95, s96, s97, s98, s99, s100, s101, s102, s103, s104, s105, s106, s107, s108, s109, s110, s111, s112, s113, s114, s115, s116, s117, s118, s119, s120, s121, s122, s123, s124, s125, s126, s127, s128, s129, s130, s131, s132, s133, s134, s135, s136, s137, s138, s139, s140, s141, s142, s143, s144, s145, s146, s147, s148, s149, s150, s151, s152, .tuple #[.agg #[.int .i64 (0), .int .i64 (0), .int .i64 (0), .int .i64 (0), .int .i64 (X), .int .i64 (Y), .int .i64 (D), .int .i64 (N)], .bool (ok)], .slice (some ⟨b, 0, none⟩) n cap, .slice (some ⟨nb, 0, none⟩) m nc, .int .i64 (a : Int), .pointer (some ⟨nb, a, none⟩), .int .i64 (i : Int), .pointer (some ⟨b, i * 2, none⟩), .agg #[.int .i64 (x0), .int .i64 (y0)], .slice (some ⟨b, 0, none⟩) n cap, .slice (some ⟨nb, 0, none⟩) m nc, .int .i64 (c : Int), .pointer (some ⟨nb, c, none⟩), .int .i64 (j : Int), .pointer (some ⟨b, j * 2, none⟩), .agg #[.int .i64 (x1), .int .i64 (y1)], .slice (some ⟨b, 0, none⟩) n cap, .slice (some ⟨nb, 0, none⟩) m nc, .int .i64 (d : Int), .pointer (some ⟨nb, d, none⟩), .int .i64 (l : Int), .pointer (some ⟨b, l * 2, none⟩), .agg #[.int .i64 (x2), .int .i64 (y2)], .tuple #[.agg #[.int .i64 (0), .int .i64 (0), .int .i64 (0), .int .i64 (0), .int .i64 (X), .int .i64 (Y), .int .i64 (D), .int .i64 (N)], .bool (ok)], .agg #[.int .i64 (0), .int .i64 (0), .int .i64 (0), .int .i64 (0), .int .i64 (X), .int .i64 (Y), .int .i64 (D), .int .i64 (N)], .bool (ok), s178, s179, s180, s181, s182, s183, s184, s185, s186, s187, s188, s189, s190, s191, s192, s193, s194, s195, s196, s197, s198, s199, s200, s201], defers := [] } W1) :
    Go.Code.wp Try.prog (rg11 37) (Only K_) { tmps := #[.slice (some ⟨b, 0, none⟩) n cap, s1, s2, s3, s4, s5, .slice (some ⟨nb, 0, none⟩) m nc, s7, s8, s9, s10, .int .i64 (a : Int), .int .i64 (c : Int), .int .i64 (d : Int), s14, s15, s16, s17, s18, s19, s20, s21, s22, s23, s24, s25, s26, s27, s28, s29, s30, s31, s32, s33, s34, s35, s36, s37, s38, s39, s40, s41, s42, s43, s44, s45, s46, s47, s48, s49, s50, s51, s52, s53, s54, s55, s56, s57, s58, s59, s60, s61, s62, s63, s64, s65, s66, s67, s68, s69, s70, s71, s72, s73, s74, s75, s76, s77, s78, s79, s80, s81, s82, s83, s84, s85, s86, s87, s88, s89, s90, s91, s92, s93, s94, s95, s96, s97, s98, s99, s100, s101, s102, s103, s104, s105, s106, s107, s108, s109, s110, s111, s112, s113, s114, s115, s116, s117, s118, s119, s120, s121, s122, s123, s124, s125, s126, s127, s128, s129, s130, s131, s132, s133, s134, s135, s136, s137, s138, s139, s140, s141, s142, s143, s144, s145, s146, s147, s148, s149, s150, s151, s152, s153, s154, s155, s156, s157, s158, s159, s160, s161, s162, s163, s164, s165, s166, s167, s168, s169, s170, s171, s172, s173, s174, s175, s176, s177, s178, s179, s180, s181, s182, s183, s184, s185, s186, s187, s188, s189, s190, s191, s192, s193, s194, s195, s196, s197, s198, s199, s200, s201], defers := [] } V := by
  have HQ := hide hQ
  clear hQ
  conv => arg 2; whnf
  refine wp_region_inv2 (fun Lb A W => ∃ (u0 u1 u2 u3 u4 u5 u6 u7 u8 u9 u10 u11 u12 u13 u14 u15 u16 u17 u18 u19 u20 u21 u22 u23 u24 u25 u26 u27 : Bool) (n25 : Nat), Lb = #[u0, u1, u2, u3, u4, u5, u6, u7, u8, u9, u10, u11, u12, u13, u14, u15, u16, u17, u18, u19, u20, u21, u22, u23, u24, u25, u26, u27] ∧ A = ({ tmps := #[.slice (some ⟨b, 0, none⟩) n cap, s1, s2, s3, s4, s5, .slice (some ⟨nb, 0, none⟩) m nc, s7, s8, s9, s10, .int .i64 (a : Int), .int .i64 (c : Int), .int .i64 (d : Int), (bif u25 then .pointer (some ⟨n25, 0, none⟩) else s14), (bif u27 then .bool (ok) else s15), s16, s17, s18, s19, s20, s21, s22, s23, s24, s25, s26, s27, s28, s29, s30, s31, s32, s33, s34, s35, s36, s37, s38, s39, s40, s41, s42, s43, s44, s45, s46, s47, s48, s49, s50, s51, s52, s53, s54, s55, s56, s57, s58, s59, s60, s61, s62, s63, s64, s65, s66, s67, s68, s69, s70, s71, s72, s73, s74, s75, s76, s77, s78, s79, s80, s81, s82, s83, s84, s85, s86, s87, s88, s89, s90, s91, s92, s93, s94, s95, s96, s97, s98, s99, s100, s101, s102, s103, s104, s105, s106, s107, s108, s109, s110, s111, s112, s113, s114, s115, s116, s117, s118, s119, s120, s121, s122, s123, s124, s125, s126, s127, s128, s129, s130, s131, s132, s133, s134, s135, s136, s137, s138, s139, s140, s141, s142, s143, s144, s145, s146, s147, s148, s149, s150, s151, s152, (bif u22 then .tuple #[.agg #[.int .i64 (0), .int .i64 (0), .int .i64 (0), .int .i64 (0), .int .i64 (X), .int .i64 (Y), .int .i64 (D), .int .i64 (N)], .bool (ok)] else s153), (bif u0 then .slice (some ⟨b, 0, none⟩) n cap else s154), (bif u1 then .slice (some ⟨nb, 0, none⟩) m nc else s155), (bif u2 then .int .i64 (a : Int) else s156), (bif u3 then .pointer (some ⟨nb, a, none⟩) else s157), (bif u4 then .int .i64 (i : Int) else s158), (bif u5 then .pointer (some ⟨b, i * 2, none⟩) else s159), (bif u6 then .agg #[.int .i64 (x0), .int .i64 (y0)] else s160), (bif u7 then .slice (some ⟨b, 0, none⟩) n cap else s161), (bif u8 then .slice (some ⟨nb, 0, none⟩) m nc else s162), (bif u9 then .int .i64 (c : Int) else s163), (bif u10 then .pointer (some ⟨nb, c, none⟩) else s164), (bif u11 then .int .i64 (j : Int) else s165), (bif u12 then .pointer (some ⟨b, j * 2, none⟩) else s166), (bif u13 then .agg #[.int .i64 (x1), .int .i64 (y1)] else s167), (bif u14 then .slice (some ⟨b, 0, none⟩) n cap else s168), (bif u15 then .slice (some ⟨nb, 0, none⟩) m nc else s169), (bif u16 then .int .i64 (d : Int) else s170), (bif u17 then .pointer (some ⟨nb, d, none⟩) else s171), (bif u18 then .int .i64 (l : Int) else s172), (bif u19 then .pointer (some ⟨b, l * 2, none⟩) else s173), (bif u20 then .agg #[.int .i64 (x2), .int .i64 (y2)] else s174), (bif u21 then .tuple #[.agg #[.int .i64 (0), .int .i64 (0), .int .i64 (0), .int .i64 (0), .int .i64 (X), .int .i64 (Y), .int .i64 (D), .int .i64 (N)], .bool (ok)] else s175), (bif u23 then .agg #[.int .i64 (0), .int .i64 (0), .int .i64 (0), .int .i64 (0), .int .i64 (X), .int .i64 (Y), .int .i64 (D), .int .i64 (N)] else s176), (bif u24 then .bool (ok) else s177), s178, s179, s180, s181, s182, s183, s184, s185, s186, s187, s188, s189, s190, s191, s192, s193, s194, s195, s196, s197, s198, s199, s200, s201], defers := [] } : Act) ∧ Below V.heap.size V W ∧ (u25 = true → cb W n25 34 (bif u26 then [.int .i64 (0), .int .i64 (0), .int .i64 (0), .int .i64 (0), .int .i64 (X), .int .i64 (Y), .int .i64 (D), .int .i64 (N)] else [.int .i64 (0), .int .i64 (0), .int .i64 (0), .int .i64 (0), .int .i64 (0), .int .i64 (0), .int .i64 (0), .int .i64 (0)]) ∧ V.heap.size ≤ n25) ∧ (u3 = true → u1 = true ∧ u2 = true) ∧ (u4 = true → u3 = true) ∧ (u5 = true → u0 = true ∧ u4 = true) ∧ (u6 = true → u5 = true) ∧ (u10 = true → u8 = true ∧ u9 = true) ∧ (u11 = true → u10 = true) ∧ (u12 = true → u7 = true ∧ u11 = true) ∧ (u13 = true → u12 = true) ∧ (u17 = true → u15 = true ∧ u16 = true) ∧ (u18 = true → u17 = true) ∧ (u19 = true → u14 = true ∧ u18 = true) ∧ (u20 = true → u19 = true) ∧ (u21 = true → u6 = true ∧ u13 = true ∧ u20 = true) ∧ (u22 = true → u21 = true) ∧ (u23 = true → u22 = true) ∧ (u24 = true → u22 = true) ∧ (u26 = true → u25 = true ∧ u23 = true) ∧ (u27 = true → u0 = true ∧ u1 = true ∧ u2 = true ∧ u3 = true ∧ u4 = true ∧ u5 = true ∧ u6 = true ∧ u7 = true ∧ u8 = true ∧ u9 = true ∧ u10 = true ∧ u11 = true ∧ u12 = true ∧ u13 = true ∧ u14 = true ∧ u15 = true ∧ u16 = true ∧ u17 = true ∧ u18 = true ∧ u19 = true ∧ u20 = true ∧ u21 = true ∧ u22 = true ∧ u23 = true ∧ u24 = true ∧ u25 = true ∧ u26 = true)) (by kernel_rfl) (by kernel_rfl) ?h0 ?hstep ?hend
  case h0 =>
    exact ⟨false, false, false, false, false, false, false, false, false, false, false, false, false, false, false, false, false, false, false, false, false, false, false, false, false, false, false, false, 0, rfl, rfl, Below.drew (Below.refl _ _), (fun h => nomatch h), (fun h => nomatch h), (fun h => nomatch h), (fun h => nomatch h), (fun h => nomatch h), (fun h => nomatch h), (fun h => nomatch h), (fun h => nomatch h), (fun h => nomatch h), (fun h => nomatch h), (fun h => nomatch h), (fun h => nomatch h), (fun h => nomatch h), (fun h => nomatch h), (fun h => nomatch h), (fun h => nomatch h), (fun h => nomatch h), (fun h => nomatch h), (fun h => nomatch h)⟩
  case hstep =>
    intro Lb A W hI
    obtain ⟨u0, hI⟩ := hI
    obtain ⟨u1, hI⟩ := hI
    obtain ⟨u2, hI⟩ := hI
    obtain ⟨u3, hI⟩ := hI
    obtain ⟨u4, hI⟩ := hI
    obtain ⟨u5, hI⟩ := hI
    obtain ⟨u6, hI⟩ := hI
    obtain ⟨u7, hI⟩ := hI
    obtain ⟨u8, hI⟩ := hI
    obtain ⟨u9, hI⟩ := hI
    obtain ⟨u10, hI⟩ := hI
    obtain ⟨u11, hI⟩ := hI
    obtain ⟨u12, hI⟩ := hI
    obtain ⟨u13, hI⟩ := hI
    obtain ⟨u14, hI⟩ := hI
    obtain ⟨u15, hI⟩ := hI
    obtain ⟨u16, hI⟩ := hI
    obtain ⟨u17, hI⟩ := hI
    obtain ⟨u18, hI⟩ := hI
    obtain ⟨u19, hI⟩ := hI
    obtain ⟨u20, hI⟩ := hI
    obtain ⟨u21, hI⟩ := hI
    obtain ⟨u22, hI⟩ := hI
    obtain ⟨u23, hI⟩ := hI
    obtain ⟨u24, hI⟩ := hI
    obtain ⟨u25, hI⟩ := hI
    obtain ⟨u26, hI⟩ := hI
    obtain ⟨u27, hI⟩ := hI
    obtain ⟨n25, hI⟩ := hI
    obtain ⟨hLb, hI⟩ := hI
    obtain ⟨hA, hI⟩ := hI
    obtain ⟨kB, hI⟩ := hI
    obtain ⟨k25, hI⟩ := hI
    obtain ⟨c3, hI⟩ := hI
    obtain ⟨c4, hI⟩ := hI
    obtain ⟨c5, hI⟩ := hI
    obtain ⟨c6, hI⟩ := hI
    obtain ⟨c10, hI⟩ := hI
    obtain ⟨c11, hI⟩ := hI
    obtain ⟨c12, hI⟩ := hI
    obtain ⟨c13, hI⟩ := hI
    obtain ⟨c17, hI⟩ := hI
    obtain ⟨c18, hI⟩ := hI
    obtain ⟨c19, hI⟩ := hI
    obtain ⟨c20, hI⟩ := hI
    obtain ⟨c21, hI⟩ := hI
    obtain ⟨c22, hI⟩ := hI
    obtain ⟨c23, hI⟩ := hI
    obtain ⟨c24, hI⟩ := hI
    obtain ⟨c26, hI⟩ := hI
    have kF := hI
    clear hI
    subst hLb
    subst hA
    have H_kB := hide kB
    have H_k25 := hide k25
    have H_c3 := hide c3
    have H_c4 := hide c4
    have H_c5 := hide c5
    have H_c6 := hide c6
    have H_c10 := hide c10
    have H_c11 := hide c11
    have H_c12 := hide c12
    have H_c13 := hide c13
    have H_c17 := hide c17
    have H_c18 := hide c18
    have H_c19 := hide c19
    have H_c20 := hide c20
    have H_c21 := hide c21
    have H_c22 := hide c22
    have H_c23 := hide c23
    have H_c24 := hide c24
    have H_c26 := hide c26
    have H_kF := hide kF
    clear kB k25 c3 c4 c5 c6 c10 c11 c12 c13 c17 c18 c19 c20 c21 c22 c23 c24 c26 kF
    refine ⟨?_, ?_, ?_, ?_, ?_, ?_, ?_, ?_, ?_, ?_, ?_, ?_, ?_, ?_, ?_, ?_, ?_, ?_, ?_, ?_, ?_, ?_, ?_, ?_, ?_, ?_, ?_, ?_, trivial⟩
    · intro h0 hd K hK
      have z : u0 = false := h0
      have z27_ : u27 = false := by
        cases hu : u27 with
        | false => rfl
        | true => exact nomatch z.symm.trans ((unhide H_kF hu).1)
      have z26_ : u26 = false := by
        cases hu : u26 with
        | false => rfl
        | true => exact nomatch z.symm.trans ((unhide H_c5 (unhide H_c6 (unhide H_c21 (unhide H_c22 (unhide H_c23 (unhide H_c26 hu).2))).1)).1)
      subst z27_
      subst z26_
      subst z
      clear h0 hd
      rw [if_pos (by rfl)]
      go_simp
      exact unhide hK _ _ ⟨true, u1, u2, u3, u4, u5, u6, u7, u8, u9, u10, u11, u12, u13, u14, u15, u16, u17, u18, u19, u20, u21, u22, u23, u24, u25, false, false, n25, rfl, rfl, unhide H_kB, unhide H_k25, unhide H_c3, unhide H_c4, (fun h => ⟨rfl, (unhide H_c5 h).2⟩), unhide H_c6, unhide H_c10, unhide H_c11, unhide H_c12, unhide H_c13, unhide H_c17, unhide H_c18, unhide H_c19, unhide H_c20, unhide H_c21, unhide H_c22, unhide H_c23, unhide H_c24, (fun h => nomatch h), (fun h => nomatch h)⟩
    · intro h0 hd K hK
      have z : u1 = false := h0
      have z27_ : u27 = false := by
        cases hu : u27 with
        | false => rfl
        | true => exact nomatch z.symm.trans ((unhide H_kF hu).2.1)
      have z26_ : u26 = false := by
        cases hu : u26 with
        | false => rfl
        | true => exact nomatch z.symm.trans ((unhide H_c3 (unhide H_c4 (unhide H_c5 (unhide H_c6 (unhide H_c21 (unhide H_c22 (unhide H_c23 (unhide H_c26 hu).2))).1)).2)).1)
      subst z27_
      subst z26_
      subst z
      clear h0 hd
      rw [if_pos (by rfl)]
      go_simp
      exact unhide hK _ _ ⟨u0, true, u2, u3, u4, u5, u6, u7, u8, u9, u10, u11, u12, u13, u14, u15, u16, u17, u18, u19, u20, u21, u22, u23, u24, u25, false, false, n25, rfl, rfl, unhide H_kB, unhide H_k25, (fun h => ⟨rfl, (unhide H_c3 h).2⟩), unhide H_c4, unhide H_c5, unhide H_c6, unhide H_c10, unhide H_c11, unhide H_c12, unhide H_c13, unhide H_c17, unhide H_c18, unhide H_c19, unhide H_c20, unhide H_c21, unhide H_c22, unhide H_c23, unhide H_c24, (fun h => nomatch h), (fun h => nomatch h)⟩
    · intro h0 hd K hK
      have z : u2 = false := h0
      have z27_ : u27 = false := by
        cases hu : u27 with
        | false => rfl
        | true => exact nomatch z.symm.trans ((unhide H_kF hu).2.2.1)
      have z26_ : u26 = false := by
        cases hu : u26 with
        | false => rfl
        | true => exact nomatch z.symm.trans ((unhide H_c3 (unhide H_c4 (unhide H_c5 (unhide H_c6 (unhide H_c21 (unhide H_c22 (unhide H_c23 (unhide H_c26 hu).2))).1)).2)).2)
      subst z27_
      subst z26_
      subst z
      clear h0 hd
      rw [if_pos (by rfl)]
      go_simp
      exact unhide hK _ _ ⟨u0, u1, true, u3, u4, u5, u6, u7, u8, u9, u10, u11, u12, u13, u14, u15, u16, u17, u18, u19, u20, u21, u22, u23, u24, u25, false, false, n25, rfl, rfl, unhide H_kB, unhide H_k25, (fun h => ⟨(unhide H_c3 h).1, rfl⟩), unhide H_c4, unhide H_c5, unhide H_c6, unhide H_c10, unhide H_c11, unhide H_c12, unhide H_c13, unhide H_c17, unhide H_c18, unhide H_c19, unhide H_c20, unhide H_c21, unhide H_c22, unhide H_c23, unhide H_c24, (fun h => nomatch h), (fun h => nomatch h)⟩
    · intro h0 hd K hK
      have z : u3 = false := h0
      have z27_ : u27 = false := by
        cases hu : u27 with
        | false => rfl
        | true => exact nomatch z.symm.trans ((unhide H_kF hu).2.2.2.1)
      have z26_ : u26 = false := by
        cases hu : u26 with
        | false => rfl
        | true => exact nomatch z.symm.trans ((unhide H_c4 (unhide H_c5 (unhide H_c6 (unhide H_c21 (unhide H_c22 (unhide H_c23 (unhide H_c26 hu).2))).1)).2))
      have zd : u1 = true ∧ u2 = true := by
        simp [Region.binds] at hd
        simp [hd]
      obtain ⟨rfl, rfl⟩ := zd
      subst z27_
      subst z26_
      subst z
      clear h0 hd
      rw [if_pos (by rfl)]
      have q1 : a < m := unhide HX3
      have q2 : (a : Int) < (m : Int) := by omega
      go_simp
      exact unhide hK _ _ ⟨u0, true, true, true, u4, u5, u6, u7, u8, u9, u10, u11, u12, u13, u14, u15, u16, u17, u18, u19, u20, u21, u22, u23, u24, u25, false, false, n25, rfl, rfl, unhide H_kB, unhide H_k25, (fun _ => ⟨rfl, rfl⟩), (fun h => rfl), unhide H_c5, unhide H_c6, unhide H_c10, unhide H_c11, unhide H_c12, unhide H_c13, unhide H_c17, unhide H_c18, unhide H_c19, unhide H_c20, unhide H_c21, unhide H_c22, unhide H_c23, unhide H_c24, (fun h => nomatch h), (fun h => nomatch h)⟩
    · intro h0 hd K hK
      have z : u4 = false := h0
      have z27_ : u27 = false := by
        cases hu : u27 with
        | false => rfl
        | true => exact nomatch z.symm.trans ((unhide H_kF hu).2.2.2.2.1)
      have z26_ : u26 = false := by
        cases hu : u26 with
        | false => rfl
        | true => exact nomatch z.symm.trans ((unhide H_c5 (unhide H_c6 (unhide H_c21 (unhide H_c22 (unhide H_c23 (unhide H_c26 hu).2))).1)).2)
      have zd : u3 = true := by
        simp [Region.binds] at hd
        simp [hd]
      obtain ⟨rfl⟩ := zd
      subst z27_
      subst z26_
      subst z
      clear h0 hd
      rw [if_pos (by rfl)]
      have c0 := keep1 (unhide H_kB) (unhide HN0)
      go_simp
      exact unhide hK _ _ ⟨u0, u1, u2, true, true, u5, u6, u7, u8, u9, u10, u11, u12, u13, u14, u15, u16, u17, u18, u19, u20, u21, u22, u23, u24, u25, false, false, n25, rfl, rfl, unhide H_kB, unhide H_k25, unhide H_c3, (fun _ => rfl), (fun h => ⟨(unhide H_c5 h).1, rfl⟩), unhide H_c6, unhide H_c10, unhide H_c11, unhide H_c12, unhide H_c13, unhide H_c17, unhide H_c18, unhide H_c19, unhide H_c20, unhide H_c21, unhide H_c22, unhide H_c23, unhide H_c24, (fun h => nomatch h), (fun h => nomatch h)⟩
    · intro h0 hd K hK
      have z : u5 = false := h0
      have z27_ : u27 = false := by
        cases hu : u27 with
        | false => rfl
        | true => exact nomatch z.symm.trans ((unhide H_kF hu).2.2.2.2.2.1)
      have z26_ : u26 = false := by
        cases hu : u26 with
        | false => rfl
        | true => exact nomatch z.symm.trans ((unhide H_c6 (unhide H_c21 (unhide H_c22 (unhide H_c23 (unhide H_c26 hu).2))).1))
      have zd : u0 = true ∧ u4 = true := by
        simp [Region.binds] at hd
        simp [hd]
      obtain ⟨rfl, rfl⟩ := zd
      subst z27_
      subst z26_
      subst z
      clear h0 hd
      rw [if_pos (by rfl)]
      have q1 : i < n := unhide HX5
      have q2 : (i : Int) < (n : Int) := by omega
      go_simp
      exact unhide hK _ _ ⟨true, u1, u2, u3, true, true, u6, u7, u8, u9, u10, u11, u12, u13, u14, u15, u16, u17, u18, u19, u20, u21, u22, u23, u24, u25, false, false, n25, rfl, rfl, unhide H_kB, unhide H_k25, unhide H_c3, unhide H_c4, (fun _ => ⟨rfl, rfl⟩), (fun h => rfl), unhide H_c10, unhide H_c11, unhide H_c12, unhide H_c13, unhide H_c17, unhide H_c18, unhide H_c19, unhide H_c20, unhide H_c21, unhide H_c22, unhide H_c23, unhide H_c24, (fun h => nomatch h), (fun h => nomatch h)⟩
    · intro h0 hd K hK
      have z : u6 = false := h0
      have z27_ : u27 = false := by
        cases hu : u27 with
        | false => rfl
        | true => exact nomatch z.symm.trans ((unhide H_kF hu).2.2.2.2.2.2.1)
      have z26_ : u26 = false := by
        cases hu : u26 with
        | false => rfl
        | true => exact nomatch z.symm.trans ((unhide H_c21 (unhide H_c22 (unhide H_c23 (unhide H_c26 hu).2))).1)
      have zd : u5 = true := by
        simp [Region.binds] at hd
        simp [hd]
      obtain ⟨rfl⟩ := zd
      subst z27_
      subst z26_
      subst z
      clear h0 hd
      rw [if_pos (by rfl)]
      have c0 := keep1 (unhide H_kB) (unhide HA0)
      have c1 := keep1 (unhide H_kB) (unhide HA1)
      go_simp
      exact unhide hK _ _ ⟨u0, u1, u2, u3, u4, true, true, u7, u8, u9, u10, u11, u12, u13, u14, u15, u16, u17, u18, u19, u20, u21, u22, u23, u24, u25, false, false, n25, rfl, rfl, unhide H_kB, unhide H_k25, unhide H_c3, unhide H_c4, unhide H_c5, (fun _ => rfl), unhide H_c10, unhide H_c11, unhide H_c12, unhide H_c13, unhide H_c17, unhide H_c18, unhide H_c19, unhide H_c20, (fun h => ⟨rfl, (unhide H_c21 h).2.1, (unhide H_c21 h).2.2⟩), unhide H_c22, unhide H_c23, unhide H_c24, (fun h => nomatch h), (fun h => nomatch h)⟩
    · intro h0 hd K hK
      have z : u7 = false := h0
      have z27_ : u27 = false := by
        cases hu : u27 with
        | false => rfl
        | true => exact nomatch z.symm.trans ((unhide H_kF hu).2.2.2.2.2.2.2.1)
      have z26_ : u26 = false := by
        cases hu : u26 with
        | false => rfl
        | true => exact nomatch z.symm.trans ((unhide H_c12 (unhide H_c13 (unhide H_c21 (unhide H_c22 (unhide H_c23 (unhide H_c26 hu).2))).2.1)).1)
      subst z27_
      subst z26_
      subst z
      clear h0 hd
      rw [if_pos (by rfl)]
      go_simp
      exact unhide hK _ _ ⟨u0, u1, u2, u3, u4, u5, u6, true, u8, u9, u10, u11, u12, u13, u14, u15, u16, u17, u18, u19, u20, u21, u22, u23, u24, u25, false, false, n25, rfl, rfl, unhide H_kB, unhide H_k25, unhide H_c3, unhide H_c4, unhide H_c5, unhide H_c6, unhide H_c10, unhide H_c11, (fun h => ⟨rfl, (unhide H_c12 h).2⟩), unhide H_c13, unhide H_c17, unhide H_c18, unhide H_c19, unhide H_c20, unhide H_c21, unhide H_c22, unhide H_c23, unhide H_c24, (fun h => nomatch h), (fun h => nomatch h)⟩
    · intro h0 hd K hK
      have z : u8 = false := h0
      have z27_ : u27 = false := by
        cases hu : u27 with
        | false => rfl
        | true => exact nomatch z.symm.trans ((unhide H_kF hu).2.2.2.2.2.2.2.2.1)
      have z26_ : u26 = false := by
        cases hu : u26 with
        | false => rfl
        | true => exact nomatch z.symm.trans ((unhide H_c10 (unhide H_c11 (unhide H_c12 (unhide H_c13 (unhide H_c21 (unhide H_c22 (unhide H_c23 (unhide H_c26 hu).2))).2.1)).2)).1)
      subst z27_
      subst z26_
      subst z
      clear h0 hd
      rw [if_pos (by rfl)]
      go_simp
      exact unhide hK _ _ ⟨u0, u1, u2, u3, u4, u5, u6, u7, true, u9, u10, u11, u12, u13, u14, u15, u16, u17, u18, u19, u20, u21, u22, u23, u24, u25, false, false, n25, rfl, rfl, unhide H_kB, unhide H_k25, unhide H_c3, unhide H_c4, unhide H_c5, unhide H_c6, (fun h => ⟨rfl, (unhide H_c10 h).2⟩), unhide H_c11, unhide H_c12, unhide H_c13, unhide H_c17, unhide H_c18, unhide H_c19, unhide H_c20, unhide H_c21, unhide H_c22, unhide H_c23, unhide H_c24, (fun h => nomatch h), (fun h => nomatch h)⟩
    · intro h0 hd K hK
      have z : u9 = false := h0
      have z27_ : u27 = false := by
        cases hu : u27 with
        | false => rfl
        | true => exact nomatch z.symm.trans ((unhide H_kF hu).2.2.2.2.2.2.2.2.2.1)
      have z26_ : u26 = false := by
        cases hu : u26 with
        | false => rfl
        | true => exact nomatch z.symm.trans ((unhide H_c10 (unhide H_c11 (unhide H_c12 (unhide H_c13 (unhide H_c21 (unhide H_c22 (unhide H_c23 (unhide H_c26 hu).2))).2.1)).2)).2)
      subst z27_
      subst z26_
      subst z
      clear h0 hd
      rw [if_pos (by rfl)]
      go_simp
      exact unhide hK _ _ ⟨u0, u1, u2, u3, u4, u5, u6, u7, u8, true, u10, u11, u12, u13, u14, u15, u16, u17, u18, u19, u20, u21, u22, u23, u24, u25, false, false, n25, rfl, rfl, unhide H_kB, unhide H_k25, unhide H_c3, unhide H_c4, unhide H_c5, unhide H_c6, (fun h => ⟨(unhide H_c10 h).1, rfl⟩), unhide H_c11, unhide H_c12, unhide H_c13, unhide H_c17, unhide H_c18, unhide H_c19, unhide H_c20, unhide H_c21, unhide H_c22, unhide H_c23, unhide H_c24, (fun h => nomatch h), (fun h => nomatch h)⟩
    · intro h0 hd K hK
      have z : u10 = false := h0
      have z27_ : u27 = false := by
        cases hu : u27 with
        | false => rfl
        | true => exact nomatch z.symm.trans ((unhide H_kF hu).2.2.2.2.2.2.2.2.2.2.1)
      have z26_ : u26 = false := by
        cases hu : u26 with
        | false => rfl
        | true => exact nomatch z.symm.trans ((unhide H_c11 (unhide H_c12 (unhide H_c13 (unhide H_c21 (unhide H_c22 (unhide H_c23 (unhide H_c26 hu).2))).2.1)).2))
      have zd : u8 = true ∧ u9 = true := by
        simp [Region.binds] at hd
        simp [hd]
      obtain ⟨rfl, rfl⟩ := zd
      subst z27_
      subst z26_
      subst z
      clear h0 hd
      rw [if_pos (by rfl)]
      have q1 : c < m := unhide HX10
      have q2 : (c : Int) < (m : Int) := by omega
      go_simp
      exact unhide hK _ _ ⟨u0, u1, u2, u3, u4, u5, u6, u7, true, true, true, u11, u12, u13, u14, u15, u16, u17, u18, u19, u20, u21, u22, u23, u24, u25, false, false, n25, rfl, rfl, unhide H_kB, unhide H_k25, unhide H_c3, unhide H_c4, unhide H_c5, unhide H_c6, (fun _ => ⟨rfl, rfl⟩), (fun h => rfl), unhide H_c12, unhide H_c13, unhide H_c17, unhide H_c18, unhide H_c19, unhide H_c20, unhide H_c21, unhide H_c22, unhide H_c23, unhide H_c24, (fun h => nomatch h), (fun h => nomatch h)⟩
    · intro h0 hd K hK
      have z : u11 = false := h0
      have z27_ : u27 = false := by
        cases hu : u27 with
        | false => rfl
        | true => exact nomatch z.symm.trans ((unhide H_kF hu).2.2.2.2.2.2.2.2.2.2.2.1)
      have z26_ : u26 = false := by
        cases hu : u26 with
        | false => rfl
        | true => exact nomatch z.symm.trans ((unhide H_c12 (unhide H_c13 (unhide H_c21 (unhide H_c22 (unhide H_c23 (unhide H_c26 hu).2))).2.1)).2)
      have zd : u10 = true := by
        simp [Region.binds] at hd
        simp [hd]
      obtain ⟨rfl⟩ := zd
      subst z27_
      subst z26_
      subst z
      clear h0 hd
      rw [if_pos (by rfl)]
      have c0 := keep1 (unhide H_kB) (unhide HN1)
      go_simp
      exact unhide hK _ _ ⟨u0, u1, u2, u3, u4, u5, u6, u7, u8, u9, true, true, u12, u13, u14, u15, u16, u17, u18, u19, u20, u21, u22, u23, u24, u25, false, false, n25, rfl, rfl, unhide H_kB, unhide H_k25, unhide H_c3, unhide H_c4, unhide H_c5, unhide H_c6, unhide H_c10, (fun _ => rfl), (fun h => ⟨(unhide H_c12 h).1, rfl⟩), unhide H_c13, unhide H_c17, unhide H_c18, unhide H_c19, unhide H_c20, unhide H_c21, unhide H_c22, unhide H_c23, unhide H_c24, (fun h => nomatch h), (fun h => nomatch h)⟩
    · intro h0 hd K hK
      have z : u12 = false := h0
      have z27_ : u27 = false := by
        cases hu : u27 with
        | false => rfl
        | true => exact nomatch z.symm.trans ((unhide H_kF hu).2.2.2.2.2.2.2.2.2.2.2.2.1)
      have z26_ : u26 = false := by
        cases hu : u26 with
        | false => rfl
        | true => exact nomatch z.symm.trans ((unhide H_c13 (unhide H_c21 (unhide H_c22 (unhide H_c23 (unhide H_c26 hu).2))).2.1))
      have zd : u7 = true ∧ u11 = true := by
        simp [Region.binds] at hd
        simp [hd]
      obtain ⟨rfl, rfl⟩ := zd
      subst z27_
      subst z26_
      subst z
      clear h0 hd
      rw [if_pos (by rfl)]
      have q1 : j < n := unhide HX12
      have q2 : (j : Int) < (n : Int) := by omega
      go_simp
      exact unhide hK _ _ ⟨u0, u1, u2, u3, u4, u5, u6, true, u8, u9, u10, true, true, u13, u14, u15, u16, u17, u18, u19, u20, u21, u22, u23, u24, u25, false, false, n25, rfl, rfl, unhide H_kB, unhide H_k25, unhide H_c3, unhide H_c4, unhide H_c5, unhide H_c6, unhide H_c10, unhide H_c11, (fun _ => ⟨rfl, rfl⟩), (fun h => rfl), unhide H_c17, unhide H_c18, unhide H_c19, unhide H_c20, unhide H_c21, unhide H_c22, unhide H_c23, unhide H_c24, (fun h => nomatch h), (fun h => nomatch h)⟩
    · intro h0 hd K hK
      have z : u13 = false := h0
      have z27_ : u27 = false := by
        cases hu : u27 with
        | false => rfl
        | true => exact nomatch z.symm.trans ((unhide H_kF hu).2.2.2.2.2.2.2.2.2.2.2.2.2.1)
      have z26_ : u26 = false := by
        cases hu : u26 with
        | false => rfl
        | true => exact nomatch z.symm.trans ((unhide H_c21 (unhide H_c22 (unhide H_c23 (unhide H_c26 hu).2))).2.1)
      have zd : u12 = true := by
        simp [Region.binds] at hd
        simp [hd]
      obtain ⟨rfl⟩ := zd
      subst z27_
      subst z26_
      subst z
      clear h0 hd
      rw [if_pos (by rfl)]
      have c0 := keep1 (unhide H_kB) (unhide HC0)
      have c1 := keep1 (unhide H_kB) (unhide HC1)
      go_simp
      exact unhide hK _ _ ⟨u0, u1, u2, u3, u4, u5, u6, u7, u8, u9, u10, u11, true, true, u14, u15, u16, u17, u18, u19, u20, u21, u22, u23, u24, u25, false, false, n25, rfl, rfl, unhide H_kB, unhide H_k25, unhide H_c3, unhide H_c4, unhide H_c5, unhide H_c6, unhide H_c10, unhide H_c11, unhide H_c12, (fun _ => rfl), unhide H_c17, unhide H_c18, unhide H_c19, unhide H_c20, (fun h => ⟨(unhide H_c21 h).1, rfl, (unhide H_c21 h).2.2⟩), unhide H_c22, unhide H_c23, unhide H_c24, (fun h => nomatch h), (fun h => nomatch h)⟩
    · intro h0 hd K hK
      have z : u14 = false := h0
      have z27_ : u27 = false := by
        cases hu : u27 with
        | false => rfl
        | true => exact nomatch z.symm.trans ((unhide H_kF hu).2.2.2.2.2.2.2.2.2.2.2.2.2.2.1)
      have z26_ : u26 = false := by
        cases hu : u26 with
        | false => rfl
        | true => exact nomatch z.symm.trans ((unhide H_c19 (unhide H_c20 (unhide H_c21 (unhide H_c22 (unhide H_c23 (unhide H_c26 hu).2))).2.2)).1)
      subst z27_
      subst z26_
      subst z
      clear h0 hd
      rw [if_pos (by rfl)]
      go_simp
      exact unhide hK _ _ ⟨u0, u1, u2, u3, u4, u5, u6, u7, u8, u9, u10, u11, u12, u13, true, u15, u16, u17, u18, u19, u20, u21, u22, u23, u24, u25, false, false, n25, rfl, rfl, unhide H_kB, unhide H_k25, unhide H_c3, unhide H_c4, unhide H_c5, unhide H_c6, unhide H_c10, unhide H_c11, unhide H_c12, unhide H_c13, unhide H_c17, unhide H_c18, (fun h => ⟨rfl, (unhide H_c19 h).2⟩), unhide H_c20, unhide H_c21, unhide H_c22, unhide H_c23, unhide H_c24, (fun h => nomatch h), (fun h => nomatch h)⟩
    · intro h0 hd K hK
      have z : u15 = false := h0
      have z27_ : u27 = false := by
        cases hu : u27 with
        | false => rfl
        | true => exact nomatch z.symm.trans ((unhide H_kF hu).2.2.2.2.2.2.2.2.2.2.2.2.2.2.2.1)
      have z26_ : u26 = false := by
        cases hu : u26 with
        | false => rfl
        | true => exact nomatch z.symm.trans ((unhide H_c17 (unhide H_c18 (unhide H_c19 (unhide H_c20 (unhide H_c21 (unhide H_c22 (unhide H_c23 (unhide H_c26 hu).2))).2.2)).2)).1)
      subst z27_
      subst z26_
      subst z
      clear h0 hd
      rw [if_pos (by rfl)]
      go_simp
      exact unhide hK _ _ ⟨u0, u1, u2, u3, u4, u5, u6, u7, u8, u9, u10, u11, u12, u13, u14, true, u16, u17, u18, u19, u20, u21, u22, u23, u24, u25, false, false, n25, rfl, rfl, unhide H_kB, unhide H_k25, unhide H_c3, unhide H_c4, unhide H_c5, unhide H_c6, unhide H_c10, unhide H_c11, unhide H_c12, unhide H_c13, (fun h => ⟨rfl, (unhide H_c17 h).2⟩), unhide H_c18, unhide H_c19, unhide H_c20, unhide H_c21, unhide H_c22, unhide H_c23, unhide H_c24, (fun h => nomatch h), (fun h => nomatch h)⟩
    · intro h0 hd K hK
      have z : u16 = false := h0
      have z27_ : u27 = false := by
        cases hu : u27 with
        | false => rfl
        | true => exact nomatch z.symm.trans ((unhide H_kF hu).2.2.2.2.2.2.2.2.2.2.2.2.2.2.2.2.1)
      have z26_ : u26 = false := by
        cases hu : u26 with
        | false => rfl
        | true => exact nomatch z.symm.trans ((unhide H_c17 (unhide H_c18 (unhide H_c19 (unhide H_c20 (unhide H_c21 (unhide H_c22 (unhide H_c23 (unhide H_c26 hu).2))).2.2)).2)).2)
      subst z27_
      subst z26_
      subst z
      clear h0 hd
      rw [if_pos (by rfl)]
      go_simp
      exact unhide hK _ _ ⟨u0, u1, u2, u3, u4, u5, u6, u7, u8, u9, u10, u11, u12, u13, u14, u15, true, u17, u18, u19, u20, u21, u22, u23, u24, u25, false, false, n25, rfl, rfl, unhide H_kB, unhide H_k25, unhide H_c3, unhide H_c4, unhide H_c5, unhide H_c6, unhide H_c10, unhide H_c11, unhide H_c12, unhide H_c13, (fun h => ⟨(unhide H_c17 h).1, rfl⟩), unhide H_c18, unhide H_c19, unhide H_c20, unhide H_c21, unhide H_c22, unhide H_c23, unhide H_c24, (fun h => nomatch h), (fun h => nomatch h)⟩
    · intro h0 hd K hK
      have z : u17 = false := h0
      have z27_ : u27 = false := by
        cases hu : u27 with
        | false => rfl
        | true => exact nomatch z.symm.trans ((unhide H_kF hu).2.2.2.2.2.2.2.2.2.2.2.2.2.2.2.2.2.1)
      have z26_ : u26 = false := by
        cases hu : u26 with
        | false => rfl
        | true => exact nomatch z.symm.trans ((unhide H_c18 (unhide H_c19 (unhide H_c20 (unhide H_c21 (unhide H_c22 (unhide H_c23 (unhide H_c26 hu).2))).2.2)).2))
      have zd : u15 = true ∧ u16 = true := by
        simp [Region.binds] at hd
        simp [hd]
      obtain ⟨rfl, rfl⟩ := zd
      subst z27_
      subst z26_
      subst z
      clear h0 hd
      rw [if_pos (by rfl)]
      have q1 : d < m := unhide HX17
      have q2 : (d : Int) < (m : Int) := by omega
      go_simp
      exact unhide hK _ _ ⟨u0, u1, u2, u3, u4, u5, u6, u7, u8, u9, u10, u11, u12, u13, u14, true, true, true, u18, u19, u20, u21, u22, u23, u24, u25, false, false, n25, rfl, rfl, unhide H_kB, unhide H_k25, unhide H_c3, unhide H_c4, unhide H_c5, unhide H_c6, unhide H_c10, unhide H_c11, unhide H_c12, unhide H_c13, (fun _ => ⟨rfl, rfl⟩), (fun h => rfl), unhide H_c19, unhide H_c20, unhide H_c21, unhide H_c22, unhide H_c23, unhide H_c24, (fun h => nomatch h), (fun h => nomatch h)⟩
    · intro h0 hd K hK
      have z : u18 = false := h0
      have z27_ : u27 = false := by
        cases hu : u27 with
        | false => rfl
        | true => exact nomatch z.symm.trans ((unhide H_kF hu).2.2.2.2.2.2.2.2.2.2.2.2.2.2.2.2.2.2.1)
      have z26_ : u26 = false := by
        cases hu : u26 with
        | false => rfl
        | true => exact nomatch z.symm.trans ((unhide H_c19 (unhide H_c20 (unhide H_c21 (unhide H_c22 (unhide H_c23 (unhide H_c26 hu).2))).2.2)).2)
      have zd : u17 = true := by
        simp [Region.binds] at hd
        simp [hd]
      obtain ⟨rfl⟩ := zd
      subst z27_
      subst z26_
      subst z
      clear h0 hd
      rw [if_pos (by rfl)]
      have c0 := keep1 (unhide H_kB) (unhide HN2)
      go_simp
      exact unhide hK _ _ ⟨u0, u1, u2, u3, u4, u5, u6, u7, u8, u9, u10, u11, u12, u13, u14, u15, u16, true, true, u19, u20, u21, u22, u23, u24, u25, false, false, n25, rfl, rfl, unhide H_kB, unhide H_k25, unhide H_c3, unhide H_c4, unhide H_c5, unhide H_c6, unhide H_c10, unhide H_c11, unhide H_c12, unhide H_c13, unhide H_c17, (fun _ => rfl), (fun h => ⟨(unhide H_c19 h).1, rfl⟩), unhide H_c20, unhide H_c21, unhide H_c22, unhide H_c23, unhide H_c24, (fun h => nomatch h), (fun h => nomatch h)⟩
    · intro h0 hd K hK
      have z : u19 = false := h0
      have z27_ : u27 = false := by
        cases hu : u27 with
        | false => rfl
        | true => exact nomatch z.symm.trans ((unhide H_kF hu).2.2.2.2.2.2.2.2.2.2.2.2.2.2.2.2.2.2.2.1)
      have z26_ : u26 = false := by
        cases hu : u26 with
        | false => rfl
        | true => exact nomatch z.symm.trans ((unhide H_c20 (unhide H_c21 (unhide H_c22 (unhide H_c23 (unhide H_c26 hu).2))).2.2))
      have zd : u14 = true ∧ u18 = true := by
        simp [Region.binds] at hd
        simp [hd]
      obtain ⟨rfl, rfl⟩ := zd
      subst z27_
      subst z26_
      subst z
      clear h0 hd
      rw [if_pos (by rfl)]
      have q1 : l < n := unhide HX19
      have q2 : (l : Int) < (n : Int) := by omega
      go_simp
      exact unhide hK _ _ ⟨u0, u1, u2, u3, u4, u5, u6, u7, u8, u9, u10, u11, u12, u13, true, u15, u16, u17, true, true, u20, u21, u22, u23, u24, u25, false, false, n25, rfl, rfl, unhide H_kB, unhide H_k25, unhide H_c3, unhide H_c4, unhide H_c5, unhide H_c6, unhide H_c10, unhide H_c11, unhide H_c12, unhide H_c13, unhide H_c17, unhide H_c18, (fun _ => ⟨rfl, rfl⟩), (fun h => rfl), unhide H_c21, unhide H_c22, unhide H_c23, unhide H_c24, (fun h => nomatch h), (fun h => nomatch h)⟩
    · intro h0 hd K hK
      have z : u20 = false := h0
      have z27_ : u27 = false := by
        cases hu : u27 with
        | false => rfl
        | true => exact nomatch z.symm.trans ((unhide H_kF hu).2.2.2.2.2.2.2.2.2.2.2.2.2.2.2.2.2.2.2.2.1)
      have z26_ : u26 = false := by
        cases hu : u26 with
        | false => rfl
        | true => exact nomatch z.symm.trans ((unhide H_c21 (unhide H_c22 (unhide H_c23 (unhide H_c26 hu).2))).2.2)
      have zd : u19 = true := by
        simp [Region.binds] at hd
        simp [hd]
      obtain ⟨rfl⟩ := zd
      subst z27_
      subst z26_
      subst z
      clear h0 hd
      rw [if_pos (by rfl)]
      have c0 := keep1 (unhide H_kB) (unhide HE0)
      have c1 := keep1 (unhide H_kB) (unhide HE1)
      go_simp
      exact unhide hK _ _ ⟨u0, u1, u2, u3, u4, u5, u6, u7, u8, u9, u10, u11, u12, u13, u14, u15, u16, u17, u18, true, true, u21, u22, u23, u24, u25, false, false, n25, rfl, rfl, unhide H_kB, unhide H_k25, unhide H_c3, unhide H_c4, unhide H_c5, unhide H_c6, unhide H_c10, unhide H_c11, unhide H_c12, unhide H_c13, unhide H_c17, unhide H_c18, unhide H_c19, (fun _ => rfl), (fun h => ⟨(unhide H_c21 h).1, (unhide H_c21 h).2.1, rfl⟩), unhide H_c22, unhide H_c23, unhide H_c24, (fun h => nomatch h), (fun h => nomatch h)⟩
    · intro h0 hd K hK
      have z : u21 = false := h0
      have z27_ : u27 = false := by
        cases hu : u27 with
        | false => rfl
        | true => exact nomatch z.symm.trans ((unhide H_kF hu).2.2.2.2.2.2.2.2.2.2.2.2.2.2.2.2.2.2.2.2.2.1)
      have z26_ : u26 = false := by
        cases hu : u26 with
        | false => rfl
        | true => exact nomatch z.symm.trans ((unhide H_c22 (unhide H_c23 (unhide H_c26 hu).2)))
      have zd : u6 = true ∧ u13 = true ∧ u20 = true := by
        simp [Region.binds] at hd
        simp [hd]
      obtain ⟨rfl, rfl, rfl⟩ := zd
      subst z27_
      subst z26_
      subst z
      clear h0 hd
      rw [if_pos (by rfl)]
      go_simp
      refine (unhide HF21 W (unhide H_kB)).mono ?_
      rintro e w8 ⟨rfl, hb8⟩
      exact unhide hK _ _ ⟨u0, u1, u2, u3, u4, u5, true, u7, u8, u9, u10, u11, u12, true, u14, u15, u16, u17, u18, u19, true, true, u22, u23, u24, u25, false, false, n25, rfl, rfl, bc (unhide H_kB) hb8, (fun h => ⟨(unhide H_k25 h).1.bel hb8, (unhide H_k25 h).2⟩), unhide H_c3, unhide H_c4, unhide H_c5, unhide H_c6, unhide H_c10, unhide H_c11, unhide H_c12, unhide H_c13, unhide H_c17, unhide H_c18, unhide H_c19, unhide H_c20, (fun _ => ⟨rfl, rfl, rfl⟩), (fun h => rfl), unhide H_c23, unhide H_c24, (fun h => nomatch h), (fun h => nomatch h)⟩
    · intro h0 hd K hK
      have z : u22 = false := h0
      have z27_ : u27 = false := by
        cases hu : u27 with
        | false => rfl
        | true => exact nomatch z.symm.trans ((unhide H_kF hu).2.2.2.2.2.2.2.2.2.2.2.2.2.2.2.2.2.2.2.2.2.2.1)
      have z26_ : u26 = false := by
        cases hu : u26 with
        | false => rfl
        | true => exact nomatch z.symm.trans ((unhide H_c23 (unhide H_c26 hu).2))
      have zd : u21 = true := by
        simp [Region.binds] at hd
        simp [hd]
      obtain ⟨rfl⟩ := zd
      subst z27_
      subst z26_
      subst z
      clear h0 hd
      rw [if_pos (by rfl)]
      go_simp
      exact unhide hK _ _ ⟨u0, u1, u2, u3, u4, u5, u6, u7, u8, u9, u10, u11, u12, u13, u14, u15, u16, u17, u18, u19, u20, true, true, u23, u24, u25, false, false, n25, rfl, rfl, unhide H_kB, unhide H_k25, unhide H_c3, unhide H_c4, unhide H_c5, unhide H_c6, unhide H_c10, unhide H_c11, unhide H_c12, unhide H_c13, unhide H_c17, unhide H_c18, unhide H_c19, unhide H_c20, unhide H_c21, (fun _ => rfl), (fun h => rfl), (fun h => rfl), (fun h => nomatch h), (fun h => nomatch h)⟩
    · intro h0 hd K hK
      have z : u23 = false := h0
      have z27_ : u27 = false := by
        cases hu : u27 with
        | false => rfl
        | true => exact nomatch z.symm.trans ((unhide H_kF hu).2.2.2.2.2.2.2.2.2.2.2.2.2.2.2.2.2.2.2.2.2.2.2.1)
      have z26_ : u26 = false := by
        cases hu : u26 with
        | false => rfl
        | true => exact nomatch z.symm.trans ((unhide H_c26 hu).2)
      have zd : u22 = true := by
        simp [Region.binds] at hd
        simp [hd]
      obtain ⟨rfl⟩ := zd
      subst z27_
      subst z26_
      subst z
      clear h0 hd
      rw [if_pos (by rfl)]
      go_simp
      exact unhide hK _ _ ⟨u0, u1, u2, u3, u4, u5, u6, u7, u8, u9, u10, u11, u12, u13, u14, u15, u16, u17, u18, u19, u20, u21, true, true, u24, u25, false, false, n25, rfl, rfl, unhide H_kB, unhide H_k25, unhide H_c3, unhide H_c4, unhide H_c5, unhide H_c6, unhide H_c10, unhide H_c11, unhide H_c12, unhide H_c13, unhide H_c17, unhide H_c18, unhide H_c19, unhide H_c20, unhide H_c21, unhide H_c22, (fun _ => rfl), (fun h => rfl), (fun h => nomatch h), (fun h => nomatch h)⟩
    · intro h0 hd K hK
      have z : u24 = false := h0
      have z27_ : u27 = false := by
        cases hu : u27 with
        | false => rfl
        | true => exact nomatch z.symm.trans ((unhide H_kF hu).2.2.2.2.2.2.2.2.2.2.2.2.2.2.2.2.2.2.2.2.2.2.2.2.1)
      have zd : u22 = true := by
        simp [Region.binds] at hd
        simp [hd]
      obtain ⟨rfl⟩ := zd
      subst z27_
      subst z
      clear h0 hd
      rw [if_pos (by rfl)]
      go_simp
      exact unhide hK _ _ ⟨u0, u1, u2, u3, u4, u5, u6, u7, u8, u9, u10, u11, u12, u13, u14, u15, u16, u17, u18, u19, u20, u21, true, u23, true, u25, u26, false, n25, rfl, rfl, unhide H_kB, unhide H_k25, unhide H_c3, unhide H_c4, unhide H_c5, unhide H_c6, unhide H_c10, unhide H_c11, unhide H_c12, unhide H_c13, unhide H_c17, unhide H_c18, unhide H_c19, unhide H_c20, unhide H_c21, unhide H_c22, (fun h => rfl), (fun _ => rfl), unhide H_c26, (fun h => nomatch h)⟩
    · intro h0 hd K hK
      have z : u25 = false := h0
      have z27_ : u27 = false := by
        cases hu : u27 with
        | false => rfl
        | true => exact nomatch z.symm.trans ((unhide H_kF hu).2.2.2.2.2.2.2.2.2.2.2.2.2.2.2.2.2.2.2.2.2.2.2.2.2.1)
      have z26_ : u26 = false := by
        cases hu : u26 with
        | false => rfl
        | true => exact nomatch z.symm.trans ((unhide H_c26 hu).1)
      subst z27_
      subst z26_
      subst z
      clear h0 hd
      rw [if_pos (by rfl)]
      go_simp
      exact unhide hK _ _ ⟨u0, u1, u2, u3, u4, u5, u6, u7, u8, u9, u10, u11, u12, u13, u14, u15, u16, u17, u18, u19, u20, u21, u22, u23, u24, true, false, false, W.heap.size, rfl, rfl, ba (unhide H_kB) _, (fun _ => ⟨cb_new W 34 _ _ rfl, (unhide H_kB).size⟩), unhide H_c3, unhide H_c4, unhide H_c5, unhide H_c6, unhide H_c10, unhide H_c11, unhide H_c12, unhide H_c13, unhide H_c17, unhide H_c18, unhide H_c19, unhide H_c20, unhide H_c21, unhide H_c22, unhide H_c23, unhide H_c24, (fun h => nomatch h), (fun h => nomatch h)⟩
    · intro h0 hd K hK
      have z : u26 = false := h0
      have z27_ : u27 = false := by
        cases hu : u27 with
        | false => rfl
        | true => exact nomatch z.symm.trans ((unhide H_kF hu).2.2.2.2.2.2.2.2.2.2.2.2.2.2.2.2.2.2.2.2.2.2.2.2.2.2)
      have zd : u25 = true ∧ u23 = true := by
        simp [Region.binds] at hd
        simp [hd]
      obtain ⟨rfl, rfl⟩ := zd
      subst z27_
      subst z
      clear h0 hd
      rw [if_pos (by rfl)]
      have v1 := (unhide H_k25 rfl).1
      have g9 := (unhide H_k25 rfl).2
      have fz := v1.frozen
      have q0 := v1.cell (m := 0) rfl
      have q1 := v1.cell (m := 1) rfl
      have q2 := v1.cell (m := 2) rfl
      have q3 := v1.cell (m := 3) rfl
      have q4 := v1.cell (m := 4) rfl
      have q5 := v1.cell (m := 5) rfl
      have q6 := v1.cell (m := 6) rfl
      have q7 := v1.cell (m := 7) rfl
      have HV1 := hide v1
      clear v1
      go_simp
      exact unhide hK _ _ ⟨u0, u1, u2, u3, u4, u5, u6, u7, u8, u9, u10, u11, u12, u13, u14, u15, u16, u17, u18, u19, u20, u21, u22, true, u24, true, true, false, n25, rfl, rfl, (((((((((((((((((unhide H_kB)).setCell (p := ⟨n25, 0, none⟩) g9 _)).setCell (p := ⟨n25, 1, none⟩) g9 _)).setCell (p := ⟨n25, 2, none⟩) g9 _)).setCell (p := ⟨n25, 3, none⟩) g9 _)).setCell (p := ⟨n25, 4, none⟩) g9 _)).setCell (p := ⟨n25, 5, none⟩) g9 _)).setCell (p := ⟨n25, 6, none⟩) g9 _)).setCell (p := ⟨n25, 7, none⟩) g9 _), (fun _ => ⟨(((((((((unhide HV1).set 0 _).set 1 _).set 2 _).set 3 _).set 4 _).set 5 _).set 6 _).set 7 _), g9⟩), unhide H_c3, unhide H_c4, unhide H_c5, unhide H_c6, unhide H_c10, unhide H_c11, unhide H_c12, unhide H_c13, unhide H_c17, unhide H_c18, unhide H_c19, unhide H_c20, unhide H_c21, unhide H_c22, unhide H_c23, unhide H_c24, (fun _ => ⟨rfl, rfl⟩), (fun h => nomatch h)⟩
    · intro h0 hd K hK
      have z : u27 = false := h0
      have zd0 : u24 = true ∧ u26 = true := by
        simp [Region.binds] at hd
        simp [hd]
      have zd : u24 = true ∧ u26 = true ∧ u0 = true ∧ u1 = true ∧ u2 = true ∧ u3 = true ∧ u4 = true ∧ u5 = true ∧ u6 = true ∧ u7 = true ∧ u8 = true ∧ u9 = true ∧ u10 = true ∧ u11 = true ∧ u12 = true ∧ u13 = true ∧ u14 = true ∧ u15 = true ∧ u16 = true ∧ u17 = true ∧ u18 = true ∧ u19 = true ∧ u20 = true ∧ u21 = true ∧ u22 = true ∧ u23 = true ∧ u25 = true := ⟨zd0.1, zd0.2, (unhide H_c5 (unhide H_c6 (unhide H_c21 (unhide H_c22 (unhide H_c24 zd0.1))).1)).1, (unhide H_c3 (unhide H_c4 (unhide H_c5 (unhide H_c6 (unhide H_c21 (unhide H_c22 (unhide H_c24 zd0.1))).1)).2)).1, (unhide H_c3 (unhide H_c4 (unhide H_c5 (unhide H_c6 (unhide H_c21 (unhide H_c22 (unhide H_c24 zd0.1))).1)).2)).2, (unhide H_c4 (unhide H_c5 (unhide H_c6 (unhide H_c21 (unhide H_c22 (unhide H_c24 zd0.1))).1)).2), (unhide H_c5 (unhide H_c6 (unhide H_c21 (unhide H_c22 (unhide H_c24 zd0.1))).1)).2, (unhide H_c6 (unhide H_c21 (unhide H_c22 (unhide H_c24 zd0.1))).1), (unhide H_c21 (unhide H_c22 (unhide H_c24 zd0.1))).1, (unhide H_c12 (unhide H_c13 (unhide H_c21 (unhide H_c22 (unhide H_c24 zd0.1))).2.1)).1, (unhide H_c10 (unhide H_c11 (unhide H_c12 (unhide H_c13 (unhide H_c21 (unhide H_c22 (unhide H_c24 zd0.1))).2.1)).2)).1, (unhide H_c10 (unhide H_c11 (unhide H_c12 (unhide H_c13 (unhide H_c21 (unhide H_c22 (unhide H_c24 zd0.1))).2.1)).2)).2, (unhide H_c11 (unhide H_c12 (unhide H_c13 (unhide H_c21 (unhide H_c22 (unhide H_c24 zd0.1))).2.1)).2), (unhide H_c12 (unhide H_c13 (unhide H_c21 (unhide H_c22 (unhide H_c24 zd0.1))).2.1)).2, (unhide H_c13 (unhide H_c21 (unhide H_c22 (unhide H_c24 zd0.1))).2.1), (unhide H_c21 (unhide H_c22 (unhide H_c24 zd0.1))).2.1, (unhide H_c19 (unhide H_c20 (unhide H_c21 (unhide H_c22 (unhide H_c24 zd0.1))).2.2)).1, (unhide H_c17 (unhide H_c18 (unhide H_c19 (unhide H_c20 (unhide H_c21 (unhide H_c22 (unhide H_c24 zd0.1))).2.2)).2)).1, (unhide H_c17 (unhide H_c18 (unhide H_c19 (unhide H_c20 (unhide H_c21 (unhide H_c22 (unhide H_c24 zd0.1))).2.2)).2)).2, (unhide H_c18 (unhide H_c19 (unhide H_c20 (unhide H_c21 (unhide H_c22 (unhide H_c24 zd0.1))).2.2)).2), (unhide H_c19 (unhide H_c20 (unhide H_c21 (unhide H_c22 (unhide H_c24 zd0.1))).2.2)).2, (unhide H_c20 (unhide H_c21 (unhide H_c22 (unhide H_c24 zd0.1))).2.2), (unhide H_c21 (unhide H_c22 (unhide H_c24 zd0.1))).2.2, (unhide H_c22 (unhide H_c24 zd0.1)), (unhide H_c24 zd0.1), (unhide H_c26 zd0.2).2, (unhide H_c26 zd0.2).1⟩
      obtain ⟨rfl, rfl, rfl, rfl, rfl, rfl, rfl, rfl, rfl, rfl, rfl, rfl, rfl, rfl, rfl, rfl, rfl, rfl, rfl, rfl, rfl, rfl, rfl, rfl, rfl, rfl, rfl⟩ := zd
      subst z
      clear h0 hd
      rw [if_pos (by rfl)]
      go_simp
      exact unhide hK _ _ ⟨true, true, true, true, true, true, true, true, true, true, true, true, true, true, true, true, true, true, true, true, true, true, true, true, true, true, true, true, n25, rfl, rfl, unhide H_kB, unhide H_k25, (fun _ => ⟨rfl, rfl⟩), (fun _ => rfl), (fun _ => ⟨rfl, rfl⟩), (fun _ => rfl), (fun _ => ⟨rfl, rfl⟩), (fun _ => rfl), (fun _ => ⟨rfl, rfl⟩), (fun _ => rfl), (fun _ => ⟨rfl, rfl⟩), (fun _ => rfl), (fun _ => ⟨rfl, rfl⟩), (fun _ => rfl), (fun _ => ⟨rfl, rfl, rfl⟩), (fun _ => rfl), (fun _ => rfl), (fun _ => rfl), (fun _ => ⟨rfl, rfl⟩), (fun _ => ⟨rfl, rfl, rfl, rfl, rfl, rfl, rfl, rfl, rfl, rfl, rfl, rfl, rfl, rfl, rfl, rfl, rfl, rfl, rfl, rfl, rfl, rfl, rfl, rfl, rfl, rfl, rfl⟩)⟩
  case hend =>
    intro Lb A W hI
    obtain ⟨u0, hI⟩ := hI
    obtain ⟨u1, hI⟩ := hI
    obtain ⟨u2, hI⟩ := hI
    obtain ⟨u3, hI⟩ := hI
    obtain ⟨u4, hI⟩ := hI
    obtain ⟨u5, hI⟩ := hI
    obtain ⟨u6, hI⟩ := hI
    obtain ⟨u7, hI⟩ := hI
    obtain ⟨u8, hI⟩ := hI
    obtain ⟨u9, hI⟩ := hI
    obtain ⟨u10, hI⟩ := hI
    obtain ⟨u11, hI⟩ := hI
    obtain ⟨u12, hI⟩ := hI
    obtain ⟨u13, hI⟩ := hI
    obtain ⟨u14, hI⟩ := hI
    obtain ⟨u15, hI⟩ := hI
    obtain ⟨u16, hI⟩ := hI
    obtain ⟨u17, hI⟩ := hI
    obtain ⟨u18, hI⟩ := hI
    obtain ⟨u19, hI⟩ := hI
    obtain ⟨u20, hI⟩ := hI
    obtain ⟨u21, hI⟩ := hI
    obtain ⟨u22, hI⟩ := hI
    obtain ⟨u23, hI⟩ := hI
    obtain ⟨u24, hI⟩ := hI
    obtain ⟨u25, hI⟩ := hI
    obtain ⟨u26, hI⟩ := hI
    obtain ⟨u27, hI⟩ := hI
    obtain ⟨n25, hI⟩ := hI
    obtain ⟨hLb, hI⟩ := hI
    obtain ⟨hA, hI⟩ := hI
    obtain ⟨kB, hI⟩ := hI
    obtain ⟨k25, hI⟩ := hI
    obtain ⟨c3, hI⟩ := hI
    obtain ⟨c4, hI⟩ := hI
    obtain ⟨c5, hI⟩ := hI
    obtain ⟨c6, hI⟩ := hI
    obtain ⟨c10, hI⟩ := hI
    obtain ⟨c11, hI⟩ := hI
    obtain ⟨c12, hI⟩ := hI
    obtain ⟨c13, hI⟩ := hI
    obtain ⟨c17, hI⟩ := hI
    obtain ⟨c18, hI⟩ := hI
    obtain ⟨c19, hI⟩ := hI
    obtain ⟨c20, hI⟩ := hI
    obtain ⟨c21, hI⟩ := hI
    obtain ⟨c22, hI⟩ := hI
    obtain ⟨c23, hI⟩ := hI
    obtain ⟨c24, hI⟩ := hI
    obtain ⟨c26, hI⟩ := hI
    have kF := hI
    clear hI
    subst hLb
    subst hA
    intro hL
    have hl : u0 = true ∧ u1 = true ∧ u2 = true ∧ u3 = true ∧ u4 = true ∧ u5 = true ∧ u6 = true ∧ u7 = true ∧ u8 = true ∧ u9 = true ∧ u10 = true ∧ u11 = true ∧ u12 = true ∧ u13 = true ∧ u14 = true ∧ u15 = true ∧ u16 = true ∧ u17 = true ∧ u18 = true ∧ u19 = true ∧ u20 = true ∧ u21 = true ∧ u22 = true ∧ u23 = true ∧ u24 = true ∧ u25 = true ∧ u26 = true ∧ u27 = true := by
      have h2 := congrArg Array.toList hL
      simpa [List.replicate] using h2
    obtain ⟨rfl, rfl, rfl, rfl, rfl, rfl, rfl, rfl, rfl, rfl, rfl, rfl, rfl, rfl, rfl, rfl, rfl, rfl, rfl, rfl, rfl, rfl, rfl, rfl, rfl, rfl, rfl, rfl⟩ := hl
    exact unhide HQ n25 W kB (k25 rfl).1 (k25 rfl).2

end Go.Proofs.Ytdcecfgmfmpeeaa

namespace Go.Proofs.Ytdcecfgmfmpeeaa
open Go.ChangeShapes Go.WideShapes Go.ChangeAt Go.RowKit
set_option linter.unusedVariables false
set_option linter.unusedSimpArgs false

def Ans (A : List Nat) (Q2 : Nat → Nat → Bool) (Q3 : Nat → Nat → Nat → Bool) (T2 : Nat → Nat → Ic) (T3 : Nat → Nat → Nat → Ic) (v : Value) : Prop :=
  (∀ i j, fp Q2 A = some (i, j) → v = rgV 2 (i : Int) (j : Int) 0 (T2 i j)) ∧ (fp Q2 A = none → ∀ i j l, ft Q3 A = some (i, j, l) → v = rgV 3 (i : Int) (j : Int) (l : Int) (T3 i j l))
set_option maxHeartbeats 8000000 in
set_option maxRecDepth 100000 in
theorem mrM_main (b cap n hn : Nat) (P H : List Pt) (A : Nat → List Nat) (KK : Nat → Nat) (Q2 : Nat → Nat → Bool) (Q3 TO : Nat → Nat → Nat → Bool) (T2 : Nat → Nat → Ic) (T3 : Nat → Nat → Nat → Ic) (w : World) (hn200 : n ≤ 200) (HLP : Hid (P.length = n)) (HLH : Hid (H.length = hn)) (hh2 : 2 ≤ hn) (hh4 : hn ≤ 400) (hb : b < w.heap.size) (HI : Hid (IntsAt w b 0 (flat2 P)))
    (HNR : Hid (∀ X : World, Below w.heap.size w X → Calls Try.prog 27 #[.slice (some ⟨b, 0, none⟩) n cap] X fun e w' => e = .returned (.bool true) ∧ Same X w'))
    (HHU : Hid (∀ X : World, Below w.heap.size w X → Calls Try.prog 28 #[.slice (some ⟨b, 0, none⟩) n cap] X fun e w' => ∃ v, e = .returned v ∧ Row w' X.heap.size 30 2 v hn (flat2 H) ∧ Below X.heap.size X w'))
    (HF1 : Hid (∀ i (X : World), i < n → Below w.heap.size w X → Calls Try.prog 29 #[.slice (some ⟨b, 0, none⟩) n cap, .agg #[.int .i64 (ptAt P i).1, .int .i64 (ptAt P i).2]] X fun e w' => e = .returned (.int .i64 (fi P (ptAt P i) : Int)) ∧ Below X.heap.size X w'))
    (HF2 : Hid (∀ i (X : World) (hb hc : Nat), i < n → hb < X.heap.size → IntsAt X hb 0 (flat2 H) → Calls Try.prog 29 #[.slice (some ⟨hb, 0, none⟩) hn hc, .agg #[.int .i64 (ptAt P i).1, .int .i64 (ptAt P i).2]] X fun e w' => e = .returned (.int .i64 (KK i : Int)) ∧ Below X.heap.size X w'))
    (HKK : Hid (∀ i, i < n → KK i < hn)) (HA0 : Hid (A 0 = [])) (HAL : Hid (∀ i, (A i).length ≤ i))
    (HAS : Hid (∀ i, i < n → A (i + 1) = if fi P (ptAt P i) = i ∧ (decide ((ptAt H (KK i)).1 = (ptAt P i).1) && decide ((ptAt H (KK i)).2 = (ptAt P i).2)) = true then A i ++ [i] else A i))
    (HAM : Hid (∀ i ∈ A n, i < n)) (hA0 : (A n).length ≠ 0)
    (HP2 : Hid (∀ i j (X : World), i ∈ A n → j ∈ A n → Calls Try.prog 43 #[.agg #[.int .i64 (ptAt P i).1, .int .i64 (ptAt P i).2], .agg #[.int .i64 (ptAt P j).1, .int .i64 (ptAt P j).2]] X fun e w' => e = .returned (rgV 0 0 0 0 (T2 i j)) ∧ Below X.heap.size X w'))
    (HH2 : Hid (∀ i j (X : World) (hb hc : Nat), i ∈ A n → j ∈ A n → hb < X.heap.size → IntsAt X hb 0 (flat2 H) → Calls Try.prog 44 #[.slice (some ⟨hb, 0, none⟩) hn hc, rgV 0 0 0 0 (T2 i j)] X fun e w' => e = .returned (.bool (Q2 i j)) ∧ Below X.heap.size X w'))
    (HP3 : Hid (∀ i j l (X : World), i ∈ A n → j ∈ A n → l ∈ A n → Calls Try.prog 45 #[.agg #[.int .i64 (ptAt P i).1, .int .i64 (ptAt P i).2], .agg #[.int .i64 (ptAt P j).1, .int .i64 (ptAt P j).2], .agg #[.int .i64 (ptAt P l).1, .int .i64 (ptAt P l).2]] X fun e w' => e = .returned (.tuple #[rgV 0 0 0 0 (T3 i j l), .bool (TO i j l)]) ∧ Below X.heap.size X w'))
    (HH3 : Hid (∀ i j l (X : World) (hb hc : Nat), TO i j l = true → i ∈ A n → j ∈ A n → l ∈ A n → hb < X.heap.size → IntsAt X hb 0 (flat2 H) → Calls Try.prog 44 #[.slice (some ⟨hb, 0, none⟩) hn hc, rgV 0 0 0 0 (T3 i j l)] X fun e w' => e = .returned (.bool (Q3 i j l)) ∧ Below X.heap.size X w'))
    (HQ3 : Hid (∀ i j l, TO i j l = false → Q3 i j l = false)) (HNN : Hid (fp Q2 (A n) = none → ft Q3 (A n) ≠ none)) :
    Calls Try.prog 11 #[.slice (some ⟨b, 0, none⟩) n cap] w fun e w' => ∃ v, e = .returned (.tuple #[v, .int .i64 0]) ∧ Ans (A n) Q2 Q3 T2 T3 v ∧ Below w.heap.size w w' := by
  have d4 : decide ((4096 : Int) < (n : Int)) = false := decide_eq_false (by omega)
  have d5 : ¬ (4096 : Int) < (n : Int) := by omega
  have d6 : ((hn : Int) == 1) = false := beq_eq_false_iff_ne.2 (by omega)
  have d7 : ¬ (hn : Int) = 1 := by omega
  obtain ⟨iP, hi1, hy0, hy1, hy2⟩ := info_parts int_info3
  have K0 : Hid (Below w.heap.size w (w.alloc (.cells #[.int .i64 0, .int .i64 0, .int .i64 0, .int .i64 0, .int .i64 0, .int .i64 0, .int .i64 0, .int .i64 0] 34))) := hide (ba (Below.refl _ _) _)
  have R2 : Hid (cb (w.alloc (.cells #[.int .i64 0, .int .i64 0, .int .i64 0, .int .i64 0, .int .i64 0, .int .i64 0, .int .i64 0, .int .i64 0] 34)) w.heap.size 34 z8) := hide (cb_new w 34 z8 _ rfl)
  go_enter Try.func11, Try.ntmps11
  go_wp2_with fail
  generalize w.alloc (.cells #[.int .i64 0, .int .i64 0, .int .i64 0, .int .i64 0, .int .i64 0, .int .i64 0, .int .i64 0, .int .i64 0] 34) = V0 at *
  refine (unhide HNR _ (unhide K0)).mono ?_
  rintro e V1 ⟨rfl, hs⟩
  have K1 := hide ((unhide K0).trans (hs.bel))
  have R2a : Hid (cb V1 w.heap.size 34 z8) := hide (by unfold cb; rw [hs.heap]; exact unhide R2)
  clear hs K0 R2 HNR
  go_wp2_with fail
  refine (unhide HHU _ (unhide K1)).mono ?_
  rintro e V2 ⟨v, rfl, hr, hB2⟩
  obtain ⟨gh, ch, rfl, hg1, hg2, hri, hc1, hc2⟩ := hr.full (by omega)
  have K2 := hide (bc (unhide K1) hB2)
  have R2b := hide ((unhide R2a).bel hB2)
  have HHI := hide hri
  have hlw2 : w.heap.size < V2.heap.size := (unhide R2b).lt
  clear hr hB2 K1 R2a hri HHU hg1
  go_wp2_with fail
  have RN0 : Hid (Row (V2.alloc (.cells #[] 3)) V2.heap.size 3 1 (.slice (some ⟨V2.heap.size, 0, none⟩) 0 0) 0 []) := hide (row_made V2 3 V2.heap.size 1 (Nat.le_refl _) V2.heap.size rfl)
  have B20 : Hid (Below V2.heap.size V2 (V2.alloc (.cells #[] 3))) := hide (ba (Below.refl _ _) _)
  generalize V2.alloc (.cells #[] 3) = V3 at *
  go_loopw [6, 7] (fun z6 z X => ∃ i : Nat, z = .int .i64 (i : Int) ∧ i ≤ n ∧ Row X V2.heap.size 3 1 z6 (A i).length (nums (A i)) ∧ Below V2.heap.size V2 X) (fun _ z _ => n - (intOf z).toNat)
  case atStart => exact ⟨0, rfl, Nat.zero_le _, by rw [unhide HA0]; exact unhide RN0, unhide B20⟩
  case round =>
    obtain ⟨i, rfl, hi, h6, hw⟩ := hrel
    obtain ⟨ku, kc, rfl, _⟩ := h6.form
    have H6 := hide h6
    have HW := hide hw
    have KW := hide ((unhide K2).trans (hw.mono (Nat.le_of_lt hlw2)))
    clear h6 hw
    by_cases h : i < n
    · have i1 : (i : Int) < (n : Int) := by omega
      have i0 : (0 : Int) ≤ (i : Int) := Int.natCast_nonneg _
      have iz : decide ((i : Int) < (n : Int)) = true := decide_eq_true i1
      have hx := ptAt_some (L := P) (i := i) (by rw [unhide HLP]; exact h)
      have HF1i := hide (fun X => unhide HF1 i X h)
      have HF2i := hide (fun X hb hc => unhide HF2 i X hb hc h)
      have has := unhide HAS i h
      have hal := unhide HAL i
      have hkk := unhide HKK i h
      have hk := ptAt_some (L := H) (i := KK i) (by rw [unhide HLH]; exact hkk)
      obtain ⟨⟨px, py⟩, hxy⟩ : ∃ q, ptAt P i = q := ⟨_, rfl⟩
      obtain ⟨⟨hx', hy'⟩, hhxy⟩ : ∃ q, ptAt H (KK i) = q := ⟨_, rfl⟩
      rw [hxy] at hx has HF1i HF2i
      rw [hhxy] at hk has
      obtain ⟨k, hkq⟩ : ∃ k, KK i = k := ⟨_, rfl⟩
      rw [hkq] at hk hkk HF2i
      obtain ⟨j, hj⟩ : ∃ j, fi P (px, py) = j := ⟨_, rfl⟩
      rw [hj] at has HF1i
      obtain ⟨p0, p1⟩ := pts_at ((unhide HI).below (unhide KW) hb) hx
      have hHw := (unhide HHI).below (unhide HW) hg2
      obtain ⟨q0, q1⟩ := pts_at hHw hk
      have P0 := hide p0
      have P1 := hide p1
      have Q0 := hide q0
      have Q1 := hide q1
      have HHw := hide hHw
      have hghw : gh < wr.heap.size := Nat.lt_of_lt_of_le hg2 (unhide HW).size
      have HASi := hide has
      simp only at HASi
      clear hx hk hxy hhxy hkq hj has p0 p1 q0 q1 hHw
      go_wp2_with fail
      by_cases hji : j = i
      · refine Go.Code.wp_mono (Only.to (fun _ _ h => h)) (mr14t (j := j) (k := k) (x := px) (y := py) (hx := hx') (hy := hy') hji P0 P1 Q0 Q1 (hide h) (hide fun X hX => unhide HF1i X (bc (unhide KW) hX)) (hide h) (hide fun X hX => unhide HF2i X gh ch (Nat.lt_of_lt_of_le hghw hX.size) ((unhide HHw).below hX hghw)) (hide h) (hide fun X hX => unhide HF2i X gh ch (Nat.lt_of_lt_of_le hghw hX.size) ((unhide HHw).below hX hghw)) (hide hkk) (hide h) (fun Wy hBy => ?_))
        have BY := hide ((unhide HW).trans (hBy.mono (unhide HW).size))
        have Y6 := hide ((unhide H6).below hBy)
        have lY := (unhide BY).size
        clear hBy H6 HW KW P0 P1 Q0 Q1 HHw HF1i HF2i
        cases hq : (decide (hx' = px) && decide (hy' = py)) with
        | true =>
          have hAi : A (i + 1) = A i ++ [i] := by rw [unhide HASi, if_pos ⟨hji, hq⟩]
          have HAi := hide hAi
          have HJI := hide hji
          have HQQ := hide hq
          clear hAi hji hq HASi
          go_wp2_with (at_builtin; refine unhide ?_)
          refine hide ?_
          refine wpList_append_own _ rfl _ _ 37 rfl V2.heap.size 3 iP _ 1 8 Try.underlying37 hi1 hy0 hy1 hy2 rfl (by decide) _ (A i).length ((nums (A i)).map (Value.int .i64)) rfl ((unhide Y6).alloc _) _ 1 1 ([(i : Int)].map (Value.int .i64)) rfl rfl (by first | exact news_cells _ _ rfl | exact news_cells _ _ (by simp)) ints_one (by unfold maxLen; omega) (by omega) (by first | omega | (simp; omega)) ?_
          intro v1 w1 hown' hgrow _
          have R1 := own_more (wr := Wy) (news := [(i : Int)]) (by repeat (first | exact Below.refl _ _ | refine Below.alloc ?_ (by first | omega | (simp; omega)) _ | refine Below.drew ?_)) (by simp; omega) (unhide Y6) hown' hgrow
          have HR1 := hide R1.1
          have KQ : Hid (Below V2.heap.size V2 w1) := hide ((unhide BY).trans R1.2)
          clear hown' hgrow R1
          go_wp2_with fail
          go_roundw
          case rel =>
            have H : ∃ i' : Nat, Value.int .i64 ((i : Int) + 1) = .int .i64 (i' : Int) ∧ i' ≤ n ∧ Row w1 V2.heap.size 3 1 v1 (A i').length (nums (A i')) ∧ Below V2.heap.size V2 w1 := by
              refine ⟨i + 1, by simp, h, ?_, unhide KQ⟩
              rw [unhide HAi]
              have e : nums (A i ++ [i]) = nums (A i) ++ [(i : Int)] := by simp [nums]
              rw [e, List.length_append]
              exact unhide HR1
            first | exact H | ((repeat apply Exists.intro); refine ⟨?_, rfl⟩; exact H)
          case measure => first | (simp only [intOf]; omega) | (simp [intOf]; omega)
        | false =>
          have hAi : A (i + 1) = A i := by rw [unhide HASi, if_neg (fun q => by rw [hq] at q; exact nomatch q.2)]
          have HAi := hide hAi
          have HJI := hide hji
          have HQQ := hide hq
          clear hAi hji hq HASi
          go_wp2_with fail
          go_roundw
          case rel =>
            have H : ∃ i' : Nat, Value.int .i64 ((i : Int) + 1) = .int .i64 (i' : Int) ∧ i' ≤ n ∧ Row Wy V2.heap.size 3 1 (.slice ku (A i).length kc) (A i').length (nums (A i')) ∧ Below V2.heap.size V2 Wy := ⟨i + 1, by simp, h, by rw [unhide HAi]; exact unhide Y6, unhide BY⟩
            first | exact H | ((repeat apply Exists.intro); refine ⟨?_, rfl⟩; exact H)
          case measure => first | (simp only [intOf]; omega) | (simp [intOf]; omega)
      · refine Go.Code.wp_mono (Only.to (fun _ _ h => h)) (mr14f (j := j) (x := px) (y := py) hji P0 P1 (hide h) (hide fun X hX => unhide HF1i X (bc (unhide KW) hX)) (fun Wy hBy => ?_))
        have BY := hide ((unhide HW).trans (hBy.mono (unhide HW).size))
        have Y6 := hide ((unhide H6).below hBy)
        have hAi : A (i + 1) = A i := by rw [unhide HASi, if_neg (fun q => hji q.1)]
        have HAi := hide hAi
        have HJI := hide hji
        clear hBy H6 HW KW P0 P1 Q0 Q1 HHw HF1i HF2i hAi hji HASi
        go_wp2_with fail
        go_roundw
        case rel =>
          have H : ∃ i' : Nat, Value.int .i64 ((i : Int) + 1) = .int .i64 (i' : Int) ∧ i' ≤ n ∧ Row Wy V2.heap.size 3 1 (.slice ku (A i).length kc) (A i').length (nums (A i')) ∧ Below V2.heap.size V2 Wy := ⟨i + 1, by simp, h, by rw [unhide HAi]; exact unhide Y6, unhide BY⟩
          first | exact H | ((repeat apply Exists.intro); refine ⟨?_, rfl⟩; exact H)
        case measure => first | (simp only [intOf]; omega) | (simp [intOf]; omega)
    · have hin : i = n := by omega
      have i1 : ¬ (i : Int) < (n : Int) := by omega
      have iz : decide ((i : Int) < (n : Int)) = false := decide_eq_false i1
      subst hin
      obtain ⟨B, hBe⟩ : ∃ B, A i = B := ⟨_, rfl⟩
      rw [hBe] at H6 HAM hA0 HP2 HH2 HP3 HH3 HNN ⊢
      have HBE := hide hBe
      obtain ⟨nb, nc, hne, hn1, hn2, hni, hnc1, hnc2⟩ := (unhide H6).full hA0
      cases hne
      have HNI := hide hni
      have hlB : B.length ≤ 200 := by rw [← hBe]; have := unhide HAL i; omega
      obtain ⟨m, hm⟩ : ∃ m, B.length = m := ⟨_, rfl⟩
      rw [hm] at hA0 hnc1 hlB ⊢
      have HM := hide hm
      have R2X : Hid (cb wr w.heap.size 34 z8) := hide (((unhide HW).block _ hlw2).trans (unhide R2b))
      have HHX := hide ((unhide HHI).below (unhide HW) hg2)
      have hghX : gh < wr.heap.size := Nat.lt_of_lt_of_le hg2 (unhide HW).size
      have HIX := hide ((unhide HI).below (unhide KW) hb)
      have hbX : b < wr.heap.size := Nat.lt_of_lt_of_le hb (unhide KW).size
      have hlw : w.heap.size < wr.heap.size := (unhide R2X).lt
      clear hBe hni hm H6 HAS HAL HKK HF1 HF2 HHI HI HW K2 R2b RN0 B20 HA0 HLH
      generalize wr = V4 at *
      go_wp2_with fail
      go_loopw [8] (fun z X => ∃ a : Nat, z = .int .i64 (a : Int) ∧ a ≤ m ∧ fp Q2 B = fp Q2 (B.drop a) ∧ Below V4.heap.size V4 X) (fun z _ => m - (intOf z).toNat)
      case atStart => exact ⟨0, rfl, Nat.zero_le _, rfl, Below.refl _ _⟩
      case round =>
        obtain ⟨a, rfl, ha, hfp, hw⟩ := hrel
        have HFP := hide hfp
        have HW := hide hw
        clear hfp hw
        by_cases h2 : a < m
        · have a1 : (a : Int) < (m : Int) := by omega
          have az : decide ((a : Int) < (m : Int)) = true := decide_eq_true a1
          have a0 : (0 : Int) ≤ (a : Int) := Int.natCast_nonneg _
          have wa : IntKind.i64.wrap ((a : Int) + 1) = ((a + 1 : Nat) : Int) := (wr64 (by omega) (by omega)).trans (by omega)
          have la : a + 1 ≤ m := by omega
          obtain ⟨i, hBi⟩ : ∃ i, B[a]? = some i := ⟨_, List.getElem?_eq_getElem (by rw [unhide HM]; exact h2)⟩
          have HBi := hide hBi
          have hiB := List.mem_of_getElem? hBi
          have hin := unhide HAM i hiB
          clear hBi
          go_wp2_with fail
          go_loopw [9] (fun z X => ∃ c : Nat, z = .int .i64 (c : Int) ∧ a + 1 ≤ c ∧ c ≤ m ∧ (B.drop (a + 1)).find? (Q2 i) = (B.drop c).find? (Q2 i) ∧ Below V4.heap.size V4 X) (fun z _ => m - (intOf z).toNat)
          case atStart => exact ⟨a + 1, by simp, Nat.le_refl _, la, rfl, unhide HW⟩
          case round =>
            obtain ⟨c, rfl, hca, hc, hfd, hw⟩ := hrel
            have HFD := hide hfd
            have JW := hide hw
            clear hfd hw HW
            by_cases h3 : c < m
            · have c1 : (c : Int) < (m : Int) := by omega
              have cz : decide ((c : Int) < (m : Int)) = true := decide_eq_true c1
              have c0 : (0 : Int) ≤ (c : Int) := Int.natCast_nonneg _
              have wc : IntKind.i64.wrap ((c : Int) + 1) = ((c + 1 : Nat) : Int) := (wr64 (by omega) (by omega)).trans (by omega)
              obtain ⟨j, hBj⟩ : ∃ j, B[c]? = some j := ⟨_, List.getElem?_eq_getElem (by rw [unhide HM]; exact h3)⟩
              have hjB := List.mem_of_getElem? hBj
              have hjn := unhide HAM j hjB
              have HBj := hide hBj
              have hpi := ptAt_some (L := P) (i := i) (by rw [unhide HLP]; exact hin)
              have hpj := ptAt_some (L := P) (i := j) (by rw [unhide HLP]; exact hjn)
              have hIw := (unhide HIX).below (unhide JW) hbX
              have hNw := (unhide HNI).below (unhide JW) hn2
              have N0 := hide (cells_of hNw (j := a) (x := (i : Int)) (by unfold nums; rw [List.getElem?_map, unhide HBi]; rfl))
              have N1 := hide (cells_of hNw (j := c) (x := (j : Int)) (by unfold nums; rw [List.getElem?_map, hBj]; rfl))
              have HC2 := hide (fun X => unhide HP2 i j X hiB hjB)
              have HD2 := hide (fun X hb hc => unhide HH2 i j X hb hc hiB hjB)
              obtain ⟨⟨px, py⟩, hpe⟩ : ∃ q, ptAt P i = q := ⟨_, rfl⟩
              obtain ⟨⟨qx, qy⟩, hqe⟩ : ∃ q, ptAt P j = q := ⟨_, rfl⟩
              rw [hpe] at hpi HC2
              rw [hqe] at hpj HC2
              obtain ⟨x0, x1⟩ := pts_at hIw hpi
              obtain ⟨x2, x3⟩ := pts_at hIw hpj
              have P0 := hide x0
              have P1 := hide x1
              have P2 := hide x2
              have P3 := hide x3
              obtain ⟨t2, ht2⟩ : ∃ t2, T2 i j = t2 := ⟨_, rfl⟩
              rw [ht2] at HC2 HD2
              have HT2 := hide ht2
              obtain ⟨X, Y, D, N⟩ := t2
              unfold rgV at HC2 HD2
              simp only at HC2 HD2
              have h2w : Hid (cb wr w.heap.size 34 z8) := hide (((unhide JW).block _ hlw).trans (unhide R2X))
              have KJ : Hid (Below w.heap.size w wr) := hide ((unhide KW).trans ((unhide JW).mono (Nat.le_of_lt hlw)))
              have HHw := hide ((unhide HHX).below (unhide JW) hghX)
              have hghw : gh < wr.heap.size := Nat.lt_of_lt_of_le hghX (unhide JW).size
              have hnbw : nb < wr.heap.size := Nat.lt_of_lt_of_le hn2 (unhide JW).size
              clear hBj hpi hpj hIw hNw hpe hqe x0 x1 x2 x3 ht2
              go_wp2_with fail
              refine Go.Code.wp_mono (Only.to (fun _ _ h => h)) (mr22 (X := X) (Y := Y) (D := D) (N := N) N0 P0 P1 N1 P2 P3 (hide h2) (hide hin) (hide h3) (hide hjn) (hide fun X _ => unhide HC2 X) (fun g10 Wy hBy v10 g10s => ?_))
              have R10 := hide v10
              have Y2 := hide ((unhide h2w).bel hBy)
              have KY := hide (bc (unhide KJ) hBy)
              have JY := hide ((unhide JW).trans (hBy.mono (unhide JW).size))
              have HHy := hide ((unhide HHw).below hBy hghw)
              have hghy : gh < Wy.heap.size := Nat.lt_of_lt_of_le hghw hBy.size
              have lg : w.heap.size < g10 := Nat.lt_of_lt_of_le (unhide h2w).lt g10s
              have lnb : nb < g10 := Nat.lt_of_lt_of_le hnbw g10s
              have NY0 := hide (keep1 hBy (unhide N0))
              have NY1 := hide (keep1 hBy (unhide N1))
              clear v10 hBy g10s h2w KJ JW HHw N0 N1 P0 P1 P2 P3 HC2
              have c0' := (unhide R10).cell (m := 0) rfl
              have c1' := (unhide R10).cell (m := 1) rfl
              have c2' := (unhide R10).cell (m := 2) rfl
              have c3' := (unhide R10).cell (m := 3) rfl
              have c4' := (unhide R10).cell (m := 4) rfl
              have c5' := (unhide R10).cell (m := 5) rfl
              have c6' := (unhide R10).cell (m := 6) rfl
              have c7' := (unhide R10).cell (m := 7) rfl
              go_wp2_with fail
              refine (unhide HD2 Wy gh ch hghy (unhide HHy)).mono ?_
              rintro e Wz ⟨rfl, hBz⟩
              have RZ := hide ((unhide R10).bel hBz)
              have Z2 := hide ((unhide Y2).bel hBz)
              have KZ := hide (bc (unhide KY) hBz)
              have JZ := hide ((unhide JY).trans (hBz.mono (unhide JY).size))
              have n0 := keep1 hBz (unhide NY0)
              have n1 := keep1 hBz (unhide NY1)
              clear c0' c1' c2' c3' c4' c5' c6' c7' hBz R10 Y2 KY JY HHy NY0 NY1 HD2
              cases hq : Q2 i j with
              | true =>
                have HRES : Hid (fp Q2 B = some (i, j)) := hide (by
                  rw [unhide HFP, fp_at (unhide HBi), unhide HFD, find_at (unhide HBj), hq]
                  rfl)
                have hne1 : nb ≠ g10 := by omega
                have hne2 : g10 ≠ nb := by omega
                have fz := (unhide RZ).frozen
                have lz := (unhide RZ).lt
                have k0 := (unhide RZ).cell (m := 0) rfl
                have k1 := (unhide RZ).cell (m := 1) rfl
                have k2 := (unhide RZ).cell (m := 2) rfl
                clear hq
                go_upto_region 27 with fail
                have RT := hide ((((unhide RZ).set 0 (.int .i64 2)).set 1 (.int .i64 (i : Int))).set 2 (.int .i64 (j : Int)))
                have R2T : Hid (cb (((Wz.setCell ⟨g10, 0, none⟩ (.int .i64 2)).setCell ⟨g10, 1, none⟩ (.int .i64 (i : Int))).setCell ⟨g10, 2, none⟩ (.int .i64 (j : Int))) w.heap.size 34 z8) := hide ((((unhide Z2).ne (by omega)).ne (by omega)).ne (by omega))
                have KT : Hid (Below w.heap.size w (((Wz.setCell ⟨g10, 0, none⟩ (.int .i64 2)).setCell ⟨g10, 1, none⟩ (.int .i64 (i : Int))).setCell ⟨g10, 2, none⟩ (.int .i64 (j : Int)))) := hide (Below.setCell (Below.setCell (Below.setCell (unhide KZ) (Nat.le_of_lt lg) _) (Nat.le_of_lt lg) _) (Nat.le_of_lt lg) _)
                clear RZ Z2 KZ JZ n0 n1 fz lz k0 k1 k2
                generalize ((Wz.setCell ⟨g10, 0, none⟩ (.int .i64 2)).setCell ⟨g10, 1, none⟩ (.int .i64 (i : Int))).setCell ⟨g10, 2, none⟩ (.int .i64 (j : Int)) = Wt at *
                have c0' := (unhide RT).cell (m := 0) rfl
                have c1' := (unhide RT).cell (m := 1) rfl
                have c2' := (unhide RT).cell (m := 2) rfl
                have c3' := (unhide RT).cell (m := 3) rfl
                have c4' := (unhide RT).cell (m := 4) rfl
                have c5' := (unhide RT).cell (m := 5) rfl
                have c6' := (unhide RT).cell (m := 6) rfl
                have c7' := (unhide RT).cell (m := 7) rfl
                have o0 := (unhide R2T).cell (m := 0) rfl
                have o1 := (unhide R2T).cell (m := 1) rfl
                have o2 := (unhide R2T).cell (m := 2) rfl
                have o3 := (unhide R2T).cell (m := 3) rfl
                have o4 := (unhide R2T).cell (m := 4) rfl
                have o5 := (unhide R2T).cell (m := 5) rfl
                have o6 := (unhide R2T).cell (m := 6) rfl
                have o7 := (unhide R2T).cell (m := 7) rfl
                have f2 := (unhide R2T).frozen
                go_wp2_with fail
                have T := (((((((((unhide R2T).set 0 (.int .i64 2)).set 1 (.int .i64 (i : Int))).set 2 (.int .i64 (j : Int))).set 3 (.int .i64 0)).set 4 (.int .i64 X)).set 5 (.int .i64 Y)).set 6 (.int .i64 D)).set 7 (.int .i64 N))
                have hBV : Below w.heap.size w ((((((((Wt.setCell ⟨w.heap.size, 0, none⟩ (.int .i64 2)).setCell ⟨w.heap.size, 1, none⟩ (.int .i64 (i : Int))).setCell ⟨w.heap.size, 2, none⟩ (.int .i64 (j : Int))).setCell ⟨w.heap.size, 3, none⟩ (.int .i64 0)).setCell ⟨w.heap.size, 4, none⟩ (.int .i64 X)).setCell ⟨w.heap.size, 5, none⟩ (.int .i64 Y)).setCell ⟨w.heap.size, 6, none⟩ (.int .i64 D)).setCell ⟨w.heap.size, 7, none⟩ (.int .i64 N)) := (Below.setCell (Below.setCell (Below.setCell (Below.setCell (Below.setCell (Below.setCell (Below.setCell (Below.setCell (unhide KT) (Nat.le_refl _) _) (Nat.le_refl _) _) (Nat.le_refl _) _) (Nat.le_refl _) _) (Nat.le_refl _) _) (Nat.le_refl _) _) (Nat.le_refl _) _) (Nat.le_refl _) _)
                generalize ((((((((Wt.setCell ⟨w.heap.size, 0, none⟩ (.int .i64 2)).setCell ⟨w.heap.size, 1, none⟩ (.int .i64 (i : Int))).setCell ⟨w.heap.size, 2, none⟩ (.int .i64 (j : Int))).setCell ⟨w.heap.size, 3, none⟩ (.int .i64 0)).setCell ⟨w.heap.size, 4, none⟩ (.int .i64 X)).setCell ⟨w.heap.size, 5, none⟩ (.int .i64 Y)).setCell ⟨w.heap.size, 6, none⟩ (.int .i64 D)).setCell ⟨w.heap.size, 7, none⟩ (.int .i64 N)) = V9 at *
                have s0 := T.cell (m := 0) rfl
                have s1 := T.cell (m := 1) rfl
                have s2 := T.cell (m := 2) rfl
                have s3 := T.cell (m := 3) rfl
                have s4 := T.cell (m := 4) rfl
                have s5 := T.cell (m := 5) rfl
                have s6 := T.cell (m := 6) rfl
                have s7 := T.cell (m := 7) rfl
                have ls := T.lt
                refine bodyPost_ret (v := .tuple #[.agg #[.int .i64 2, .int .i64 (i : Int), .int .i64 (j : Int), .int .i64 0, .int .i64 X, .int .i64 Y, .int .i64 D, .int .i64 N], .int .i64 0]) (by simp [results, Try.results11, go_sem, s0, s1, s2, s3, s4, s5, s6, s7, ls]) rfl ⟨_, rfl, ⟨fun i' j' he => by rw [unhide HBE, unhide HRES] at he; cases he; rw [unhide HT2]; rfl, fun he => by rw [unhide HBE, unhide HRES] at he; cases he⟩, hBV⟩
              | false =>
                have HNX : Hid ((B.drop (a + 1)).find? (Q2 i) = (B.drop (c + 1)).find? (Q2 i)) := hide (by
                  rw [unhide HFD, find_at (unhide HBj), hq]
                  rfl)
                clear n0 n1 hq
                go_wp2_with fail
                go_roundw
                case rel =>
                  have H : ∃ c' : Nat, Value.int .i64 ((c : Int) + 1) = .int .i64 (c' : Int) ∧ a + 1 ≤ c' ∧ c' ≤ m ∧ (B.drop (a + 1)).find? (Q2 i) = (B.drop c').find? (Q2 i) ∧ Below V4.heap.size V4 Wz := ⟨c + 1, by simp, by omega, h3, unhide HNX, unhide JZ⟩
                  first | exact H | ((repeat apply Exists.intro); refine ⟨?_, rfl⟩; exact H)
                case measure => first | (simp only [intOf]; omega) | (simp [intOf]; omega)
            · have ec : c = m := by omega
              have c1 : ¬ (c : Int) < (m : Int) := by omega
              have cz : decide ((c : Int) < (m : Int)) = false := decide_eq_false c1
              have HF0 : Hid (fp Q2 B = fp Q2 (B.drop (a + 1))) := hide (by
                rw [unhide HFP, fp_at (unhide HBi), unhide HFD]
                have h9 : B.drop c = [] := List.drop_eq_nil_of_le (by rw [unhide HM]; omega)
                rw [h9]
                rfl)
              clear ec
              go_wp2_with fail
              go_roundw
              case rel =>
                have H : ∃ a' : Nat, Value.int .i64 ((a : Int) + 1) = .int .i64 (a' : Int) ∧ a' ≤ m ∧ fp Q2 B = fp Q2 (B.drop a') ∧ Below V4.heap.size V4 wr := ⟨a + 1, by simp, la, unhide HF0, unhide JW⟩
                first | exact H | ((repeat apply Exists.intro); refine ⟨?_, rfl⟩; exact H)
              case measure => first | (simp only [intOf]; omega) | (simp [intOf]; omega)
        · have ea : a = m := by omega
          have a1 : ¬ (a : Int) < (m : Int) := by omega
          have az : decide ((a : Int) < (m : Int)) = false := decide_eq_false a1
          have HNO : Hid (fp Q2 B = none) := hide (by
            have h9 : B.drop a = [] := List.drop_eq_nil_of_le (by rw [unhide HM]; omega)
            rw [unhide HFP, h9]
            rfl)
          clear ea HFP
          go_wp2_with fail
          go_loopw [11] (fun z X => ∃ a : Nat, z = .int .i64 (a : Int) ∧ a ≤ m ∧ ft Q3 B = ft Q3 (B.drop a) ∧ Below V4.heap.size V4 X) (fun z _ => m - (intOf z).toNat)
          case atStart => exact ⟨0, rfl, Nat.zero_le _, rfl, unhide HW⟩
          case round =>
            obtain ⟨a', rfl, ha', hft, hw⟩ := hrel
            have HFT := hide hft
            have TW := hide hw
            clear hft hw HW ha a1 az h2
            generalize a' = a at *
            by_cases h2 : a < m
            · have a1 : (a : Int) < (m : Int) := by omega
              have az : decide ((a : Int) < (m : Int)) = true := decide_eq_true a1
              have a0 : (0 : Int) ≤ (a : Int) := Int.natCast_nonneg _
              have wa : IntKind.i64.wrap ((a : Int) + 1) = ((a + 1 : Nat) : Int) := (wr64 (by omega) (by omega)).trans (by omega)
              have la : a + 1 ≤ m := by omega
              obtain ⟨i, hBi⟩ : ∃ i, B[a]? = some i := ⟨_, List.getElem?_eq_getElem (by rw [unhide HM]; exact h2)⟩
              have HBi := hide hBi
              have hiB := List.mem_of_getElem? hBi
              have hin := unhide HAM i hiB
              clear hBi
              go_wp2_with fail
              go_loopw [12] (fun z X => ∃ c : Nat, z = .int .i64 (c : Int) ∧ a + 1 ≤ c ∧ c ≤ m ∧ fp (Q3 i) (B.drop (a + 1)) = fp (Q3 i) (B.drop c) ∧ Below V4.heap.size V4 X) (fun z _ => m - (intOf z).toNat)
              case atStart => exact ⟨a + 1, by simp, Nat.le_refl _, la, rfl, unhide TW⟩
              case round =>
                obtain ⟨c, rfl, hca, hc, hfd, hw⟩ := hrel
                have HFP := hide hfd
                have UW := hide hw
                clear hfd hw TW
                by_cases h3 : c < m
                · have c1 : (c : Int) < (m : Int) := by omega
                  have cz : decide ((c : Int) < (m : Int)) = true := decide_eq_true c1
                  have c0 : (0 : Int) ≤ (c : Int) := Int.natCast_nonneg _
                  have wc : IntKind.i64.wrap ((c : Int) + 1) = ((c + 1 : Nat) : Int) := (wr64 (by omega) (by omega)).trans (by omega)
                  have lc : c + 1 ≤ m := by omega
                  obtain ⟨j, hBj⟩ : ∃ j, B[c]? = some j := ⟨_, List.getElem?_eq_getElem (by rw [unhide HM]; exact h3)⟩
                  have hjB := List.mem_of_getElem? hBj
                  have hjn := unhide HAM j hjB
                  have HBj := hide hBj
                  clear hBj
                  go_wp2_with fail
                  go_loopw [13] (fun z X => ∃ d : Nat, z = .int .i64 (d : Int) ∧ c + 1 ≤ d ∧ d ≤ m ∧ (B.drop (c + 1)).find? (Q3 i j) = (B.drop d).find? (Q3 i j) ∧ Below V4.heap.size V4 X) (fun z _ => m - (intOf z).toNat)
                  case atStart => exact ⟨c + 1, by simp, Nat.le_refl _, lc, rfl, unhide UW⟩
                  case round =>
                    obtain ⟨d, rfl, hdc, hd, hfd, hw⟩ := hrel
                    have HFD := hide hfd
                    have JW := hide hw
                    clear hfd hw UW
                    by_cases h4 : d < m
                    · have e1 : (d : Int) < (m : Int) := by omega
                      have ez : decide ((d : Int) < (m : Int)) = true := decide_eq_true e1
                      have e0 : (0 : Int) ≤ (d : Int) := Int.natCast_nonneg _
                      have we : IntKind.i64.wrap ((d : Int) + 1) = ((d + 1 : Nat) : Int) := (wr64 (by omega) (by omega)).trans (by omega)
                      obtain ⟨l, hBl⟩ : ∃ l, B[d]? = some l := ⟨_, List.getElem?_eq_getElem (by rw [unhide HM]; exact h4)⟩
                      have hlB' := List.mem_of_getElem? hBl
                      have hln := unhide HAM l hlB'
                      have HBl := hide hBl
                      have hpi := ptAt_some (L := P) (i := i) (by rw [unhide HLP]; exact hin)
                      have hpj := ptAt_some (L := P) (i := j) (by rw [unhide HLP]; exact hjn)
                      have hpl := ptAt_some (L := P) (i := l) (by rw [unhide HLP]; exact hln)
                      have hIw := (unhide HIX).below (unhide JW) hbX
                      have hNw := (unhide HNI).below (unhide JW) hn2
                      have N0 := hide (cells_of hNw (j := a) (x := (i : Int)) (by unfold nums; rw [List.getElem?_map, unhide HBi]; rfl))
                      have N1 := hide (cells_of hNw (j := c) (x := (j : Int)) (by unfold nums; rw [List.getElem?_map, unhide HBj]; rfl))
                      have N2 := hide (cells_of hNw (j := d) (x := (l : Int)) (by unfold nums; rw [List.getElem?_map, hBl]; rfl))
                      have HC3 := hide (fun X => unhide HP3 i j l X hiB hjB hlB')
                      have HD3 := hide (fun X hb hc ht => unhide HH3 i j l X hb hc ht hiB hjB hlB')
                      have hQ3 := unhide HQ3 i j l
                      obtain ⟨⟨px, py⟩, hpe⟩ : ∃ q, ptAt P i = q := ⟨_, rfl⟩
                      obtain ⟨⟨qx, qy⟩, hqe⟩ : ∃ q, ptAt P j = q := ⟨_, rfl⟩
                      obtain ⟨⟨rx, ry⟩, hre⟩ : ∃ q, ptAt P l = q := ⟨_, rfl⟩
                      rw [hpe] at hpi HC3
                      rw [hqe] at hpj HC3
                      rw [hre] at hpl HC3
                      obtain ⟨x0, x1⟩ := pts_at hIw hpi
                      obtain ⟨x2, x3⟩ := pts_at hIw hpj
                      obtain ⟨x4, x5⟩ := pts_at hIw hpl
                      have P0 := hide x0
                      have P1 := hide x1
                      have P2 := hide x2
                      have P3 := hide x3
                      have P4 := hide x4
                      have P5 := hide x5
                      obtain ⟨t3, ht3⟩ : ∃ t3, T3 i j l = t3 := ⟨_, rfl⟩
                      rw [ht3] at HC3 HD3
                      have HT3 := hide ht3
                      obtain ⟨X, Y, D, N⟩ := t3
                      unfold rgV at HC3 HD3
                      simp only at HC3 HD3
                      obtain ⟨ok, hok⟩ : ∃ ok, TO i j l = ok := ⟨_, rfl⟩
                      rw [hok] at HC3 HD3 hQ3
                      have HQ3' := hide hQ3
                      have h2w : Hid (cb wr w.heap.size 34 z8) := hide (((unhide JW).block _ hlw).trans (unhide R2X))
                      have KJ : Hid (Below w.heap.size w wr) := hide ((unhide KW).trans ((unhide JW).mono (Nat.le_of_lt hlw)))
                      have HHw := hide ((unhide HHX).below (unhide JW) hghX)
                      have hghw : gh < wr.heap.size := Nat.lt_of_lt_of_le hghX (unhide JW).size
                      have hnbw : nb < wr.heap.size := Nat.lt_of_lt_of_le hn2 (unhide JW).size
                      clear hBl hpi hpj hpl hIw hNw hpe hqe hre x0 x1 x2 x3 x4 x5 ht3 hok hQ3
                      go_wp2_with fail
                      refine Go.Code.wp_mono (Only.to (fun _ _ h => h)) (mr37 (X := X) (Y := Y) (D := D) (N := N) (ok := ok) N0 P0 P1 N1 P2 P3 N2 P4 P5 (hide h2) (hide hin) (hide h3) (hide hjn) (hide h4) (hide hln) (hide fun X _ => unhide HC3 X) (fun g10 Wy hBy v10 g10s => ?_))
                      have R10 := hide v10
                      have Y2 := hide ((unhide h2w).bel hBy)
                      have KY := hide (bc (unhide KJ) hBy)
                      have JY := hide ((unhide JW).trans (hBy.mono (unhide JW).size))
                      have HHy := hide ((unhide HHw).below hBy hghw)
                      have hghy : gh < Wy.heap.size := Nat.lt_of_lt_of_le hghw hBy.size
                      have lg : w.heap.size < g10 := Nat.lt_of_lt_of_le (unhide h2w).lt g10s
                      have lnb : nb < g10 := Nat.lt_of_lt_of_le hnbw g10s
                      have NY0 := hide (keep1 hBy (unhide N0))
                      have NY1 := hide (keep1 hBy (unhide N1))
                      have NY2 := hide (keep1 hBy (unhide N2))
                      clear v10 hBy g10s h2w KJ JW HHw N0 N1 N2 P0 P1 P2 P3 P4 P5 HC3
                      cases ok with
                      | false =>
                        have hq : Q3 i j l = false := unhide HQ3' rfl
                        have HNX : Hid ((B.drop (c + 1)).find? (Q3 i j) = (B.drop (d + 1)).find? (Q3 i j)) := hide (by
                          rw [unhide HFD, find_at (unhide HBl), hq]
                          rfl)
                        clear hq HD3
                        go_wp2_with fail
                        go_roundw
                        case rel =>
                          have H : ∃ d' : Nat, Value.int .i64 ((d : Int) + 1) = .int .i64 (d' : Int) ∧ c + 1 ≤ d' ∧ d' ≤ m ∧ (B.drop (c + 1)).find? (Q3 i j) = (B.drop d').find? (Q3 i j) ∧ Below V4.heap.size V4 Wy := ⟨d + 1, by simp, by omega, h4, unhide HNX, unhide JY⟩
                          first | exact H | ((repeat apply Exists.intro); refine ⟨?_, rfl⟩; exact H)
                        case measure => first | (simp only [intOf]; omega) | (simp [intOf]; omega)
                      | true =>
                        have c0' := (unhide R10).cell (m := 0) rfl
                        have c1' := (unhide R10).cell (m := 1) rfl
                        have c2' := (unhide R10).cell (m := 2) rfl
                        have c3' := (unhide R10).cell (m := 3) rfl
                        have c4' := (unhide R10).cell (m := 4) rfl
                        have c5' := (unhide R10).cell (m := 5) rfl
                        have c6' := (unhide R10).cell (m := 6) rfl
                        have c7' := (unhide R10).cell (m := 7) rfl
                        go_wp2_with fail
                        refine (unhide HD3 Wy gh ch (by trivial) hghy (unhide HHy)).mono ?_
                        rintro e Wz ⟨rfl, hBz⟩
                        have RZ := hide ((unhide R10).bel hBz)
                        have Z2 := hide ((unhide Y2).bel hBz)
                        have KZ := hide (bc (unhide KY) hBz)
                        have JZ := hide ((unhide JY).trans (hBz.mono (unhide JY).size))
                        have n0 := keep1 hBz (unhide NY0)
                        have n1 := keep1 hBz (unhide NY1)
                        have n2 := keep1 hBz (unhide NY2)
                        clear c0' c1' c2' c3' c4' c5' c6' c7' hBz R10 Y2 KY JY HHy NY0 NY1 NY2 HD3
                        cases hq : Q3 i j l with
                        | true =>
                          have HRES : Hid (ft Q3 B = some (i, j, l)) := hide (by
                            rw [unhide HFT, ft_at (unhide HBi), unhide HFP, fp_at (unhide HBj), unhide HFD, find_at (unhide HBl), hq]
                            rfl)
                          have hne1 : nb ≠ g10 := by omega
                          have hne2 : g10 ≠ nb := by omega
                          have fz := (unhide RZ).frozen
                          have lz := (unhide RZ).lt
                          have k0 := (unhide RZ).cell (m := 0) rfl
                          have k1 := (unhide RZ).cell (m := 1) rfl
                          have k2 := (unhide RZ).cell (m := 2) rfl
                          have k3 := (unhide RZ).cell (m := 3) rfl
                          clear hq
                          go_upto_region 43 with fail
                          have RT := hide (((((unhide RZ).set 0 (.int .i64 3)).set 1 (.int .i64 (i : Int))).set 2 (.int .i64 (j : Int))).set 3 (.int .i64 (l : Int)))
                          have R2T : Hid (cb ((((Wz.setCell ⟨g10, 0, none⟩ (.int .i64 3)).setCell ⟨g10, 1, none⟩ (.int .i64 (i : Int))).setCell ⟨g10, 2, none⟩ (.int .i64 (j : Int))).setCell ⟨g10, 3, none⟩ (.int .i64 (l : Int))) w.heap.size 34 z8) := hide (((((unhide Z2).ne (by omega)).ne (by omega)).ne (by omega)).ne (by omega))
                          have KT : Hid (Below w.heap.size w ((((Wz.setCell ⟨g10, 0, none⟩ (.int .i64 3)).setCell ⟨g10, 1, none⟩ (.int .i64 (i : Int))).setCell ⟨g10, 2, none⟩ (.int .i64 (j : Int))).setCell ⟨g10, 3, none⟩ (.int .i64 (l : Int)))) := hide (Below.setCell (Below.setCell (Below.setCell (Below.setCell (unhide KZ) (Nat.le_of_lt lg) _) (Nat.le_of_lt lg) _) (Nat.le_of_lt lg) _) (Nat.le_of_lt lg) _)
                          clear RZ Z2 KZ JZ n0 n1 n2 fz lz k0 k1 k2 k3
                          generalize (((Wz.setCell ⟨g10, 0, none⟩ (.int .i64 3)).setCell ⟨g10, 1, none⟩ (.int .i64 (i : Int))).setCell ⟨g10, 2, none⟩ (.int .i64 (j : Int))).setCell ⟨g10, 3, none⟩ (.int .i64 (l : Int)) = Wt at *
                          have c0' := (unhide RT).cell (m := 0) rfl
                          have c1' := (unhide RT).cell (m := 1) rfl
                          have c2' := (unhide RT).cell (m := 2) rfl
                          have c3' := (unhide RT).cell (m := 3) rfl
                          have c4' := (unhide RT).cell (m := 4) rfl
                          have c5' := (unhide RT).cell (m := 5) rfl
                          have c6' := (unhide RT).cell (m := 6) rfl
                          have c7' := (unhide RT).cell (m := 7) rfl
                          have o0 := (unhide R2T).cell (m := 0) rfl
                          have o1 := (unhide R2T).cell (m := 1) rfl
                          have o2 := (unhide R2T).cell (m := 2) rfl
                          have o3 := (unhide R2T).cell (m := 3) rfl
                          have o4 := (unhide R2T).cell (m := 4) rfl
                          have o5 := (unhide R2T).cell (m := 5) rfl
                          have o6 := (unhide R2T).cell (m := 6) rfl
                          have o7 := (unhide R2T).cell (m := 7) rfl
                          have f2 := (unhide R2T).frozen
                          go_wp2_with fail
                          have T := (((((((((unhide R2T).set 0 (.int .i64 3)).set 1 (.int .i64 (i : Int))).set 2 (.int .i64 (j : Int))).set 3 (.int .i64 (l : Int))).set 4 (.int .i64 X)).set 5 (.int .i64 Y)).set 6 (.int .i64 D)).set 7 (.int .i64 N))
                          have hBV : Below w.heap.size w ((((((((Wt.setCell ⟨w.heap.size, 0, none⟩ (.int .i64 3)).setCell ⟨w.heap.size, 1, none⟩ (.int .i64 (i : Int))).setCell ⟨w.heap.size, 2, none⟩ (.int .i64 (j : Int))).setCell ⟨w.heap.size, 3, none⟩ (.int .i64 (l : Int))).setCell ⟨w.heap.size, 4, none⟩ (.int .i64 X)).setCell ⟨w.heap.size, 5, none⟩ (.int .i64 Y)).setCell ⟨w.heap.size, 6, none⟩ (.int .i64 D)).setCell ⟨w.heap.size, 7, none⟩ (.int .i64 N)) := (Below.setCell (Below.setCell (Below.setCell (Below.setCell (Below.setCell (Below.setCell (Below.setCell (Below.setCell (unhide KT) (Nat.le_refl _) _) (Nat.le_refl _) _) (Nat.le_refl _) _) (Nat.le_refl _) _) (Nat.le_refl _) _) (Nat.le_refl _) _) (Nat.le_refl _) _) (Nat.le_refl _) _)
                          generalize ((((((((Wt.setCell ⟨w.heap.size, 0, none⟩ (.int .i64 3)).setCell ⟨w.heap.size, 1, none⟩ (.int .i64 (i : Int))).setCell ⟨w.heap.size, 2, none⟩ (.int .i64 (j : Int))).setCell ⟨w.heap.size, 3, none⟩ (.int .i64 (l : Int))).setCell ⟨w.heap.size, 4, none⟩ (.int .i64 X)).setCell ⟨w.heap.size, 5, none⟩ (.int .i64 Y)).setCell ⟨w.heap.size, 6, none⟩ (.int .i64 D)).setCell ⟨w.heap.size, 7, none⟩ (.int .i64 N)) = V9 at *
                          have s0 := T.cell (m := 0) rfl
                          have s1 := T.cell (m := 1) rfl
                          have s2 := T.cell (m := 2) rfl
                          have s3 := T.cell (m := 3) rfl
                          have s4 := T.cell (m := 4) rfl
                          have s5 := T.cell (m := 5) rfl
                          have s6 := T.cell (m := 6) rfl
                          have s7 := T.cell (m := 7) rfl
                          have ls := T.lt
                          refine bodyPost_ret (v := .tuple #[.agg #[.int .i64 3, .int .i64 (i : Int), .int .i64 (j : Int), .int .i64 (l : Int), .int .i64 X, .int .i64 Y, .int .i64 D, .int .i64 N], .int .i64 0]) (by simp [results, Try.results11, go_sem, s0, s1, s2, s3, s4, s5, s6, s7, ls]) rfl ⟨_, rfl, ⟨(fun i' j' he => by rw [unhide HBE, unhide HNO] at he; cases he), (fun _ i' j' l' he => by rw [unhide HBE, unhide HRES] at he; cases he; rw [unhide HT3]; rfl)⟩, hBV⟩
                        | false =>
                          have HNX : Hid ((B.drop (c + 1)).find? (Q3 i j) = (B.drop (d + 1)).find? (Q3 i j)) := hide (by
                            rw [unhide HFD, find_at (unhide HBl), hq]
                            rfl)
                          clear n0 n1 n2 hq
                          go_wp2_with fail
                          go_roundw
                          case rel =>
                            have H : ∃ d' : Nat, Value.int .i64 ((d : Int) + 1) = .int .i64 (d' : Int) ∧ c + 1 ≤ d' ∧ d' ≤ m ∧ (B.drop (c + 1)).find? (Q3 i j) = (B.drop d').find? (Q3 i j) ∧ Below V4.heap.size V4 Wz := ⟨d + 1, by simp, by omega, h4, unhide HNX, unhide JZ⟩
                            first | exact H | ((repeat apply Exists.intro); refine ⟨?_, rfl⟩; exact H)
                          case measure => first | (simp only [intOf]; omega) | (simp [intOf]; omega)
                    · have ed : d = m := by omega
                      have e1 : ¬ (d : Int) < (m : Int) := by omega
                      have ez : decide ((d : Int) < (m : Int)) = false := decide_eq_false e1
                      have HF0 : Hid (fp (Q3 i) (B.drop (a + 1)) = fp (Q3 i) (B.drop (c + 1))) := hide (by
                        rw [unhide HFP, fp_at (unhide HBj), unhide HFD]
                        have h9 : B.drop d = [] := List.drop_eq_nil_of_le (by rw [unhide HM]; omega)
                        rw [h9]
                        rfl)
                      clear ed
                      go_wp2_with fail
                      go_roundw
                      case rel =>
                        have H : ∃ c' : Nat, Value.int .i64 ((c : Int) + 1) = .int .i64 (c' : Int) ∧ a + 1 ≤ c' ∧ c' ≤ m ∧ fp (Q3 i) (B.drop (a + 1)) = fp (Q3 i) (B.drop c') ∧ Below V4.heap.size V4 wr := ⟨c + 1, by simp, by omega, lc, unhide HF0, unhide JW⟩
                        first | exact H | ((repeat apply Exists.intro); refine ⟨?_, rfl⟩; exact H)
                      case measure => first | (simp only [intOf]; omega) | (simp [intOf]; omega)
                · have ec : c = m := by omega
                  have c1 : ¬ (c : Int) < (m : Int) := by omega
                  have cz : decide ((c : Int) < (m : Int)) = false := decide_eq_false c1
                  have HF0 : Hid (ft Q3 B = ft Q3 (B.drop (a + 1))) := hide (by
                    rw [unhide HFT, ft_at (unhide HBi), unhide HFP]
                    have h9 : B.drop c = [] := List.drop_eq_nil_of_le (by rw [unhide HM]; omega)
                    rw [h9]
                    rfl)
                  clear ec
                  go_wp2_with fail
                  go_roundw
                  case rel =>
                    have H : ∃ a' : Nat, Value.int .i64 ((a : Int) + 1) = .int .i64 (a' : Int) ∧ a' ≤ m ∧ ft Q3 B = ft Q3 (B.drop a') ∧ Below V4.heap.size V4 wr := ⟨a + 1, by simp, la, unhide HF0, unhide UW⟩
                    first | exact H | ((repeat apply Exists.intro); refine ⟨?_, rfl⟩; exact H)
                  case measure => first | (simp only [intOf]; omega) | (simp [intOf]; omega)
            · exfalso
              have h9 : B.drop a = [] := List.drop_eq_nil_of_le (by rw [unhide HM]; omega)
              have h8 := unhide HFT
              rw [h9] at h8
              exact unhide HNN (unhide HNO) h8
end Go.Proofs.Ytdcecfgmfmpeeaa

namespace Go.Proofs.Ytdcecfgmfmpeeaa
open Go.ChangeShapes Go.WideShapes Go.ChangeAt Go.RowKit
set_option linter.unusedVariables false
set_option linter.unusedSimpArgs false

theorem fp_true {Q : Nat → Nat → Bool} : ∀ {L : List Nat} {i j : Nat}, fp Q L = some (i, j) → Q i j = true ∧ i ∈ L ∧ j ∈ L
  | a :: L, i, j, h => by
    unfold fp at h
    cases hf : L.find? (Q a) with
    | some b =>
      rw [hf] at h
      cases h
      exact ⟨List.find?_some hf, by simp, List.mem_cons_of_mem _ (List.mem_of_find?_eq_some hf)⟩
    | none =>
      rw [hf] at h
      obtain ⟨h1, h2, h3⟩ := fp_true h
      exact ⟨h1, List.mem_cons_of_mem _ h2, List.mem_cons_of_mem _ h3⟩
theorem fp_lt {Q : Nat → Nat → Bool} : ∀ {L : List Nat} {i j : Nat}, L.Pairwise (· < ·) → fp Q L = some (i, j) → i < j
  | a :: L, i, j, hs, h => by
    unfold fp at h
    obtain ⟨s1, s2⟩ := List.pairwise_cons.1 hs
    cases hf : L.find? (Q a) with
    | some b =>
      rw [hf] at h
      cases h
      exact s1 _ (List.mem_of_find?_eq_some hf)
    | none =>
      rw [hf] at h
      exact fp_lt s2 h
theorem ft_true {Q : Nat → Nat → Nat → Bool} : ∀ {L : List Nat} {i j l : Nat}, ft Q L = some (i, j, l) → Q i j l = true ∧ i ∈ L ∧ j ∈ L ∧ l ∈ L
  | a :: L, i, j, l, h => by
    unfold ft at h
    cases hf : fp (Q a) L with
    | some b =>
      rw [hf] at h
      cases h
      obtain ⟨h1, h2, h3⟩ := fp_true hf
      exact ⟨h1, by simp, List.mem_cons_of_mem _ h2, List.mem_cons_of_mem _ h3⟩
    | none =>
      rw [hf] at h
      obtain ⟨h1, h2, h3, h4⟩ := ft_true h
      exact ⟨h1, List.mem_cons_of_mem _ h2, List.mem_cons_of_mem _ h3, List.mem_cons_of_mem _ h4⟩
theorem ft_lt {Q : Nat → Nat → Nat → Bool} : ∀ {L : List Nat} {i j l : Nat}, L.Pairwise (· < ·) → ft Q L = some (i, j, l) → i < j ∧ j < l
  | a :: L, i, j, l, hs, h => by
    unfold ft at h
    obtain ⟨s1, s2⟩ := List.pairwise_cons.1 hs
    cases hf : fp (Q a) L with
    | some b =>
      rw [hf] at h
      cases h
      exact ⟨s1 _ (fp_true hf).2.1, fp_lt s2 hf⟩
    | none =>
      rw [hf] at h
      exact ft_lt s2 h
/-- two corners, two points -/
theorem hull_two {P : List Pt} (h : 2 ≤ (hullM (srtU P)).length) : ∃ a ∈ P, ∃ b ∈ P, a ≠ b := by
  obtain ⟨hs, hm⟩ := srtU_facts P
  match hU : srtU P, hs, hm with
  | [], _, _ => rw [hU] at h; simp [hullM, half] at h
  | [p], _, _ => rw [hU] at h; simp [hullM, half] at h
  | p :: q :: T, hs, hm =>
    refine ⟨p, (hm p).1 (by simp), q, (hm q).1 (by simp), fun e => ?_⟩
    have h1 := (List.pairwise_cons.1 hs).1 q (by simp)
    rw [e, ltp_irrefl] at h1
    cases h1
theorem thr2_nr {a p : Pt} (ha : Nr1 a) (hp : Nr1 p) : NrS ((thr [a, p]).X, (thr [a, p]).Y, (thr [a, p]).D) := by
  obtain ⟨a1, a2, a3, a4⟩ := ha
  obtain ⟨p1, p2, p3, p4⟩ := hp
  exact red_nr (by omega) (by omega) (by omega)
theorem rim_some {P : List Pt} (hne : P ≠ []) (h2 : 2 ≤ (hullM (srtU P)).length) : fp (qP2 P (smc 3 P [])) (rimL P (smc 3 P [])) ≠ none ∨ ft (qP3 P) (rimL P (smc 3 P [])) ≠ none := by
  obtain ⟨k, S, hI, hM, hS⟩ := ring_md hne
  exact some_told hI hM hS (hull_two h2)
theorem rim_not_one {P : List Pt} (hne : P ≠ []) (h2 : 2 ≤ (hullM (srtU P)).length) : (rimL P (smc 3 P [])).length ≠ 1 := by
  intro h1
  obtain ⟨a, ha⟩ := List.length_eq_one_iff.1 h1
  have h := rim_some hne h2
  rw [ha] at h
  rcases h with h | h <;> exact h rfl
theorem main_ring {P : List Pt} (hne : P ≠ []) (h2 : 2 ≤ (hullM (srtU P)).length) {v : Value} (h : Ans (numL P) (qM2 P) (qM3 P) (fun i j => thr [ptAt P i, ptAt P j]) (fun i j l => triC (ptAt P i) (ptAt P j) (ptAt P l)) v) : v = rgA P := by
  obtain ⟨k, S, hI, hM, hS⟩ := ring_md hne
  have h1 := rim_not_one hne h2
  have hs := rim_some hne h2
  have e2 := pairs_eq hI hM
  have e3 := triples_eq hI hM
  have so := rimL_sort P (smc 3 P [])
  have mem := fun i => @rimL_mem P (smc 3 P []) i
  unfold rgA tolL
  rw [if_neg h1]
  cases hf : fp (qP2 P (smc 3 P [])) (rimL P (smc 3 P [])) with
  | some q =>
    obtain ⟨i, j⟩ := q
    have hv := h.1 i j (by rw [← e2, hf])
    have hc : thr [ptAt P i, ptAt P j] = smc 3 P [] := of_decide_eq_true (fp_true hf).1
    rw [hv]
    simp only
    rw [hc]
    rfl
  | none =>
    cases hg : ft (qP3 P) (rimL P (smc 3 P [])) with
    | none => exact absurd hg (by rcases hs with h | h; exact absurd hf h; exact h)
    | some q =>
      obtain ⟨i, j, l⟩ := q
      have hv := h.2 (by rw [← e2, hf]) i j l (by rw [← e3, hg])
      obtain ⟨t1, t2, t3, t4⟩ := ft_true hg
      obtain ⟨l1, l2⟩ := ft_lt so hg
      obtain ⟨_, a1, a2⟩ := (mem i).1 t2
      obtain ⟨_, b1, b2⟩ := (mem j).1 t3
      obtain ⟨_, d1, d2⟩ := (mem l).1 t4
      have hq : qM3 P i j l = true := (ft_true (L := numL P) (by rw [← e3, hg])).1
      have hok : triOk (ptAt P i) (ptAt P j) (ptAt P l) = true := by
        unfold qM3 at hq
        exact (Bool.and_eq_true_iff.1 hq).1
      have hc : triC (ptAt P i) (ptAt P j) (ptAt P l) = smc 3 P [] := by
        have e : triC (ptAt P i) (ptAt P j) (ptAt P l) = tM (ptAt P i) (ptAt P j) (ptAt P l) := by unfold triC; rw [hok]; rfl
        rw [e]
        exact tri_c (P := P) (S := S) hI (fst_ne a2 b2 l1) (fst_ne a2 d2 (by omega)) (fst_ne b2 d2 l2) a1 b1 d1
      rw [hv]
      simp only
      rw [hc]
      rfl
/-- all points are one -/
theorem one_all {P : List Pt} {p : Pt} (hne : P ≠ []) (h1 : hullM (srtU P) = [p]) : ∀ q ∈ P, q = p := by
  obtain ⟨k, S, hI, hM, hS⟩ := ring_md hne
  have hp : p ∈ P := hull_in (by rw [h1]; simp)
  have same : ∀ a ∈ P, ∀ b ∈ P, a = b := fun a ha b hb => by
    by_cases e : a = b
    · exact e
    · exfalso
      have two : ∀ i ∈ rimL P (smc 3 P []), ∀ j ∈ rimL P (smc 3 P []), i < j → False := fun i hi j hj hij => by
        obtain ⟨a0, a1, a2⟩ := rimL_mem.1 hi
        obtain ⟨b0, b1, b2⟩ := rimL_mem.1 hj
        have ea := rim_hull hI hM (ptAt_mem a0) a1
        have eb := rim_hull hI hM (ptAt_mem b0) b1
        rw [h1] at ea eb
        exact fst_ne a2 b2 hij ((List.mem_singleton.1 ea).trans (List.mem_singleton.1 eb).symm)
      rcases some_told hI hM hS ⟨a, ha, b, hb, e⟩ with h | h
      · cases hf : fp (qP2 P (smc 3 P [])) (rimL P (smc 3 P [])) with
        | none => exact h hf
        | some q => exact two q.1 (fp_true hf).2.1 q.2 (fp_true hf).2.2 (fp_lt (rimL_sort P _) hf)
      · cases hf : ft (qP3 P) (rimL P (smc 3 P [])) with
        | none => exact h hf
        | some q => exact two q.1 (ft_true hf).2.1 q.2.1 (ft_true hf).2.2.1 (ft_lt (rimL_sort P _) hf).1
  exact fun q hq => same q hq p hp
theorem one_ring {P : List Pt} {p : Pt} (hne : P ≠ []) (h1 : hullM (srtU P) = [p]) : rgA P = rgV 1 0 0 0 (cir (redM p.1 p.2 1) p) := by
  have hall := one_all hne h1
  have hp : p ∈ P := hull_in (by rw [h1]; simp)
  obtain ⟨k, S, hI, hM, hS⟩ := ring_md hne
  obtain ⟨t1, t2⟩ := thr1 p
  have hz := t2.fea.rim p (by simp)
  have hM2 : Md P [] [p] ⟨p.1, p.2, 0⟩ := by
    refine ⟨⟨fun q hq => ?_, fun r hr => (nomatch hr)⟩, fun s hs => ?_, fun s hs => ?_, fun v w a hS' _ => ?_⟩
    · rw [hall q hq, hz]; exact Rat.le_refl
    · rw [List.mem_singleton.1 hs]; exact hp
    · rw [List.mem_singleton.1 hs]; exact hz
    · exact hS' p (by simp)
  have ek := hM2.uniq hM
  rw [ek] at hI
  have ec : smc 3 P [] = thr [p] := hI.uniq t1
  have er : redM p.1 p.2 1 = red p.1 p.2 1 := by unfold redM; rw [if_neg (by decide)]
  have hf0 : fi P p = 0 := by
    have f := fi_fst hp
    rcases Nat.eq_zero_or_pos (fi P p) with h | h
    · exact h
    · exfalso
      have hl : 0 < P.length := by cases P with | nil => exact absurd rfl hne | cons a T => simp
      have h0 : P[0]? = some (ptAt P 0) := ptAt_some hl
      exact f.no 0 h (by rw [h0, hall _ (ptAt_mem hl)])
  have hrim : rimL P (smc 3 P []) = [0] := by
    have hmem : ∀ i ∈ rimL P (smc 3 P []), i = 0 := fun i hi => by
      obtain ⟨a0, _, a2⟩ := rimL_mem.1 hi
      rw [hall _ (ptAt_mem a0), hf0] at a2
      exact a2.symm
    have hso := rimL_sort P (smc 3 P [])
    have hn := (smc_told hne).1
    generalize rimL P (smc 3 P []) = A at *
    match A, hmem, hso, hn with
    | [], _, _, hn => exact absurd rfl hn
    | [a], hmem, _, _ => rw [hmem a (by simp)]
    | a :: b :: T, hmem, hso, _ =>
      have h3 := (List.pairwise_cons.1 hso).1 b (by simp)
      have := hmem a (by simp)
      have := hmem b (by simp)
      omega
  unfold rgA tolL
  rw [hrim, if_pos (show [0].length = 1 from rfl), ec, er]
  rfl
theorem rgM_any (b cap : Nat) (P : List Pt) (w : World) (hn : P.length ≤ 1048576) (hb : b < w.heap.size) (hI : IntsAt w b 0 (flat2 P)) :
    Calls Try.prog 11 #[.slice (some ⟨b, 0, none⟩) P.length cap] w fun e w' => e = .returned (.tuple #[rgR P, .int .i64 (mcC P)]) ∧ Below w.heap.size w w' := by
  by_cases h4 : 4096 < P.length
  · have hm : mcC P = 2 := by unfold mcC; rw [if_pos h4]
    have hr : rgR P = .agg #[.int .i64 0, .int .i64 0, .int .i64 0, .int .i64 0, .int .i64 0, .int .i64 0, .int .i64 0, .int .i64 0] := by unfold rgR; rw [if_pos (by rw [hm]; decide)]
    rw [hm, hr]
    exact mrM_long b cap P.length w h4
  · by_cases hg : 1 ≤ P.length ∧ P.length ≤ 200 ∧ P.all nrP = true
    · have hm : mcC P = 0 := by unfold mcC; rw [if_neg h4, if_pos hg]
      have hr : rgR P = rgA P := by unfold rgR; rw [if_neg (fun h => h hm)]
      rw [hm, hr]
      have hne : P ≠ [] := fun e => by rw [e] at hg; simp at hg
      have hN := nrl_all hg.2.2
      have HNR : Hid (∀ X : World, Below w.heap.size w X → Calls Try.prog 27 #[.slice (some ⟨b, 0, none⟩) P.length cap] X fun e w' => e = .returned (.bool true) ∧ Same X w') := hide fun X hX => by
        have h := nrM_any b cap P.length P X (hide rfl) (by omega) (hide (hI.below hX hb))
        have e : (decide (1 ≤ P.length ∧ P.length ≤ 200) && P.all nrP) = true := by rw [decide_eq_true ⟨hg.1, hg.2.1⟩, hg.2.2]; rfl
        rw [e] at h
        exact h
      have HHU := fun (X : World) (hX : Below w.heap.size w X) => hullM_any b cap P X (by omega) hne (Nat.lt_of_lt_of_le hb hX.size) (fun p hp => nr_ptOk (hN p hp)) (hI.below hX hb)
      have hm1 : 1 ≤ (hullM (srtU P)).length := hull_some (srtU_ne hne)
      have hm400 : (hullM (srtU P)).length ≤ 400 := by
        have h1 := hullM_le (srtU P)
        have h2 := srtU_len P
        omega
      have hHP : ∀ q ∈ hullM (srtU P), q ∈ P := fun q h => hull_in h
      by_cases h1 : (hullM (srtU P)).length = 1
      · obtain ⟨p, hp⟩ := List.length_eq_one_iff.1 h1
        rw [one_ring hne hp]
        have np := hN p (hHP p (by rw [hp]; simp))
        have np' := np
        obtain ⟨a1, a2, a3, a4⟩ := np'
        rw [hp] at HHU
        obtain ⟨cc, hcc⟩ : ∃ cc, cir (redM p.1 p.2 1) p = cc := ⟨_, rfl⟩
        have HC := fun W => circM_any p.1 p.2 1 p W (by omega) (by omega) (by omega) np
        rw [hcc] at HC
        rw [hcc]
        obtain ⟨X, Y, D, N⟩ := cc
        exact mrM_one b cap P.length 0 0 p.1 p.2 X Y D N w (by omega) HNR (hide HHU) (hide HC)
      · have h2 : 2 ≤ (hullM (srtU P)).length := by omega
        have hHne : hullM (srtU P) ≠ [] := fun e => by rw [e] at hm1; simp at hm1
        have hs := rim_some hne h2
        obtain ⟨k, S, hIs, hM, hS⟩ := ring_md hne
        have e2 := pairs_eq hIs hM
        have e3 := triples_eq hIs hM
        have hrn := rim_num hIs hM
        have hmem : ∀ i ∈ numL P, i < P.length := fun i hi => (numL_mem.1 hi).1
        have nr : ∀ i ∈ numL P, Nr1 (ptAt P i) := fun i hi => hN.at (hmem i hi)
        have key := mrM_main b cap P.length (hullM (srtU P)).length P (hullM (srtU P)) (nl P (hullM (srtU P))) (fun i => fiO (hullM (srtU P)) (ptAt P i)) (qM2 P) (qM3 P) (fun i j l => triOk (ptAt P i) (ptAt P j) (ptAt P l)) (fun i j => thr [ptAt P i, ptAt P j]) (fun i j l => triC (ptAt P i) (ptAt P j) (ptAt P l)) w hg.2.1 (hide rfl) (hide rfl) h2 hm400 hb (hide hI) HNR (hide HHU)
          (hide fun i X hi hX => fstM_any b cap P.length P _ _ (fi P (ptAt P i)) X (hide rfl) (by omega) (Nat.lt_of_lt_of_le hb hX.size) (hide (hI.below hX hb)) (hide (fi_fst (ptAt_mem hi))))
          (hide fun i X hb hc hi hbX hIX => fstM_or hb hc _ (hullM (srtU P)) (ptAt P i) X rfl (by omega) hbX hIX)
          (hide fun i hi => fiO_lt hHne _) (hide rfl) (hide fun i => nl_len P _ i)
          (hide fun i hi => by
            rw [nl_succ, fiO_at hHne]
            by_cases hc : fi P (ptAt P i) = i ∧ ptAt P i ∈ hullM (srtU P)
            · rw [if_pos hc, if_pos ⟨hc.1, decide_eq_true hc.2⟩]
            · rw [if_neg hc, if_neg (fun q => hc ⟨q.1, of_decide_eq_true q.2⟩)])
          (hide hmem)
          (fun h0 => by
            have hnil : numL P = [] := List.eq_nil_of_length_eq_zero h0
            rw [hnil] at hrn
            have := (smc_told hne).1
            rw [hrn] at this
            exact this rfl)
          (hide fun i j X hi hj => pairM_any (ptAt P i) (ptAt P j) X (nr i hi) (nr j hj))
          (hide fun i j X hb hc hi hj hbX hIX => hasM_any hb hc _ (hullM (srtU P)) 0 0 0 0 (thr [ptAt P i, ptAt P j]) X rfl (by omega) hbX hIX (thr2_nr (nr i hi) (nr j hj)) (fun q hq => hN q (hHP q hq)))
          (hide fun i j l X hi hj hl => triM_any (ptAt P i) (ptAt P j) (ptAt P l) X (nr i hi) (nr j hj) (nr l hl))
          (hide fun i j l X hb hc hok hi hj hl hbX hIX => by
            have et : triC (ptAt P i) (ptAt P j) (ptAt P l) = tM (ptAt P i) (ptAt P j) (ptAt P l) := by unfold triC; rw [hok]; rfl
            have hside : side (ptAt P i) (ptAt P j) (ptAt P l) ≠ 0 := (of_decide_eq_true hok).1
            have h := hasM_any hb hc _ (hullM (srtU P)) 0 0 0 0 (triC (ptAt P i) (ptAt P j) (ptAt P l)) X rfl (by omega) hbX hIX (by rw [et]; exact tM_nr (nr i hi) (nr j hj) (nr l hl) hside) (fun q hq => hN q (hHP q hq))
            have e : qM3 P i j l = hasB (hullM (srtU P)) (triC (ptAt P i) (ptAt P j) (ptAt P l)) := by unfold qM3; rw [hok]; rfl
            rw [e]
            exact h)
          (hide fun i j l hok => by unfold qM3; rw [hok]; rfl)
          (hide fun hf => by
            rw [nl_all] at hf ⊢
            rw [← e2] at hf
            rw [← e3]
            exact hs.resolve_left (fun h => h hf))
        refine key.mono ?_
        rintro e w' ⟨v, rfl, hv, hB⟩
        rw [nl_all] at hv
        rw [main_ring hne h2 hv]
        exact ⟨rfl, hB⟩
    · have hm : mcC P = 1 := by unfold mcC; rw [if_neg h4, if_neg hg]
      have hr : rgR P = .agg #[.int .i64 0, .int .i64 0, .int .i64 0, .int .i64 0, .int .i64 0, .int .i64 0, .int .i64 0, .int .i64 0] := by unfold rgR; rw [if_pos (by rw [hm]; decide)]
      rw [hm, hr]
      refine mrM_far b cap P.length w (by omega) (hide fun X hX => ?_)
      have h := nrM_any b cap P.length P X (hide rfl) (by omega) (hide (hI.below hX hb))
      have e : (decide (1 ≤ P.length ∧ P.length ≤ 200) && P.all nrP) = false := by
        cases hq : (decide (1 ≤ P.length ∧ P.length ≤ 200) && P.all nrP) with
        | false => rfl
        | true =>
          obtain ⟨q1, q2⟩ := Bool.and_eq_true_iff.1 hq
          exact absurd ⟨(of_decide_eq_true q1).1, (of_decide_eq_true q1).2, q2⟩ hg
      rw [e] at h
      exact h
theorem rgR_form (P : List Pt) : ∃ a0 a1 a2 a3 a4 a5 a6 a7 : Int, rgR P = .agg #[.int .i64 a0, .int .i64 a1, .int .i64 a2, .int .i64 a3, .int .i64 a4, .int .i64 a5, .int .i64 a6, .int .i64 a7] := by
  unfold rgR
  split
  · exact ⟨_, _, _, _, _, _, _, _, rfl⟩
  · exact ⟨_, _, _, _, _, _, _, _, rfl⟩
end Go.Proofs.Ytdcecfgmfmpeeaa
