/-
  Statements of the model's RingOf that draw their order, each walked alone. A statement of notObtuse that draws its order, walked alone. Statements of obtuse that draw their order, each walked alone. Statements of centreOf that draw their order, each walked alone. centreOf at three near points that are not on one line. Statements of circleThrough and smallestCircle that draw their order, each walked alone. The smallest circle: what makes it the smallest, that there is but one, and how it grows by a point. Plain rationals. Circles in whole numbers: a centre as a spot, and the square of the radius in its parts.
-/
import Derived.Test.YtdcecfgmfmpeeaaZal
import Derived.Test.YtdcecfgmfmpeeaaInv2
import Derived.Test.YtdcecfgmfmpeeaaZoMath
import Derived.Test.YtdcecfgmfmpeeaaSpot
namespace Go.Proofs.Ytdcecfgmfmpeeaa
open Go.ChangeShapes Go.WideShapes Go.ChangeAt Go.RowKit
set_option linter.unusedVariables false
set_option linter.unusedSimpArgs false

noncomputable def rg11 (id : Nat) : Go.Code := match Try.f11.body with | some c => (regOfZ id c).getD .skip | none => .skip
set_option maxHeartbeats 4000000 in
set_option maxRecDepth 100000 in
theorem mr7 {s0 s1 s2 s3 s5 s6 s7 s8 s9 s10 s11 s12 s13 s14 s15 s16 s17 s18 s19 s20 s21 s22 s23 s24 s25 s26 s27 s28 s29 s30 s31 s32 s33 s34 s35 s36 s37 s38 s39 s40 s41 s42 s43 s44 s45 s46 s47 s48 s49 s50 s51 s52 s53 s54 s55 s56 s57 s58 s59 s60 s61 s62 s63 s64 s65 s66 s67 s68 s69 s70 s71 s72 s73 s74 s75 s76 s77 s78 s79 s80 s81 s82 s83 s84 s85 s86 s87 s88 s89 s90 s91 s92 s93 s94 s95 s96 s97 s98 s99 s100 s101 s102 s103 s104 s105 s106 s107 s108 s109 s110 s111 s112 s113 s114 s115 s116 s117 s118 s119 s120 s121 s122 s123 s124 s125 s126 s127 s128 s129 s130 s131 s132 s133 s134 s135 s136 s137 s138 s139 s140 s141 s142 s143 s144 s145 s146 s147 s148 s149 s150 s151 s152 s153 s154 s155 s156 s157 s158 s159 s160 s161 s162 s163 s164 s165 s166 s167 s168 s169 s170 s171 s172 s173 s174 s175 s176 s177 s178 s179 s180 s181 s182 s183 s184 s185 s186 s187 s188 s189 s190 s191 s192 s193 s194 s195 s196 s197 s198 s199 s200 s201 : Value} {hb hc : Nat} {x y X Y D N : Int} {V : World} {K_ : Act → World → Prop} 
    (HA0 : Hid (V.cell? ⟨hb, 0, none⟩ = some (.int .i64 (x)))) (HA1 : Hid (V.cell? ⟨hb, 1, none⟩ = some (.int .i64 (y)))) 
    (HF11 : Hid (∀ Xw, Below V.heap.size V Xw → Calls Try.prog 42 #[.int .i64 (x), .int .i64 (y), .int .i64 (1), .agg #[.int .i64 (x), .int .i64 (y)]] Xw fun e w' => e = .returned (.agg #[.int .i64 (0), .int .i64 (0), .int .i64 (0), .int .i64 (0), .int .i64 (X), .int .i64 (Y), .int .i64 (D), .int .i64 (N)]) ∧ Below Xw.heap.size Xw w'))
    (hQ : ∀ (n12 : Nat) (W1 : World), Below V.heap.size V W1 → cb W1 n12 34 [.int .i64 (0), .int .i64 (0), .int .i64 (0), .int .i64 (0), .int .i64 (X), .int .i64 (Y), .int .i64 (D), .int .i64 (N)] → V.heap.size ≤ n12 → K_ { tmps := #[s0, s1, s2, s3, .slice (some ⟨hb, 0, none⟩) 1 hc, .pointer (some ⟨n12, 0, none⟩), s6, s7, s8, s9, s10, s11, s12, s13, s14, s15, s16, s17, s18, s19, s20, s21, s22, s23, s24, s25, s26, s27, s28, .slice (some ⟨hb, 0, none⟩) 1 hc, .pointer (some ⟨hb, 0, none⟩), .pointer (some ⟨hb, 0, none⟩), .int .i64 (x), .slice (some ⟨hb, 0, none⟩) 1 hc, .pointer (some ⟨hb, 0, none⟩), .pointer (some ⟨hb, 1, none⟩), .int .i64 (y), .slice (some ⟨hb, 0, none⟩) 1 hc, .pointer (some ⟨hb, 0, none⟩), .agg #[.int .i64 (x), .int .i64 (y)], .agg #[.int .i64 (0), .int .i64 (0), .int .i64 (0), .int .i64 (0), .int .i64 (X), .int .i64 (Y), .int .i64 (D), .int .i64 (N)], s41, s42, s43, s44, s45, s46, s47, s48, s49, s50, s51, s52, s53, s54, s55, s56, s57, s58, s59, s60, s61, s62, s63, s64, s65, s66, s67, s68, s69, s70, s71, s72, s73, s74, s75, s76, s77, s78, s79, s80, s81, s82, s83, s84, s85, s86, s87, s88, s89, s90, s91, s92, s93, s94, s95, s96, s97, s98, s99, s100, s101, s102, s103, s104, s105, s106, s107, s108, s109, s110, s111, s112, s113, s114, s115, s116, s117, s118, s119, s120, s121, s122, s123, s124, s125, s126, s127, s128, s129, s130, s131, s132, s133, s134, s135, s136, s137, s138, s139, s140, s141, s142, s143, s144, s145, s146, s147, s148, s149, s150, s151, s152, s153, s154, s155, s156, s157, s158, s159, s160, s161, s162, s163, s164, s165, s166, s167, s168, s169, s170, s171, s172, s173, s174, s175, s176, s177, s178, s179, s180, s181, s182, s183, s184, s185, s186, s187, s188, s189, s190, s191, s192, s193, s194, s195, s196, s197, s198, s199, s200, s201], defers := [] } W1) :
    Go.Code.wp Try.prog (rg11 7) (Only K_) { tmps := #[s0, s1, s2, s3, .slice (some ⟨hb, 0, none⟩) 1 hc, s5, s6, s7, s8, s9, s10, s11, s12, s13, s14, s15, s16, s17, s18, s19, s20, s21, s22, s23, s24, s25, s26, s27, s28, s29, s30, s31, s32, s33, s34, s35, s36, s37, s38, s39, s40, s41, s42, s43, s44, s45, s46, s47, s48, s49, s50, s51, s52, s53, s54, s55, s56, s57, s58, s59, s60, s61, s62, s63, s64, s65, s66, s67, s68, s69, s70, s71, s72, s73, s74, s75, s76, s77, s78, s79, s80, s81, s82, s83, s84, s85, s86, s87, s88, s89, s90, s91, s92, s93, s94, s95, s96, s97, s98, s99, s100, s101, s102, s103, s104, s105, s106, s107, s108, s109, s110, s111, s112, s113, s114, s115, s116, s117, s118, s119, s120, s121, s122, s123, s124, s125, s126, s127, s128, s129, s130, s131, s132, s133, s134, s135, s136, s137, s138, s139, s140, s141, s142, s143, s144, s145, s146, s147, s148, s149, s150, s151, s152, s153, s154, s155, s156, s157, s158, s159, s160, s161, s162, s163, s164, s165, s166, s167, s168, s169, s170, s171, s172, s173, s174, s175, s176, s177, s178, s179, s180, s181, s182, s183, s184, s185, s186, s187, s188, s189, s190, s191, s192, s193, s194, s195, s196, s197, s198, s199, s200, s201], defers := [] } V := by
  have HQ := hide hQ
  clear hQ
  conv => arg 2; whnf
  refine wp_region_inv2 (fun Lb A W => ∃ (u0 u1 u2 u3 u4 u5 u6 u7 u8 u9 u10 u11 u12 u13 : Bool) (n12 : Nat), Lb = #[u0, u1, u2, u3, u4, u5, u6, u7, u8, u9, u10, u11, u12, u13] ∧ A = ({ tmps := #[s0, s1, s2, s3, .slice (some ⟨hb, 0, none⟩) 1 hc, (bif u12 then .pointer (some ⟨n12, 0, none⟩) else s5), s6, s7, s8, s9, s10, s11, s12, s13, s14, s15, s16, s17, s18, s19, s20, s21, s22, s23, s24, s25, s26, s27, s28, (bif u0 then .slice (some ⟨hb, 0, none⟩) 1 hc else s29), (bif u1 then .pointer (some ⟨hb, 0, none⟩) else s30), (bif u2 then .pointer (some ⟨hb, 0, none⟩) else s31), (bif u3 then .int .i64 (x) else s32), (bif u4 then .slice (some ⟨hb, 0, none⟩) 1 hc else s33), (bif u5 then .pointer (some ⟨hb, 0, none⟩) else s34), (bif u6 then .pointer (some ⟨hb, 1, none⟩) else s35), (bif u7 then .int .i64 (y) else s36), (bif u8 then .slice (some ⟨hb, 0, none⟩) 1 hc else s37), (bif u9 then .pointer (some ⟨hb, 0, none⟩) else s38), (bif u10 then .agg #[.int .i64 (x), .int .i64 (y)] else s39), (bif u11 then .agg #[.int .i64 (0), .int .i64 (0), .int .i64 (0), .int .i64 (0), .int .i64 (X), .int .i64 (Y), .int .i64 (D), .int .i64 (N)] else s40), s41, s42, s43, s44, s45, s46, s47, s48, s49, s50, s51, s52, s53, s54, s55, s56, s57, s58, s59, s60, s61, s62, s63, s64, s65, s66, s67, s68, s69, s70, s71, s72, s73, s74, s75, s76, s77, s78, s79, s80, s81, s82, s83, s84, s85, s86, s87, s88, s89, s90, s91, s92, s93, s94, s95, s96, s97, s98, s99, s100, s101, s102, s103, s104, s105, s106, s107, s108, s109, s110, s111, s112, s113, s114, s115, s116, s117, s118, s119, s120, s121, s122, s123, s124, s125, s126, s127, s128, s129, s130, s131, s132, s133, s134, s135, s136, s137, s138, s139, s140, s141, s142, s143, s144, s145, s146, s147, s148, s149, s150, s151, s152, s153, s154, s155, s156, s157, s158, s159, s160, s161, s162, s163, s164, s165, s166, s167, s168, s169, s170, s171, s172, s173, s174, s175, s176, s177, s178, s179, s180, s181, s182, s183, s184, s185, s186, s187, s188, s189, s190, s191, s192, s193, s194, s195, s196, s197, s198, s199, s200, s201], defers := [] } : Act) ∧ Below V.heap.size V W ∧ (u12 = true → cb W n12 34 (bif u13 then [.int .i64 (0), .int .i64 (0), .int .i64 (0), .int .i64 (0), .int .i64 (X), .int .i64 (Y), .int .i64 (D), .int .i64 (N)] else [.int .i64 (0), .int .i64 (0), .int .i64 (0), .int .i64 (0), .int .i64 (0), .int .i64 (0), .int .i64 (0), .int .i64 (0)]) ∧ V.heap.size ≤ n12) ∧ (u1 = true → u0 = true) ∧ (u2 = true → u1 = true) ∧ (u3 = true → u2 = true) ∧ (u5 = true → u4 = true) ∧ (u6 = true → u5 = true) ∧ (u7 = true → u6 = true) ∧ (u9 = true → u8 = true) ∧ (u10 = true → u9 = true) ∧ (u11 = true → u3 = true ∧ u7 = true ∧ u10 = true) ∧ (u13 = true → u0 = true ∧ u1 = true ∧ u2 = true ∧ u3 = true ∧ u4 = true ∧ u5 = true ∧ u6 = true ∧ u7 = true ∧ u8 = true ∧ u9 = true ∧ u10 = true ∧ u11 = true ∧ u12 = true)) (by kernel_rfl) (by kernel_rfl) ?h0 ?hstep ?hend
  case h0 =>
    exact ⟨false, false, false, false, false, false, false, false, false, false, false, false, false, false, 0, rfl, rfl, Below.drew (Below.refl _ _), (fun h => nomatch h), (fun h => nomatch h), (fun h => nomatch h), (fun h => nomatch h), (fun h => nomatch h), (fun h => nomatch h), (fun h => nomatch h), (fun h => nomatch h), (fun h => nomatch h), (fun h => nomatch h), (fun h => nomatch h)⟩
  case hstep =>
    intro Lb A W hI
    obtain ⟨u0, hI⟩ := hI
    obtain ⟨u1, hI⟩ := hI
    obtain ⟨u2, hI⟩ := hI
    obtain ⟨u3, hI⟩ := hI
    obtain ⟨u4, hI⟩ := hI
    obtain ⟨u5, hI⟩ := hI
    obtain ⟨u6, hI⟩ := hI
    obtain ⟨u7, hI⟩ := hI
    obtain ⟨u8, hI⟩ := hI
    obtain ⟨u9, hI⟩ := hI
    obtain ⟨u10, hI⟩ := hI
    obtain ⟨u11, hI⟩ := hI
    obtain ⟨u12, hI⟩ := hI
    obtain ⟨u13, hI⟩ := hI
    obtain ⟨n12, hI⟩ := hI
    obtain ⟨hLb, hI⟩ := hI
    obtain ⟨hA, hI⟩ := hI
    obtain ⟨kB, hI⟩ := hI
    obtain ⟨k12, hI⟩ := hI
    obtain ⟨c1, hI⟩ := hI
    obtain ⟨c2, hI⟩ := hI
    obtain ⟨c3, hI⟩ := hI
    obtain ⟨c5, hI⟩ := hI
    obtain ⟨c6, hI⟩ := hI
    obtain ⟨c7, hI⟩ := hI
    obtain ⟨c9, hI⟩ := hI
    obtain ⟨c10, hI⟩ := hI
    obtain ⟨c11, hI⟩ := hI
    have kF := hI
    clear hI
    subst hLb
    subst hA
    have H_kB := hide kB
    have H_k12 := hide k12
    have H_c1 := hide c1
    have H_c2 := hide c2
    have H_c3 := hide c3
    have H_c5 := hide c5
    have H_c6 := hide c6
    have H_c7 := hide c7
    have H_c9 := hide c9
    have H_c10 := hide c10
    have H_c11 := hide c11
    have H_kF := hide kF
    clear kB k12 c1 c2 c3 c5 c6 c7 c9 c10 c11 kF
    refine ⟨?_, ?_, ?_, ?_, ?_, ?_, ?_, ?_, ?_, ?_, ?_, ?_, ?_, ?_, trivial⟩
    · intro h0 hd K hK
      have z : u0 = false := h0
      have z13_ : u13 = false := by
        cases hu : u13 with
        | false => rfl
        | true => exact nomatch z.symm.trans ((unhide H_kF hu).1)
      subst z13_
      subst z
      clear h0 hd
      rw [if_pos (by rfl)]
      go_simp
      exact unhide hK _ _ ⟨true, u1, u2, u3, u4, u5, u6, u7, u8, u9, u10, u11, u12, false, n12, rfl, rfl, unhide H_kB, unhide H_k12, (fun h => rfl), unhide H_c2, unhide H_c3, unhide H_c5, unhide H_c6, unhide H_c7, unhide H_c9, unhide H_c10, unhide H_c11, (fun h => nomatch h)⟩
    · intro h0 hd K hK
      have z : u1 = false := h0
      have z13_ : u13 = false := by
        cases hu : u13 with
        | false => rfl
        | true => exact nomatch z.symm.trans ((unhide H_kF hu).2.1)
      have zd : u0 = true := by
        simp [Region.binds] at hd
        simp [hd]
      obtain ⟨rfl⟩ := zd
      subst z13_
      subst z
      clear h0 hd
      rw [if_pos (by rfl)]
      go_simp
      exact unhide hK _ _ ⟨true, true, u2, u3, u4, u5, u6, u7, u8, u9, u10, u11, u12, false, n12, rfl, rfl, unhide H_kB, unhide H_k12, (fun _ => rfl), (fun h => rfl), unhide H_c3, unhide H_c5, unhide H_c6, unhide H_c7, unhide H_c9, unhide H_c10, unhide H_c11, (fun h => nomatch h)⟩
    · intro h0 hd K hK
      have z : u2 = false := h0
      have z13_ : u13 = false := by
        cases hu : u13 with
        | false => rfl
        | true => exact nomatch z.symm.trans ((unhide H_kF hu).2.2.1)
      have zd : u1 = true := by
        simp [Region.binds] at hd
        simp [hd]
      obtain ⟨rfl⟩ := zd
      subst z13_
      subst z
      clear h0 hd
      rw [if_pos (by rfl)]
      go_simp
      exact unhide hK _ _ ⟨u0, true, true, u3, u4, u5, u6, u7, u8, u9, u10, u11, u12, false, n12, rfl, rfl, unhide H_kB, unhide H_k12, unhide H_c1, (fun _ => rfl), (fun h => rfl), unhide H_c5, unhide H_c6, unhide H_c7, unhide H_c9, unhide H_c10, unhide H_c11, (fun h => nomatch h)⟩
    · intro h0 hd K hK
      have z : u3 = false := h0
      have z13_ : u13 = false := by
        cases hu : u13 with
        | false => rfl
        | true => exact nomatch z.symm.trans ((unhide H_kF hu).2.2.2.1)
      have zd : u2 = true := by
        simp [Region.binds] at hd
        simp [hd]
      obtain ⟨rfl⟩ := zd
      subst z13_
      subst z
      clear h0 hd
      rw [if_pos (by rfl)]
      have c0 := keep1 (unhide H_kB) (unhide HA0)
      go_simp
      exact unhide hK _ _ ⟨u0, u1, true, true, u4, u5, u6, u7, u8, u9, u10, u11, u12, false, n12, rfl, rfl, unhide H_kB, unhide H_k12, unhide H_c1, unhide H_c2, (fun _ => rfl), unhide H_c5, unhide H_c6, unhide H_c7, unhide H_c9, unhide H_c10, (fun h => ⟨rfl, (unhide H_c11 h).2.1, (unhide H_c11 h).2.2⟩), (fun h => nomatch h)⟩
    · intro h0 hd K hK
      have z : u4 = false := h0
      have z13_ : u13 = false := by
        cases hu : u13 with
        | false => rfl
        | true => exact nomatch z.symm.trans ((unhide H_kF hu).2.2.2.2.1)
      subst z13_
      subst z
      clear h0 hd
      rw [if_pos (by rfl)]
      go_simp
      exact unhide hK _ _ ⟨u0, u1, u2, u3, true, u5, u6, u7, u8, u9, u10, u11, u12, false, n12, rfl, rfl, unhide H_kB, unhide H_k12, unhide H_c1, unhide H_c2, unhide H_c3, (fun h => rfl), unhide H_c6, unhide H_c7, unhide H_c9, unhide H_c10, unhide H_c11, (fun h => nomatch h)⟩
    · intro h0 hd K hK
      have z : u5 = false := h0
      have z13_ : u13 = false := by
        cases hu : u13 with
        | false => rfl
        | true => exact nomatch z.symm.trans ((unhide H_kF hu).2.2.2.2.2.1)
      have zd : u4 = true := by
        simp [Region.binds] at hd
        simp [hd]
      obtain ⟨rfl⟩ := zd
      subst z13_
      subst z
      clear h0 hd
      rw [if_pos (by rfl)]
      go_simp
      exact unhide hK _ _ ⟨u0, u1, u2, u3, true, true, u6, u7, u8, u9, u10, u11, u12, false, n12, rfl, rfl, unhide H_kB, unhide H_k12, unhide H_c1, unhide H_c2, unhide H_c3, (fun _ => rfl), (fun h => rfl), unhide H_c7, unhide H_c9, unhide H_c10, unhide H_c11, (fun h => nomatch h)⟩
    · intro h0 hd K hK
      have z : u6 = false := h0
      have z13_ : u13 = false := by
        cases hu : u13 with
        | false => rfl
        | true => exact nomatch z.symm.trans ((unhide H_kF hu).2.2.2.2.2.2.1)
      have zd : u5 = true := by
        simp [Region.binds] at hd
        simp [hd]
      obtain ⟨rfl⟩ := zd
      subst z13_
      subst z
      clear h0 hd
      rw [if_pos (by rfl)]
      go_simp
      exact unhide hK _ _ ⟨u0, u1, u2, u3, u4, true, true, u7, u8, u9, u10, u11, u12, false, n12, rfl, rfl, unhide H_kB, unhide H_k12, unhide H_c1, unhide H_c2, unhide H_c3, unhide H_c5, (fun _ => rfl), (fun h => rfl), unhide H_c9, unhide H_c10, unhide H_c11, (fun h => nomatch h)⟩
    · intro h0 hd K hK
      have z : u7 = false := h0
      have z13_ : u13 = false := by
        cases hu : u13 with
        | false => rfl
        | true => exact nomatch z.symm.trans ((unhide H_kF hu).2.2.2.2.2.2.2.1)
      have zd : u6 = true := by
        simp [Region.binds] at hd
        simp [hd]
      obtain ⟨rfl⟩ := zd
      subst z13_
      subst z
      clear h0 hd
      rw [if_pos (by rfl)]
      have c0 := keep1 (unhide H_kB) (unhide HA1)
      go_simp
      exact unhide hK _ _ ⟨u0, u1, u2, u3, u4, u5, true, true, u8, u9, u10, u11, u12, false, n12, rfl, rfl, unhide H_kB, unhide H_k12, unhide H_c1, unhide H_c2, unhide H_c3, unhide H_c5, unhide H_c6, (fun _ => rfl), unhide H_c9, unhide H_c10, (fun h => ⟨(unhide H_c11 h).1, rfl, (unhide H_c11 h).2.2⟩), (fun h => nomatch h)⟩
    · intro h0 hd K hK
      have z : u8 = false := h0
      have z13_ : u13 = false := by
        cases hu : u13 with
        | false => rfl
        | true => exact nomatch z.symm.trans ((unhide H_kF hu).2.2.2.2.2.2.2.2.1)
      subst z13_
      subst z
      clear h0 hd
      rw [if_pos (by rfl)]
      go_simp
      exact unhide hK _ _ ⟨u0, u1, u2, u3, u4, u5, u6, u7, true, u9, u10, u11, u12, false, n12, rfl, rfl, unhide H_kB, unhide H_k12, unhide H_c1, unhide H_c2, unhide H_c3, unhide H_c5, unhide H_c6, unhide H_c7, (fun h => rfl), unhide H_c10, unhide H_c11, (fun h => nomatch h)⟩
    · intro h0 hd K hK
      have z : u9 = false := h0
      have z13_ : u13 = false := by
        cases hu : u13 with
        | false => rfl
        | true => exact nomatch z.symm.trans ((unhide H_kF hu).2.2.2.2.2.2.2.2.2.1)
      have zd : u8 = true := by
        simp [Region.binds] at hd
        simp [hd]
      obtain ⟨rfl⟩ := zd
      subst z13_
      subst z
      clear h0 hd
      rw [if_pos (by rfl)]
      go_simp
      exact unhide hK _ _ ⟨u0, u1, u2, u3, u4, u5, u6, u7, true, true, u10, u11, u12, false, n12, rfl, rfl, unhide H_kB, unhide H_k12, unhide H_c1, unhide H_c2, unhide H_c3, unhide H_c5, unhide H_c6, unhide H_c7, (fun _ => rfl), (fun h => rfl), unhide H_c11, (fun h => nomatch h)⟩
    · intro h0 hd K hK
      have z : u10 = false := h0
      have z13_ : u13 = false := by
        cases hu : u13 with
        | false => rfl
        | true => exact nomatch z.symm.trans ((unhide H_kF hu).2.2.2.2.2.2.2.2.2.2.1)
      have zd : u9 = true := by
        simp [Region.binds] at hd
        simp [hd]
      obtain ⟨rfl⟩ := zd
      subst z13_
      subst z
      clear h0 hd
      rw [if_pos (by rfl)]
      have c0 := keep1 (unhide H_kB) (unhide HA0)
      have c1 := keep1 (unhide H_kB) (unhide HA1)
      go_simp
      exact unhide hK _ _ ⟨u0, u1, u2, u3, u4, u5, u6, u7, u8, true, true, u11, u12, false, n12, rfl, rfl, unhide H_kB, unhide H_k12, unhide H_c1, unhide H_c2, unhide H_c3, unhide H_c5, unhide H_c6, unhide H_c7, unhide H_c9, (fun _ => rfl), (fun h => ⟨(unhide H_c11 h).1, (unhide H_c11 h).2.1, rfl⟩), (fun h => nomatch h)⟩
    · intro h0 hd K hK
      have z : u11 = false := h0
      have z13_ : u13 = false := by
        cases hu : u13 with
        | false => rfl
        | true => exact nomatch z.symm.trans ((unhide H_kF hu).2.2.2.2.2.2.2.2.2.2.2.1)
      have zd : u3 = true ∧ u7 = true ∧ u10 = true := by
        simp [Region.binds] at hd
        simp [hd]
      obtain ⟨rfl, rfl, rfl⟩ := zd
      subst z13_
      subst z
      clear h0 hd
      rw [if_pos (by rfl)]
      go_simp
      refine (unhide HF11 W (unhide H_kB)).mono ?_
      rintro e w8 ⟨rfl, hb8⟩
      exact unhide hK _ _ ⟨u0, u1, u2, true, u4, u5, u6, true, u8, u9, true, true, u12, false, n12, rfl, rfl, bc (unhide H_kB) hb8, (fun h => ⟨(unhide H_k12 h).1.bel hb8, (unhide H_k12 h).2⟩), unhide H_c1, unhide H_c2, unhide H_c3, unhide H_c5, unhide H_c6, unhide H_c7, unhide H_c9, unhide H_c10, (fun _ => ⟨rfl, rfl, rfl⟩), (fun h => nomatch h)⟩
    · intro h0 hd K hK
      have z : u12 = false := h0
      have z13_ : u13 = false := by
        cases hu : u13 with
        | false => rfl
        | true => exact nomatch z.symm.trans ((unhide H_kF hu).2.2.2.2.2.2.2.2.2.2.2.2)
      subst z13_
      subst z
      clear h0 hd
      rw [if_pos (by rfl)]
      go_simp
      exact unhide hK _ _ ⟨u0, u1, u2, u3, u4, u5, u6, u7, u8, u9, u10, u11, true, false, W.heap.size, rfl, rfl, ba (unhide H_kB) _, (fun _ => ⟨cb_new W 34 _ _ rfl, (unhide H_kB).size⟩), unhide H_c1, unhide H_c2, unhide H_c3, unhide H_c5, unhide H_c6, unhide H_c7, unhide H_c9, unhide H_c10, unhide H_c11, (fun h => nomatch h)⟩
    · intro h0 hd K hK
      have z : u13 = false := h0
      have zd0 : u12 = true ∧ u11 = true := by
        simp [Region.binds] at hd
        simp [hd]
      have zd : u12 = true ∧ u11 = true ∧ u0 = true ∧ u1 = true ∧ u2 = true ∧ u3 = true ∧ u4 = true ∧ u5 = true ∧ u6 = true ∧ u7 = true ∧ u8 = true ∧ u9 = true ∧ u10 = true := ⟨zd0.1, zd0.2, (unhide H_c1 (unhide H_c2 (unhide H_c3 (unhide H_c11 zd0.2).1))), (unhide H_c2 (unhide H_c3 (unhide H_c11 zd0.2).1)), (unhide H_c3 (unhide H_c11 zd0.2).1), (unhide H_c11 zd0.2).1, (unhide H_c5 (unhide H_c6 (unhide H_c7 (unhide H_c11 zd0.2).2.1))), (unhide H_c6 (unhide H_c7 (unhide H_c11 zd0.2).2.1)), (unhide H_c7 (unhide H_c11 zd0.2).2.1), (unhide H_c11 zd0.2).2.1, (unhide H_c9 (unhide H_c10 (unhide H_c11 zd0.2).2.2)), (unhide H_c10 (unhide H_c11 zd0.2).2.2), (unhide H_c11 zd0.2).2.2⟩
      obtain ⟨rfl, rfl, rfl, rfl, rfl, rfl, rfl, rfl, rfl, rfl, rfl, rfl, rfl⟩ := zd
      subst z
      clear h0 hd
      rw [if_pos (by rfl)]
      have v1 := (unhide H_k12 rfl).1
      have g9 := (unhide H_k12 rfl).2
      have fz := v1.frozen
      have q0 := v1.cell (m := 0) rfl
      have q1 := v1.cell (m := 1) rfl
      have q2 := v1.cell (m := 2) rfl
      have q3 := v1.cell (m := 3) rfl
      have q4 := v1.cell (m := 4) rfl
      have q5 := v1.cell (m := 5) rfl
      have q6 := v1.cell (m := 6) rfl
      have q7 := v1.cell (m := 7) rfl
      have HV1 := hide v1
      clear v1
      go_simp
      exact unhide hK _ _ ⟨true, true, true, true, true, true, true, true, true, true, true, true, true, true, n12, rfl, rfl, (((((((((((((((((unhide H_kB)).setCell (p := ⟨n12, 0, none⟩) g9 _)).setCell (p := ⟨n12, 1, none⟩) g9 _)).setCell (p := ⟨n12, 2, none⟩) g9 _)).setCell (p := ⟨n12, 3, none⟩) g9 _)).setCell (p := ⟨n12, 4, none⟩) g9 _)).setCell (p := ⟨n12, 5, none⟩) g9 _)).setCell (p := ⟨n12, 6, none⟩) g9 _)).setCell (p := ⟨n12, 7, none⟩) g9 _), (fun _ => ⟨(((((((((unhide HV1).set 0 _).set 1 _).set 2 _).set 3 _).set 4 _).set 5 _).set 6 _).set 7 _), g9⟩), (fun _ => rfl), (fun _ => rfl), (fun _ => rfl), (fun _ => rfl), (fun _ => rfl), (fun _ => rfl), (fun _ => rfl), (fun _ => rfl), (fun _ => ⟨rfl, rfl, rfl⟩), (fun _ => ⟨rfl, rfl, rfl, rfl, rfl, rfl, rfl, rfl, rfl, rfl, rfl, rfl, rfl⟩)⟩
  case hend =>
    intro Lb A W hI
    obtain ⟨u0, hI⟩ := hI
    obtain ⟨u1, hI⟩ := hI
    obtain ⟨u2, hI⟩ := hI
    obtain ⟨u3, hI⟩ := hI
    obtain ⟨u4, hI⟩ := hI
    obtain ⟨u5, hI⟩ := hI
    obtain ⟨u6, hI⟩ := hI
    obtain ⟨u7, hI⟩ := hI
    obtain ⟨u8, hI⟩ := hI
    obtain ⟨u9, hI⟩ := hI
    obtain ⟨u10, hI⟩ := hI
    obtain ⟨u11, hI⟩ := hI
    obtain ⟨u12, hI⟩ := hI
    obtain ⟨u13, hI⟩ := hI
    obtain ⟨n12, hI⟩ := hI
    obtain ⟨hLb, hI⟩ := hI
    obtain ⟨hA, hI⟩ := hI
    obtain ⟨kB, hI⟩ := hI
    obtain ⟨k12, hI⟩ := hI
    obtain ⟨c1, hI⟩ := hI
    obtain ⟨c2, hI⟩ := hI
    obtain ⟨c3, hI⟩ := hI
    obtain ⟨c5, hI⟩ := hI
    obtain ⟨c6, hI⟩ := hI
    obtain ⟨c7, hI⟩ := hI
    obtain ⟨c9, hI⟩ := hI
    obtain ⟨c10, hI⟩ := hI
    obtain ⟨c11, hI⟩ := hI
    have kF := hI
    clear hI
    subst hLb
    subst hA
    intro hL
    have hl : u0 = true ∧ u1 = true ∧ u2 = true ∧ u3 = true ∧ u4 = true ∧ u5 = true ∧ u6 = true ∧ u7 = true ∧ u8 = true ∧ u9 = true ∧ u10 = true ∧ u11 = true ∧ u12 = true ∧ u13 = true := by
      have h2 := congrArg Array.toList hL
      simpa [List.replicate] using h2
    obtain ⟨rfl, rfl, rfl, rfl, rfl, rfl, rfl, rfl, rfl, rfl, rfl, rfl, rfl, rfl⟩ := hl
    exact unhide HQ n12 W kB (k12 rfl).1 (k12 rfl).2

end Go.Proofs.Ytdcecfgmfmpeeaa

namespace Go.Proofs.Ytdcecfgmfmpeeaa
open Go.ChangeShapes Go.WideShapes Go.ChangeAt Go.RowKit
set_option linter.unusedVariables false
set_option linter.unusedSimpArgs false

noncomputable def rg69 (id : Nat) : Go.Code := match Try.f69.body with | some c => (regOfZ id c).getD .skip | none => .skip
set_option maxHeartbeats 4000000 in
set_option maxRecDepth 100000 in
theorem no10 {s2 s3 s4 s5 s8 s10 s11 s12 s13 s14 s15 s16 s17 s18 s19 s20 s21 s22 s23 s24 s25 s26 s27 s28 s29 s30 s31 s32 s33 s34 s35 s36 s37 s38 s39 s40 s41 s42 s43 s44 s45 s46 s47 s48 s49 s50 s51 s52 s53 s54 s55 s56 s57 s58 s59 s60 s61 : Value} {b rb n cap m rcap a j k c : Nat} {x0 y0 x1 y1 x2 y2 : Int} {ob : Bool} {V : World} {K_ : Act → World → Prop} 
    (HA0 : Hid (V.cell? ⟨b, a * 2, none⟩ = some (.int .i64 (x0)))) (HA1 : Hid (V.cell? ⟨b, a * 2 + 1, none⟩ = some (.int .i64 (y0)))) (HR : Hid (V.cell? ⟨rb, j, none⟩ = some (.int .i64 (k : Int)))) (HK0 : Hid (V.cell? ⟨b, k * 2, none⟩ = some (.int .i64 (x1)))) (HK1 : Hid (V.cell? ⟨b, k * 2 + 1, none⟩ = some (.int .i64 (y1)))) (HC0 : Hid (V.cell? ⟨b, c * 2, none⟩ = some (.int .i64 (x2)))) (HC1 : Hid (V.cell? ⟨b, c * 2 + 1, none⟩ = some (.int .i64 (y2)))) 
    (HX2 : Hid (a < n))
    (HX7 : Hid (j < m))
    (HX9 : Hid (k < n))
    (HX13 : Hid (c < n))
    (HF17 : Hid (∀ n16 : Nat, ∀ Xw, Below V.heap.size V Xw → cb Xw n16 97 [.int .i64 (x0), .int .i64 (y0), .int .i64 (x1), .int .i64 (y1), .int .i64 (x2), .int .i64 (y2)] → Calls Try.prog 90 #[.pointer (some ⟨n16, 0, none⟩)] Xw fun e w' => e = .returned (.bool (ob)) ∧ Below Xw.heap.size Xw w'))
    (hQ : ∀ (n16 : Nat) (W1 : World), Below V.heap.size V W1 → cb W1 n16 97 [.int .i64 (x0), .int .i64 (y0), .int .i64 (x1), .int .i64 (y1), .int .i64 (x2), .int .i64 (y2)] → V.heap.size ≤ n16 → K_ { tmps := #[.slice (some ⟨b, 0, none⟩) n cap, .slice (some ⟨rb, 0, none⟩) m rcap, s2, s3, s4, s5, .int .i64 (a : Int), .int .i64 (j : Int), s8, .int .i64 (c : Int), s10, s11, s12, s13, s14, s15, s16, s17, s18, s19, s20, s21, s22, s23, s24, s25, s26, s27, s28, s29, s30, s31, s32, s33, .slice (some ⟨b, 0, none⟩) n cap, .int .i64 (a : Int), .pointer (some ⟨b, a * 2, none⟩), .agg #[.int .i64 (x0), .int .i64 (y0)], .slice (some ⟨b, 0, none⟩) n cap, .slice (some ⟨rb, 0, none⟩) m rcap, .int .i64 (j : Int), .pointer (some ⟨rb, j, none⟩), .int .i64 (k : Int), .pointer (some ⟨b, k * 2, none⟩), .agg #[.int .i64 (x1), .int .i64 (y1)], .slice (some ⟨b, 0, none⟩) n cap, .int .i64 (c : Int), .pointer (some ⟨b, c * 2, none⟩), .agg #[.int .i64 (x2), .int .i64 (y2)], .agg #[.int .i64 (x0), .int .i64 (y0), .int .i64 (x1), .int .i64 (y1), .int .i64 (x2), .int .i64 (y2)], .pointer (some ⟨n16, 0, none⟩), .bool (ob), .bool (!ob), s53, s54, s55, s56, s57, s58, s59, s60, s61], defers := [] } W1) :
    Go.Code.wp Try.prog (rg69 10) (Only K_) { tmps := #[.slice (some ⟨b, 0, none⟩) n cap, .slice (some ⟨rb, 0, none⟩) m rcap, s2, s3, s4, s5, .int .i64 (a : Int), .int .i64 (j : Int), s8, .int .i64 (c : Int), s10, s11, s12, s13, s14, s15, s16, s17, s18, s19, s20, s21, s22, s23, s24, s25, s26, s27, s28, s29, s30, s31, s32, s33, s34, s35, s36, s37, s38, s39, s40, s41, s42, s43, s44, s45, s46, s47, s48, s49, s50, s51, s52, s53, s54, s55, s56, s57, s58, s59, s60, s61], defers := [] } V := by
  have HQ := hide hQ
  clear hQ
  conv => arg 2; whnf
  refine wp_region_inv2 (fun Lb A W => ∃ (u0 u1 u2 u3 u4 u5 u6 u7 u8 u9 u10 u11 u12 u13 u14 u15 u16 u17 u18 : Bool) (n16 : Nat), Lb = #[u0, u1, u2, u3, u4, u5, u6, u7, u8, u9, u10, u11, u12, u13, u14, u15, u16, u17, u18] ∧ A = ({ tmps := #[.slice (some ⟨b, 0, none⟩) n cap, .slice (some ⟨rb, 0, none⟩) m rcap, s2, s3, s4, s5, .int .i64 (a : Int), .int .i64 (j : Int), s8, .int .i64 (c : Int), s10, s11, s12, s13, s14, s15, s16, s17, s18, s19, s20, s21, s22, s23, s24, s25, s26, s27, s28, s29, s30, s31, s32, s33, (bif u0 then .slice (some ⟨b, 0, none⟩) n cap else s34), (bif u1 then .int .i64 (a : Int) else s35), (bif u2 then .pointer (some ⟨b, a * 2, none⟩) else s36), (bif u3 then .agg #[.int .i64 (x0), .int .i64 (y0)] else s37), (bif u4 then .slice (some ⟨b, 0, none⟩) n cap else s38), (bif u5 then .slice (some ⟨rb, 0, none⟩) m rcap else s39), (bif u6 then .int .i64 (j : Int) else s40), (bif u7 then .pointer (some ⟨rb, j, none⟩) else s41), (bif u8 then .int .i64 (k : Int) else s42), (bif u9 then .pointer (some ⟨b, k * 2, none⟩) else s43), (bif u10 then .agg #[.int .i64 (x1), .int .i64 (y1)] else s44), (bif u11 then .slice (some ⟨b, 0, none⟩) n cap else s45), (bif u12 then .int .i64 (c : Int) else s46), (bif u13 then .pointer (some ⟨b, c * 2, none⟩) else s47), (bif u14 then .agg #[.int .i64 (x2), .int .i64 (y2)] else s48), (bif u15 then .agg #[.int .i64 (x0), .int .i64 (y0), .int .i64 (x1), .int .i64 (y1), .int .i64 (x2), .int .i64 (y2)] else s49), (bif u16 then .pointer (some ⟨n16, 0, none⟩) else s50), (bif u17 then .bool (ob) else s51), (bif u18 then .bool (!ob) else s52), s53, s54, s55, s56, s57, s58, s59, s60, s61], defers := [] } : Act) ∧ Below V.heap.size V W ∧ (u16 = true → cb W n16 97 [.int .i64 (x0), .int .i64 (y0), .int .i64 (x1), .int .i64 (y1), .int .i64 (x2), .int .i64 (y2)] ∧ V.heap.size ≤ n16) ∧ (u2 = true → u0 = true ∧ u1 = true) ∧ (u3 = true → u2 = true) ∧ (u7 = true → u5 = true ∧ u6 = true) ∧ (u8 = true → u7 = true) ∧ (u9 = true → u4 = true ∧ u8 = true) ∧ (u10 = true → u9 = true) ∧ (u13 = true → u11 = true ∧ u12 = true) ∧ (u14 = true → u13 = true) ∧ (u15 = true → u3 = true ∧ u10 = true ∧ u14 = true) ∧ (u16 = true → u15 = true) ∧ (u17 = true → u16 = true) ∧ (u18 = true → u0 = true ∧ u1 = true ∧ u2 = true ∧ u3 = true ∧ u4 = true ∧ u5 = true ∧ u6 = true ∧ u7 = true ∧ u8 = true ∧ u9 = true ∧ u10 = true ∧ u11 = true ∧ u12 = true ∧ u13 = true ∧ u14 = true ∧ u15 = true ∧ u16 = true ∧ u17 = true)) (by kernel_rfl) (by kernel_rfl) ?h0 ?hstep ?hend
  case h0 =>
    exact ⟨false, false, false, false, false, false, false, false, false, false, false, false, false, false, false, false, false, false, false, 0, rfl, rfl, Below.drew (Below.refl _ _), (fun h => nomatch h), (fun h => nomatch h), (fun h => nomatch h), (fun h => nomatch h), (fun h => nomatch h), (fun h => nomatch h), (fun h => nomatch h), (fun h => nomatch h), (fun h => nomatch h), (fun h => nomatch h), (fun h => nomatch h), (fun h => nomatch h), (fun h => nomatch h)⟩
  case hstep =>
    intro Lb A W hI
    obtain ⟨u0, hI⟩ := hI
    obtain ⟨u1, hI⟩ := hI
    obtain ⟨u2, hI⟩ := hI
    obtain ⟨u3, hI⟩ := hI
    obtain ⟨u4, hI⟩ := hI
    obtain ⟨u5, hI⟩ := hI
    obtain ⟨u6, hI⟩ := hI
    obtain ⟨u7, hI⟩ := hI
    obtain ⟨u8, hI⟩ := hI
    obtain ⟨u9, hI⟩ := hI
    obtain ⟨u10, hI⟩ := hI
    obtain ⟨u11, hI⟩ := hI
    obtain ⟨u12, hI⟩ := hI
    obtain ⟨u13, hI⟩ := hI
    obtain ⟨u14, hI⟩ := hI
    obtain ⟨u15, hI⟩ := hI
    obtain ⟨u16, hI⟩ := hI
    obtain ⟨u17, hI⟩ := hI
    obtain ⟨u18, hI⟩ := hI
    obtain ⟨n16, hI⟩ := hI
    obtain ⟨hLb, hI⟩ := hI
    obtain ⟨hA, hI⟩ := hI
    obtain ⟨kB, hI⟩ := hI
    obtain ⟨k16, hI⟩ := hI
    obtain ⟨c2, hI⟩ := hI
    obtain ⟨c3, hI⟩ := hI
    obtain ⟨c7, hI⟩ := hI
    obtain ⟨c8, hI⟩ := hI
    obtain ⟨c9, hI⟩ := hI
    obtain ⟨c10, hI⟩ := hI
    obtain ⟨c13, hI⟩ := hI
    obtain ⟨c14, hI⟩ := hI
    obtain ⟨c15, hI⟩ := hI
    obtain ⟨c16, hI⟩ := hI
    obtain ⟨c17, hI⟩ := hI
    have kF := hI
    clear hI
    subst hLb
    subst hA
    have H_kB := hide kB
    have H_k16 := hide k16
    have H_c2 := hide c2
    have H_c3 := hide c3
    have H_c7 := hide c7
    have H_c8 := hide c8
    have H_c9 := hide c9
    have H_c10 := hide c10
    have H_c13 := hide c13
    have H_c14 := hide c14
    have H_c15 := hide c15
    have H_c16 := hide c16
    have H_c17 := hide c17
    have H_kF := hide kF
    clear kB k16 c2 c3 c7 c8 c9 c10 c13 c14 c15 c16 c17 kF
    refine ⟨?_, ?_, ?_, ?_, ?_, ?_, ?_, ?_, ?_, ?_, ?_, ?_, ?_, ?_, ?_, ?_, ?_, ?_, ?_, trivial⟩
    · intro h0 hd K hK
      have z : u0 = false := h0
      have z18_ : u18 = false := by
        cases hu : u18 with
        | false => rfl
        | true => exact nomatch z.symm.trans ((unhide H_kF hu).1)
      subst z18_
      subst z
      clear h0 hd
      rw [if_pos (by rfl)]
      go_simp
      exact unhide hK _ _ ⟨true, u1, u2, u3, u4, u5, u6, u7, u8, u9, u10, u11, u12, u13, u14, u15, u16, u17, false, n16, rfl, rfl, unhide H_kB, unhide H_k16, (fun h => ⟨rfl, (unhide H_c2 h).2⟩), unhide H_c3, unhide H_c7, unhide H_c8, unhide H_c9, unhide H_c10, unhide H_c13, unhide H_c14, unhide H_c15, unhide H_c16, unhide H_c17, (fun h => nomatch h)⟩
    · intro h0 hd K hK
      have z : u1 = false := h0
      have z18_ : u18 = false := by
        cases hu : u18 with
        | false => rfl
        | true => exact nomatch z.symm.trans ((unhide H_kF hu).2.1)
      subst z18_
      subst z
      clear h0 hd
      rw [if_pos (by rfl)]
      go_simp
      exact unhide hK _ _ ⟨u0, true, u2, u3, u4, u5, u6, u7, u8, u9, u10, u11, u12, u13, u14, u15, u16, u17, false, n16, rfl, rfl, unhide H_kB, unhide H_k16, (fun h => ⟨(unhide H_c2 h).1, rfl⟩), unhide H_c3, unhide H_c7, unhide H_c8, unhide H_c9, unhide H_c10, unhide H_c13, unhide H_c14, unhide H_c15, unhide H_c16, unhide H_c17, (fun h => nomatch h)⟩
    · intro h0 hd K hK
      have z : u2 = false := h0
      have z18_ : u18 = false := by
        cases hu : u18 with
        | false => rfl
        | true => exact nomatch z.symm.trans ((unhide H_kF hu).2.2.1)
      have zd : u0 = true ∧ u1 = true := by
        simp [Region.binds] at hd
        simp [hd]
      obtain ⟨rfl, rfl⟩ := zd
      subst z18_
      subst z
      clear h0 hd
      rw [if_pos (by rfl)]
      have q1 : a < n := unhide HX2
      have q2 : (a : Int) < (n : Int) := by omega
      go_simp
      exact unhide hK _ _ ⟨true, true, true, u3, u4, u5, u6, u7, u8, u9, u10, u11, u12, u13, u14, u15, u16, u17, false, n16, rfl, rfl, unhide H_kB, unhide H_k16, (fun _ => ⟨rfl, rfl⟩), (fun h => rfl), unhide H_c7, unhide H_c8, unhide H_c9, unhide H_c10, unhide H_c13, unhide H_c14, unhide H_c15, unhide H_c16, unhide H_c17, (fun h => nomatch h)⟩
    · intro h0 hd K hK
      have z : u3 = false := h0
      have z18_ : u18 = false := by
        cases hu : u18 with
        | false => rfl
        | true => exact nomatch z.symm.trans ((unhide H_kF hu).2.2.2.1)
      have zd : u2 = true := by
        simp [Region.binds] at hd
        simp [hd]
      obtain ⟨rfl⟩ := zd
      subst z18_
      subst z
      clear h0 hd
      rw [if_pos (by rfl)]
      have c0 := keep1 (unhide H_kB) (unhide HA0)
      have c1 := keep1 (unhide H_kB) (unhide HA1)
      go_simp
      exact unhide hK _ _ ⟨u0, u1, true, true, u4, u5, u6, u7, u8, u9, u10, u11, u12, u13, u14, u15, u16, u17, false, n16, rfl, rfl, unhide H_kB, unhide H_k16, unhide H_c2, (fun _ => rfl), unhide H_c7, unhide H_c8, unhide H_c9, unhide H_c10, unhide H_c13, unhide H_c14, (fun h => ⟨rfl, (unhide H_c15 h).2.1, (unhide H_c15 h).2.2⟩), unhide H_c16, unhide H_c17, (fun h => nomatch h)⟩
    · intro h0 hd K hK
      have z : u4 = false := h0
      have z18_ : u18 = false := by
        cases hu : u18 with
        | false => rfl
        | true => exact nomatch z.symm.trans ((unhide H_kF hu).2.2.2.2.1)
      subst z18_
      subst z
      clear h0 hd
      rw [if_pos (by rfl)]
      go_simp
      exact unhide hK _ _ ⟨u0, u1, u2, u3, true, u5, u6, u7, u8, u9, u10, u11, u12, u13, u14, u15, u16, u17, false, n16, rfl, rfl, unhide H_kB, unhide H_k16, unhide H_c2, unhide H_c3, unhide H_c7, unhide H_c8, (fun h => ⟨rfl, (unhide H_c9 h).2⟩), unhide H_c10, unhide H_c13, unhide H_c14, unhide H_c15, unhide H_c16, unhide H_c17, (fun h => nomatch h)⟩
    · intro h0 hd K hK
      have z : u5 = false := h0
      have z18_ : u18 = false := by
        cases hu : u18 with
        | false => rfl
        | true => exact nomatch z.symm.trans ((unhide H_kF hu).2.2.2.2.2.1)
      subst z18_
      subst z
      clear h0 hd
      rw [if_pos (by rfl)]
      go_simp
      exact unhide hK _ _ ⟨u0, u1, u2, u3, u4, true, u6, u7, u8, u9, u10, u11, u12, u13, u14, u15, u16, u17, false, n16, rfl, rfl, unhide H_kB, unhide H_k16, unhide H_c2, unhide H_c3, (fun h => ⟨rfl, (unhide H_c7 h).2⟩), unhide H_c8, unhide H_c9, unhide H_c10, unhide H_c13, unhide H_c14, unhide H_c15, unhide H_c16, unhide H_c17, (fun h => nomatch h)⟩
    · intro h0 hd K hK
      have z : u6 = false := h0
      have z18_ : u18 = false := by
        cases hu : u18 with
        | false => rfl
        | true => exact nomatch z.symm.trans ((unhide H_kF hu).2.2.2.2.2.2.1)
      subst z18_
      subst z
      clear h0 hd
      rw [if_pos (by rfl)]
      go_simp
      exact unhide hK _ _ ⟨u0, u1, u2, u3, u4, u5, true, u7, u8, u9, u10, u11, u12, u13, u14, u15, u16, u17, false, n16, rfl, rfl, unhide H_kB, unhide H_k16, unhide H_c2, unhide H_c3, (fun h => ⟨(unhide H_c7 h).1, rfl⟩), unhide H_c8, unhide H_c9, unhide H_c10, unhide H_c13, unhide H_c14, unhide H_c15, unhide H_c16, unhide H_c17, (fun h => nomatch h)⟩
    · intro h0 hd K hK
      have z : u7 = false := h0
      have z18_ : u18 = false := by
        cases hu : u18 with
        | false => rfl
        | true => exact nomatch z.symm.trans ((unhide H_kF hu).2.2.2.2.2.2.2.1)
      have zd : u5 = true ∧ u6 = true := by
        simp [Region.binds] at hd
        simp [hd]
      obtain ⟨rfl, rfl⟩ := zd
      subst z18_
      subst z
      clear h0 hd
      rw [if_pos (by rfl)]
      have q1 : j < m := unhide HX7
      have q2 : (j : Int) < (m : Int) := by omega
      go_simp
      exact unhide hK _ _ ⟨u0, u1, u2, u3, u4, true, true, true, u8, u9, u10, u11, u12, u13, u14, u15, u16, u17, false, n16, rfl, rfl, unhide H_kB, unhide H_k16, unhide H_c2, unhide H_c3, (fun _ => ⟨rfl, rfl⟩), (fun h => rfl), unhide H_c9, unhide H_c10, unhide H_c13, unhide H_c14, unhide H_c15, unhide H_c16, unhide H_c17, (fun h => nomatch h)⟩
    · intro h0 hd K hK
      have z : u8 = false := h0
      have z18_ : u18 = false := by
        cases hu : u18 with
        | false => rfl
        | true => exact nomatch z.symm.trans ((unhide H_kF hu).2.2.2.2.2.2.2.2.1)
      have zd : u7 = true := by
        simp [Region.binds] at hd
        simp [hd]
      obtain ⟨rfl⟩ := zd
      subst z18_
      subst z
      clear h0 hd
      rw [if_pos (by rfl)]
      have c0 := keep1 (unhide H_kB) (unhide HR)
      go_simp
      exact unhide hK _ _ ⟨u0, u1, u2, u3, u4, u5, u6, true, true, u9, u10, u11, u12, u13, u14, u15, u16, u17, false, n16, rfl, rfl, unhide H_kB, unhide H_k16, unhide H_c2, unhide H_c3, unhide H_c7, (fun _ => rfl), (fun h => ⟨(unhide H_c9 h).1, rfl⟩), unhide H_c10, unhide H_c13, unhide H_c14, unhide H_c15, unhide H_c16, unhide H_c17, (fun h => nomatch h)⟩
    · intro h0 hd K hK
      have z : u9 = false := h0
      have z18_ : u18 = false := by
        cases hu : u18 with
        | false => rfl
        | true => exact nomatch z.symm.trans ((unhide H_kF hu).2.2.2.2.2.2.2.2.2.1)
      have zd : u4 = true ∧ u8 = true := by
        simp [Region.binds] at hd
        simp [hd]
      obtain ⟨rfl, rfl⟩ := zd
      subst z18_
      subst z
      clear h0 hd
      rw [if_pos (by rfl)]
      have q1 : k < n := unhide HX9
      have q2 : (k : Int) < (n : Int) := by omega
      go_simp
      exact unhide hK _ _ ⟨u0, u1, u2, u3, true, u5, u6, u7, true, true, u10, u11, u12, u13, u14, u15, u16, u17, false, n16, rfl, rfl, unhide H_kB, unhide H_k16, unhide H_c2, unhide H_c3, unhide H_c7, unhide H_c8, (fun _ => ⟨rfl, rfl⟩), (fun h => rfl), unhide H_c13, unhide H_c14, unhide H_c15, unhide H_c16, unhide H_c17, (fun h => nomatch h)⟩
    · intro h0 hd K hK
      have z : u10 = false := h0
      have z18_ : u18 = false := by
        cases hu : u18 with
        | false => rfl
        | true => exact nomatch z.symm.trans ((unhide H_kF hu).2.2.2.2.2.2.2.2.2.2.1)
      have zd : u9 = true := by
        simp [Region.binds] at hd
        simp [hd]
      obtain ⟨rfl⟩ := zd
      subst z18_
      subst z
      clear h0 hd
      rw [if_pos (by rfl)]
      have c0 := keep1 (unhide H_kB) (unhide HK0)
      have c1 := keep1 (unhide H_kB) (unhide HK1)
      go_simp
      exact unhide hK _ _ ⟨u0, u1, u2, u3, u4, u5, u6, u7, u8, true, true, u11, u12, u13, u14, u15, u16, u17, false, n16, rfl, rfl, unhide H_kB, unhide H_k16, unhide H_c2, unhide H_c3, unhide H_c7, unhide H_c8, unhide H_c9, (fun _ => rfl), unhide H_c13, unhide H_c14, (fun h => ⟨(unhide H_c15 h).1, rfl, (unhide H_c15 h).2.2⟩), unhide H_c16, unhide H_c17, (fun h => nomatch h)⟩
    · intro h0 hd K hK
      have z : u11 = false := h0
      have z18_ : u18 = false := by
        cases hu : u18 with
        | false => rfl
        | true => exact nomatch z.symm.trans ((unhide H_kF hu).2.2.2.2.2.2.2.2.2.2.2.1)
      subst z18_
      subst z
      clear h0 hd
      rw [if_pos (by rfl)]
      go_simp
      exact unhide hK _ _ ⟨u0, u1, u2, u3, u4, u5, u6, u7, u8, u9, u10, true, u12, u13, u14, u15, u16, u17, false, n16, rfl, rfl, unhide H_kB, unhide H_k16, unhide H_c2, unhide H_c3, unhide H_c7, unhide H_c8, unhide H_c9, unhide H_c10, (fun h => ⟨rfl, (unhide H_c13 h).2⟩), unhide H_c14, unhide H_c15, unhide H_c16, unhide H_c17, (fun h => nomatch h)⟩
    · intro h0 hd K hK
      have z : u12 = false := h0
      have z18_ : u18 = false := by
        cases hu : u18 with
        | false => rfl
        | true => exact nomatch z.symm.trans ((unhide H_kF hu).2.2.2.2.2.2.2.2.2.2.2.2.1)
      subst z18_
      subst z
      clear h0 hd
      rw [if_pos (by rfl)]
      go_simp
      exact unhide hK _ _ ⟨u0, u1, u2, u3, u4, u5, u6, u7, u8, u9, u10, u11, true, u13, u14, u15, u16, u17, false, n16, rfl, rfl, unhide H_kB, unhide H_k16, unhide H_c2, unhide H_c3, unhide H_c7, unhide H_c8, unhide H_c9, unhide H_c10, (fun h => ⟨(unhide H_c13 h).1, rfl⟩), unhide H_c14, unhide H_c15, unhide H_c16, unhide H_c17, (fun h => nomatch h)⟩
    · intro h0 hd K hK
      have z : u13 = false := h0
      have z18_ : u18 = false := by
        cases hu : u18 with
        | false => rfl
        | true => exact nomatch z.symm.trans ((unhide H_kF hu).2.2.2.2.2.2.2.2.2.2.2.2.2.1)
      have zd : u11 = true ∧ u12 = true := by
        simp [Region.binds] at hd
        simp [hd]
      obtain ⟨rfl, rfl⟩ := zd
      subst z18_
      subst z
      clear h0 hd
      rw [if_pos (by rfl)]
      have q1 : c < n := unhide HX13
      have q2 : (c : Int) < (n : Int) := by omega
      go_simp
      exact unhide hK _ _ ⟨u0, u1, u2, u3, u4, u5, u6, u7, u8, u9, u10, true, true, true, u14, u15, u16, u17, false, n16, rfl, rfl, unhide H_kB, unhide H_k16, unhide H_c2, unhide H_c3, unhide H_c7, unhide H_c8, unhide H_c9, unhide H_c10, (fun _ => ⟨rfl, rfl⟩), (fun h => rfl), unhide H_c15, unhide H_c16, unhide H_c17, (fun h => nomatch h)⟩
    · intro h0 hd K hK
      have z : u14 = false := h0
      have z18_ : u18 = false := by
        cases hu : u18 with
        | false => rfl
        | true => exact nomatch z.symm.trans ((unhide H_kF hu).2.2.2.2.2.2.2.2.2.2.2.2.2.2.1)
      have zd : u13 = true := by
        simp [Region.binds] at hd
        simp [hd]
      obtain ⟨rfl⟩ := zd
      subst z18_
      subst z
      clear h0 hd
      rw [if_pos (by rfl)]
      have c0 := keep1 (unhide H_kB) (unhide HC0)
      have c1 := keep1 (unhide H_kB) (unhide HC1)
      go_simp
      exact unhide hK _ _ ⟨u0, u1, u2, u3, u4, u5, u6, u7, u8, u9, u10, u11, u12, true, true, u15, u16, u17, false, n16, rfl, rfl, unhide H_kB, unhide H_k16, unhide H_c2, unhide H_c3, unhide H_c7, unhide H_c8, unhide H_c9, unhide H_c10, unhide H_c13, (fun _ => rfl), (fun h => ⟨(unhide H_c15 h).1, (unhide H_c15 h).2.1, rfl⟩), unhide H_c16, unhide H_c17, (fun h => nomatch h)⟩
    · intro h0 hd K hK
      have z : u15 = false := h0
      have z18_ : u18 = false := by
        cases hu : u18 with
        | false => rfl
        | true => exact nomatch z.symm.trans ((unhide H_kF hu).2.2.2.2.2.2.2.2.2.2.2.2.2.2.2.1)
      have zd : u3 = true ∧ u10 = true ∧ u14 = true := by
        simp [Region.binds] at hd
        simp [hd]
      obtain ⟨rfl, rfl, rfl⟩ := zd
      subst z18_
      subst z
      clear h0 hd
      rw [if_pos (by rfl)]
      go_simp
      exact unhide hK _ _ ⟨u0, u1, u2, true, u4, u5, u6, u7, u8, u9, true, u11, u12, u13, true, true, u16, u17, false, n16, rfl, rfl, unhide H_kB, unhide H_k16, unhide H_c2, unhide H_c3, unhide H_c7, unhide H_c8, unhide H_c9, unhide H_c10, unhide H_c13, unhide H_c14, (fun _ => ⟨rfl, rfl, rfl⟩), (fun h => rfl), unhide H_c17, (fun h => nomatch h)⟩
    · intro h0 hd K hK
      have z : u16 = false := h0
      have z18_ : u18 = false := by
        cases hu : u18 with
        | false => rfl
        | true => exact nomatch z.symm.trans ((unhide H_kF hu).2.2.2.2.2.2.2.2.2.2.2.2.2.2.2.2.1)
      have zd : u15 = true := by
        simp [Region.binds] at hd
        simp [hd]
      obtain ⟨rfl⟩ := zd
      subst z18_
      subst z
      clear h0 hd
      rw [if_pos (by rfl)]
      go_simp
      exact unhide hK _ _ ⟨u0, u1, u2, u3, u4, u5, u6, u7, u8, u9, u10, u11, u12, u13, u14, true, true, u17, false, W.heap.size, rfl, rfl, ba (unhide H_kB) _, (fun _ => ⟨cb_new W 97 _ _ rfl, (unhide H_kB).size⟩), unhide H_c2, unhide H_c3, unhide H_c7, unhide H_c8, unhide H_c9, unhide H_c10, unhide H_c13, unhide H_c14, unhide H_c15, (fun _ => rfl), (fun h => rfl), (fun h => nomatch h)⟩
    · intro h0 hd K hK
      have z : u17 = false := h0
      have z18_ : u18 = false := by
        cases hu : u18 with
        | false => rfl
        | true => exact nomatch z.symm.trans ((unhide H_kF hu).2.2.2.2.2.2.2.2.2.2.2.2.2.2.2.2.2)
      have zd : u16 = true := by
        simp [Region.binds] at hd
        simp [hd]
      obtain ⟨rfl⟩ := zd
      subst z18_
      subst z
      clear h0 hd
      rw [if_pos (by rfl)]
      go_simp
      refine (unhide HF17 _ W (unhide H_kB) (unhide H_k16 rfl).1).mono ?_
      rintro e w8 ⟨rfl, hb8⟩
      exact unhide hK _ _ ⟨u0, u1, u2, u3, u4, u5, u6, u7, u8, u9, u10, u11, u12, u13, u14, u15, true, true, false, n16, rfl, rfl, bc (unhide H_kB) hb8, (fun h => ⟨(unhide H_k16 h).1.bel hb8, (unhide H_k16 h).2⟩), unhide H_c2, unhide H_c3, unhide H_c7, unhide H_c8, unhide H_c9, unhide H_c10, unhide H_c13, unhide H_c14, unhide H_c15, unhide H_c16, (fun _ => rfl), (fun h => nomatch h)⟩
    · intro h0 hd K hK
      have z : u18 = false := h0
      have zd0 : u17 = true := by
        simp [Region.binds] at hd
        simp [hd]
      have zd : u17 = true ∧ u0 = true ∧ u1 = true ∧ u2 = true ∧ u3 = true ∧ u4 = true ∧ u5 = true ∧ u6 = true ∧ u7 = true ∧ u8 = true ∧ u9 = true ∧ u10 = true ∧ u11 = true ∧ u12 = true ∧ u13 = true ∧ u14 = true ∧ u15 = true ∧ u16 = true := ⟨zd0, (unhide H_c2 (unhide H_c3 (unhide H_c15 (unhide H_c16 (unhide H_c17 zd0))).1)).1, (unhide H_c2 (unhide H_c3 (unhide H_c15 (unhide H_c16 (unhide H_c17 zd0))).1)).2, (unhide H_c3 (unhide H_c15 (unhide H_c16 (unhide H_c17 zd0))).1), (unhide H_c15 (unhide H_c16 (unhide H_c17 zd0))).1, (unhide H_c9 (unhide H_c10 (unhide H_c15 (unhide H_c16 (unhide H_c17 zd0))).2.1)).1, (unhide H_c7 (unhide H_c8 (unhide H_c9 (unhide H_c10 (unhide H_c15 (unhide H_c16 (unhide H_c17 zd0))).2.1)).2)).1, (unhide H_c7 (unhide H_c8 (unhide H_c9 (unhide H_c10 (unhide H_c15 (unhide H_c16 (unhide H_c17 zd0))).2.1)).2)).2, (unhide H_c8 (unhide H_c9 (unhide H_c10 (unhide H_c15 (unhide H_c16 (unhide H_c17 zd0))).2.1)).2), (unhide H_c9 (unhide H_c10 (unhide H_c15 (unhide H_c16 (unhide H_c17 zd0))).2.1)).2, (unhide H_c10 (unhide H_c15 (unhide H_c16 (unhide H_c17 zd0))).2.1), (unhide H_c15 (unhide H_c16 (unhide H_c17 zd0))).2.1, (unhide H_c13 (unhide H_c14 (unhide H_c15 (unhide H_c16 (unhide H_c17 zd0))).2.2)).1, (unhide H_c13 (unhide H_c14 (unhide H_c15 (unhide H_c16 (unhide H_c17 zd0))).2.2)).2, (unhide H_c14 (unhide H_c15 (unhide H_c16 (unhide H_c17 zd0))).2.2), (unhide H_c15 (unhide H_c16 (unhide H_c17 zd0))).2.2, (unhide H_c16 (unhide H_c17 zd0)), (unhide H_c17 zd0)⟩
      obtain ⟨rfl, rfl, rfl, rfl, rfl, rfl, rfl, rfl, rfl, rfl, rfl, rfl, rfl, rfl, rfl, rfl, rfl, rfl⟩ := zd
      subst z
      clear h0 hd
      rw [if_pos (by rfl)]
      go_simp
      exact unhide hK _ _ ⟨true, true, true, true, true, true, true, true, true, true, true, true, true, true, true, true, true, true, true, n16, rfl, rfl, unhide H_kB, unhide H_k16, (fun _ => ⟨rfl, rfl⟩), (fun _ => rfl), (fun _ => ⟨rfl, rfl⟩), (fun _ => rfl), (fun _ => ⟨rfl, rfl⟩), (fun _ => rfl), (fun _ => ⟨rfl, rfl⟩), (fun _ => rfl), (fun _ => ⟨rfl, rfl, rfl⟩), (fun _ => rfl), (fun _ => rfl), (fun _ => ⟨rfl, rfl, rfl, rfl, rfl, rfl, rfl, rfl, rfl, rfl, rfl, rfl, rfl, rfl, rfl, rfl, rfl, rfl⟩)⟩
  case hend =>
    intro Lb A W hI
    obtain ⟨u0, hI⟩ := hI
    obtain ⟨u1, hI⟩ := hI
    obtain ⟨u2, hI⟩ := hI
    obtain ⟨u3, hI⟩ := hI
    obtain ⟨u4, hI⟩ := hI
    obtain ⟨u5, hI⟩ := hI
    obtain ⟨u6, hI⟩ := hI
    obtain ⟨u7, hI⟩ := hI
    obtain ⟨u8, hI⟩ := hI
    obtain ⟨u9, hI⟩ := hI
    obtain ⟨u10, hI⟩ := hI
    obtain ⟨u11, hI⟩ := hI
    obtain ⟨u12, hI⟩ := hI
    obtain ⟨u13, hI⟩ := hI
    obtain ⟨u14, hI⟩ := hI
    obtain ⟨u15, hI⟩ := hI
    obtain ⟨u16, hI⟩ := hI
    obtain ⟨u17, hI⟩ := hI
    obtain ⟨u18, hI⟩ := hI
    obtain ⟨n16, hI⟩ := hI
    obtain ⟨hLb, hI⟩ := hI
    obtain ⟨hA, hI⟩ := hI
    obtain ⟨kB, hI⟩ := hI
    obtain ⟨k16, hI⟩ := hI
    obtain ⟨c2, hI⟩ := hI
    obtain ⟨c3, hI⟩ := hI
    obtain ⟨c7, hI⟩ := hI
    obtain ⟨c8, hI⟩ := hI
    obtain ⟨c9, hI⟩ := hI
    obtain ⟨c10, hI⟩ := hI
    obtain ⟨c13, hI⟩ := hI
    obtain ⟨c14, hI⟩ := hI
    obtain ⟨c15, hI⟩ := hI
    obtain ⟨c16, hI⟩ := hI
    obtain ⟨c17, hI⟩ := hI
    have kF := hI
    clear hI
    subst hLb
    subst hA
    intro hL
    have hl : u0 = true ∧ u1 = true ∧ u2 = true ∧ u3 = true ∧ u4 = true ∧ u5 = true ∧ u6 = true ∧ u7 = true ∧ u8 = true ∧ u9 = true ∧ u10 = true ∧ u11 = true ∧ u12 = true ∧ u13 = true ∧ u14 = true ∧ u15 = true ∧ u16 = true ∧ u17 = true ∧ u18 = true := by
      have h2 := congrArg Array.toList hL
      simpa [List.replicate] using h2
    obtain ⟨rfl, rfl, rfl, rfl, rfl, rfl, rfl, rfl, rfl, rfl, rfl, rfl, rfl, rfl, rfl, rfl, rfl, rfl, rfl⟩ := hl
    exact unhide HQ n16 W kB (k16 rfl).1 (k16 rfl).2

end Go.Proofs.Ytdcecfgmfmpeeaa

namespace Go.Proofs.Ytdcecfgmfmpeeaa
open Go.ChangeShapes Go.WideShapes Go.ChangeAt Go.RowKit
set_option linter.unusedVariables false
set_option linter.unusedSimpArgs false

noncomputable def rg90 (id : Nat) : Go.Code := match Try.f90.body with | some c => (regOfZ id c).getD .skip | none => .skip
set_option maxHeartbeats 4000000 in
set_option maxRecDepth 100000 in
theorem ob3 {s1 s2 s3 s4 s5 s6 s8 s10 s11 s12 s13 s14 s15 s16 s17 s18 s19 s20 s21 s22 s23 s24 s25 s26 s27 s28 s29 s30 s31 s32 s33 s34 s35 s36 s37 : Value} {b i : Nat} {x y : Int} {V : World} {K_ : Act → World → Prop} 
    (HA0 : Hid (V.cell? ⟨b, i * 2, none⟩ = some (.int .i64 (x)))) (HA1 : Hid (V.cell? ⟨b, i * 2 + 1, none⟩ = some (.int .i64 (y)))) 
    (HX2 : Hid (i < 3))
    (hQ : ∀ (n4 : Nat) (W1 : World), Below V.heap.size V W1 → cb W1 n4 30 [.int .i64 (x), .int .i64 (y)] → V.heap.size ≤ n4 → K_ { tmps := #[.pointer (some ⟨b, 0, none⟩), s1, s2, .int .i64 (i : Int), .pointer (some ⟨n4, 0, none⟩), s5, s6, .pointer (some ⟨b, 0, none⟩), s8, .int .i64 (i : Int), s10, .int .i64 (i : Int), .pointer (some ⟨b, 0, none⟩), .pointer (some ⟨b, i * 2, none⟩), .agg #[.int .i64 (x), .int .i64 (y)], s15, s16, s17, s18, s19, s20, s21, s22, s23, s24, s25, s26, s27, s28, s29, s30, s31, s32, s33, s34, s35, s36, s37], defers := [] } W1) :
    Go.Code.wp Try.prog (rg90 3) (Only K_) { tmps := #[.pointer (some ⟨b, 0, none⟩), s1, s2, s3, s4, s5, s6, .pointer (some ⟨b, 0, none⟩), s8, .int .i64 (i : Int), s10, s11, s12, s13, s14, s15, s16, s17, s18, s19, s20, s21, s22, s23, s24, s25, s26, s27, s28, s29, s30, s31, s32, s33, s34, s35, s36, s37], defers := [] } V := by
  have HQ := hide hQ
  clear hQ
  conv => arg 2; whnf
  refine wp_region_inv2 (fun Lb A W => ∃ (u0 u1 u2 u3 u4 u5 u6 : Bool) (n4 : Nat), Lb = #[u0, u1, u2, u3, u4, u5, u6] ∧ A = ({ tmps := #[.pointer (some ⟨b, 0, none⟩), s1, s2, (bif u5 then .int .i64 (i : Int) else s3), (bif u4 then .pointer (some ⟨n4, 0, none⟩) else s4), s5, s6, .pointer (some ⟨b, 0, none⟩), s8, .int .i64 (i : Int), s10, (bif u0 then .int .i64 (i : Int) else s11), (bif u1 then .pointer (some ⟨b, 0, none⟩) else s12), (bif u2 then .pointer (some ⟨b, i * 2, none⟩) else s13), (bif u3 then .agg #[.int .i64 (x), .int .i64 (y)] else s14), s15, s16, s17, s18, s19, s20, s21, s22, s23, s24, s25, s26, s27, s28, s29, s30, s31, s32, s33, s34, s35, s36, s37], defers := [] } : Act) ∧ Below V.heap.size V W ∧ (u4 = true → cb W n4 30 (bif u6 then [.int .i64 (x), .int .i64 (y)] else [.int .i64 (0), .int .i64 (0)]) ∧ V.heap.size ≤ n4) ∧ (u2 = true → u1 = true) ∧ (u3 = true → u2 = true) ∧ (u5 = true → u0 = true ∧ u4 = true) ∧ (u6 = true → u0 = true ∧ u1 = true ∧ u2 = true ∧ u3 = true ∧ u4 = true ∧ u5 = true)) (by kernel_rfl) (by kernel_rfl) ?h0 ?hstep ?hend
  case h0 =>
    exact ⟨false, false, false, false, false, false, false, 0, rfl, rfl, Below.drew (Below.refl _ _), (fun h => nomatch h), (fun h => nomatch h), (fun h => nomatch h), (fun h => nomatch h), (fun h => nomatch h)⟩
  case hstep =>
    intro Lb A W hI
    obtain ⟨u0, hI⟩ := hI
    obtain ⟨u1, hI⟩ := hI
    obtain ⟨u2, hI⟩ := hI
    obtain ⟨u3, hI⟩ := hI
    obtain ⟨u4, hI⟩ := hI
    obtain ⟨u5, hI⟩ := hI
    obtain ⟨u6, hI⟩ := hI
    obtain ⟨n4, hI⟩ := hI
    obtain ⟨hLb, hI⟩ := hI
    obtain ⟨hA, hI⟩ := hI
    obtain ⟨kB, hI⟩ := hI
    obtain ⟨k4, hI⟩ := hI
    obtain ⟨c2, hI⟩ := hI
    obtain ⟨c3, hI⟩ := hI
    obtain ⟨c5, hI⟩ := hI
    have kF := hI
    clear hI
    subst hLb
    subst hA
    have H_kB := hide kB
    have H_k4 := hide k4
    have H_c2 := hide c2
    have H_c3 := hide c3
    have H_c5 := hide c5
    have H_kF := hide kF
    clear kB k4 c2 c3 c5 kF
    refine ⟨?_, ?_, ?_, ?_, ?_, ?_, ?_, trivial⟩
    · intro h0 hd K hK
      have z : u0 = false := h0
      have z6_ : u6 = false := by
        cases hu : u6 with
        | false => rfl
        | true => exact nomatch z.symm.trans ((unhide H_kF hu).1)
      subst z6_
      subst z
      clear h0 hd
      rw [if_pos (by rfl)]
      go_simp
      exact unhide hK _ _ ⟨true, u1, u2, u3, u4, u5, false, n4, rfl, rfl, unhide H_kB, unhide H_k4, unhide H_c2, unhide H_c3, (fun h => ⟨rfl, (unhide H_c5 h).2⟩), (fun h => nomatch h)⟩
    · intro h0 hd K hK
      have z : u1 = false := h0
      have z6_ : u6 = false := by
        cases hu : u6 with
        | false => rfl
        | true => exact nomatch z.symm.trans ((unhide H_kF hu).2.1)
      subst z6_
      subst z
      clear h0 hd
      rw [if_pos (by rfl)]
      go_simp
      exact unhide hK _ _ ⟨u0, true, u2, u3, u4, u5, false, n4, rfl, rfl, unhide H_kB, unhide H_k4, (fun h => rfl), unhide H_c3, unhide H_c5, (fun h => nomatch h)⟩
    · intro h0 hd K hK
      have z : u2 = false := h0
      have z6_ : u6 = false := by
        cases hu : u6 with
        | false => rfl
        | true => exact nomatch z.symm.trans ((unhide H_kF hu).2.2.1)
      have zd : u1 = true := by
        simp [Region.binds] at hd
        simp [hd]
      obtain ⟨rfl⟩ := zd
      subst z6_
      subst z
      clear h0 hd
      rw [if_pos (by rfl)]
      have q1 := unhide HX2
      have q2 : (i : Int) < 3 := by omega
      go_simp
      exact unhide hK _ _ ⟨u0, true, true, u3, u4, u5, false, n4, rfl, rfl, unhide H_kB, unhide H_k4, (fun _ => rfl), (fun h => rfl), unhide H_c5, (fun h => nomatch h)⟩
    · intro h0 hd K hK
      have z : u3 = false := h0
      have z6_ : u6 = false := by
        cases hu : u6 with
        | false => rfl
        | true => exact nomatch z.symm.trans ((unhide H_kF hu).2.2.2.1)
      have zd : u2 = true := by
        simp [Region.binds] at hd
        simp [hd]
      obtain ⟨rfl⟩ := zd
      subst z6_
      subst z
      clear h0 hd
      rw [if_pos (by rfl)]
      have c0 := keep1 (unhide H_kB) (unhide HA0)
      have c1 := keep1 (unhide H_kB) (unhide HA1)
      go_simp
      exact unhide hK _ _ ⟨u0, u1, true, true, u4, u5, false, n4, rfl, rfl, unhide H_kB, unhide H_k4, unhide H_c2, (fun _ => rfl), unhide H_c5, (fun h => nomatch h)⟩
    · intro h0 hd K hK
      have z : u4 = false := h0
      have z6_ : u6 = false := by
        cases hu : u6 with
        | false => rfl
        | true => exact nomatch z.symm.trans ((unhide H_kF hu).2.2.2.2.1)
      subst z6_
      subst z
      clear h0 hd
      rw [if_pos (by rfl)]
      go_simp
      exact unhide hK _ _ ⟨u0, u1, u2, u3, true, u5, false, W.heap.size, rfl, rfl, ba (unhide H_kB) _, (fun _ => ⟨cb_new W 30 _ _ rfl, (unhide H_kB).size⟩), unhide H_c2, unhide H_c3, (fun h => ⟨(unhide H_c5 h).1, rfl⟩), (fun h => nomatch h)⟩
    · intro h0 hd K hK
      have z : u5 = false := h0
      have z6_ : u6 = false := by
        cases hu : u6 with
        | false => rfl
        | true => exact nomatch z.symm.trans ((unhide H_kF hu).2.2.2.2.2)
      have zd : u0 = true ∧ u4 = true := by
        simp [Region.binds] at hd
        simp [hd]
      obtain ⟨rfl, rfl⟩ := zd
      subst z6_
      subst z
      clear h0 hd
      rw [if_pos (by rfl)]
      go_simp
      exact unhide hK _ _ ⟨true, u1, u2, u3, true, true, false, n4, rfl, rfl, unhide H_kB, unhide H_k4, unhide H_c2, unhide H_c3, (fun _ => ⟨rfl, rfl⟩), (fun h => nomatch h)⟩
    · intro h0 hd K hK
      have z : u6 = false := h0
      have zd0 : u4 = true ∧ u3 = true ∧ u5 = true := by
        simp [Region.binds] at hd
        simp [hd]
      have zd : u4 = true ∧ u3 = true ∧ u5 = true ∧ u0 = true ∧ u1 = true ∧ u2 = true := ⟨zd0.1, zd0.2.1, zd0.2.2, (unhide H_c5 zd0.2.2).1, (unhide H_c2 (unhide H_c3 zd0.2.1)), (unhide H_c3 zd0.2.1)⟩
      obtain ⟨rfl, rfl, rfl, rfl, rfl, rfl⟩ := zd
      subst z
      clear h0 hd
      rw [if_pos (by rfl)]
      have v1 := (unhide H_k4 rfl).1
      have g9 := (unhide H_k4 rfl).2
      have fz := v1.frozen
      have q0 := v1.cell (m := 0) rfl
      have q1 := v1.cell (m := 1) rfl
      have HV1 := hide v1
      clear v1
      go_simp
      exact unhide hK _ _ ⟨true, true, true, true, true, true, true, n4, rfl, rfl, (((((unhide H_kB)).setCell (p := ⟨n4, 0, none⟩) g9 _)).setCell (p := ⟨n4, 1, none⟩) g9 _), (fun _ => ⟨(((unhide HV1).set 0 _).set 1 _), g9⟩), (fun _ => rfl), (fun _ => rfl), (fun _ => ⟨rfl, rfl⟩), (fun _ => ⟨rfl, rfl, rfl, rfl, rfl, rfl⟩)⟩
  case hend =>
    intro Lb A W hI
    obtain ⟨u0, hI⟩ := hI
    obtain ⟨u1, hI⟩ := hI
    obtain ⟨u2, hI⟩ := hI
    obtain ⟨u3, hI⟩ := hI
    obtain ⟨u4, hI⟩ := hI
    obtain ⟨u5, hI⟩ := hI
    obtain ⟨u6, hI⟩ := hI
    obtain ⟨n4, hI⟩ := hI
    obtain ⟨hLb, hI⟩ := hI
    obtain ⟨hA, hI⟩ := hI
    obtain ⟨kB, hI⟩ := hI
    obtain ⟨k4, hI⟩ := hI
    obtain ⟨c2, hI⟩ := hI
    obtain ⟨c3, hI⟩ := hI
    obtain ⟨c5, hI⟩ := hI
    have kF := hI
    clear hI
    subst hLb
    subst hA
    intro hL
    have hl : u0 = true ∧ u1 = true ∧ u2 = true ∧ u3 = true ∧ u4 = true ∧ u5 = true ∧ u6 = true := by
      have h2 := congrArg Array.toList hL
      simpa [List.replicate] using h2
    obtain ⟨rfl, rfl, rfl, rfl, rfl, rfl, rfl⟩ := hl
    exact unhide HQ n4 W kB (k4 rfl).1 (k4 rfl).2

set_option maxHeartbeats 4000000 in
set_option maxRecDepth 100000 in
theorem ob4 {s1 s2 s4 s5 s6 s7 s8 s9 s10 s11 s12 s13 s14 s15 s16 s17 s18 s19 s20 s21 s22 s23 s24 s25 s26 s27 s28 s29 s30 s31 s32 s33 s34 s35 s36 s37 : Value} {b i j l : Nat} {x1 y1 x2 y2 p1 p2 : Int} {V : World} {K_ : Act → World → Prop} 
    (HA0 : Hid (V.cell? ⟨b, j * 2, none⟩ = some (.int .i64 (x1)))) (HA1 : Hid (V.cell? ⟨b, j * 2 + 1, none⟩ = some (.int .i64 (y1)))) (HC0 : Hid (V.cell? ⟨b, l * 2, none⟩ = some (.int .i64 (x2)))) (HC1 : Hid (V.cell? ⟨b, l * 2 + 1, none⟩ = some (.int .i64 (y2)))) 
    (HW2 : Hid (IntKind.i64.wrap ((i : Int) + 1) = p1))
    (HW3 : Hid ((p1).tmod (3) = (j : Int)))
    (HX5 : Hid (j < 3))
    (HW9 : Hid (IntKind.i64.wrap ((i : Int) + 2) = p2))
    (HW10 : Hid ((p2).tmod (3) = (l : Int)))
    (HX12 : Hid (l < 3))
    (hQ : ∀ (n14 n15 : Nat) (W1 : World), Below V.heap.size V W1 → cb W1 n14 30 [.int .i64 (x1), .int .i64 (y1)] → V.heap.size ≤ n14 → cb W1 n15 30 [.int .i64 (x2), .int .i64 (y2)] → V.heap.size ≤ n15 → n14 ≠ n15 → K_ { tmps := #[.pointer (some ⟨b, 0, none⟩), s1, s2, .int .i64 (i : Int), s4, .pointer (some ⟨n14, 0, none⟩), .pointer (some ⟨n15, 0, none⟩), s7, s8, s9, s10, s11, s12, s13, s14, .pointer (some ⟨b, 0, none⟩), .int .i64 (i : Int), .int .i64 (p1), .int .i64 (j : Int), .pointer (some ⟨b, 0, none⟩), .pointer (some ⟨b, j * 2, none⟩), .agg #[.int .i64 (x1), .int .i64 (y1)], .pointer (some ⟨b, 0, none⟩), .int .i64 (i : Int), .int .i64 (p2), .int .i64 (l : Int), .pointer (some ⟨b, 0, none⟩), .pointer (some ⟨b, l * 2, none⟩), .agg #[.int .i64 (x2), .int .i64 (y2)], s29, s30, s31, s32, s33, s34, s35, s36, s37], defers := [] } W1) :
    Go.Code.wp Try.prog (rg90 4) (Only K_) { tmps := #[.pointer (some ⟨b, 0, none⟩), s1, s2, .int .i64 (i : Int), s4, s5, s6, s7, s8, s9, s10, s11, s12, s13, s14, s15, s16, s17, s18, s19, s20, s21, s22, s23, s24, s25, s26, s27, s28, s29, s30, s31, s32, s33, s34, s35, s36, s37], defers := [] } V := by
  have HQ := hide hQ
  clear hQ
  conv => arg 2; whnf
  refine wp_region_inv2 (fun Lb A W => ∃ (u0 u1 u2 u3 u4 u5 u6 u7 u8 u9 u10 u11 u12 u13 u14 u15 u16 u17 : Bool) (n14 : Nat) (n15 : Nat), Lb = #[u0, u1, u2, u3, u4, u5, u6, u7, u8, u9, u10, u11, u12, u13, u14, u15, u16, u17] ∧ A = ({ tmps := #[.pointer (some ⟨b, 0, none⟩), s1, s2, .int .i64 (i : Int), s4, (bif u14 then .pointer (some ⟨n14, 0, none⟩) else s5), (bif u15 then .pointer (some ⟨n15, 0, none⟩) else s6), s7, s8, s9, s10, s11, s12, s13, s14, (bif u0 then .pointer (some ⟨b, 0, none⟩) else s15), (bif u1 then .int .i64 (i : Int) else s16), (bif u2 then .int .i64 (p1) else s17), (bif u3 then .int .i64 (j : Int) else s18), (bif u4 then .pointer (some ⟨b, 0, none⟩) else s19), (bif u5 then .pointer (some ⟨b, j * 2, none⟩) else s20), (bif u6 then .agg #[.int .i64 (x1), .int .i64 (y1)] else s21), (bif u7 then .pointer (some ⟨b, 0, none⟩) else s22), (bif u8 then .int .i64 (i : Int) else s23), (bif u9 then .int .i64 (p2) else s24), (bif u10 then .int .i64 (l : Int) else s25), (bif u11 then .pointer (some ⟨b, 0, none⟩) else s26), (bif u12 then .pointer (some ⟨b, l * 2, none⟩) else s27), (bif u13 then .agg #[.int .i64 (x2), .int .i64 (y2)] else s28), s29, s30, s31, s32, s33, s34, s35, s36, s37], defers := [] } : Act) ∧ Below V.heap.size V W ∧ (u14 = true → cb W n14 30 (bif u16 then [.int .i64 (x1), .int .i64 (y1)] else [.int .i64 (0), .int .i64 (0)]) ∧ V.heap.size ≤ n14) ∧ (u15 = true → cb W n15 30 (bif u17 then [.int .i64 (x2), .int .i64 (y2)] else [.int .i64 (0), .int .i64 (0)]) ∧ V.heap.size ≤ n15) ∧ (u14 = true → u15 = true → n14 ≠ n15) ∧ (u2 = true → u1 = true) ∧ (u3 = true → u2 = true) ∧ (u4 = true → u0 = true) ∧ (u5 = true → u4 = true ∧ u3 = true) ∧ (u6 = true → u5 = true) ∧ (u9 = true → u8 = true) ∧ (u10 = true → u9 = true) ∧ (u11 = true → u7 = true) ∧ (u12 = true → u11 = true ∧ u10 = true) ∧ (u13 = true → u12 = true) ∧ (u16 = true → u14 = true ∧ u6 = true ∧ u15 = true) ∧ (u17 = true → u0 = true ∧ u1 = true ∧ u2 = true ∧ u3 = true ∧ u4 = true ∧ u5 = true ∧ u6 = true ∧ u7 = true ∧ u8 = true ∧ u9 = true ∧ u10 = true ∧ u11 = true ∧ u12 = true ∧ u13 = true ∧ u14 = true ∧ u15 = true ∧ u16 = true)) (by kernel_rfl) (by kernel_rfl) ?h0 ?hstep ?hend
  case h0 =>
    exact ⟨false, false, false, false, false, false, false, false, false, false, false, false, false, false, false, false, false, false, 0, 0, rfl, rfl, Below.drew (Below.refl _ _), (fun h => nomatch h), (fun h => nomatch h), (fun h => nomatch h), (fun h => nomatch h), (fun h => nomatch h), (fun h => nomatch h), (fun h => nomatch h), (fun h => nomatch h), (fun h => nomatch h), (fun h => nomatch h), (fun h => nomatch h), (fun h => nomatch h), (fun h => nomatch h), (fun h => nomatch h), (fun h => nomatch h)⟩
  case hstep =>
    intro Lb A W hI
    obtain ⟨u0, hI⟩ := hI
    obtain ⟨u1, hI⟩ := hI
    obtain ⟨u2, hI⟩ := hI
    obtain ⟨u3, hI⟩ := hI
    obtain ⟨u4, hI⟩ := hI
    obtain ⟨u5, hI⟩ := hI
    obtain ⟨u6, hI⟩ := hI
    obtain ⟨u7, hI⟩ := hI
    obtain ⟨u8, hI⟩ := hI
    obtain ⟨u9, hI⟩ := hI
    obtain ⟨u10, hI⟩ := hI
    obtain ⟨u11, hI⟩ := hI
    obtain ⟨u12, hI⟩ := hI
    obtain ⟨u13, hI⟩ := hI
    obtain ⟨u14, hI⟩ := hI
    obtain ⟨u15, hI⟩ := hI
    obtain ⟨u16, hI⟩ := hI
    obtain ⟨u17, hI⟩ := hI
    obtain ⟨n14, hI⟩ := hI
    obtain ⟨n15, hI⟩ := hI
    obtain ⟨hLb, hI⟩ := hI
    obtain ⟨hA, hI⟩ := hI
    obtain ⟨kB, hI⟩ := hI
    obtain ⟨k14, hI⟩ := hI
    obtain ⟨k15, hI⟩ := hI
    obtain ⟨kn14_15, hI⟩ := hI
    obtain ⟨c2, hI⟩ := hI
    obtain ⟨c3, hI⟩ := hI
    obtain ⟨c4, hI⟩ := hI
    obtain ⟨c5, hI⟩ := hI
    obtain ⟨c6, hI⟩ := hI
    obtain ⟨c9, hI⟩ := hI
    obtain ⟨c10, hI⟩ := hI
    obtain ⟨c11, hI⟩ := hI
    obtain ⟨c12, hI⟩ := hI
    obtain ⟨c13, hI⟩ := hI
    obtain ⟨c16, hI⟩ := hI
    have kF := hI
    clear hI
    subst hLb
    subst hA
    have H_kB := hide kB
    have H_k14 := hide k14
    have H_k15 := hide k15
    have H_kn14_15 := hide kn14_15
    have H_c2 := hide c2
    have H_c3 := hide c3
    have H_c4 := hide c4
    have H_c5 := hide c5
    have H_c6 := hide c6
    have H_c9 := hide c9
    have H_c10 := hide c10
    have H_c11 := hide c11
    have H_c12 := hide c12
    have H_c13 := hide c13
    have H_c16 := hide c16
    have H_kF := hide kF
    clear kB k14 k15 kn14_15 c2 c3 c4 c5 c6 c9 c10 c11 c12 c13 c16 kF
    refine ⟨?_, ?_, ?_, ?_, ?_, ?_, ?_, ?_, ?_, ?_, ?_, ?_, ?_, ?_, ?_, ?_, ?_, ?_, trivial⟩
    · intro h0 hd K hK
      have z : u0 = false := h0
      have z17_ : u17 = false := by
        cases hu : u17 with
        | false => rfl
        | true => exact nomatch z.symm.trans ((unhide H_kF hu).1)
      have z16_ : u16 = false := by
        cases hu : u16 with
        | false => rfl
        | true => exact nomatch z.symm.trans ((unhide H_c4 (unhide H_c5 (unhide H_c6 (unhide H_c16 hu).2.1)).1))
      subst z17_
      subst z16_
      subst z
      clear h0 hd
      rw [if_pos (by rfl)]
      go_simp
      exact unhide hK _ _ ⟨true, u1, u2, u3, u4, u5, u6, u7, u8, u9, u10, u11, u12, u13, u14, u15, false, false, n14, n15, rfl, rfl, unhide H_kB, unhide H_k14, unhide H_k15, unhide H_kn14_15, unhide H_c2, unhide H_c3, (fun h => rfl), unhide H_c5, unhide H_c6, unhide H_c9, unhide H_c10, unhide H_c11, unhide H_c12, unhide H_c13, (fun h => nomatch h), (fun h => nomatch h)⟩
    · intro h0 hd K hK
      have z : u1 = false := h0
      have z17_ : u17 = false := by
        cases hu : u17 with
        | false => rfl
        | true => exact nomatch z.symm.trans ((unhide H_kF hu).2.1)
      have z16_ : u16 = false := by
        cases hu : u16 with
        | false => rfl
        | true => exact nomatch z.symm.trans ((unhide H_c2 (unhide H_c3 (unhide H_c5 (unhide H_c6 (unhide H_c16 hu).2.1)).2)))
      subst z17_
      subst z16_
      subst z
      clear h0 hd
      rw [if_pos (by rfl)]
      go_simp
      exact unhide hK _ _ ⟨u0, true, u2, u3, u4, u5, u6, u7, u8, u9, u10, u11, u12, u13, u14, u15, false, false, n14, n15, rfl, rfl, unhide H_kB, unhide H_k14, unhide H_k15, unhide H_kn14_15, (fun h => rfl), unhide H_c3, unhide H_c4, unhide H_c5, unhide H_c6, unhide H_c9, unhide H_c10, unhide H_c11, unhide H_c12, unhide H_c13, (fun h => nomatch h), (fun h => nomatch h)⟩
    · intro h0 hd K hK
      have z : u2 = false := h0
      have z17_ : u17 = false := by
        cases hu : u17 with
        | false => rfl
        | true => exact nomatch z.symm.trans ((unhide H_kF hu).2.2.1)
      have z16_ : u16 = false := by
        cases hu : u16 with
        | false => rfl
        | true => exact nomatch z.symm.trans ((unhide H_c3 (unhide H_c5 (unhide H_c6 (unhide H_c16 hu).2.1)).2))
      have zd : u1 = true := by
        simp [Region.binds] at hd
        simp [hd]
      obtain ⟨rfl⟩ := zd
      subst z17_
      subst z16_
      subst z
      clear h0 hd
      rw [if_pos (by rfl)]
      have wq := unhide HW2
      go_simp
      exact unhide hK _ _ ⟨u0, true, true, u3, u4, u5, u6, u7, u8, u9, u10, u11, u12, u13, u14, u15, false, false, n14, n15, rfl, rfl, unhide H_kB, unhide H_k14, unhide H_k15, unhide H_kn14_15, (fun _ => rfl), (fun h => rfl), unhide H_c4, unhide H_c5, unhide H_c6, unhide H_c9, unhide H_c10, unhide H_c11, unhide H_c12, unhide H_c13, (fun h => nomatch h), (fun h => nomatch h)⟩
    · intro h0 hd K hK
      have z : u3 = false := h0
      have z17_ : u17 = false := by
        cases hu : u17 with
        | false => rfl
        | true => exact nomatch z.symm.trans ((unhide H_kF hu).2.2.2.1)
      have z16_ : u16 = false := by
        cases hu : u16 with
        | false => rfl
        | true => exact nomatch z.symm.trans ((unhide H_c5 (unhide H_c6 (unhide H_c16 hu).2.1)).2)
      have zd : u2 = true := by
        simp [Region.binds] at hd
        simp [hd]
      obtain ⟨rfl⟩ := zd
      subst z17_
      subst z16_
      subst z
      clear h0 hd
      rw [if_pos (by rfl)]
      have wq := unhide HW3
      go_simp
      exact unhide hK _ _ ⟨u0, u1, true, true, u4, u5, u6, u7, u8, u9, u10, u11, u12, u13, u14, u15, false, false, n14, n15, rfl, rfl, unhide H_kB, unhide H_k14, unhide H_k15, unhide H_kn14_15, unhide H_c2, (fun _ => rfl), unhide H_c4, (fun h => ⟨(unhide H_c5 h).1, rfl⟩), unhide H_c6, unhide H_c9, unhide H_c10, unhide H_c11, unhide H_c12, unhide H_c13, (fun h => nomatch h), (fun h => nomatch h)⟩
    · intro h0 hd K hK
      have z : u4 = false := h0
      have z17_ : u17 = false := by
        cases hu : u17 with
        | false => rfl
        | true => exact nomatch z.symm.trans ((unhide H_kF hu).2.2.2.2.1)
      have z16_ : u16 = false := by
        cases hu : u16 with
        | false => rfl
        | true => exact nomatch z.symm.trans ((unhide H_c5 (unhide H_c6 (unhide H_c16 hu).2.1)).1)
      have zd : u0 = true := by
        simp [Region.binds] at hd
        simp [hd]
      obtain ⟨rfl⟩ := zd
      subst z17_
      subst z16_
      subst z
      clear h0 hd
      rw [if_pos (by rfl)]
      go_simp
      exact unhide hK _ _ ⟨true, u1, u2, u3, true, u5, u6, u7, u8, u9, u10, u11, u12, u13, u14, u15, false, false, n14, n15, rfl, rfl, unhide H_kB, unhide H_k14, unhide H_k15, unhide H_kn14_15, unhide H_c2, unhide H_c3, (fun _ => rfl), (fun h => ⟨rfl, (unhide H_c5 h).2⟩), unhide H_c6, unhide H_c9, unhide H_c10, unhide H_c11, unhide H_c12, unhide H_c13, (fun h => nomatch h), (fun h => nomatch h)⟩
    · intro h0 hd K hK
      have z : u5 = false := h0
      have z17_ : u17 = false := by
        cases hu : u17 with
        | false => rfl
        | true => exact nomatch z.symm.trans ((unhide H_kF hu).2.2.2.2.2.1)
      have z16_ : u16 = false := by
        cases hu : u16 with
        | false => rfl
        | true => exact nomatch z.symm.trans ((unhide H_c6 (unhide H_c16 hu).2.1))
      have zd : u4 = true ∧ u3 = true := by
        simp [Region.binds] at hd
        simp [hd]
      obtain ⟨rfl, rfl⟩ := zd
      subst z17_
      subst z16_
      subst z
      clear h0 hd
      rw [if_pos (by rfl)]
      have q1 := unhide HX5
      have q2 : (j : Int) < 3 := by omega
      go_simp
      exact unhide hK _ _ ⟨u0, u1, u2, true, true, true, u6, u7, u8, u9, u10, u11, u12, u13, u14, u15, false, false, n14, n15, rfl, rfl, unhide H_kB, unhide H_k14, unhide H_k15, unhide H_kn14_15, unhide H_c2, unhide H_c3, unhide H_c4, (fun _ => ⟨rfl, rfl⟩), (fun h => rfl), unhide H_c9, unhide H_c10, unhide H_c11, unhide H_c12, unhide H_c13, (fun h => nomatch h), (fun h => nomatch h)⟩
    · intro h0 hd K hK
      have z : u6 = false := h0
      have z17_ : u17 = false := by
        cases hu : u17 with
        | false => rfl
        | true => exact nomatch z.symm.trans ((unhide H_kF hu).2.2.2.2.2.2.1)
      have z16_ : u16 = false := by
        cases hu : u16 with
        | false => rfl
        | true => exact nomatch z.symm.trans ((unhide H_c16 hu).2.1)
      have zd : u5 = true := by
        simp [Region.binds] at hd
        simp [hd]
      obtain ⟨rfl⟩ := zd
      subst z17_
      subst z16_
      subst z
      clear h0 hd
      rw [if_pos (by rfl)]
      have c0 := keep1 (unhide H_kB) (unhide HA0)
      have c1 := keep1 (unhide H_kB) (unhide HA1)
      go_simp
      exact unhide hK _ _ ⟨u0, u1, u2, u3, u4, true, true, u7, u8, u9, u10, u11, u12, u13, u14, u15, false, false, n14, n15, rfl, rfl, unhide H_kB, unhide H_k14, unhide H_k15, unhide H_kn14_15, unhide H_c2, unhide H_c3, unhide H_c4, unhide H_c5, (fun _ => rfl), unhide H_c9, unhide H_c10, unhide H_c11, unhide H_c12, unhide H_c13, (fun h => nomatch h), (fun h => nomatch h)⟩
    · intro h0 hd K hK
      have z : u7 = false := h0
      have z17_ : u17 = false := by
        cases hu : u17 with
        | false => rfl
        | true => exact nomatch z.symm.trans ((unhide H_kF hu).2.2.2.2.2.2.2.1)
      subst z17_
      subst z
      clear h0 hd
      rw [if_pos (by rfl)]
      go_simp
      exact unhide hK _ _ ⟨u0, u1, u2, u3, u4, u5, u6, true, u8, u9, u10, u11, u12, u13, u14, u15, u16, false, n14, n15, rfl, rfl, unhide H_kB, unhide H_k14, unhide H_k15, unhide H_kn14_15, unhide H_c2, unhide H_c3, unhide H_c4, unhide H_c5, unhide H_c6, unhide H_c9, unhide H_c10, (fun h => rfl), unhide H_c12, unhide H_c13, unhide H_c16, (fun h => nomatch h)⟩
    · intro h0 hd K hK
      have z : u8 = false := h0
      have z17_ : u17 = false := by
        cases hu : u17 with
        | false => rfl
        | true => exact nomatch z.symm.trans ((unhide H_kF hu).2.2.2.2.2.2.2.2.1)
      subst z17_
      subst z
      clear h0 hd
      rw [if_pos (by rfl)]
      go_simp
      exact unhide hK _ _ ⟨u0, u1, u2, u3, u4, u5, u6, u7, true, u9, u10, u11, u12, u13, u14, u15, u16, false, n14, n15, rfl, rfl, unhide H_kB, unhide H_k14, unhide H_k15, unhide H_kn14_15, unhide H_c2, unhide H_c3, unhide H_c4, unhide H_c5, unhide H_c6, (fun h => rfl), unhide H_c10, unhide H_c11, unhide H_c12, unhide H_c13, unhide H_c16, (fun h => nomatch h)⟩
    · intro h0 hd K hK
      have z : u9 = false := h0
      have z17_ : u17 = false := by
        cases hu : u17 with
        | false => rfl
        | true => exact nomatch z.symm.trans ((unhide H_kF hu).2.2.2.2.2.2.2.2.2.1)
      have zd : u8 = true := by
        simp [Region.binds] at hd
        simp [hd]
      obtain ⟨rfl⟩ := zd
      subst z17_
      subst z
      clear h0 hd
      rw [if_pos (by rfl)]
      have wq := unhide HW9
      go_simp
      exact unhide hK _ _ ⟨u0, u1, u2, u3, u4, u5, u6, u7, true, true, u10, u11, u12, u13, u14, u15, u16, false, n14, n15, rfl, rfl, unhide H_kB, unhide H_k14, unhide H_k15, unhide H_kn14_15, unhide H_c2, unhide H_c3, unhide H_c4, unhide H_c5, unhide H_c6, (fun _ => rfl), (fun h => rfl), unhide H_c11, unhide H_c12, unhide H_c13, unhide H_c16, (fun h => nomatch h)⟩
    · intro h0 hd K hK
      have z : u10 = false := h0
      have z17_ : u17 = false := by
        cases hu : u17 with
        | false => rfl
        | true => exact nomatch z.symm.trans ((unhide H_kF hu).2.2.2.2.2.2.2.2.2.2.1)
      have zd : u9 = true := by
        simp [Region.binds] at hd
        simp [hd]
      obtain ⟨rfl⟩ := zd
      subst z17_
      subst z
      clear h0 hd
      rw [if_pos (by rfl)]
      have wq := unhide HW10
      go_simp
      exact unhide hK _ _ ⟨u0, u1, u2, u3, u4, u5, u6, u7, u8, true, true, u11, u12, u13, u14, u15, u16, false, n14, n15, rfl, rfl, unhide H_kB, unhide H_k14, unhide H_k15, unhide H_kn14_15, unhide H_c2, unhide H_c3, unhide H_c4, unhide H_c5, unhide H_c6, unhide H_c9, (fun _ => rfl), unhide H_c11, (fun h => ⟨(unhide H_c12 h).1, rfl⟩), unhide H_c13, unhide H_c16, (fun h => nomatch h)⟩
    · intro h0 hd K hK
      have z : u11 = false := h0
      have z17_ : u17 = false := by
        cases hu : u17 with
        | false => rfl
        | true => exact nomatch z.symm.trans ((unhide H_kF hu).2.2.2.2.2.2.2.2.2.2.2.1)
      have zd : u7 = true := by
        simp [Region.binds] at hd
        simp [hd]
      obtain ⟨rfl⟩ := zd
      subst z17_
      subst z
      clear h0 hd
      rw [if_pos (by rfl)]
      go_simp
      exact unhide hK _ _ ⟨u0, u1, u2, u3, u4, u5, u6, true, u8, u9, u10, true, u12, u13, u14, u15, u16, false, n14, n15, rfl, rfl, unhide H_kB, unhide H_k14, unhide H_k15, unhide H_kn14_15, unhide H_c2, unhide H_c3, unhide H_c4, unhide H_c5, unhide H_c6, unhide H_c9, unhide H_c10, (fun _ => rfl), (fun h => ⟨rfl, (unhide H_c12 h).2⟩), unhide H_c13, unhide H_c16, (fun h => nomatch h)⟩
    · intro h0 hd K hK
      have z : u12 = false := h0
      have z17_ : u17 = false := by
        cases hu : u17 with
        | false => rfl
        | true => exact nomatch z.symm.trans ((unhide H_kF hu).2.2.2.2.2.2.2.2.2.2.2.2.1)
      have zd : u11 = true ∧ u10 = true := by
        simp [Region.binds] at hd
        simp [hd]
      obtain ⟨rfl, rfl⟩ := zd
      subst z17_
      subst z
      clear h0 hd
      rw [if_pos (by rfl)]
      have q1 := unhide HX12
      have q2 : (l : Int) < 3 := by omega
      go_simp
      exact unhide hK _ _ ⟨u0, u1, u2, u3, u4, u5, u6, u7, u8, u9, true, true, true, u13, u14, u15, u16, false, n14, n15, rfl, rfl, unhide H_kB, unhide H_k14, unhide H_k15, unhide H_kn14_15, unhide H_c2, unhide H_c3, unhide H_c4, unhide H_c5, unhide H_c6, unhide H_c9, unhide H_c10, unhide H_c11, (fun _ => ⟨rfl, rfl⟩), (fun h => rfl), unhide H_c16, (fun h => nomatch h)⟩
    · intro h0 hd K hK
      have z : u13 = false := h0
      have z17_ : u17 = false := by
        cases hu : u17 with
        | false => rfl
        | true => exact nomatch z.symm.trans ((unhide H_kF hu).2.2.2.2.2.2.2.2.2.2.2.2.2.1)
      have zd : u12 = true := by
        simp [Region.binds] at hd
        simp [hd]
      obtain ⟨rfl⟩ := zd
      subst z17_
      subst z
      clear h0 hd
      rw [if_pos (by rfl)]
      have c0 := keep1 (unhide H_kB) (unhide HC0)
      have c1 := keep1 (unhide H_kB) (unhide HC1)
      go_simp
      exact unhide hK _ _ ⟨u0, u1, u2, u3, u4, u5, u6, u7, u8, u9, u10, u11, true, true, u14, u15, u16, false, n14, n15, rfl, rfl, unhide H_kB, unhide H_k14, unhide H_k15, unhide H_kn14_15, unhide H_c2, unhide H_c3, unhide H_c4, unhide H_c5, unhide H_c6, unhide H_c9, unhide H_c10, unhide H_c11, unhide H_c12, (fun _ => rfl), unhide H_c16, (fun h => nomatch h)⟩
    · intro h0 hd K hK
      have z : u14 = false := h0
      have z17_ : u17 = false := by
        cases hu : u17 with
        | false => rfl
        | true => exact nomatch z.symm.trans ((unhide H_kF hu).2.2.2.2.2.2.2.2.2.2.2.2.2.2.1)
      have z16_ : u16 = false := by
        cases hu : u16 with
        | false => rfl
        | true => exact nomatch z.symm.trans ((unhide H_c16 hu).1)
      subst z17_
      subst z16_
      subst z
      clear h0 hd
      rw [if_pos (by rfl)]
      go_simp
      exact unhide hK _ _ ⟨u0, u1, u2, u3, u4, u5, u6, u7, u8, u9, u10, u11, u12, u13, true, u15, false, false, W.heap.size, n15, rfl, rfl, ba (unhide H_kB) _, (fun _ => ⟨cb_new W 30 _ _ rfl, (unhide H_kB).size⟩), (fun h => ⟨(unhide H_k15 h).1.bel (ba (Below.refl _ _) _), (unhide H_k15 h).2⟩), (fun _ h => by have := (unhide H_k15 h).1.lt; omega), unhide H_c2, unhide H_c3, unhide H_c4, unhide H_c5, unhide H_c6, unhide H_c9, unhide H_c10, unhide H_c11, unhide H_c12, unhide H_c13, (fun h => nomatch h), (fun h => nomatch h)⟩
    · intro h0 hd K hK
      have z : u15 = false := h0
      have z17_ : u17 = false := by
        cases hu : u17 with
        | false => rfl
        | true => exact nomatch z.symm.trans ((unhide H_kF hu).2.2.2.2.2.2.2.2.2.2.2.2.2.2.2.1)
      have z16_ : u16 = false := by
        cases hu : u16 with
        | false => rfl
        | true => exact nomatch z.symm.trans ((unhide H_c16 hu).2.2)
      subst z17_
      subst z16_
      subst z
      clear h0 hd
      rw [if_pos (by rfl)]
      go_simp
      exact unhide hK _ _ ⟨u0, u1, u2, u3, u4, u5, u6, u7, u8, u9, u10, u11, u12, u13, u14, true, false, false, n14, W.heap.size, rfl, rfl, ba (unhide H_kB) _, (fun h => ⟨(unhide H_k14 h).1.bel (ba (Below.refl _ _) _), (unhide H_k14 h).2⟩), (fun _ => ⟨cb_new W 30 _ _ rfl, (unhide H_kB).size⟩), (fun h _ => by have := (unhide H_k14 h).1.lt; omega), unhide H_c2, unhide H_c3, unhide H_c4, unhide H_c5, unhide H_c6, unhide H_c9, unhide H_c10, unhide H_c11, unhide H_c12, unhide H_c13, (fun h => nomatch h), (fun h => nomatch h)⟩
    · intro h0 hd K hK
      have z : u16 = false := h0
      have z17_ : u17 = false := by
        cases hu : u17 with
        | false => rfl
        | true => exact nomatch z.symm.trans ((unhide H_kF hu).2.2.2.2.2.2.2.2.2.2.2.2.2.2.2.2)
      have zd : u14 = true ∧ u6 = true ∧ u15 = true := by
        simp [Region.binds] at hd
        simp [hd]
      obtain ⟨rfl, rfl, rfl⟩ := zd
      subst z17_
      subst z
      clear h0 hd
      rw [if_pos (by rfl)]
      have v1 := (unhide H_k14 rfl).1
      have g9 := (unhide H_k14 rfl).2
      have fz := v1.frozen
      have q0 := v1.cell (m := 0) rfl
      have q1 := v1.cell (m := 1) rfl
      have HV1 := hide v1
      clear v1
      go_simp
      exact unhide hK _ _ ⟨u0, u1, u2, u3, u4, u5, true, u7, u8, u9, u10, u11, u12, u13, true, true, true, false, n14, n15, rfl, rfl, (((((unhide H_kB)).setCell (p := ⟨n14, 0, none⟩) g9 _)).setCell (p := ⟨n14, 1, none⟩) g9 _), (fun _ => ⟨(((unhide HV1).set 0 _).set 1 _), g9⟩), (fun h => ⟨(((unhide H_k15 h).1.ne (fun e => unhide H_kn14_15 rfl h e.symm)).ne (fun e => unhide H_kn14_15 rfl h e.symm)), (unhide H_k15 h).2⟩), unhide H_kn14_15, unhide H_c2, unhide H_c3, unhide H_c4, unhide H_c5, unhide H_c6, unhide H_c9, unhide H_c10, unhide H_c11, unhide H_c12, unhide H_c13, (fun _ => ⟨rfl, rfl, rfl⟩), (fun h => nomatch h)⟩
    · intro h0 hd K hK
      have z : u17 = false := h0
      have zd0 : u15 = true ∧ u13 = true ∧ u16 = true := by
        simp [Region.binds] at hd
        simp [hd]
      have zd : u15 = true ∧ u13 = true ∧ u16 = true ∧ u0 = true ∧ u1 = true ∧ u2 = true ∧ u3 = true ∧ u4 = true ∧ u5 = true ∧ u6 = true ∧ u7 = true ∧ u8 = true ∧ u9 = true ∧ u10 = true ∧ u11 = true ∧ u12 = true ∧ u14 = true := ⟨zd0.1, zd0.2.1, zd0.2.2, (unhide H_c4 (unhide H_c5 (unhide H_c6 (unhide H_c16 zd0.2.2).2.1)).1), (unhide H_c2 (unhide H_c3 (unhide H_c5 (unhide H_c6 (unhide H_c16 zd0.2.2).2.1)).2)), (unhide H_c3 (unhide H_c5 (unhide H_c6 (unhide H_c16 zd0.2.2).2.1)).2), (unhide H_c5 (unhide H_c6 (unhide H_c16 zd0.2.2).2.1)).2, (unhide H_c5 (unhide H_c6 (unhide H_c16 zd0.2.2).2.1)).1, (unhide H_c6 (unhide H_c16 zd0.2.2).2.1), (unhide H_c16 zd0.2.2).2.1, (unhide H_c11 (unhide H_c12 (unhide H_c13 zd0.2.1)).1), (unhide H_c9 (unhide H_c10 (unhide H_c12 (unhide H_c13 zd0.2.1)).2)), (unhide H_c10 (unhide H_c12 (unhide H_c13 zd0.2.1)).2), (unhide H_c12 (unhide H_c13 zd0.2.1)).2, (unhide H_c12 (unhide H_c13 zd0.2.1)).1, (unhide H_c13 zd0.2.1), (unhide H_c16 zd0.2.2).1⟩
      obtain ⟨rfl, rfl, rfl, rfl, rfl, rfl, rfl, rfl, rfl, rfl, rfl, rfl, rfl, rfl, rfl, rfl, rfl⟩ := zd
      subst z
      clear h0 hd
      rw [if_pos (by rfl)]
      have v1 := (unhide H_k15 rfl).1
      have g9 := (unhide H_k15 rfl).2
      have fz := v1.frozen
      have q0 := v1.cell (m := 0) rfl
      have q1 := v1.cell (m := 1) rfl
      have HV1 := hide v1
      clear v1
      go_simp
      exact unhide hK _ _ ⟨true, true, true, true, true, true, true, true, true, true, true, true, true, true, true, true, true, true, n14, n15, rfl, rfl, (((((unhide H_kB)).setCell (p := ⟨n15, 0, none⟩) g9 _)).setCell (p := ⟨n15, 1, none⟩) g9 _), (fun h => ⟨(((unhide H_k14 h).1.ne (unhide H_kn14_15 h rfl)).ne (unhide H_kn14_15 h rfl)), (unhide H_k14 h).2⟩), (fun _ => ⟨(((unhide HV1).set 0 _).set 1 _), g9⟩), unhide H_kn14_15, (fun _ => rfl), (fun _ => rfl), (fun _ => rfl), (fun _ => ⟨rfl, rfl⟩), (fun _ => rfl), (fun _ => rfl), (fun _ => rfl), (fun _ => rfl), (fun _ => ⟨rfl, rfl⟩), (fun _ => rfl), (fun _ => ⟨rfl, rfl, rfl⟩), (fun _ => ⟨rfl, rfl, rfl, rfl, rfl, rfl, rfl, rfl, rfl, rfl, rfl, rfl, rfl, rfl, rfl, rfl, rfl⟩)⟩
  case hend =>
    intro Lb A W hI
    obtain ⟨u0, hI⟩ := hI
    obtain ⟨u1, hI⟩ := hI
    obtain ⟨u2, hI⟩ := hI
    obtain ⟨u3, hI⟩ := hI
    obtain ⟨u4, hI⟩ := hI
    obtain ⟨u5, hI⟩ := hI
    obtain ⟨u6, hI⟩ := hI
    obtain ⟨u7, hI⟩ := hI
    obtain ⟨u8, hI⟩ := hI
    obtain ⟨u9, hI⟩ := hI
    obtain ⟨u10, hI⟩ := hI
    obtain ⟨u11, hI⟩ := hI
    obtain ⟨u12, hI⟩ := hI
    obtain ⟨u13, hI⟩ := hI
    obtain ⟨u14, hI⟩ := hI
    obtain ⟨u15, hI⟩ := hI
    obtain ⟨u16, hI⟩ := hI
    obtain ⟨u17, hI⟩ := hI
    obtain ⟨n14, hI⟩ := hI
    obtain ⟨n15, hI⟩ := hI
    obtain ⟨hLb, hI⟩ := hI
    obtain ⟨hA, hI⟩ := hI
    obtain ⟨kB, hI⟩ := hI
    obtain ⟨k14, hI⟩ := hI
    obtain ⟨k15, hI⟩ := hI
    obtain ⟨kn14_15, hI⟩ := hI
    obtain ⟨c2, hI⟩ := hI
    obtain ⟨c3, hI⟩ := hI
    obtain ⟨c4, hI⟩ := hI
    obtain ⟨c5, hI⟩ := hI
    obtain ⟨c6, hI⟩ := hI
    obtain ⟨c9, hI⟩ := hI
    obtain ⟨c10, hI⟩ := hI
    obtain ⟨c11, hI⟩ := hI
    obtain ⟨c12, hI⟩ := hI
    obtain ⟨c13, hI⟩ := hI
    obtain ⟨c16, hI⟩ := hI
    have kF := hI
    clear hI
    subst hLb
    subst hA
    intro hL
    have hl : u0 = true ∧ u1 = true ∧ u2 = true ∧ u3 = true ∧ u4 = true ∧ u5 = true ∧ u6 = true ∧ u7 = true ∧ u8 = true ∧ u9 = true ∧ u10 = true ∧ u11 = true ∧ u12 = true ∧ u13 = true ∧ u14 = true ∧ u15 = true ∧ u16 = true ∧ u17 = true := by
      have h2 := congrArg Array.toList hL
      simpa [List.replicate] using h2
    obtain ⟨rfl, rfl, rfl, rfl, rfl, rfl, rfl, rfl, rfl, rfl, rfl, rfl, rfl, rfl, rfl, rfl, rfl, rfl⟩ := hl
    exact unhide HQ n14 n15 W kB (k14 rfl).1 (k14 rfl).2 (k15 rfl).1 (k15 rfl).2 (kn14_15 rfl rfl)

set_option maxHeartbeats 4000000 in
set_option maxRecDepth 100000 in
theorem ob5 {s0 s1 s2 s3 s7 s8 s9 s10 s11 s12 s13 s14 s15 s16 s17 s18 s19 s20 s21 s22 s23 s24 s25 s26 s27 s28 s29 s30 s31 s32 s33 s34 s35 s36 s37 : Value} {b4 b5 b6 : Nat} {x y x1 y1 x2 y2 e1 e2 f1 f2 r : Int} {V : World} {K_ : Act → World → Prop} 
    (H40 : Hid (V.cell? ⟨b4, 0, none⟩ = some (.int .i64 (x)))) (H41 : Hid (V.cell? ⟨b4, 1, none⟩ = some (.int .i64 (y)))) (H50 : Hid (V.cell? ⟨b5, 0, none⟩ = some (.int .i64 (x1)))) (H51 : Hid (V.cell? ⟨b5, 1, none⟩ = some (.int .i64 (y1)))) (H60 : Hid (V.cell? ⟨b6, 0, none⟩ = some (.int .i64 (x2)))) (H61 : Hid (V.cell? ⟨b6, 1, none⟩ = some (.int .i64 (y2)))) 
    (HF2 : Hid (∀ Xw, Below V.heap.size V Xw → Calls Try.prog 52 #[.agg #[.int .i64 (x1), .int .i64 (y1)], .agg #[.int .i64 (x), .int .i64 (y)]] Xw fun e w' => e = .returned (.agg #[.int .i64 (e1), .int .i64 (e2)]) ∧ Below Xw.heap.size Xw w'))
    (HF5 : Hid (∀ Xw, Below V.heap.size V Xw → Calls Try.prog 52 #[.agg #[.int .i64 (x2), .int .i64 (y2)], .agg #[.int .i64 (x), .int .i64 (y)]] Xw fun e w' => e = .returned (.agg #[.int .i64 (f1), .int .i64 (f2)]) ∧ Below Xw.heap.size Xw w'))
    (HF6 : Hid (∀ Xw, Below V.heap.size V Xw → Calls Try.prog 54 #[.agg #[.int .i64 (e1), .int .i64 (e2)], .agg #[.int .i64 (f1), .int .i64 (f2)]] Xw fun e w' => e = .returned (.int .i64 (r)) ∧ Below Xw.heap.size Xw w'))
    (hQ : ∀ (W1 : World), Below V.heap.size V W1 → K_ { tmps := #[s0, s1, s2, s3, .pointer (some ⟨b4, 0, none⟩), .pointer (some ⟨b5, 0, none⟩), .pointer (some ⟨b6, 0, none⟩), s7, s8, s9, s10, s11, s12, s13, s14, s15, s16, s17, s18, s19, s20, s21, s22, s23, s24, s25, s26, s27, s28, .agg #[.int .i64 (x1), .int .i64 (y1)], .agg #[.int .i64 (x), .int .i64 (y)], .agg #[.int .i64 (e1), .int .i64 (e2)], .agg #[.int .i64 (x2), .int .i64 (y2)], .agg #[.int .i64 (x), .int .i64 (y)], .agg #[.int .i64 (f1), .int .i64 (f2)], .int .i64 (r), .bool (decide (r < 0)), s37], defers := [] } W1) :
    Go.Code.wp Try.prog (rg90 5) (Only K_) { tmps := #[s0, s1, s2, s3, .pointer (some ⟨b4, 0, none⟩), .pointer (some ⟨b5, 0, none⟩), .pointer (some ⟨b6, 0, none⟩), s7, s8, s9, s10, s11, s12, s13, s14, s15, s16, s17, s18, s19, s20, s21, s22, s23, s24, s25, s26, s27, s28, s29, s30, s31, s32, s33, s34, s35, s36, s37], defers := [] } V := by
  have HQ := hide hQ
  clear hQ
  conv => arg 2; whnf
  refine wp_region_inv2 (fun Lb A W => ∃ (u0 u1 u2 u3 u4 u5 u6 u7 : Bool) (dm : Nat), Lb = #[u0, u1, u2, u3, u4, u5, u6, u7] ∧ A = ({ tmps := #[s0, s1, s2, s3, .pointer (some ⟨b4, 0, none⟩), .pointer (some ⟨b5, 0, none⟩), .pointer (some ⟨b6, 0, none⟩), s7, s8, s9, s10, s11, s12, s13, s14, s15, s16, s17, s18, s19, s20, s21, s22, s23, s24, s25, s26, s27, s28, (bif u0 then .agg #[.int .i64 (x1), .int .i64 (y1)] else s29), (bif u1 then .agg #[.int .i64 (x), .int .i64 (y)] else s30), (bif u2 then .agg #[.int .i64 (e1), .int .i64 (e2)] else s31), (bif u3 then .agg #[.int .i64 (x2), .int .i64 (y2)] else s32), (bif u4 then .agg #[.int .i64 (x), .int .i64 (y)] else s33), (bif u5 then .agg #[.int .i64 (f1), .int .i64 (f2)] else s34), (bif u6 then .int .i64 (r) else s35), (bif u7 then .bool (decide (r < 0)) else s36), s37], defers := [] } : Act) ∧ Below V.heap.size V W ∧ (u2 = true → u0 = true ∧ u1 = true) ∧ (u5 = true → u3 = true ∧ u4 = true ∧ u2 = true) ∧ (u6 = true → u2 = true ∧ u5 = true) ∧ (u7 = true → u0 = true ∧ u1 = true ∧ u2 = true ∧ u3 = true ∧ u4 = true ∧ u5 = true ∧ u6 = true)) (by kernel_rfl) (by kernel_rfl) ?h0 ?hstep ?hend
  case h0 =>
    exact ⟨false, false, false, false, false, false, false, false, 0, rfl, rfl, Below.drew (Below.refl _ _), (fun h => nomatch h), (fun h => nomatch h), (fun h => nomatch h), (fun h => nomatch h)⟩
  case hstep =>
    intro Lb A W hI
    obtain ⟨u0, hI⟩ := hI
    obtain ⟨u1, hI⟩ := hI
    obtain ⟨u2, hI⟩ := hI
    obtain ⟨u3, hI⟩ := hI
    obtain ⟨u4, hI⟩ := hI
    obtain ⟨u5, hI⟩ := hI
    obtain ⟨u6, hI⟩ := hI
    obtain ⟨u7, hI⟩ := hI
    obtain ⟨dm, hI⟩ := hI
    obtain ⟨hLb, hI⟩ := hI
    obtain ⟨hA, hI⟩ := hI
    obtain ⟨kB, hI⟩ := hI
    obtain ⟨c2, hI⟩ := hI
    obtain ⟨c5, hI⟩ := hI
    obtain ⟨c6, hI⟩ := hI
    have kF := hI
    clear hI
    subst hLb
    subst hA
    have H_kB := hide kB
    have H_c2 := hide c2
    have H_c5 := hide c5
    have H_c6 := hide c6
    have H_kF := hide kF
    clear kB c2 c5 c6 kF
    refine ⟨?_, ?_, ?_, ?_, ?_, ?_, ?_, ?_, trivial⟩
    · intro h0 hd K hK
      have z : u0 = false := h0
      have z7_ : u7 = false := by
        cases hu : u7 with
        | false => rfl
        | true => exact nomatch z.symm.trans ((unhide H_kF hu).1)
      subst z7_
      subst z
      clear h0 hd
      rw [if_pos (by rfl)]
      have c0 := keep1 (unhide H_kB) (unhide H50)
      have c1 := keep1 (unhide H_kB) (unhide H51)
      go_simp
      exact unhide hK _ _ ⟨true, u1, u2, u3, u4, u5, u6, false, dm, rfl, rfl, unhide H_kB, (fun h => ⟨rfl, (unhide H_c2 h).2⟩), unhide H_c5, unhide H_c6, (fun h => nomatch h)⟩
    · intro h0 hd K hK
      have z : u1 = false := h0
      have z7_ : u7 = false := by
        cases hu : u7 with
        | false => rfl
        | true => exact nomatch z.symm.trans ((unhide H_kF hu).2.1)
      subst z7_
      subst z
      clear h0 hd
      rw [if_pos (by rfl)]
      have c0 := keep1 (unhide H_kB) (unhide H40)
      have c1 := keep1 (unhide H_kB) (unhide H41)
      go_simp
      exact unhide hK _ _ ⟨u0, true, u2, u3, u4, u5, u6, false, dm, rfl, rfl, unhide H_kB, (fun h => ⟨(unhide H_c2 h).1, rfl⟩), unhide H_c5, unhide H_c6, (fun h => nomatch h)⟩
    · intro h0 hd K hK
      have z : u2 = false := h0
      have z7_ : u7 = false := by
        cases hu : u7 with
        | false => rfl
        | true => exact nomatch z.symm.trans ((unhide H_kF hu).2.2.1)
      have zd : u0 = true ∧ u1 = true := by
        simp [Region.binds] at hd
        simp [hd]
      obtain ⟨rfl, rfl⟩ := zd
      subst z7_
      subst z
      clear h0 hd
      rw [if_pos (by rfl)]
      go_simp
      refine (unhide HF2 W (unhide H_kB)).mono ?_
      rintro e w8 ⟨rfl, hb8⟩
      exact unhide hK _ _ ⟨true, true, true, u3, u4, u5, u6, false, dm, rfl, rfl, bc (unhide H_kB) hb8, (fun _ => ⟨rfl, rfl⟩), (fun h => ⟨(unhide H_c5 h).1, (unhide H_c5 h).2.1, rfl⟩), (fun h => ⟨rfl, (unhide H_c6 h).2⟩), (fun h => nomatch h)⟩
    · intro h0 hd K hK
      have z : u3 = false := h0
      have z7_ : u7 = false := by
        cases hu : u7 with
        | false => rfl
        | true => exact nomatch z.symm.trans ((unhide H_kF hu).2.2.2.1)
      subst z7_
      subst z
      clear h0 hd
      rw [if_pos (by rfl)]
      have c0 := keep1 (unhide H_kB) (unhide H60)
      have c1 := keep1 (unhide H_kB) (unhide H61)
      go_simp
      exact unhide hK _ _ ⟨u0, u1, u2, true, u4, u5, u6, false, dm, rfl, rfl, unhide H_kB, unhide H_c2, (fun h => ⟨rfl, (unhide H_c5 h).2.1, (unhide H_c5 h).2.2⟩), unhide H_c6, (fun h => nomatch h)⟩
    · intro h0 hd K hK
      have z : u4 = false := h0
      have z7_ : u7 = false := by
        cases hu : u7 with
        | false => rfl
        | true => exact nomatch z.symm.trans ((unhide H_kF hu).2.2.2.2.1)
      subst z7_
      subst z
      clear h0 hd
      rw [if_pos (by rfl)]
      have c0 := keep1 (unhide H_kB) (unhide H40)
      have c1 := keep1 (unhide H_kB) (unhide H41)
      go_simp
      exact unhide hK _ _ ⟨u0, u1, u2, u3, true, u5, u6, false, dm, rfl, rfl, unhide H_kB, unhide H_c2, (fun h => ⟨(unhide H_c5 h).1, rfl, (unhide H_c5 h).2.2⟩), unhide H_c6, (fun h => nomatch h)⟩
    · intro h0 hd K hK
      have z : u5 = false := h0
      have z7_ : u7 = false := by
        cases hu : u7 with
        | false => rfl
        | true => exact nomatch z.symm.trans ((unhide H_kF hu).2.2.2.2.2.1)
      have zd : u3 = true ∧ u4 = true ∧ u2 = true := by
        simp [Region.binds] at hd
        simp [hd]
      obtain ⟨rfl, rfl, rfl⟩ := zd
      subst z7_
      subst z
      clear h0 hd
      rw [if_pos (by rfl)]
      go_simp
      refine (unhide HF5 W (unhide H_kB)).mono ?_
      rintro e w8 ⟨rfl, hb8⟩
      exact unhide hK _ _ ⟨u0, u1, true, true, true, true, u6, false, dm, rfl, rfl, bc (unhide H_kB) hb8, unhide H_c2, (fun _ => ⟨rfl, rfl, rfl⟩), (fun h => ⟨rfl, rfl⟩), (fun h => nomatch h)⟩
    · intro h0 hd K hK
      have z : u6 = false := h0
      have z7_ : u7 = false := by
        cases hu : u7 with
        | false => rfl
        | true => exact nomatch z.symm.trans ((unhide H_kF hu).2.2.2.2.2.2)
      have zd : u2 = true ∧ u5 = true := by
        simp [Region.binds] at hd
        simp [hd]
      obtain ⟨rfl, rfl⟩ := zd
      subst z7_
      subst z
      clear h0 hd
      rw [if_pos (by rfl)]
      go_simp
      refine (unhide HF6 W (unhide H_kB)).mono ?_
      rintro e w8 ⟨rfl, hb8⟩
      exact unhide hK _ _ ⟨u0, u1, true, u3, u4, true, true, false, dm, rfl, rfl, bc (unhide H_kB) hb8, unhide H_c2, (fun h => ⟨(unhide H_c5 h).1, (unhide H_c5 h).2.1, rfl⟩), (fun _ => ⟨rfl, rfl⟩), (fun h => nomatch h)⟩
    · intro h0 hd K hK
      have z : u7 = false := h0
      have zd0 : u6 = true := by
        simp [Region.binds] at hd
        simp [hd]
      have zd : u6 = true ∧ u0 = true ∧ u1 = true ∧ u2 = true ∧ u3 = true ∧ u4 = true ∧ u5 = true := ⟨zd0, (unhide H_c2 (unhide H_c6 zd0).1).1, (unhide H_c2 (unhide H_c6 zd0).1).2, (unhide H_c6 zd0).1, (unhide H_c5 (unhide H_c6 zd0).2).1, (unhide H_c5 (unhide H_c6 zd0).2).2.1, (unhide H_c6 zd0).2⟩
      obtain ⟨rfl, rfl, rfl, rfl, rfl, rfl, rfl⟩ := zd
      subst z
      clear h0 hd
      rw [if_pos (by rfl)]
      go_simp
      exact unhide hK _ _ ⟨true, true, true, true, true, true, true, true, dm, rfl, rfl, unhide H_kB, (fun _ => ⟨rfl, rfl⟩), (fun _ => ⟨rfl, rfl, rfl⟩), (fun _ => ⟨rfl, rfl⟩), (fun _ => ⟨rfl, rfl, rfl, rfl, rfl, rfl, rfl⟩)⟩
  case hend =>
    intro Lb A W hI
    obtain ⟨u0, hI⟩ := hI
    obtain ⟨u1, hI⟩ := hI
    obtain ⟨u2, hI⟩ := hI
    obtain ⟨u3, hI⟩ := hI
    obtain ⟨u4, hI⟩ := hI
    obtain ⟨u5, hI⟩ := hI
    obtain ⟨u6, hI⟩ := hI
    obtain ⟨u7, hI⟩ := hI
    obtain ⟨dm, hI⟩ := hI
    obtain ⟨hLb, hI⟩ := hI
    obtain ⟨hA, hI⟩ := hI
    obtain ⟨kB, hI⟩ := hI
    obtain ⟨c2, hI⟩ := hI
    obtain ⟨c5, hI⟩ := hI
    obtain ⟨c6, hI⟩ := hI
    have kF := hI
    clear hI
    subst hLb
    subst hA
    intro hL
    have hl : u0 = true ∧ u1 = true ∧ u2 = true ∧ u3 = true ∧ u4 = true ∧ u5 = true ∧ u6 = true ∧ u7 = true := by
      have h2 := congrArg Array.toList hL
      simpa [List.replicate] using h2
    obtain ⟨rfl, rfl, rfl, rfl, rfl, rfl, rfl, rfl⟩ := hl
    exact unhide HQ  W kB

end Go.Proofs.Ytdcecfgmfmpeeaa

namespace Go.Proofs.Ytdcecfgmfmpeeaa
open Go.ChangeShapes Go.WideShapes Go.ChangeAt Go.RowKit
set_option linter.unusedVariables false
set_option linter.unusedSimpArgs false

noncomputable def rg89 (id : Nat) : Go.Code := match Try.f89.body with | some c => (regOfZ id c).getD .skip | none => .skip
set_option maxHeartbeats 4000000 in
set_option maxRecDepth 100000 in
theorem ce2 {s1 s2 s4 s5 s6 s7 s8 s9 s10 s11 s12 s13 s14 s15 s16 s17 s18 s19 s20 s21 s22 s23 s24 s25 s26 s27 s28 s29 s30 s31 s32 s33 s34 s35 s36 s37 s38 s39 s40 s41 s42 s43 s44 s45 s46 s47 s48 s49 s50 s51 s52 s53 s54 s55 s56 s57 s58 s59 s60 s61 s62 s63 s64 s65 s66 s67 s68 s69 s70 s71 s72 s73 s74 s75 s76 s77 : Value} {b b3 : Nat} {a1 a2 b1 b2 c1 c2 d1 d2 e1 e2 : Int} {V : World} {K_ : Act → World → Prop} 
    (H30 : Hid (V.cell? ⟨b3, 0, none⟩ = some (.int .i64 (a1)))) (H31 : Hid (V.cell? ⟨b3, 1, none⟩ = some (.int .i64 (a2)))) (HB0 : Hid (V.cell? ⟨b, 2, none⟩ = some (.int .i64 (b1)))) (HB1 : Hid (V.cell? ⟨b, 3, none⟩ = some (.int .i64 (b2)))) (HC0 : Hid (V.cell? ⟨b, 4, none⟩ = some (.int .i64 (c1)))) (HC1 : Hid (V.cell? ⟨b, 5, none⟩ = some (.int .i64 (c2)))) 
    (HF5 : Hid (∀ Xw, Below V.heap.size V Xw → Calls Try.prog 52 #[.agg #[.int .i64 (b1), .int .i64 (b2)], .agg #[.int .i64 (a1), .int .i64 (a2)]] Xw fun e w' => e = .returned (.agg #[.int .i64 (d1), .int .i64 (d2)]) ∧ Below Xw.heap.size Xw w'))
    (HF11 : Hid (∀ Xw, Below V.heap.size V Xw → Calls Try.prog 52 #[.agg #[.int .i64 (c1), .int .i64 (c2)], .agg #[.int .i64 (a1), .int .i64 (a2)]] Xw fun e w' => e = .returned (.agg #[.int .i64 (e1), .int .i64 (e2)]) ∧ Below Xw.heap.size Xw w'))
    (hQ : ∀ (n12 n13 : Nat) (W1 : World), Below V.heap.size V W1 → cb W1 n12 30 [.int .i64 (d1), .int .i64 (d2)] → V.heap.size ≤ n12 → cb W1 n13 30 [.int .i64 (e1), .int .i64 (e2)] → V.heap.size ≤ n13 → n12 ≠ n13 → K_ { tmps := #[.pointer (some ⟨b, 0, none⟩), s1, s2, .pointer (some ⟨b3, 0, none⟩), .pointer (some ⟨n12, 0, none⟩), .pointer (some ⟨n13, 0, none⟩), s6, s7, s8, s9, s10, s11, s12, s13, .pointer (some ⟨b, 0, none⟩), .pointer (some ⟨b, 0, none⟩), .pointer (some ⟨b, 2, none⟩), .agg #[.int .i64 (b1), .int .i64 (b2)], .agg #[.int .i64 (a1), .int .i64 (a2)], .agg #[.int .i64 (d1), .int .i64 (d2)], .pointer (some ⟨b, 0, none⟩), .pointer (some ⟨b, 0, none⟩), .pointer (some ⟨b, 4, none⟩), .agg #[.int .i64 (c1), .int .i64 (c2)], .agg #[.int .i64 (a1), .int .i64 (a2)], .agg #[.int .i64 (e1), .int .i64 (e2)], s26, s27, s28, s29, s30, s31, s32, s33, s34, s35, s36, s37, s38, s39, s40, s41, s42, s43, s44, s45, s46, s47, s48, s49, s50, s51, s52, s53, s54, s55, s56, s57, s58, s59, s60, s61, s62, s63, s64, s65, s66, s67, s68, s69, s70, s71, s72, s73, s74, s75, s76, s77], defers := [] } W1) :
    Go.Code.wp Try.prog (rg89 2) (Only K_) { tmps := #[.pointer (some ⟨b, 0, none⟩), s1, s2, .pointer (some ⟨b3, 0, none⟩), s4, s5, s6, s7, s8, s9, s10, s11, s12, s13, s14, s15, s16, s17, s18, s19, s20, s21, s22, s23, s24, s25, s26, s27, s28, s29, s30, s31, s32, s33, s34, s35, s36, s37, s38, s39, s40, s41, s42, s43, s44, s45, s46, s47, s48, s49, s50, s51, s52, s53, s54, s55, s56, s57, s58, s59, s60, s61, s62, s63, s64, s65, s66, s67, s68, s69, s70, s71, s72, s73, s74, s75, s76, s77], defers := [] } V := by
  have HQ := hide hQ
  clear hQ
  conv => arg 2; whnf
  refine wp_region_inv2 (fun Lb A W => ∃ (u0 u1 u2 u3 u4 u5 u6 u7 u8 u9 u10 u11 u12 u13 u14 u15 : Bool) (n12 : Nat) (n13 : Nat), Lb = #[u0, u1, u2, u3, u4, u5, u6, u7, u8, u9, u10, u11, u12, u13, u14, u15] ∧ A = ({ tmps := #[.pointer (some ⟨b, 0, none⟩), s1, s2, .pointer (some ⟨b3, 0, none⟩), (bif u12 then .pointer (some ⟨n12, 0, none⟩) else s4), (bif u13 then .pointer (some ⟨n13, 0, none⟩) else s5), s6, s7, s8, s9, s10, s11, s12, s13, (bif u0 then .pointer (some ⟨b, 0, none⟩) else s14), (bif u1 then .pointer (some ⟨b, 0, none⟩) else s15), (bif u2 then .pointer (some ⟨b, 2, none⟩) else s16), (bif u3 then .agg #[.int .i64 (b1), .int .i64 (b2)] else s17), (bif u4 then .agg #[.int .i64 (a1), .int .i64 (a2)] else s18), (bif u5 then .agg #[.int .i64 (d1), .int .i64 (d2)] else s19), (bif u6 then .pointer (some ⟨b, 0, none⟩) else s20), (bif u7 then .pointer (some ⟨b, 0, none⟩) else s21), (bif u8 then .pointer (some ⟨b, 4, none⟩) else s22), (bif u9 then .agg #[.int .i64 (c1), .int .i64 (c2)] else s23), (bif u10 then .agg #[.int .i64 (a1), .int .i64 (a2)] else s24), (bif u11 then .agg #[.int .i64 (e1), .int .i64 (e2)] else s25), s26, s27, s28, s29, s30, s31, s32, s33, s34, s35, s36, s37, s38, s39, s40, s41, s42, s43, s44, s45, s46, s47, s48, s49, s50, s51, s52, s53, s54, s55, s56, s57, s58, s59, s60, s61, s62, s63, s64, s65, s66, s67, s68, s69, s70, s71, s72, s73, s74, s75, s76, s77], defers := [] } : Act) ∧ Below V.heap.size V W ∧ (u12 = true → cb W n12 30 (bif u14 then [.int .i64 (d1), .int .i64 (d2)] else [.int .i64 (0), .int .i64 (0)]) ∧ V.heap.size ≤ n12) ∧ (u13 = true → cb W n13 30 (bif u15 then [.int .i64 (e1), .int .i64 (e2)] else [.int .i64 (0), .int .i64 (0)]) ∧ V.heap.size ≤ n13) ∧ (u12 = true → u13 = true → n12 ≠ n13) ∧ (u1 = true → u0 = true) ∧ (u2 = true → u1 = true) ∧ (u3 = true → u2 = true) ∧ (u5 = true → u3 = true ∧ u4 = true) ∧ (u7 = true → u6 = true) ∧ (u8 = true → u7 = true) ∧ (u9 = true → u8 = true) ∧ (u11 = true → u9 = true ∧ u10 = true ∧ u5 = true) ∧ (u14 = true → u12 = true ∧ u5 = true ∧ u11 = true ∧ u13 = true) ∧ (u15 = true → u0 = true ∧ u1 = true ∧ u2 = true ∧ u3 = true ∧ u4 = true ∧ u5 = true ∧ u6 = true ∧ u7 = true ∧ u8 = true ∧ u9 = true ∧ u10 = true ∧ u11 = true ∧ u12 = true ∧ u13 = true ∧ u14 = true)) (by kernel_rfl) (by kernel_rfl) ?h0 ?hstep ?hend
  case h0 =>
    exact ⟨false, false, false, false, false, false, false, false, false, false, false, false, false, false, false, false, 0, 0, rfl, rfl, Below.drew (Below.refl _ _), (fun h => nomatch h), (fun h => nomatch h), (fun h => nomatch h), (fun h => nomatch h), (fun h => nomatch h), (fun h => nomatch h), (fun h => nomatch h), (fun h => nomatch h), (fun h => nomatch h), (fun h => nomatch h), (fun h => nomatch h), (fun h => nomatch h), (fun h => nomatch h)⟩
  case hstep =>
    intro Lb A W hI
    obtain ⟨u0, hI⟩ := hI
    obtain ⟨u1, hI⟩ := hI
    obtain ⟨u2, hI⟩ := hI
    obtain ⟨u3, hI⟩ := hI
    obtain ⟨u4, hI⟩ := hI
    obtain ⟨u5, hI⟩ := hI
    obtain ⟨u6, hI⟩ := hI
    obtain ⟨u7, hI⟩ := hI
    obtain ⟨u8, hI⟩ := hI
    obtain ⟨u9, hI⟩ := hI
    obtain ⟨u10, hI⟩ := hI
    obtain ⟨u11, hI⟩ := hI
    obtain ⟨u12, hI⟩ := hI
    obtain ⟨u13, hI⟩ := hI
    obtain ⟨u14, hI⟩ := hI
    obtain ⟨u15, hI⟩ := hI
    obtain ⟨n12, hI⟩ := hI
    obtain ⟨n13, hI⟩ := hI
    obtain ⟨hLb, hI⟩ := hI
    obtain ⟨hA, hI⟩ := hI
    obtain ⟨kB, hI⟩ := hI
    obtain ⟨k12, hI⟩ := hI
    obtain ⟨k13, hI⟩ := hI
    obtain ⟨kn12_13, hI⟩ := hI
    obtain ⟨c1, hI⟩ := hI
    obtain ⟨c2, hI⟩ := hI
    obtain ⟨c3, hI⟩ := hI
    obtain ⟨c5, hI⟩ := hI
    obtain ⟨c7, hI⟩ := hI
    obtain ⟨c8, hI⟩ := hI
    obtain ⟨c9, hI⟩ := hI
    obtain ⟨c11, hI⟩ := hI
    obtain ⟨c14, hI⟩ := hI
    have kF := hI
    clear hI
    subst hLb
    subst hA
    have H_kB := hide kB
    have H_k12 := hide k12
    have H_k13 := hide k13
    have H_kn12_13 := hide kn12_13
    have H_c1 := hide c1
    have H_c2 := hide c2
    have H_c3 := hide c3
    have H_c5 := hide c5
    have H_c7 := hide c7
    have H_c8 := hide c8
    have H_c9 := hide c9
    have H_c11 := hide c11
    have H_c14 := hide c14
    have H_kF := hide kF
    clear kB k12 k13 kn12_13 c1 c2 c3 c5 c7 c8 c9 c11 c14 kF
    refine ⟨?_, ?_, ?_, ?_, ?_, ?_, ?_, ?_, ?_, ?_, ?_, ?_, ?_, ?_, ?_, ?_, trivial⟩
    · intro h0 hd K hK
      have z : u0 = false := h0
      have z15_ : u15 = false := by
        cases hu : u15 with
        | false => rfl
        | true => exact nomatch z.symm.trans ((unhide H_kF hu).1)
      have z14_ : u14 = false := by
        cases hu : u14 with
        | false => rfl
        | true => exact nomatch z.symm.trans ((unhide H_c1 (unhide H_c2 (unhide H_c3 (unhide H_c5 (unhide H_c14 hu).2.1).1))))
      subst z15_
      subst z14_
      subst z
      clear h0 hd
      rw [if_pos (by rfl)]
      go_simp
      exact unhide hK _ _ ⟨true, u1, u2, u3, u4, u5, u6, u7, u8, u9, u10, u11, u12, u13, false, false, n12, n13, rfl, rfl, unhide H_kB, unhide H_k12, unhide H_k13, unhide H_kn12_13, (fun h => rfl), unhide H_c2, unhide H_c3, unhide H_c5, unhide H_c7, unhide H_c8, unhide H_c9, unhide H_c11, (fun h => nomatch h), (fun h => nomatch h)⟩
    · intro h0 hd K hK
      have z : u1 = false := h0
      have z15_ : u15 = false := by
        cases hu : u15 with
        | false => rfl
        | true => exact nomatch z.symm.trans ((unhide H_kF hu).2.1)
      have z14_ : u14 = false := by
        cases hu : u14 with
        | false => rfl
        | true => exact nomatch z.symm.trans ((unhide H_c2 (unhide H_c3 (unhide H_c5 (unhide H_c14 hu).2.1).1)))
      have zd : u0 = true := by
        simp [Region.binds] at hd
        simp [hd]
      obtain ⟨rfl⟩ := zd
      subst z15_
      subst z14_
      subst z
      clear h0 hd
      rw [if_pos (by rfl)]
      go_simp
      exact unhide hK _ _ ⟨true, true, u2, u3, u4, u5, u6, u7, u8, u9, u10, u11, u12, u13, false, false, n12, n13, rfl, rfl, unhide H_kB, unhide H_k12, unhide H_k13, unhide H_kn12_13, (fun _ => rfl), (fun h => rfl), unhide H_c3, unhide H_c5, unhide H_c7, unhide H_c8, unhide H_c9, unhide H_c11, (fun h => nomatch h), (fun h => nomatch h)⟩
    · intro h0 hd K hK
      have z : u2 = false := h0
      have z15_ : u15 = false := by
        cases hu : u15 with
        | false => rfl
        | true => exact nomatch z.symm.trans ((unhide H_kF hu).2.2.1)
      have z14_ : u14 = false := by
        cases hu : u14 with
        | false => rfl
        | true => exact nomatch z.symm.trans ((unhide H_c3 (unhide H_c5 (unhide H_c14 hu).2.1).1))
      have zd : u1 = true := by
        simp [Region.binds] at hd
        simp [hd]
      obtain ⟨rfl⟩ := zd
      subst z15_
      subst z14_
      subst z
      clear h0 hd
      rw [if_pos (by rfl)]
      go_simp
      exact unhide hK _ _ ⟨u0, true, true, u3, u4, u5, u6, u7, u8, u9, u10, u11, u12, u13, false, false, n12, n13, rfl, rfl, unhide H_kB, unhide H_k12, unhide H_k13, unhide H_kn12_13, unhide H_c1, (fun _ => rfl), (fun h => rfl), unhide H_c5, unhide H_c7, unhide H_c8, unhide H_c9, unhide H_c11, (fun h => nomatch h), (fun h => nomatch h)⟩
    · intro h0 hd K hK
      have z : u3 = false := h0
      have z15_ : u15 = false := by
        cases hu : u15 with
        | false => rfl
        | true => exact nomatch z.symm.trans ((unhide H_kF hu).2.2.2.1)
      have z14_ : u14 = false := by
        cases hu : u14 with
        | false => rfl
        | true => exact nomatch z.symm.trans ((unhide H_c5 (unhide H_c14 hu).2.1).1)
      have zd : u2 = true := by
        simp [Region.binds] at hd
        simp [hd]
      obtain ⟨rfl⟩ := zd
      subst z15_
      subst z14_
      subst z
      clear h0 hd
      rw [if_pos (by rfl)]
      have c0 := keep1 (unhide H_kB) (unhide HB0)
      have c1 := keep1 (unhide H_kB) (unhide HB1)
      go_simp
      exact unhide hK _ _ ⟨u0, u1, true, true, u4, u5, u6, u7, u8, u9, u10, u11, u12, u13, false, false, n12, n13, rfl, rfl, unhide H_kB, unhide H_k12, unhide H_k13, unhide H_kn12_13, unhide H_c1, unhide H_c2, (fun _ => rfl), (fun h => ⟨rfl, (unhide H_c5 h).2⟩), unhide H_c7, unhide H_c8, unhide H_c9, unhide H_c11, (fun h => nomatch h), (fun h => nomatch h)⟩
    · intro h0 hd K hK
      have z : u4 = false := h0
      have z15_ : u15 = false := by
        cases hu : u15 with
        | false => rfl
        | true => exact nomatch z.symm.trans ((unhide H_kF hu).2.2.2.2.1)
      have z14_ : u14 = false := by
        cases hu : u14 with
        | false => rfl
        | true => exact nomatch z.symm.trans ((unhide H_c5 (unhide H_c14 hu).2.1).2)
      subst z15_
      subst z14_
      subst z
      clear h0 hd
      rw [if_pos (by rfl)]
      have c0 := keep1 (unhide H_kB) (unhide H30)
      have c1 := keep1 (unhide H_kB) (unhide H31)
      go_simp
      exact unhide hK _ _ ⟨u0, u1, u2, u3, true, u5, u6, u7, u8, u9, u10, u11, u12, u13, false, false, n12, n13, rfl, rfl, unhide H_kB, unhide H_k12, unhide H_k13, unhide H_kn12_13, unhide H_c1, unhide H_c2, unhide H_c3, (fun h => ⟨(unhide H_c5 h).1, rfl⟩), unhide H_c7, unhide H_c8, unhide H_c9, unhide H_c11, (fun h => nomatch h), (fun h => nomatch h)⟩
    · intro h0 hd K hK
      have z : u5 = false := h0
      have z15_ : u15 = false := by
        cases hu : u15 with
        | false => rfl
        | true => exact nomatch z.symm.trans ((unhide H_kF hu).2.2.2.2.2.1)
      have z14_ : u14 = false := by
        cases hu : u14 with
        | false => rfl
        | true => exact nomatch z.symm.trans ((unhide H_c14 hu).2.1)
      have zd : u3 = true ∧ u4 = true := by
        simp [Region.binds] at hd
        simp [hd]
      obtain ⟨rfl, rfl⟩ := zd
      subst z15_
      subst z14_
      subst z
      clear h0 hd
      rw [if_pos (by rfl)]
      go_simp
      refine (unhide HF5 W (unhide H_kB)).mono ?_
      rintro e w8 ⟨rfl, hb8⟩
      exact unhide hK _ _ ⟨u0, u1, u2, true, true, true, u6, u7, u8, u9, u10, u11, u12, u13, false, false, n12, n13, rfl, rfl, bc (unhide H_kB) hb8, (fun h => ⟨(unhide H_k12 h).1.bel hb8, (unhide H_k12 h).2⟩), (fun h => ⟨(unhide H_k13 h).1.bel hb8, (unhide H_k13 h).2⟩), unhide H_kn12_13, unhide H_c1, unhide H_c2, unhide H_c3, (fun _ => ⟨rfl, rfl⟩), unhide H_c7, unhide H_c8, unhide H_c9, (fun h => ⟨(unhide H_c11 h).1, (unhide H_c11 h).2.1, rfl⟩), (fun h => nomatch h), (fun h => nomatch h)⟩
    · intro h0 hd K hK
      have z : u6 = false := h0
      have z15_ : u15 = false := by
        cases hu : u15 with
        | false => rfl
        | true => exact nomatch z.symm.trans ((unhide H_kF hu).2.2.2.2.2.2.1)
      have z14_ : u14 = false := by
        cases hu : u14 with
        | false => rfl
        | true => exact nomatch z.symm.trans ((unhide H_c7 (unhide H_c8 (unhide H_c9 (unhide H_c11 (unhide H_c14 hu).2.2.1).1))))
      subst z15_
      subst z14_
      subst z
      clear h0 hd
      rw [if_pos (by rfl)]
      go_simp
      exact unhide hK _ _ ⟨u0, u1, u2, u3, u4, u5, true, u7, u8, u9, u10, u11, u12, u13, false, false, n12, n13, rfl, rfl, unhide H_kB, unhide H_k12, unhide H_k13, unhide H_kn12_13, unhide H_c1, unhide H_c2, unhide H_c3, unhide H_c5, (fun h => rfl), unhide H_c8, unhide H_c9, unhide H_c11, (fun h => nomatch h), (fun h => nomatch h)⟩
    · intro h0 hd K hK
      have z : u7 = false := h0
      have z15_ : u15 = false := by
        cases hu : u15 with
        | false => rfl
        | true => exact nomatch z.symm.trans ((unhide H_kF hu).2.2.2.2.2.2.2.1)
      have z14_ : u14 = false := by
        cases hu : u14 with
        | false => rfl
        | true => exact nomatch z.symm.trans ((unhide H_c8 (unhide H_c9 (unhide H_c11 (unhide H_c14 hu).2.2.1).1)))
      have zd : u6 = true := by
        simp [Region.binds] at hd
        simp [hd]
      obtain ⟨rfl⟩ := zd
      subst z15_
      subst z14_
      subst z
      clear h0 hd
      rw [if_pos (by rfl)]
      go_simp
      exact unhide hK _ _ ⟨u0, u1, u2, u3, u4, u5, true, true, u8, u9, u10, u11, u12, u13, false, false, n12, n13, rfl, rfl, unhide H_kB, unhide H_k12, unhide H_k13, unhide H_kn12_13, unhide H_c1, unhide H_c2, unhide H_c3, unhide H_c5, (fun _ => rfl), (fun h => rfl), unhide H_c9, unhide H_c11, (fun h => nomatch h), (fun h => nomatch h)⟩
    · intro h0 hd K hK
      have z : u8 = false := h0
      have z15_ : u15 = false := by
        cases hu : u15 with
        | false => rfl
        | true => exact nomatch z.symm.trans ((unhide H_kF hu).2.2.2.2.2.2.2.2.1)
      have z14_ : u14 = false := by
        cases hu : u14 with
        | false => rfl
        | true => exact nomatch z.symm.trans ((unhide H_c9 (unhide H_c11 (unhide H_c14 hu).2.2.1).1))
      have zd : u7 = true := by
        simp [Region.binds] at hd
        simp [hd]
      obtain ⟨rfl⟩ := zd
      subst z15_
      subst z14_
      subst z
      clear h0 hd
      rw [if_pos (by rfl)]
      go_simp
      exact unhide hK _ _ ⟨u0, u1, u2, u3, u4, u5, u6, true, true, u9, u10, u11, u12, u13, false, false, n12, n13, rfl, rfl, unhide H_kB, unhide H_k12, unhide H_k13, unhide H_kn12_13, unhide H_c1, unhide H_c2, unhide H_c3, unhide H_c5, unhide H_c7, (fun _ => rfl), (fun h => rfl), unhide H_c11, (fun h => nomatch h), (fun h => nomatch h)⟩
    · intro h0 hd K hK
      have z : u9 = false := h0
      have z15_ : u15 = false := by
        cases hu : u15 with
        | false => rfl
        | true => exact nomatch z.symm.trans ((unhide H_kF hu).2.2.2.2.2.2.2.2.2.1)
      have z14_ : u14 = false := by
        cases hu : u14 with
        | false => rfl
        | true => exact nomatch z.symm.trans ((unhide H_c11 (unhide H_c14 hu).2.2.1).1)
      have zd : u8 = true := by
        simp [Region.binds] at hd
        simp [hd]
      obtain ⟨rfl⟩ := zd
      subst z15_
      subst z14_
      subst z
      clear h0 hd
      rw [if_pos (by rfl)]
      have c0 := keep1 (unhide H_kB) (unhide HC0)
      have c1 := keep1 (unhide H_kB) (unhide HC1)
      go_simp
      exact unhide hK _ _ ⟨u0, u1, u2, u3, u4, u5, u6, u7, true, true, u10, u11, u12, u13, false, false, n12, n13, rfl, rfl, unhide H_kB, unhide H_k12, unhide H_k13, unhide H_kn12_13, unhide H_c1, unhide H_c2, unhide H_c3, unhide H_c5, unhide H_c7, unhide H_c8, (fun _ => rfl), (fun h => ⟨rfl, (unhide H_c11 h).2.1, (unhide H_c11 h).2.2⟩), (fun h => nomatch h), (fun h => nomatch h)⟩
    · intro h0 hd K hK
      have z : u10 = false := h0
      have z15_ : u15 = false := by
        cases hu : u15 with
        | false => rfl
        | true => exact nomatch z.symm.trans ((unhide H_kF hu).2.2.2.2.2.2.2.2.2.2.1)
      have z14_ : u14 = false := by
        cases hu : u14 with
        | false => rfl
        | true => exact nomatch z.symm.trans ((unhide H_c11 (unhide H_c14 hu).2.2.1).2.1)
      subst z15_
      subst z14_
      subst z
      clear h0 hd
      rw [if_pos (by rfl)]
      have c0 := keep1 (unhide H_kB) (unhide H30)
      have c1 := keep1 (unhide H_kB) (unhide H31)
      go_simp
      exact unhide hK _ _ ⟨u0, u1, u2, u3, u4, u5, u6, u7, u8, u9, true, u11, u12, u13, false, false, n12, n13, rfl, rfl, unhide H_kB, unhide H_k12, unhide H_k13, unhide H_kn12_13, unhide H_c1, unhide H_c2, unhide H_c3, unhide H_c5, unhide H_c7, unhide H_c8, unhide H_c9, (fun h => ⟨(unhide H_c11 h).1, rfl, (unhide H_c11 h).2.2⟩), (fun h => nomatch h), (fun h => nomatch h)⟩
    · intro h0 hd K hK
      have z : u11 = false := h0
      have z15_ : u15 = false := by
        cases hu : u15 with
        | false => rfl
        | true => exact nomatch z.symm.trans ((unhide H_kF hu).2.2.2.2.2.2.2.2.2.2.2.1)
      have z14_ : u14 = false := by
        cases hu : u14 with
        | false => rfl
        | true => exact nomatch z.symm.trans ((unhide H_c14 hu).2.2.1)
      have zd : u9 = true ∧ u10 = true ∧ u5 = true := by
        simp [Region.binds] at hd
        simp [hd]
      obtain ⟨rfl, rfl, rfl⟩ := zd
      subst z15_
      subst z14_
      subst z
      clear h0 hd
      rw [if_pos (by rfl)]
      go_simp
      refine (unhide HF11 W (unhide H_kB)).mono ?_
      rintro e w8 ⟨rfl, hb8⟩
      exact unhide hK _ _ ⟨u0, u1, u2, u3, u4, true, u6, u7, u8, true, true, true, u12, u13, false, false, n12, n13, rfl, rfl, bc (unhide H_kB) hb8, (fun h => ⟨(unhide H_k12 h).1.bel hb8, (unhide H_k12 h).2⟩), (fun h => ⟨(unhide H_k13 h).1.bel hb8, (unhide H_k13 h).2⟩), unhide H_kn12_13, unhide H_c1, unhide H_c2, unhide H_c3, unhide H_c5, unhide H_c7, unhide H_c8, unhide H_c9, (fun _ => ⟨rfl, rfl, rfl⟩), (fun h => nomatch h), (fun h => nomatch h)⟩
    · intro h0 hd K hK
      have z : u12 = false := h0
      have z15_ : u15 = false := by
        cases hu : u15 with
        | false => rfl
        | true => exact nomatch z.symm.trans ((unhide H_kF hu).2.2.2.2.2.2.2.2.2.2.2.2.1)
      have z14_ : u14 = false := by
        cases hu : u14 with
        | false => rfl
        | true => exact nomatch z.symm.trans ((unhide H_c14 hu).1)
      subst z15_
      subst z14_
      subst z
      clear h0 hd
      rw [if_pos (by rfl)]
      go_simp
      exact unhide hK _ _ ⟨u0, u1, u2, u3, u4, u5, u6, u7, u8, u9, u10, u11, true, u13, false, false, W.heap.size, n13, rfl, rfl, ba (unhide H_kB) _, (fun _ => ⟨cb_new W 30 _ _ rfl, (unhide H_kB).size⟩), (fun h => ⟨(unhide H_k13 h).1.bel (ba (Below.refl _ _) _), (unhide H_k13 h).2⟩), (fun _ h => by have := (unhide H_k13 h).1.lt; omega), unhide H_c1, unhide H_c2, unhide H_c3, unhide H_c5, unhide H_c7, unhide H_c8, unhide H_c9, unhide H_c11, (fun h => nomatch h), (fun h => nomatch h)⟩
    · intro h0 hd K hK
      have z : u13 = false := h0
      have z15_ : u15 = false := by
        cases hu : u15 with
        | false => rfl
        | true => exact nomatch z.symm.trans ((unhide H_kF hu).2.2.2.2.2.2.2.2.2.2.2.2.2.1)
      have z14_ : u14 = false := by
        cases hu : u14 with
        | false => rfl
        | true => exact nomatch z.symm.trans ((unhide H_c14 hu).2.2.2)
      subst z15_
      subst z14_
      subst z
      clear h0 hd
      rw [if_pos (by rfl)]
      go_simp
      exact unhide hK _ _ ⟨u0, u1, u2, u3, u4, u5, u6, u7, u8, u9, u10, u11, u12, true, false, false, n12, W.heap.size, rfl, rfl, ba (unhide H_kB) _, (fun h => ⟨(unhide H_k12 h).1.bel (ba (Below.refl _ _) _), (unhide H_k12 h).2⟩), (fun _ => ⟨cb_new W 30 _ _ rfl, (unhide H_kB).size⟩), (fun h _ => by have := (unhide H_k12 h).1.lt; omega), unhide H_c1, unhide H_c2, unhide H_c3, unhide H_c5, unhide H_c7, unhide H_c8, unhide H_c9, unhide H_c11, (fun h => nomatch h), (fun h => nomatch h)⟩
    · intro h0 hd K hK
      have z : u14 = false := h0
      have z15_ : u15 = false := by
        cases hu : u15 with
        | false => rfl
        | true => exact nomatch z.symm.trans ((unhide H_kF hu).2.2.2.2.2.2.2.2.2.2.2.2.2.2)
      have zd : u12 = true ∧ u5 = true ∧ u11 = true ∧ u13 = true := by
        simp [Region.binds] at hd
        simp [hd]
      obtain ⟨rfl, rfl, rfl, rfl⟩ := zd
      subst z15_
      subst z
      clear h0 hd
      rw [if_pos (by rfl)]
      have v1 := (unhide H_k12 rfl).1
      have g9 := (unhide H_k12 rfl).2
      have fz := v1.frozen
      have q0 := v1.cell (m := 0) rfl
      have q1 := v1.cell (m := 1) rfl
      have HV1 := hide v1
      clear v1
      go_simp
      exact unhide hK _ _ ⟨u0, u1, u2, u3, u4, true, u6, u7, u8, u9, u10, true, true, true, true, false, n12, n13, rfl, rfl, (((((unhide H_kB)).setCell (p := ⟨n12, 0, none⟩) g9 _)).setCell (p := ⟨n12, 1, none⟩) g9 _), (fun _ => ⟨(((unhide HV1).set 0 _).set 1 _), g9⟩), (fun h => ⟨(((unhide H_k13 h).1.ne (fun e => unhide H_kn12_13 rfl h e.symm)).ne (fun e => unhide H_kn12_13 rfl h e.symm)), (unhide H_k13 h).2⟩), unhide H_kn12_13, unhide H_c1, unhide H_c2, unhide H_c3, unhide H_c5, unhide H_c7, unhide H_c8, unhide H_c9, (fun h => ⟨(unhide H_c11 h).1, (unhide H_c11 h).2.1, rfl⟩), (fun _ => ⟨rfl, rfl, rfl, rfl⟩), (fun h => nomatch h)⟩
    · intro h0 hd K hK
      have z : u15 = false := h0
      have zd0 : u13 = true ∧ u11 = true ∧ u14 = true := by
        simp [Region.binds] at hd
        simp [hd]
      have zd : u13 = true ∧ u11 = true ∧ u14 = true ∧ u0 = true ∧ u1 = true ∧ u2 = true ∧ u3 = true ∧ u4 = true ∧ u5 = true ∧ u6 = true ∧ u7 = true ∧ u8 = true ∧ u9 = true ∧ u10 = true ∧ u12 = true := ⟨zd0.1, zd0.2.1, zd0.2.2, (unhide H_c1 (unhide H_c2 (unhide H_c3 (unhide H_c5 (unhide H_c11 zd0.2.1).2.2).1))), (unhide H_c2 (unhide H_c3 (unhide H_c5 (unhide H_c11 zd0.2.1).2.2).1)), (unhide H_c3 (unhide H_c5 (unhide H_c11 zd0.2.1).2.2).1), (unhide H_c5 (unhide H_c11 zd0.2.1).2.2).1, (unhide H_c5 (unhide H_c11 zd0.2.1).2.2).2, (unhide H_c11 zd0.2.1).2.2, (unhide H_c7 (unhide H_c8 (unhide H_c9 (unhide H_c11 zd0.2.1).1))), (unhide H_c8 (unhide H_c9 (unhide H_c11 zd0.2.1).1)), (unhide H_c9 (unhide H_c11 zd0.2.1).1), (unhide H_c11 zd0.2.1).1, (unhide H_c11 zd0.2.1).2.1, (unhide H_c14 zd0.2.2).1⟩
      obtain ⟨rfl, rfl, rfl, rfl, rfl, rfl, rfl, rfl, rfl, rfl, rfl, rfl, rfl, rfl, rfl⟩ := zd
      subst z
      clear h0 hd
      rw [if_pos (by rfl)]
      have v1 := (unhide H_k13 rfl).1
      have g9 := (unhide H_k13 rfl).2
      have fz := v1.frozen
      have q0 := v1.cell (m := 0) rfl
      have q1 := v1.cell (m := 1) rfl
      have HV1 := hide v1
      clear v1
      go_simp
      exact unhide hK _ _ ⟨true, true, true, true, true, true, true, true, true, true, true, true, true, true, true, true, n12, n13, rfl, rfl, (((((unhide H_kB)).setCell (p := ⟨n13, 0, none⟩) g9 _)).setCell (p := ⟨n13, 1, none⟩) g9 _), (fun h => ⟨(((unhide H_k12 h).1.ne (unhide H_kn12_13 h rfl)).ne (unhide H_kn12_13 h rfl)), (unhide H_k12 h).2⟩), (fun _ => ⟨(((unhide HV1).set 0 _).set 1 _), g9⟩), unhide H_kn12_13, (fun _ => rfl), (fun _ => rfl), (fun _ => rfl), (fun _ => ⟨rfl, rfl⟩), (fun _ => rfl), (fun _ => rfl), (fun _ => rfl), (fun _ => ⟨rfl, rfl, rfl⟩), (fun _ => ⟨rfl, rfl, rfl, rfl⟩), (fun _ => ⟨rfl, rfl, rfl, rfl, rfl, rfl, rfl, rfl, rfl, rfl, rfl, rfl, rfl, rfl, rfl⟩)⟩
  case hend =>
    intro Lb A W hI
    obtain ⟨u0, hI⟩ := hI
    obtain ⟨u1, hI⟩ := hI
    obtain ⟨u2, hI⟩ := hI
    obtain ⟨u3, hI⟩ := hI
    obtain ⟨u4, hI⟩ := hI
    obtain ⟨u5, hI⟩ := hI
    obtain ⟨u6, hI⟩ := hI
    obtain ⟨u7, hI⟩ := hI
    obtain ⟨u8, hI⟩ := hI
    obtain ⟨u9, hI⟩ := hI
    obtain ⟨u10, hI⟩ := hI
    obtain ⟨u11, hI⟩ := hI
    obtain ⟨u12, hI⟩ := hI
    obtain ⟨u13, hI⟩ := hI
    obtain ⟨u14, hI⟩ := hI
    obtain ⟨u15, hI⟩ := hI
    obtain ⟨n12, hI⟩ := hI
    obtain ⟨n13, hI⟩ := hI
    obtain ⟨hLb, hI⟩ := hI
    obtain ⟨hA, hI⟩ := hI
    obtain ⟨kB, hI⟩ := hI
    obtain ⟨k12, hI⟩ := hI
    obtain ⟨k13, hI⟩ := hI
    obtain ⟨kn12_13, hI⟩ := hI
    obtain ⟨c1, hI⟩ := hI
    obtain ⟨c2, hI⟩ := hI
    obtain ⟨c3, hI⟩ := hI
    obtain ⟨c5, hI⟩ := hI
    obtain ⟨c7, hI⟩ := hI
    obtain ⟨c8, hI⟩ := hI
    obtain ⟨c9, hI⟩ := hI
    obtain ⟨c11, hI⟩ := hI
    obtain ⟨c14, hI⟩ := hI
    have kF := hI
    clear hI
    subst hLb
    subst hA
    intro hL
    have hl : u0 = true ∧ u1 = true ∧ u2 = true ∧ u3 = true ∧ u4 = true ∧ u5 = true ∧ u6 = true ∧ u7 = true ∧ u8 = true ∧ u9 = true ∧ u10 = true ∧ u11 = true ∧ u12 = true ∧ u13 = true ∧ u14 = true ∧ u15 = true := by
      have h2 := congrArg Array.toList hL
      simpa [List.replicate] using h2
    obtain ⟨rfl, rfl, rfl, rfl, rfl, rfl, rfl, rfl, rfl, rfl, rfl, rfl, rfl, rfl, rfl, rfl⟩ := hl
    exact unhide HQ n12 n13 W kB (k12 rfl).1 (k12 rfl).2 (k13 rfl).1 (k13 rfl).2 (kn12_13 rfl rfl)

set_option maxHeartbeats 4000000 in
set_option maxRecDepth 100000 in
theorem ce4 {s1 s2 s7 s8 s9 s10 s11 s12 s13 s14 s15 s16 s17 s18 s19 s20 s21 s22 s23 s24 s25 s26 s27 s28 s29 s30 s31 s32 s33 s34 s35 s36 s37 s38 s39 s40 s41 s42 s43 s44 s45 s46 s47 s48 s49 s50 s51 s52 s53 s54 s55 s56 s57 s58 s59 s60 s61 s62 s63 s64 s65 s66 s67 s68 s69 s70 s71 s72 s73 s74 s75 s76 s77 : Value} {b b3 b4 b5 : Nat} {a1 a2 d1 d2 e1 e2 w bb cc p q r x u : Int} {V : World} {K_ : Act → World → Prop} 
    (H30 : Hid (V.cell? ⟨b3, 0, none⟩ = some (.int .i64 (a1)))) (H31 : Hid (V.cell? ⟨b3, 1, none⟩ = some (.int .i64 (a2)))) (H40 : Hid (V.cell? ⟨b4, 0, none⟩ = some (.int .i64 (d1)))) (H41 : Hid (V.cell? ⟨b4, 1, none⟩ = some (.int .i64 (d2)))) (H50 : Hid (V.cell? ⟨b5, 0, none⟩ = some (.int .i64 (e1)))) (H51 : Hid (V.cell? ⟨b5, 1, none⟩ = some (.int .i64 (e2)))) 
    (HW3 : Hid (IntKind.i64.wrap (a1 * w) = p))
    (HF8 : Hid (∀ Xw, Below V.heap.size V Xw → Calls Try.prog 54 #[.agg #[.int .i64 (d1), .int .i64 (d2)], .agg #[.int .i64 (d1), .int .i64 (d2)]] Xw fun e w' => e = .returned (.int .i64 (bb)) ∧ Below Xw.heap.size Xw w'))
    (HW9 : Hid (IntKind.i64.wrap (e2 * bb) = q))
    (HW10 : Hid (IntKind.i64.wrap (p + q) = r))
    (HF15 : Hid (∀ Xw, Below V.heap.size V Xw → Calls Try.prog 54 #[.agg #[.int .i64 (e1), .int .i64 (e2)], .agg #[.int .i64 (e1), .int .i64 (e2)]] Xw fun e w' => e = .returned (.int .i64 (cc)) ∧ Below Xw.heap.size Xw w'))
    (HW16 : Hid (IntKind.i64.wrap (d2 * cc) = u))
    (HW17 : Hid (IntKind.i64.wrap (r - u) = x))
    (hQ : ∀ (W1 : World), Below V.heap.size V W1 → K_ { tmps := #[.pointer (some ⟨b, 0, none⟩), s1, s2, .pointer (some ⟨b3, 0, none⟩), .pointer (some ⟨b4, 0, none⟩), .pointer (some ⟨b5, 0, none⟩), .int .i64 (w), .int .i64 (x), s8, s9, s10, s11, s12, s13, s14, s15, s16, s17, s18, s19, s20, s21, s22, s23, s24, s25, s26, s27, s28, s29, .pointer (some ⟨b3, 0, none⟩), .int .i64 (a1), .int .i64 (w), .int .i64 (p), .pointer (some ⟨b5, 1, none⟩), .int .i64 (e2), .agg #[.int .i64 (d1), .int .i64 (d2)], .agg #[.int .i64 (d1), .int .i64 (d2)], .int .i64 (bb), .int .i64 (q), .int .i64 (r), .pointer (some ⟨b4, 1, none⟩), .int .i64 (d2), .agg #[.int .i64 (e1), .int .i64 (e2)], .agg #[.int .i64 (e1), .int .i64 (e2)], .int .i64 (cc), .int .i64 (u), .int .i64 (x), s48, s49, s50, s51, s52, s53, s54, s55, s56, s57, s58, s59, s60, s61, s62, s63, s64, s65, s66, s67, s68, s69, s70, s71, s72, s73, s74, s75, s76, s77], defers := [] } W1) :
    Go.Code.wp Try.prog (rg89 4) (Only K_) { tmps := #[.pointer (some ⟨b, 0, none⟩), s1, s2, .pointer (some ⟨b3, 0, none⟩), .pointer (some ⟨b4, 0, none⟩), .pointer (some ⟨b5, 0, none⟩), .int .i64 (w), s7, s8, s9, s10, s11, s12, s13, s14, s15, s16, s17, s18, s19, s20, s21, s22, s23, s24, s25, s26, s27, s28, s29, s30, s31, s32, s33, s34, s35, s36, s37, s38, s39, s40, s41, s42, s43, s44, s45, s46, s47, s48, s49, s50, s51, s52, s53, s54, s55, s56, s57, s58, s59, s60, s61, s62, s63, s64, s65, s66, s67, s68, s69, s70, s71, s72, s73, s74, s75, s76, s77], defers := [] } V := by
  have HQ := hide hQ
  clear hQ
  conv => arg 2; whnf
  refine wp_region_inv2 (fun Lb A W => ∃ (u0 u1 u2 u3 u4 u5 u6 u7 u8 u9 u10 u11 u12 u13 u14 u15 u16 u17 u18 : Bool) (dm : Nat), Lb = #[u0, u1, u2, u3, u4, u5, u6, u7, u8, u9, u10, u11, u12, u13, u14, u15, u16, u17, u18] ∧ A = ({ tmps := #[.pointer (some ⟨b, 0, none⟩), s1, s2, .pointer (some ⟨b3, 0, none⟩), .pointer (some ⟨b4, 0, none⟩), .pointer (some ⟨b5, 0, none⟩), .int .i64 (w), (bif u18 then .int .i64 (x) else s7), s8, s9, s10, s11, s12, s13, s14, s15, s16, s17, s18, s19, s20, s21, s22, s23, s24, s25, s26, s27, s28, s29, (bif u0 then .pointer (some ⟨b3, 0, none⟩) else s30), (bif u1 then .int .i64 (a1) else s31), (bif u2 then .int .i64 (w) else s32), (bif u3 then .int .i64 (p) else s33), (bif u4 then .pointer (some ⟨b5, 1, none⟩) else s34), (bif u5 then .int .i64 (e2) else s35), (bif u6 then .agg #[.int .i64 (d1), .int .i64 (d2)] else s36), (bif u7 then .agg #[.int .i64 (d1), .int .i64 (d2)] else s37), (bif u8 then .int .i64 (bb) else s38), (bif u9 then .int .i64 (q) else s39), (bif u10 then .int .i64 (r) else s40), (bif u11 then .pointer (some ⟨b4, 1, none⟩) else s41), (bif u12 then .int .i64 (d2) else s42), (bif u13 then .agg #[.int .i64 (e1), .int .i64 (e2)] else s43), (bif u14 then .agg #[.int .i64 (e1), .int .i64 (e2)] else s44), (bif u15 then .int .i64 (cc) else s45), (bif u16 then .int .i64 (u) else s46), (bif u17 then .int .i64 (x) else s47), s48, s49, s50, s51, s52, s53, s54, s55, s56, s57, s58, s59, s60, s61, s62, s63, s64, s65, s66, s67, s68, s69, s70, s71, s72, s73, s74, s75, s76, s77], defers := [] } : Act) ∧ Below V.heap.size V W ∧ (u1 = true → u0 = true) ∧ (u3 = true → u1 = true ∧ u2 = true) ∧ (u5 = true → u4 = true) ∧ (u8 = true → u6 = true ∧ u7 = true) ∧ (u9 = true → u5 = true ∧ u8 = true) ∧ (u10 = true → u3 = true ∧ u9 = true) ∧ (u12 = true → u11 = true) ∧ (u15 = true → u13 = true ∧ u14 = true ∧ u8 = true) ∧ (u16 = true → u12 = true ∧ u15 = true) ∧ (u17 = true → u10 = true ∧ u16 = true) ∧ (u18 = true → u0 = true ∧ u1 = true ∧ u2 = true ∧ u3 = true ∧ u4 = true ∧ u5 = true ∧ u6 = true ∧ u7 = true ∧ u8 = true ∧ u9 = true ∧ u10 = true ∧ u11 = true ∧ u12 = true ∧ u13 = true ∧ u14 = true ∧ u15 = true ∧ u16 = true ∧ u17 = true)) (by kernel_rfl) (by kernel_rfl) ?h0 ?hstep ?hend
  case h0 =>
    exact ⟨false, false, false, false, false, false, false, false, false, false, false, false, false, false, false, false, false, false, false, 0, rfl, rfl, Below.drew (Below.refl _ _), (fun h => nomatch h), (fun h => nomatch h), (fun h => nomatch h), (fun h => nomatch h), (fun h => nomatch h), (fun h => nomatch h), (fun h => nomatch h), (fun h => nomatch h), (fun h => nomatch h), (fun h => nomatch h), (fun h => nomatch h)⟩
  case hstep =>
    intro Lb A W hI
    obtain ⟨u0, hI⟩ := hI
    obtain ⟨u1, hI⟩ := hI
    obtain ⟨u2, hI⟩ := hI
    obtain ⟨u3, hI⟩ := hI
    obtain ⟨u4, hI⟩ := hI
    obtain ⟨u5, hI⟩ := hI
    obtain ⟨u6, hI⟩ := hI
    obtain ⟨u7, hI⟩ := hI
    obtain ⟨u8, hI⟩ := hI
    obtain ⟨u9, hI⟩ := hI
    obtain ⟨u10, hI⟩ := hI
    obtain ⟨u11, hI⟩ := hI
    obtain ⟨u12, hI⟩ := hI
    obtain ⟨u13, hI⟩ := hI
    obtain ⟨u14, hI⟩ := hI
    obtain ⟨u15, hI⟩ := hI
    obtain ⟨u16, hI⟩ := hI
    obtain ⟨u17, hI⟩ := hI
    obtain ⟨u18, hI⟩ := hI
    obtain ⟨dm, hI⟩ := hI
    obtain ⟨hLb, hI⟩ := hI
    obtain ⟨hA, hI⟩ := hI
    obtain ⟨kB, hI⟩ := hI
    obtain ⟨c1, hI⟩ := hI
    obtain ⟨c3, hI⟩ := hI
    obtain ⟨c5, hI⟩ := hI
    obtain ⟨c8, hI⟩ := hI
    obtain ⟨c9, hI⟩ := hI
    obtain ⟨c10, hI⟩ := hI
    obtain ⟨c12, hI⟩ := hI
    obtain ⟨c15, hI⟩ := hI
    obtain ⟨c16, hI⟩ := hI
    obtain ⟨c17, hI⟩ := hI
    have kF := hI
    clear hI
    subst hLb
    subst hA
    have H_kB := hide kB
    have H_c1 := hide c1
    have H_c3 := hide c3
    have H_c5 := hide c5
    have H_c8 := hide c8
    have H_c9 := hide c9
    have H_c10 := hide c10
    have H_c12 := hide c12
    have H_c15 := hide c15
    have H_c16 := hide c16
    have H_c17 := hide c17
    have H_kF := hide kF
    clear kB c1 c3 c5 c8 c9 c10 c12 c15 c16 c17 kF
    refine ⟨?_, ?_, ?_, ?_, ?_, ?_, ?_, ?_, ?_, ?_, ?_, ?_, ?_, ?_, ?_, ?_, ?_, ?_, ?_, trivial⟩
    · intro h0 hd K hK
      have z : u0 = false := h0
      have z18_ : u18 = false := by
        cases hu : u18 with
        | false => rfl
        | true => exact nomatch z.symm.trans ((unhide H_kF hu).1)
      subst z18_
      subst z
      clear h0 hd
      rw [if_pos (by rfl)]
      go_simp
      exact unhide hK _ _ ⟨true, u1, u2, u3, u4, u5, u6, u7, u8, u9, u10, u11, u12, u13, u14, u15, u16, u17, false, dm, rfl, rfl, unhide H_kB, (fun h => rfl), unhide H_c3, unhide H_c5, unhide H_c8, unhide H_c9, unhide H_c10, unhide H_c12, unhide H_c15, unhide H_c16, unhide H_c17, (fun h => nomatch h)⟩
    · intro h0 hd K hK
      have z : u1 = false := h0
      have z18_ : u18 = false := by
        cases hu : u18 with
        | false => rfl
        | true => exact nomatch z.symm.trans ((unhide H_kF hu).2.1)
      have zd : u0 = true := by
        simp [Region.binds] at hd
        simp [hd]
      obtain ⟨rfl⟩ := zd
      subst z18_
      subst z
      clear h0 hd
      rw [if_pos (by rfl)]
      have c0 := keep1 (unhide H_kB) (unhide H30)
      go_simp
      exact unhide hK _ _ ⟨true, true, u2, u3, u4, u5, u6, u7, u8, u9, u10, u11, u12, u13, u14, u15, u16, u17, false, dm, rfl, rfl, unhide H_kB, (fun _ => rfl), (fun h => ⟨rfl, (unhide H_c3 h).2⟩), unhide H_c5, unhide H_c8, unhide H_c9, unhide H_c10, unhide H_c12, unhide H_c15, unhide H_c16, unhide H_c17, (fun h => nomatch h)⟩
    · intro h0 hd K hK
      have z : u2 = false := h0
      have z18_ : u18 = false := by
        cases hu : u18 with
        | false => rfl
        | true => exact nomatch z.symm.trans ((unhide H_kF hu).2.2.1)
      subst z18_
      subst z
      clear h0 hd
      rw [if_pos (by rfl)]
      go_simp
      exact unhide hK _ _ ⟨u0, u1, true, u3, u4, u5, u6, u7, u8, u9, u10, u11, u12, u13, u14, u15, u16, u17, false, dm, rfl, rfl, unhide H_kB, unhide H_c1, (fun h => ⟨(unhide H_c3 h).1, rfl⟩), unhide H_c5, unhide H_c8, unhide H_c9, unhide H_c10, unhide H_c12, unhide H_c15, unhide H_c16, unhide H_c17, (fun h => nomatch h)⟩
    · intro h0 hd K hK
      have z : u3 = false := h0
      have z18_ : u18 = false := by
        cases hu : u18 with
        | false => rfl
        | true => exact nomatch z.symm.trans ((unhide H_kF hu).2.2.2.1)
      have zd : u1 = true ∧ u2 = true := by
        simp [Region.binds] at hd
        simp [hd]
      obtain ⟨rfl, rfl⟩ := zd
      subst z18_
      subst z
      clear h0 hd
      rw [if_pos (by rfl)]
      have wq := unhide HW3
      go_simp
      exact unhide hK _ _ ⟨u0, true, true, true, u4, u5, u6, u7, u8, u9, u10, u11, u12, u13, u14, u15, u16, u17, false, dm, rfl, rfl, unhide H_kB, unhide H_c1, (fun _ => ⟨rfl, rfl⟩), unhide H_c5, unhide H_c8, unhide H_c9, (fun h => ⟨rfl, (unhide H_c10 h).2⟩), unhide H_c12, unhide H_c15, unhide H_c16, unhide H_c17, (fun h => nomatch h)⟩
    · intro h0 hd K hK
      have z : u4 = false := h0
      have z18_ : u18 = false := by
        cases hu : u18 with
        | false => rfl
        | true => exact nomatch z.symm.trans ((unhide H_kF hu).2.2.2.2.1)
      subst z18_
      subst z
      clear h0 hd
      rw [if_pos (by rfl)]
      go_simp
      exact unhide hK _ _ ⟨u0, u1, u2, u3, true, u5, u6, u7, u8, u9, u10, u11, u12, u13, u14, u15, u16, u17, false, dm, rfl, rfl, unhide H_kB, unhide H_c1, unhide H_c3, (fun h => rfl), unhide H_c8, unhide H_c9, unhide H_c10, unhide H_c12, unhide H_c15, unhide H_c16, unhide H_c17, (fun h => nomatch h)⟩
    · intro h0 hd K hK
      have z : u5 = false := h0
      have z18_ : u18 = false := by
        cases hu : u18 with
        | false => rfl
        | true => exact nomatch z.symm.trans ((unhide H_kF hu).2.2.2.2.2.1)
      have zd : u4 = true := by
        simp [Region.binds] at hd
        simp [hd]
      obtain ⟨rfl⟩ := zd
      subst z18_
      subst z
      clear h0 hd
      rw [if_pos (by rfl)]
      have c0 := keep1 (unhide H_kB) (unhide H51)
      go_simp
      exact unhide hK _ _ ⟨u0, u1, u2, u3, true, true, u6, u7, u8, u9, u10, u11, u12, u13, u14, u15, u16, u17, false, dm, rfl, rfl, unhide H_kB, unhide H_c1, unhide H_c3, (fun _ => rfl), unhide H_c8, (fun h => ⟨rfl, (unhide H_c9 h).2⟩), unhide H_c10, unhide H_c12, unhide H_c15, unhide H_c16, unhide H_c17, (fun h => nomatch h)⟩
    · intro h0 hd K hK
      have z : u6 = false := h0
      have z18_ : u18 = false := by
        cases hu : u18 with
        | false => rfl
        | true => exact nomatch z.symm.trans ((unhide H_kF hu).2.2.2.2.2.2.1)
      subst z18_
      subst z
      clear h0 hd
      rw [if_pos (by rfl)]
      have c0 := keep1 (unhide H_kB) (unhide H40)
      have c1 := keep1 (unhide H_kB) (unhide H41)
      go_simp
      exact unhide hK _ _ ⟨u0, u1, u2, u3, u4, u5, true, u7, u8, u9, u10, u11, u12, u13, u14, u15, u16, u17, false, dm, rfl, rfl, unhide H_kB, unhide H_c1, unhide H_c3, unhide H_c5, (fun h => ⟨rfl, (unhide H_c8 h).2⟩), unhide H_c9, unhide H_c10, unhide H_c12, unhide H_c15, unhide H_c16, unhide H_c17, (fun h => nomatch h)⟩
    · intro h0 hd K hK
      have z : u7 = false := h0
      have z18_ : u18 = false := by
        cases hu : u18 with
        | false => rfl
        | true => exact nomatch z.symm.trans ((unhide H_kF hu).2.2.2.2.2.2.2.1)
      subst z18_
      subst z
      clear h0 hd
      rw [if_pos (by rfl)]
      have c0 := keep1 (unhide H_kB) (unhide H40)
      have c1 := keep1 (unhide H_kB) (unhide H41)
      go_simp
      exact unhide hK _ _ ⟨u0, u1, u2, u3, u4, u5, u6, true, u8, u9, u10, u11, u12, u13, u14, u15, u16, u17, false, dm, rfl, rfl, unhide H_kB, unhide H_c1, unhide H_c3, unhide H_c5, (fun h => ⟨(unhide H_c8 h).1, rfl⟩), unhide H_c9, unhide H_c10, unhide H_c12, unhide H_c15, unhide H_c16, unhide H_c17, (fun h => nomatch h)⟩
    · intro h0 hd K hK
      have z : u8 = false := h0
      have z18_ : u18 = false := by
        cases hu : u18 with
        | false => rfl
        | true => exact nomatch z.symm.trans ((unhide H_kF hu).2.2.2.2.2.2.2.2.1)
      have zd : u6 = true ∧ u7 = true := by
        simp [Region.binds] at hd
        simp [hd]
      obtain ⟨rfl, rfl⟩ := zd
      subst z18_
      subst z
      clear h0 hd
      rw [if_pos (by rfl)]
      go_simp
      refine (unhide HF8 W (unhide H_kB)).mono ?_
      rintro e w8 ⟨rfl, hb8⟩
      exact unhide hK _ _ ⟨u0, u1, u2, u3, u4, u5, true, true, true, u9, u10, u11, u12, u13, u14, u15, u16, u17, false, dm, rfl, rfl, bc (unhide H_kB) hb8, unhide H_c1, unhide H_c3, unhide H_c5, (fun _ => ⟨rfl, rfl⟩), (fun h => ⟨(unhide H_c9 h).1, rfl⟩), unhide H_c10, unhide H_c12, (fun h => ⟨(unhide H_c15 h).1, (unhide H_c15 h).2.1, rfl⟩), unhide H_c16, unhide H_c17, (fun h => nomatch h)⟩
    · intro h0 hd K hK
      have z : u9 = false := h0
      have z18_ : u18 = false := by
        cases hu : u18 with
        | false => rfl
        | true => exact nomatch z.symm.trans ((unhide H_kF hu).2.2.2.2.2.2.2.2.2.1)
      have zd : u5 = true ∧ u8 = true := by
        simp [Region.binds] at hd
        simp [hd]
      obtain ⟨rfl, rfl⟩ := zd
      subst z18_
      subst z
      clear h0 hd
      rw [if_pos (by rfl)]
      have wq := unhide HW9
      go_simp
      exact unhide hK _ _ ⟨u0, u1, u2, u3, u4, true, u6, u7, true, true, u10, u11, u12, u13, u14, u15, u16, u17, false, dm, rfl, rfl, unhide H_kB, unhide H_c1, unhide H_c3, unhide H_c5, unhide H_c8, (fun _ => ⟨rfl, rfl⟩), (fun h => ⟨(unhide H_c10 h).1, rfl⟩), unhide H_c12, (fun h => ⟨(unhide H_c15 h).1, (unhide H_c15 h).2.1, rfl⟩), unhide H_c16, unhide H_c17, (fun h => nomatch h)⟩
    · intro h0 hd K hK
      have z : u10 = false := h0
      have z18_ : u18 = false := by
        cases hu : u18 with
        | false => rfl
        | true => exact nomatch z.symm.trans ((unhide H_kF hu).2.2.2.2.2.2.2.2.2.2.1)
      have zd : u3 = true ∧ u9 = true := by
        simp [Region.binds] at hd
        simp [hd]
      obtain ⟨rfl, rfl⟩ := zd
      subst z18_
      subst z
      clear h0 hd
      rw [if_pos (by rfl)]
      have wq := unhide HW10
      go_simp
      exact unhide hK _ _ ⟨u0, u1, u2, true, u4, u5, u6, u7, u8, true, true, u11, u12, u13, u14, u15, u16, u17, false, dm, rfl, rfl, unhide H_kB, unhide H_c1, unhide H_c3, unhide H_c5, unhide H_c8, unhide H_c9, (fun _ => ⟨rfl, rfl⟩), unhide H_c12, unhide H_c15, unhide H_c16, (fun h => ⟨rfl, (unhide H_c17 h).2⟩), (fun h => nomatch h)⟩
    · intro h0 hd K hK
      have z : u11 = false := h0
      have z18_ : u18 = false := by
        cases hu : u18 with
        | false => rfl
        | true => exact nomatch z.symm.trans ((unhide H_kF hu).2.2.2.2.2.2.2.2.2.2.2.1)
      subst z18_
      subst z
      clear h0 hd
      rw [if_pos (by rfl)]
      go_simp
      exact unhide hK _ _ ⟨u0, u1, u2, u3, u4, u5, u6, u7, u8, u9, u10, true, u12, u13, u14, u15, u16, u17, false, dm, rfl, rfl, unhide H_kB, unhide H_c1, unhide H_c3, unhide H_c5, unhide H_c8, unhide H_c9, unhide H_c10, (fun h => rfl), unhide H_c15, unhide H_c16, unhide H_c17, (fun h => nomatch h)⟩
    · intro h0 hd K hK
      have z : u12 = false := h0
      have z18_ : u18 = false := by
        cases hu : u18 with
        | false => rfl
        | true => exact nomatch z.symm.trans ((unhide H_kF hu).2.2.2.2.2.2.2.2.2.2.2.2.1)
      have zd : u11 = true := by
        simp [Region.binds] at hd
        simp [hd]
      obtain ⟨rfl⟩ := zd
      subst z18_
      subst z
      clear h0 hd
      rw [if_pos (by rfl)]
      have c0 := keep1 (unhide H_kB) (unhide H41)
      go_simp
      exact unhide hK _ _ ⟨u0, u1, u2, u3, u4, u5, u6, u7, u8, u9, u10, true, true, u13, u14, u15, u16, u17, false, dm, rfl, rfl, unhide H_kB, unhide H_c1, unhide H_c3, unhide H_c5, unhide H_c8, unhide H_c9, unhide H_c10, (fun _ => rfl), unhide H_c15, (fun h => ⟨rfl, (unhide H_c16 h).2⟩), unhide H_c17, (fun h => nomatch h)⟩
    · intro h0 hd K hK
      have z : u13 = false := h0
      have z18_ : u18 = false := by
        cases hu : u18 with
        | false => rfl
        | true => exact nomatch z.symm.trans ((unhide H_kF hu).2.2.2.2.2.2.2.2.2.2.2.2.2.1)
      subst z18_
      subst z
      clear h0 hd
      rw [if_pos (by rfl)]
      have c0 := keep1 (unhide H_kB) (unhide H50)
      have c1 := keep1 (unhide H_kB) (unhide H51)
      go_simp
      exact unhide hK _ _ ⟨u0, u1, u2, u3, u4, u5, u6, u7, u8, u9, u10, u11, u12, true, u14, u15, u16, u17, false, dm, rfl, rfl, unhide H_kB, unhide H_c1, unhide H_c3, unhide H_c5, unhide H_c8, unhide H_c9, unhide H_c10, unhide H_c12, (fun h => ⟨rfl, (unhide H_c15 h).2.1, (unhide H_c15 h).2.2⟩), unhide H_c16, unhide H_c17, (fun h => nomatch h)⟩
    · intro h0 hd K hK
      have z : u14 = false := h0
      have z18_ : u18 = false := by
        cases hu : u18 with
        | false => rfl
        | true => exact nomatch z.symm.trans ((unhide H_kF hu).2.2.2.2.2.2.2.2.2.2.2.2.2.2.1)
      subst z18_
      subst z
      clear h0 hd
      rw [if_pos (by rfl)]
      have c0 := keep1 (unhide H_kB) (unhide H50)
      have c1 := keep1 (unhide H_kB) (unhide H51)
      go_simp
      exact unhide hK _ _ ⟨u0, u1, u2, u3, u4, u5, u6, u7, u8, u9, u10, u11, u12, u13, true, u15, u16, u17, false, dm, rfl, rfl, unhide H_kB, unhide H_c1, unhide H_c3, unhide H_c5, unhide H_c8, unhide H_c9, unhide H_c10, unhide H_c12, (fun h => ⟨(unhide H_c15 h).1, rfl, (unhide H_c15 h).2.2⟩), unhide H_c16, unhide H_c17, (fun h => nomatch h)⟩
    · intro h0 hd K hK
      have z : u15 = false := h0
      have z18_ : u18 = false := by
        cases hu : u18 with
        | false => rfl
        | true => exact nomatch z.symm.trans ((unhide H_kF hu).2.2.2.2.2.2.2.2.2.2.2.2.2.2.2.1)
      have zd : u13 = true ∧ u14 = true ∧ u8 = true := by
        simp [Region.binds] at hd
        simp [hd]
      obtain ⟨rfl, rfl, rfl⟩ := zd
      subst z18_
      subst z
      clear h0 hd
      rw [if_pos (by rfl)]
      go_simp
      refine (unhide HF15 W (unhide H_kB)).mono ?_
      rintro e w8 ⟨rfl, hb8⟩
      exact unhide hK _ _ ⟨u0, u1, u2, u3, u4, u5, u6, u7, true, u9, u10, u11, u12, true, true, true, u16, u17, false, dm, rfl, rfl, bc (unhide H_kB) hb8, unhide H_c1, unhide H_c3, unhide H_c5, unhide H_c8, (fun h => ⟨(unhide H_c9 h).1, rfl⟩), unhide H_c10, unhide H_c12, (fun _ => ⟨rfl, rfl, rfl⟩), (fun h => ⟨(unhide H_c16 h).1, rfl⟩), unhide H_c17, (fun h => nomatch h)⟩
    · intro h0 hd K hK
      have z : u16 = false := h0
      have z18_ : u18 = false := by
        cases hu : u18 with
        | false => rfl
        | true => exact nomatch z.symm.trans ((unhide H_kF hu).2.2.2.2.2.2.2.2.2.2.2.2.2.2.2.2.1)
      have zd : u12 = true ∧ u15 = true := by
        simp [Region.binds] at hd
        simp [hd]
      obtain ⟨rfl, rfl⟩ := zd
      subst z18_
      subst z
      clear h0 hd
      rw [if_pos (by rfl)]
      have wq := unhide HW16
      go_simp
      exact unhide hK _ _ ⟨u0, u1, u2, u3, u4, u5, u6, u7, u8, u9, u10, u11, true, u13, u14, true, true, u17, false, dm, rfl, rfl, unhide H_kB, unhide H_c1, unhide H_c3, unhide H_c5, unhide H_c8, unhide H_c9, unhide H_c10, unhide H_c12, unhide H_c15, (fun _ => ⟨rfl, rfl⟩), (fun h => ⟨(unhide H_c17 h).1, rfl⟩), (fun h => nomatch h)⟩
    · intro h0 hd K hK
      have z : u17 = false := h0
      have z18_ : u18 = false := by
        cases hu : u18 with
        | false => rfl
        | true => exact nomatch z.symm.trans ((unhide H_kF hu).2.2.2.2.2.2.2.2.2.2.2.2.2.2.2.2.2)
      have zd : u10 = true ∧ u16 = true := by
        simp [Region.binds] at hd
        simp [hd]
      obtain ⟨rfl, rfl⟩ := zd
      subst z18_
      subst z
      clear h0 hd
      rw [if_pos (by rfl)]
      have wq := unhide HW17
      go_simp
      exact unhide hK _ _ ⟨u0, u1, u2, u3, u4, u5, u6, u7, u8, u9, true, u11, u12, u13, u14, u15, true, true, false, dm, rfl, rfl, unhide H_kB, unhide H_c1, unhide H_c3, unhide H_c5, unhide H_c8, unhide H_c9, unhide H_c10, unhide H_c12, unhide H_c15, unhide H_c16, (fun _ => ⟨rfl, rfl⟩), (fun h => nomatch h)⟩
    · intro h0 hd K hK
      have z : u18 = false := h0
      have zd0 : u17 = true := by
        simp [Region.binds] at hd
        simp [hd]
      have zd : u17 = true ∧ u0 = true ∧ u1 = true ∧ u2 = true ∧ u3 = true ∧ u4 = true ∧ u5 = true ∧ u6 = true ∧ u7 = true ∧ u8 = true ∧ u9 = true ∧ u10 = true ∧ u11 = true ∧ u12 = true ∧ u13 = true ∧ u14 = true ∧ u15 = true ∧ u16 = true := ⟨zd0, (unhide H_c1 (unhide H_c3 (unhide H_c10 (unhide H_c17 zd0).1).1).1), (unhide H_c3 (unhide H_c10 (unhide H_c17 zd0).1).1).1, (unhide H_c3 (unhide H_c10 (unhide H_c17 zd0).1).1).2, (unhide H_c10 (unhide H_c17 zd0).1).1, (unhide H_c5 (unhide H_c9 (unhide H_c10 (unhide H_c17 zd0).1).2).1), (unhide H_c9 (unhide H_c10 (unhide H_c17 zd0).1).2).1, (unhide H_c8 (unhide H_c9 (unhide H_c10 (unhide H_c17 zd0).1).2).2).1, (unhide H_c8 (unhide H_c9 (unhide H_c10 (unhide H_c17 zd0).1).2).2).2, (unhide H_c9 (unhide H_c10 (unhide H_c17 zd0).1).2).2, (unhide H_c10 (unhide H_c17 zd0).1).2, (unhide H_c17 zd0).1, (unhide H_c12 (unhide H_c16 (unhide H_c17 zd0).2).1), (unhide H_c16 (unhide H_c17 zd0).2).1, (unhide H_c15 (unhide H_c16 (unhide H_c17 zd0).2).2).1, (unhide H_c15 (unhide H_c16 (unhide H_c17 zd0).2).2).2.1, (unhide H_c16 (unhide H_c17 zd0).2).2, (unhide H_c17 zd0).2⟩
      obtain ⟨rfl, rfl, rfl, rfl, rfl, rfl, rfl, rfl, rfl, rfl, rfl, rfl, rfl, rfl, rfl, rfl, rfl, rfl⟩ := zd
      subst z
      clear h0 hd
      rw [if_pos (by rfl)]
      go_simp
      exact unhide hK _ _ ⟨true, true, true, true, true, true, true, true, true, true, true, true, true, true, true, true, true, true, true, dm, rfl, rfl, unhide H_kB, (fun _ => rfl), (fun _ => ⟨rfl, rfl⟩), (fun _ => rfl), (fun _ => ⟨rfl, rfl⟩), (fun _ => ⟨rfl, rfl⟩), (fun _ => ⟨rfl, rfl⟩), (fun _ => rfl), (fun _ => ⟨rfl, rfl, rfl⟩), (fun _ => ⟨rfl, rfl⟩), (fun _ => ⟨rfl, rfl⟩), (fun _ => ⟨rfl, rfl, rfl, rfl, rfl, rfl, rfl, rfl, rfl, rfl, rfl, rfl, rfl, rfl, rfl, rfl, rfl, rfl⟩)⟩
  case hend =>
    intro Lb A W hI
    obtain ⟨u0, hI⟩ := hI
    obtain ⟨u1, hI⟩ := hI
    obtain ⟨u2, hI⟩ := hI
    obtain ⟨u3, hI⟩ := hI
    obtain ⟨u4, hI⟩ := hI
    obtain ⟨u5, hI⟩ := hI
    obtain ⟨u6, hI⟩ := hI
    obtain ⟨u7, hI⟩ := hI
    obtain ⟨u8, hI⟩ := hI
    obtain ⟨u9, hI⟩ := hI
    obtain ⟨u10, hI⟩ := hI
    obtain ⟨u11, hI⟩ := hI
    obtain ⟨u12, hI⟩ := hI
    obtain ⟨u13, hI⟩ := hI
    obtain ⟨u14, hI⟩ := hI
    obtain ⟨u15, hI⟩ := hI
    obtain ⟨u16, hI⟩ := hI
    obtain ⟨u17, hI⟩ := hI
    obtain ⟨u18, hI⟩ := hI
    obtain ⟨dm, hI⟩ := hI
    obtain ⟨hLb, hI⟩ := hI
    obtain ⟨hA, hI⟩ := hI
    obtain ⟨kB, hI⟩ := hI
    obtain ⟨c1, hI⟩ := hI
    obtain ⟨c3, hI⟩ := hI
    obtain ⟨c5, hI⟩ := hI
    obtain ⟨c8, hI⟩ := hI
    obtain ⟨c9, hI⟩ := hI
    obtain ⟨c10, hI⟩ := hI
    obtain ⟨c12, hI⟩ := hI
    obtain ⟨c15, hI⟩ := hI
    obtain ⟨c16, hI⟩ := hI
    obtain ⟨c17, hI⟩ := hI
    have kF := hI
    clear hI
    subst hLb
    subst hA
    intro hL
    have hl : u0 = true ∧ u1 = true ∧ u2 = true ∧ u3 = true ∧ u4 = true ∧ u5 = true ∧ u6 = true ∧ u7 = true ∧ u8 = true ∧ u9 = true ∧ u10 = true ∧ u11 = true ∧ u12 = true ∧ u13 = true ∧ u14 = true ∧ u15 = true ∧ u16 = true ∧ u17 = true ∧ u18 = true := by
      have h2 := congrArg Array.toList hL
      simpa [List.replicate] using h2
    obtain ⟨rfl, rfl, rfl, rfl, rfl, rfl, rfl, rfl, rfl, rfl, rfl, rfl, rfl, rfl, rfl, rfl, rfl, rfl, rfl⟩ := hl
    exact unhide HQ  W kB

set_option maxHeartbeats 4000000 in
set_option maxRecDepth 100000 in
theorem ce5 {s1 s2 s7 s8 s9 s10 s11 s12 s13 s14 s15 s16 s17 s18 s19 s20 s21 s22 s23 s24 s25 s26 s27 s28 s29 s30 s31 s32 s33 s34 s35 s36 s37 s38 s39 s40 s41 s42 s43 s44 s45 s46 s47 s48 s49 s50 s51 s52 s53 s54 s55 s56 s57 s58 s59 s60 s61 s62 s63 s64 s65 s66 s67 s68 s69 s70 s71 s72 s73 s74 s75 s76 s77 : Value} {b b3 b4 b5 : Nat} {a1 a2 d1 d2 e1 e2 w bb cc p q r x u : Int} {V : World} {K_ : Act → World → Prop} 
    (H30 : Hid (V.cell? ⟨b3, 0, none⟩ = some (.int .i64 (a1)))) (H31 : Hid (V.cell? ⟨b3, 1, none⟩ = some (.int .i64 (a2)))) (H40 : Hid (V.cell? ⟨b4, 0, none⟩ = some (.int .i64 (d1)))) (H41 : Hid (V.cell? ⟨b4, 1, none⟩ = some (.int .i64 (d2)))) (H50 : Hid (V.cell? ⟨b5, 0, none⟩ = some (.int .i64 (e1)))) (H51 : Hid (V.cell? ⟨b5, 1, none⟩ = some (.int .i64 (e2)))) 
    (HW3 : Hid (IntKind.i64.wrap (a2 * w) = p))
    (HF8 : Hid (∀ Xw, Below V.heap.size V Xw → Calls Try.prog 54 #[.agg #[.int .i64 (e1), .int .i64 (e2)], .agg #[.int .i64 (e1), .int .i64 (e2)]] Xw fun e w' => e = .returned (.int .i64 (cc)) ∧ Below Xw.heap.size Xw w'))
    (HW9 : Hid (IntKind.i64.wrap (d1 * cc) = q))
    (HW10 : Hid (IntKind.i64.wrap (p + q) = r))
    (HF15 : Hid (∀ Xw, Below V.heap.size V Xw → Calls Try.prog 54 #[.agg #[.int .i64 (d1), .int .i64 (d2)], .agg #[.int .i64 (d1), .int .i64 (d2)]] Xw fun e w' => e = .returned (.int .i64 (bb)) ∧ Below Xw.heap.size Xw w'))
    (HW16 : Hid (IntKind.i64.wrap (e1 * bb) = u))
    (HW17 : Hid (IntKind.i64.wrap (r - u) = x))
    (hQ : ∀ (W1 : World), Below V.heap.size V W1 → K_ { tmps := #[.pointer (some ⟨b, 0, none⟩), s1, s2, .pointer (some ⟨b3, 0, none⟩), .pointer (some ⟨b4, 0, none⟩), .pointer (some ⟨b5, 0, none⟩), .int .i64 (w), s7, .int .i64 (x), s9, s10, s11, s12, s13, s14, s15, s16, s17, s18, s19, s20, s21, s22, s23, s24, s25, s26, s27, s28, s29, s30, s31, s32, s33, s34, s35, s36, s37, s38, s39, s40, s41, s42, s43, s44, s45, s46, s47, .pointer (some ⟨b3, 1, none⟩), .int .i64 (a2), .int .i64 (w), .int .i64 (p), .pointer (some ⟨b4, 0, none⟩), .int .i64 (d1), .agg #[.int .i64 (e1), .int .i64 (e2)], .agg #[.int .i64 (e1), .int .i64 (e2)], .int .i64 (cc), .int .i64 (q), .int .i64 (r), .pointer (some ⟨b5, 0, none⟩), .int .i64 (e1), .agg #[.int .i64 (d1), .int .i64 (d2)], .agg #[.int .i64 (d1), .int .i64 (d2)], .int .i64 (bb), .int .i64 (u), .int .i64 (x), s66, s67, s68, s69, s70, s71, s72, s73, s74, s75, s76, s77], defers := [] } W1) :
    Go.Code.wp Try.prog (rg89 5) (Only K_) { tmps := #[.pointer (some ⟨b, 0, none⟩), s1, s2, .pointer (some ⟨b3, 0, none⟩), .pointer (some ⟨b4, 0, none⟩), .pointer (some ⟨b5, 0, none⟩), .int .i64 (w), s7, s8, s9, s10, s11, s12, s13, s14, s15, s16, s17, s18, s19, s20, s21, s22, s23, s24, s25, s26, s27, s28, s29, s30, s31, s32, s33, s34, s35, s36, s37, s38, s39, s40, s41, s42, s43, s44, s45, s46, s47, s48, s49, s50, s51, s52, s53, s54, s55, s56, s57, s58, s59, s60, s61, s62, s63, s64, s65, s66, s67, s68, s69, s70, s71, s72, s73, s74, s75, s76, s77], defers := [] } V := by
  have HQ := hide hQ
  clear hQ
  conv => arg 2; whnf
  refine wp_region_inv2 (fun Lb A W => ∃ (u0 u1 u2 u3 u4 u5 u6 u7 u8 u9 u10 u11 u12 u13 u14 u15 u16 u17 u18 : Bool) (dm : Nat), Lb = #[u0, u1, u2, u3, u4, u5, u6, u7, u8, u9, u10, u11, u12, u13, u14, u15, u16, u17, u18] ∧ A = ({ tmps := #[.pointer (some ⟨b, 0, none⟩), s1, s2, .pointer (some ⟨b3, 0, none⟩), .pointer (some ⟨b4, 0, none⟩), .pointer (some ⟨b5, 0, none⟩), .int .i64 (w), s7, (bif u18 then .int .i64 (x) else s8), s9, s10, s11, s12, s13, s14, s15, s16, s17, s18, s19, s20, s21, s22, s23, s24, s25, s26, s27, s28, s29, s30, s31, s32, s33, s34, s35, s36, s37, s38, s39, s40, s41, s42, s43, s44, s45, s46, s47, (bif u0 then .pointer (some ⟨b3, 1, none⟩) else s48), (bif u1 then .int .i64 (a2) else s49), (bif u2 then .int .i64 (w) else s50), (bif u3 then .int .i64 (p) else s51), (bif u4 then .pointer (some ⟨b4, 0, none⟩) else s52), (bif u5 then .int .i64 (d1) else s53), (bif u6 then .agg #[.int .i64 (e1), .int .i64 (e2)] else s54), (bif u7 then .agg #[.int .i64 (e1), .int .i64 (e2)] else s55), (bif u8 then .int .i64 (cc) else s56), (bif u9 then .int .i64 (q) else s57), (bif u10 then .int .i64 (r) else s58), (bif u11 then .pointer (some ⟨b5, 0, none⟩) else s59), (bif u12 then .int .i64 (e1) else s60), (bif u13 then .agg #[.int .i64 (d1), .int .i64 (d2)] else s61), (bif u14 then .agg #[.int .i64 (d1), .int .i64 (d2)] else s62), (bif u15 then .int .i64 (bb) else s63), (bif u16 then .int .i64 (u) else s64), (bif u17 then .int .i64 (x) else s65), s66, s67, s68, s69, s70, s71, s72, s73, s74, s75, s76, s77], defers := [] } : Act) ∧ Below V.heap.size V W ∧ (u1 = true → u0 = true) ∧ (u3 = true → u1 = true ∧ u2 = true) ∧ (u5 = true → u4 = true) ∧ (u8 = true → u6 = true ∧ u7 = true) ∧ (u9 = true → u5 = true ∧ u8 = true) ∧ (u10 = true → u3 = true ∧ u9 = true) ∧ (u12 = true → u11 = true) ∧ (u15 = true → u13 = true ∧ u14 = true ∧ u8 = true) ∧ (u16 = true → u12 = true ∧ u15 = true) ∧ (u17 = true → u10 = true ∧ u16 = true) ∧ (u18 = true → u0 = true ∧ u1 = true ∧ u2 = true ∧ u3 = true ∧ u4 = true ∧ u5 = true ∧ u6 = true ∧ u7 = true ∧ u8 = true ∧ u9 = true ∧ u10 = true ∧ u11 = true ∧ u12 = true ∧ u13 = true ∧ u14 = true ∧ u15 = true ∧ u16 = true ∧ u17 = true)) (by kernel_rfl) (by kernel_rfl) ?h0 ?hstep ?hend
  case h0 =>
    exact ⟨false, false, false, false, false, false, false, false, false, false, false, false, false, false, false, false, false, false, false, 0, rfl, rfl, Below.drew (Below.refl _ _), (fun h => nomatch h), (fun h => nomatch h), (fun h => nomatch h), (fun h => nomatch h), (fun h => nomatch h), (fun h => nomatch h), (fun h => nomatch h), (fun h => nomatch h), (fun h => nomatch h), (fun h => nomatch h), (fun h => nomatch h)⟩
  case hstep =>
    intro Lb A W hI
    obtain ⟨u0, hI⟩ := hI
    obtain ⟨u1, hI⟩ := hI
    obtain ⟨u2, hI⟩ := hI
    obtain ⟨u3, hI⟩ := hI
    obtain ⟨u4, hI⟩ := hI
    obtain ⟨u5, hI⟩ := hI
    obtain ⟨u6, hI⟩ := hI
    obtain ⟨u7, hI⟩ := hI
    obtain ⟨u8, hI⟩ := hI
    obtain ⟨u9, hI⟩ := hI
    obtain ⟨u10, hI⟩ := hI
    obtain ⟨u11, hI⟩ := hI
    obtain ⟨u12, hI⟩ := hI
    obtain ⟨u13, hI⟩ := hI
    obtain ⟨u14, hI⟩ := hI
    obtain ⟨u15, hI⟩ := hI
    obtain ⟨u16, hI⟩ := hI
    obtain ⟨u17, hI⟩ := hI
    obtain ⟨u18, hI⟩ := hI
    obtain ⟨dm, hI⟩ := hI
    obtain ⟨hLb, hI⟩ := hI
    obtain ⟨hA, hI⟩ := hI
    obtain ⟨kB, hI⟩ := hI
    obtain ⟨c1, hI⟩ := hI
    obtain ⟨c3, hI⟩ := hI
    obtain ⟨c5, hI⟩ := hI
    obtain ⟨c8, hI⟩ := hI
    obtain ⟨c9, hI⟩ := hI
    obtain ⟨c10, hI⟩ := hI
    obtain ⟨c12, hI⟩ := hI
    obtain ⟨c15, hI⟩ := hI
    obtain ⟨c16, hI⟩ := hI
    obtain ⟨c17, hI⟩ := hI
    have kF := hI
    clear hI
    subst hLb
    subst hA
    have H_kB := hide kB
    have H_c1 := hide c1
    have H_c3 := hide c3
    have H_c5 := hide c5
    have H_c8 := hide c8
    have H_c9 := hide c9
    have H_c10 := hide c10
    have H_c12 := hide c12
    have H_c15 := hide c15
    have H_c16 := hide c16
    have H_c17 := hide c17
    have H_kF := hide kF
    clear kB c1 c3 c5 c8 c9 c10 c12 c15 c16 c17 kF
    refine ⟨?_, ?_, ?_, ?_, ?_, ?_, ?_, ?_, ?_, ?_, ?_, ?_, ?_, ?_, ?_, ?_, ?_, ?_, ?_, trivial⟩
    · intro h0 hd K hK
      have z : u0 = false := h0
      have z18_ : u18 = false := by
        cases hu : u18 with
        | false => rfl
        | true => exact nomatch z.symm.trans ((unhide H_kF hu).1)
      subst z18_
      subst z
      clear h0 hd
      rw [if_pos (by rfl)]
      go_simp
      exact unhide hK _ _ ⟨true, u1, u2, u3, u4, u5, u6, u7, u8, u9, u10, u11, u12, u13, u14, u15, u16, u17, false, dm, rfl, rfl, unhide H_kB, (fun h => rfl), unhide H_c3, unhide H_c5, unhide H_c8, unhide H_c9, unhide H_c10, unhide H_c12, unhide H_c15, unhide H_c16, unhide H_c17, (fun h => nomatch h)⟩
    · intro h0 hd K hK
      have z : u1 = false := h0
      have z18_ : u18 = false := by
        cases hu : u18 with
        | false => rfl
        | true => exact nomatch z.symm.trans ((unhide H_kF hu).2.1)
      have zd : u0 = true := by
        simp [Region.binds] at hd
        simp [hd]
      obtain ⟨rfl⟩ := zd
      subst z18_
      subst z
      clear h0 hd
      rw [if_pos (by rfl)]
      have c0 := keep1 (unhide H_kB) (unhide H31)
      go_simp
      exact unhide hK _ _ ⟨true, true, u2, u3, u4, u5, u6, u7, u8, u9, u10, u11, u12, u13, u14, u15, u16, u17, false, dm, rfl, rfl, unhide H_kB, (fun _ => rfl), (fun h => ⟨rfl, (unhide H_c3 h).2⟩), unhide H_c5, unhide H_c8, unhide H_c9, unhide H_c10, unhide H_c12, unhide H_c15, unhide H_c16, unhide H_c17, (fun h => nomatch h)⟩
    · intro h0 hd K hK
      have z : u2 = false := h0
      have z18_ : u18 = false := by
        cases hu : u18 with
        | false => rfl
        | true => exact nomatch z.symm.trans ((unhide H_kF hu).2.2.1)
      subst z18_
      subst z
      clear h0 hd
      rw [if_pos (by rfl)]
      go_simp
      exact unhide hK _ _ ⟨u0, u1, true, u3, u4, u5, u6, u7, u8, u9, u10, u11, u12, u13, u14, u15, u16, u17, false, dm, rfl, rfl, unhide H_kB, unhide H_c1, (fun h => ⟨(unhide H_c3 h).1, rfl⟩), unhide H_c5, unhide H_c8, unhide H_c9, unhide H_c10, unhide H_c12, unhide H_c15, unhide H_c16, unhide H_c17, (fun h => nomatch h)⟩
    · intro h0 hd K hK
      have z : u3 = false := h0
      have z18_ : u18 = false := by
        cases hu : u18 with
        | false => rfl
        | true => exact nomatch z.symm.trans ((unhide H_kF hu).2.2.2.1)
      have zd : u1 = true ∧ u2 = true := by
        simp [Region.binds] at hd
        simp [hd]
      obtain ⟨rfl, rfl⟩ := zd
      subst z18_
      subst z
      clear h0 hd
      rw [if_pos (by rfl)]
      have wq := unhide HW3
      go_simp
      exact unhide hK _ _ ⟨u0, true, true, true, u4, u5, u6, u7, u8, u9, u10, u11, u12, u13, u14, u15, u16, u17, false, dm, rfl, rfl, unhide H_kB, unhide H_c1, (fun _ => ⟨rfl, rfl⟩), unhide H_c5, unhide H_c8, unhide H_c9, (fun h => ⟨rfl, (unhide H_c10 h).2⟩), unhide H_c12, unhide H_c15, unhide H_c16, unhide H_c17, (fun h => nomatch h)⟩
    · intro h0 hd K hK
      have z : u4 = false := h0
      have z18_ : u18 = false := by
        cases hu : u18 with
        | false => rfl
        | true => exact nomatch z.symm.trans ((unhide H_kF hu).2.2.2.2.1)
      subst z18_
      subst z
      clear h0 hd
      rw [if_pos (by rfl)]
      go_simp
      exact unhide hK _ _ ⟨u0, u1, u2, u3, true, u5, u6, u7, u8, u9, u10, u11, u12, u13, u14, u15, u16, u17, false, dm, rfl, rfl, unhide H_kB, unhide H_c1, unhide H_c3, (fun h => rfl), unhide H_c8, unhide H_c9, unhide H_c10, unhide H_c12, unhide H_c15, unhide H_c16, unhide H_c17, (fun h => nomatch h)⟩
    · intro h0 hd K hK
      have z : u5 = false := h0
      have z18_ : u18 = false := by
        cases hu : u18 with
        | false => rfl
        | true => exact nomatch z.symm.trans ((unhide H_kF hu).2.2.2.2.2.1)
      have zd : u4 = true := by
        simp [Region.binds] at hd
        simp [hd]
      obtain ⟨rfl⟩ := zd
      subst z18_
      subst z
      clear h0 hd
      rw [if_pos (by rfl)]
      have c0 := keep1 (unhide H_kB) (unhide H40)
      go_simp
      exact unhide hK _ _ ⟨u0, u1, u2, u3, true, true, u6, u7, u8, u9, u10, u11, u12, u13, u14, u15, u16, u17, false, dm, rfl, rfl, unhide H_kB, unhide H_c1, unhide H_c3, (fun _ => rfl), unhide H_c8, (fun h => ⟨rfl, (unhide H_c9 h).2⟩), unhide H_c10, unhide H_c12, unhide H_c15, unhide H_c16, unhide H_c17, (fun h => nomatch h)⟩
    · intro h0 hd K hK
      have z : u6 = false := h0
      have z18_ : u18 = false := by
        cases hu : u18 with
        | false => rfl
        | true => exact nomatch z.symm.trans ((unhide H_kF hu).2.2.2.2.2.2.1)
      subst z18_
      subst z
      clear h0 hd
      rw [if_pos (by rfl)]
      have c0 := keep1 (unhide H_kB) (unhide H50)
      have c1 := keep1 (unhide H_kB) (unhide H51)
      go_simp
      exact unhide hK _ _ ⟨u0, u1, u2, u3, u4, u5, true, u7, u8, u9, u10, u11, u12, u13, u14, u15, u16, u17, false, dm, rfl, rfl, unhide H_kB, unhide H_c1, unhide H_c3, unhide H_c5, (fun h => ⟨rfl, (unhide H_c8 h).2⟩), unhide H_c9, unhide H_c10, unhide H_c12, unhide H_c15, unhide H_c16, unhide H_c17, (fun h => nomatch h)⟩
    · intro h0 hd K hK
      have z : u7 = false := h0
      have z18_ : u18 = false := by
        cases hu : u18 with
        | false => rfl
        | true => exact nomatch z.symm.trans ((unhide H_kF hu).2.2.2.2.2.2.2.1)
      subst z18_
      subst z
      clear h0 hd
      rw [if_pos (by rfl)]
      have c0 := keep1 (unhide H_kB) (unhide H50)
      have c1 := keep1 (unhide H_kB) (unhide H51)
      go_simp
      exact unhide hK _ _ ⟨u0, u1, u2, u3, u4, u5, u6, true, u8, u9, u10, u11, u12, u13, u14, u15, u16, u17, false, dm, rfl, rfl, unhide H_kB, unhide H_c1, unhide H_c3, unhide H_c5, (fun h => ⟨(unhide H_c8 h).1, rfl⟩), unhide H_c9, unhide H_c10, unhide H_c12, unhide H_c15, unhide H_c16, unhide H_c17, (fun h => nomatch h)⟩
    · intro h0 hd K hK
      have z : u8 = false := h0
      have z18_ : u18 = false := by
        cases hu : u18 with
        | false => rfl
        | true => exact nomatch z.symm.trans ((unhide H_kF hu).2.2.2.2.2.2.2.2.1)
      have zd : u6 = true ∧ u7 = true := by
        simp [Region.binds] at hd
        simp [hd]
      obtain ⟨rfl, rfl⟩ := zd
      subst z18_
      subst z
      clear h0 hd
      rw [if_pos (by rfl)]
      go_simp
      refine (unhide HF8 W (unhide H_kB)).mono ?_
      rintro e w8 ⟨rfl, hb8⟩
      exact unhide hK _ _ ⟨u0, u1, u2, u3, u4, u5, true, true, true, u9, u10, u11, u12, u13, u14, u15, u16, u17, false, dm, rfl, rfl, bc (unhide H_kB) hb8, unhide H_c1, unhide H_c3, unhide H_c5, (fun _ => ⟨rfl, rfl⟩), (fun h => ⟨(unhide H_c9 h).1, rfl⟩), unhide H_c10, unhide H_c12, (fun h => ⟨(unhide H_c15 h).1, (unhide H_c15 h).2.1, rfl⟩), unhide H_c16, unhide H_c17, (fun h => nomatch h)⟩
    · intro h0 hd K hK
      have z : u9 = false := h0
      have z18_ : u18 = false := by
        cases hu : u18 with
        | false => rfl
        | true => exact nomatch z.symm.trans ((unhide H_kF hu).2.2.2.2.2.2.2.2.2.1)
      have zd : u5 = true ∧ u8 = true := by
        simp [Region.binds] at hd
        simp [hd]
      obtain ⟨rfl, rfl⟩ := zd
      subst z18_
      subst z
      clear h0 hd
      rw [if_pos (by rfl)]
      have wq := unhide HW9
      go_simp
      exact unhide hK _ _ ⟨u0, u1, u2, u3, u4, true, u6, u7, true, true, u10, u11, u12, u13, u14, u15, u16, u17, false, dm, rfl, rfl, unhide H_kB, unhide H_c1, unhide H_c3, unhide H_c5, unhide H_c8, (fun _ => ⟨rfl, rfl⟩), (fun h => ⟨(unhide H_c10 h).1, rfl⟩), unhide H_c12, (fun h => ⟨(unhide H_c15 h).1, (unhide H_c15 h).2.1, rfl⟩), unhide H_c16, unhide H_c17, (fun h => nomatch h)⟩
    · intro h0 hd K hK
      have z : u10 = false := h0
      have z18_ : u18 = false := by
        cases hu : u18 with
        | false => rfl
        | true => exact nomatch z.symm.trans ((unhide H_kF hu).2.2.2.2.2.2.2.2.2.2.1)
      have zd : u3 = true ∧ u9 = true := by
        simp [Region.binds] at hd
        simp [hd]
      obtain ⟨rfl, rfl⟩ := zd
      subst z18_
      subst z
      clear h0 hd
      rw [if_pos (by rfl)]
      have wq := unhide HW10
      go_simp
      exact unhide hK _ _ ⟨u0, u1, u2, true, u4, u5, u6, u7, u8, true, true, u11, u12, u13, u14, u15, u16, u17, false, dm, rfl, rfl, unhide H_kB, unhide H_c1, unhide H_c3, unhide H_c5, unhide H_c8, unhide H_c9, (fun _ => ⟨rfl, rfl⟩), unhide H_c12, unhide H_c15, unhide H_c16, (fun h => ⟨rfl, (unhide H_c17 h).2⟩), (fun h => nomatch h)⟩
    · intro h0 hd K hK
      have z : u11 = false := h0
      have z18_ : u18 = false := by
        cases hu : u18 with
        | false => rfl
        | true => exact nomatch z.symm.trans ((unhide H_kF hu).2.2.2.2.2.2.2.2.2.2.2.1)
      subst z18_
      subst z
      clear h0 hd
      rw [if_pos (by rfl)]
      go_simp
      exact unhide hK _ _ ⟨u0, u1, u2, u3, u4, u5, u6, u7, u8, u9, u10, true, u12, u13, u14, u15, u16, u17, false, dm, rfl, rfl, unhide H_kB, unhide H_c1, unhide H_c3, unhide H_c5, unhide H_c8, unhide H_c9, unhide H_c10, (fun h => rfl), unhide H_c15, unhide H_c16, unhide H_c17, (fun h => nomatch h)⟩
    · intro h0 hd K hK
      have z : u12 = false := h0
      have z18_ : u18 = false := by
        cases hu : u18 with
        | false => rfl
        | true => exact nomatch z.symm.trans ((unhide H_kF hu).2.2.2.2.2.2.2.2.2.2.2.2.1)
      have zd : u11 = true := by
        simp [Region.binds] at hd
        simp [hd]
      obtain ⟨rfl⟩ := zd
      subst z18_
      subst z
      clear h0 hd
      rw [if_pos (by rfl)]
      have c0 := keep1 (unhide H_kB) (unhide H50)
      go_simp
      exact unhide hK _ _ ⟨u0, u1, u2, u3, u4, u5, u6, u7, u8, u9, u10, true, true, u13, u14, u15, u16, u17, false, dm, rfl, rfl, unhide H_kB, unhide H_c1, unhide H_c3, unhide H_c5, unhide H_c8, unhide H_c9, unhide H_c10, (fun _ => rfl), unhide H_c15, (fun h => ⟨rfl, (unhide H_c16 h).2⟩), unhide H_c17, (fun h => nomatch h)⟩
    · intro h0 hd K hK
      have z : u13 = false := h0
      have z18_ : u18 = false := by
        cases hu : u18 with
        | false => rfl
        | true => exact nomatch z.symm.trans ((unhide H_kF hu).2.2.2.2.2.2.2.2.2.2.2.2.2.1)
      subst z18_
      subst z
      clear h0 hd
      rw [if_pos (by rfl)]
      have c0 := keep1 (unhide H_kB) (unhide H40)
      have c1 := keep1 (unhide H_kB) (unhide H41)
      go_simp
      exact unhide hK _ _ ⟨u0, u1, u2, u3, u4, u5, u6, u7, u8, u9, u10, u11, u12, true, u14, u15, u16, u17, false, dm, rfl, rfl, unhide H_kB, unhide H_c1, unhide H_c3, unhide H_c5, unhide H_c8, unhide H_c9, unhide H_c10, unhide H_c12, (fun h => ⟨rfl, (unhide H_c15 h).2.1, (unhide H_c15 h).2.2⟩), unhide H_c16, unhide H_c17, (fun h => nomatch h)⟩
    · intro h0 hd K hK
      have z : u14 = false := h0
      have z18_ : u18 = false := by
        cases hu : u18 with
        | false => rfl
        | true => exact nomatch z.symm.trans ((unhide H_kF hu).2.2.2.2.2.2.2.2.2.2.2.2.2.2.1)
      subst z18_
      subst z
      clear h0 hd
      rw [if_pos (by rfl)]
      have c0 := keep1 (unhide H_kB) (unhide H40)
      have c1 := keep1 (unhide H_kB) (unhide H41)
      go_simp
      exact unhide hK _ _ ⟨u0, u1, u2, u3, u4, u5, u6, u7, u8, u9, u10, u11, u12, u13, true, u15, u16, u17, false, dm, rfl, rfl, unhide H_kB, unhide H_c1, unhide H_c3, unhide H_c5, unhide H_c8, unhide H_c9, unhide H_c10, unhide H_c12, (fun h => ⟨(unhide H_c15 h).1, rfl, (unhide H_c15 h).2.2⟩), unhide H_c16, unhide H_c17, (fun h => nomatch h)⟩
    · intro h0 hd K hK
      have z : u15 = false := h0
      have z18_ : u18 = false := by
        cases hu : u18 with
        | false => rfl
        | true => exact nomatch z.symm.trans ((unhide H_kF hu).2.2.2.2.2.2.2.2.2.2.2.2.2.2.2.1)
      have zd : u13 = true ∧ u14 = true ∧ u8 = true := by
        simp [Region.binds] at hd
        simp [hd]
      obtain ⟨rfl, rfl, rfl⟩ := zd
      subst z18_
      subst z
      clear h0 hd
      rw [if_pos (by rfl)]
      go_simp
      refine (unhide HF15 W (unhide H_kB)).mono ?_
      rintro e w8 ⟨rfl, hb8⟩
      exact unhide hK _ _ ⟨u0, u1, u2, u3, u4, u5, u6, u7, true, u9, u10, u11, u12, true, true, true, u16, u17, false, dm, rfl, rfl, bc (unhide H_kB) hb8, unhide H_c1, unhide H_c3, unhide H_c5, unhide H_c8, (fun h => ⟨(unhide H_c9 h).1, rfl⟩), unhide H_c10, unhide H_c12, (fun _ => ⟨rfl, rfl, rfl⟩), (fun h => ⟨(unhide H_c16 h).1, rfl⟩), unhide H_c17, (fun h => nomatch h)⟩
    · intro h0 hd K hK
      have z : u16 = false := h0
      have z18_ : u18 = false := by
        cases hu : u18 with
        | false => rfl
        | true => exact nomatch z.symm.trans ((unhide H_kF hu).2.2.2.2.2.2.2.2.2.2.2.2.2.2.2.2.1)
      have zd : u12 = true ∧ u15 = true := by
        simp [Region.binds] at hd
        simp [hd]
      obtain ⟨rfl, rfl⟩ := zd
      subst z18_
      subst z
      clear h0 hd
      rw [if_pos (by rfl)]
      have wq := unhide HW16
      go_simp
      exact unhide hK _ _ ⟨u0, u1, u2, u3, u4, u5, u6, u7, u8, u9, u10, u11, true, u13, u14, true, true, u17, false, dm, rfl, rfl, unhide H_kB, unhide H_c1, unhide H_c3, unhide H_c5, unhide H_c8, unhide H_c9, unhide H_c10, unhide H_c12, unhide H_c15, (fun _ => ⟨rfl, rfl⟩), (fun h => ⟨(unhide H_c17 h).1, rfl⟩), (fun h => nomatch h)⟩
    · intro h0 hd K hK
      have z : u17 = false := h0
      have z18_ : u18 = false := by
        cases hu : u18 with
        | false => rfl
        | true => exact nomatch z.symm.trans ((unhide H_kF hu).2.2.2.2.2.2.2.2.2.2.2.2.2.2.2.2.2)
      have zd : u10 = true ∧ u16 = true := by
        simp [Region.binds] at hd
        simp [hd]
      obtain ⟨rfl, rfl⟩ := zd
      subst z18_
      subst z
      clear h0 hd
      rw [if_pos (by rfl)]
      have wq := unhide HW17
      go_simp
      exact unhide hK _ _ ⟨u0, u1, u2, u3, u4, u5, u6, u7, u8, u9, true, u11, u12, u13, u14, u15, true, true, false, dm, rfl, rfl, unhide H_kB, unhide H_c1, unhide H_c3, unhide H_c5, unhide H_c8, unhide H_c9, unhide H_c10, unhide H_c12, unhide H_c15, unhide H_c16, (fun _ => ⟨rfl, rfl⟩), (fun h => nomatch h)⟩
    · intro h0 hd K hK
      have z : u18 = false := h0
      have zd0 : u17 = true := by
        simp [Region.binds] at hd
        simp [hd]
      have zd : u17 = true ∧ u0 = true ∧ u1 = true ∧ u2 = true ∧ u3 = true ∧ u4 = true ∧ u5 = true ∧ u6 = true ∧ u7 = true ∧ u8 = true ∧ u9 = true ∧ u10 = true ∧ u11 = true ∧ u12 = true ∧ u13 = true ∧ u14 = true ∧ u15 = true ∧ u16 = true := ⟨zd0, (unhide H_c1 (unhide H_c3 (unhide H_c10 (unhide H_c17 zd0).1).1).1), (unhide H_c3 (unhide H_c10 (unhide H_c17 zd0).1).1).1, (unhide H_c3 (unhide H_c10 (unhide H_c17 zd0).1).1).2, (unhide H_c10 (unhide H_c17 zd0).1).1, (unhide H_c5 (unhide H_c9 (unhide H_c10 (unhide H_c17 zd0).1).2).1), (unhide H_c9 (unhide H_c10 (unhide H_c17 zd0).1).2).1, (unhide H_c8 (unhide H_c9 (unhide H_c10 (unhide H_c17 zd0).1).2).2).1, (unhide H_c8 (unhide H_c9 (unhide H_c10 (unhide H_c17 zd0).1).2).2).2, (unhide H_c9 (unhide H_c10 (unhide H_c17 zd0).1).2).2, (unhide H_c10 (unhide H_c17 zd0).1).2, (unhide H_c17 zd0).1, (unhide H_c12 (unhide H_c16 (unhide H_c17 zd0).2).1), (unhide H_c16 (unhide H_c17 zd0).2).1, (unhide H_c15 (unhide H_c16 (unhide H_c17 zd0).2).2).1, (unhide H_c15 (unhide H_c16 (unhide H_c17 zd0).2).2).2.1, (unhide H_c16 (unhide H_c17 zd0).2).2, (unhide H_c17 zd0).2⟩
      obtain ⟨rfl, rfl, rfl, rfl, rfl, rfl, rfl, rfl, rfl, rfl, rfl, rfl, rfl, rfl, rfl, rfl, rfl, rfl⟩ := zd
      subst z
      clear h0 hd
      rw [if_pos (by rfl)]
      go_simp
      exact unhide hK _ _ ⟨true, true, true, true, true, true, true, true, true, true, true, true, true, true, true, true, true, true, true, dm, rfl, rfl, unhide H_kB, (fun _ => rfl), (fun _ => ⟨rfl, rfl⟩), (fun _ => rfl), (fun _ => ⟨rfl, rfl⟩), (fun _ => ⟨rfl, rfl⟩), (fun _ => ⟨rfl, rfl⟩), (fun _ => rfl), (fun _ => ⟨rfl, rfl, rfl⟩), (fun _ => ⟨rfl, rfl⟩), (fun _ => ⟨rfl, rfl⟩), (fun _ => ⟨rfl, rfl, rfl, rfl, rfl, rfl, rfl, rfl, rfl, rfl, rfl, rfl, rfl, rfl, rfl, rfl, rfl, rfl⟩)⟩
  case hend =>
    intro Lb A W hI
    obtain ⟨u0, hI⟩ := hI
    obtain ⟨u1, hI⟩ := hI
    obtain ⟨u2, hI⟩ := hI
    obtain ⟨u3, hI⟩ := hI
    obtain ⟨u4, hI⟩ := hI
    obtain ⟨u5, hI⟩ := hI
    obtain ⟨u6, hI⟩ := hI
    obtain ⟨u7, hI⟩ := hI
    obtain ⟨u8, hI⟩ := hI
    obtain ⟨u9, hI⟩ := hI
    obtain ⟨u10, hI⟩ := hI
    obtain ⟨u11, hI⟩ := hI
    obtain ⟨u12, hI⟩ := hI
    obtain ⟨u13, hI⟩ := hI
    obtain ⟨u14, hI⟩ := hI
    obtain ⟨u15, hI⟩ := hI
    obtain ⟨u16, hI⟩ := hI
    obtain ⟨u17, hI⟩ := hI
    obtain ⟨u18, hI⟩ := hI
    obtain ⟨dm, hI⟩ := hI
    obtain ⟨hLb, hI⟩ := hI
    obtain ⟨hA, hI⟩ := hI
    obtain ⟨kB, hI⟩ := hI
    obtain ⟨c1, hI⟩ := hI
    obtain ⟨c3, hI⟩ := hI
    obtain ⟨c5, hI⟩ := hI
    obtain ⟨c8, hI⟩ := hI
    obtain ⟨c9, hI⟩ := hI
    obtain ⟨c10, hI⟩ := hI
    obtain ⟨c12, hI⟩ := hI
    obtain ⟨c15, hI⟩ := hI
    obtain ⟨c16, hI⟩ := hI
    obtain ⟨c17, hI⟩ := hI
    have kF := hI
    clear hI
    subst hLb
    subst hA
    intro hL
    have hl : u0 = true ∧ u1 = true ∧ u2 = true ∧ u3 = true ∧ u4 = true ∧ u5 = true ∧ u6 = true ∧ u7 = true ∧ u8 = true ∧ u9 = true ∧ u10 = true ∧ u11 = true ∧ u12 = true ∧ u13 = true ∧ u14 = true ∧ u15 = true ∧ u16 = true ∧ u17 = true ∧ u18 = true := by
      have h2 := congrArg Array.toList hL
      simpa [List.replicate] using h2
    obtain ⟨rfl, rfl, rfl, rfl, rfl, rfl, rfl, rfl, rfl, rfl, rfl, rfl, rfl, rfl, rfl, rfl, rfl, rfl, rfl⟩ := hl
    exact unhide HQ  W kB

end Go.Proofs.Ytdcecfgmfmpeeaa

namespace Go.Proofs.Ytdcecfgmfmpeeaa
open Go.ChangeShapes Go.WideShapes Go.ChangeAt Go.RowKit
set_option linter.unusedVariables false
set_option linter.unusedSimpArgs false

set_option maxHeartbeats 2000000 in
set_option maxRecDepth 100000 in
theorem cenP_core (b : Nat) (a1 a2 b1 b2 c1 c2 d1 d2 e1 e2 S wl bb cc p4 q4 r4 u4 x p5 q5 r5 u5 y sg xs ys ws X Y D : Int) (w : World)
    (HB0 : Hid (w.cell? ⟨b, 0, none⟩ = some (.int .i64 a1))) (HB1 : Hid (w.cell? ⟨b, 1, none⟩ = some (.int .i64 a2))) (HB2 : Hid (w.cell? ⟨b, 2, none⟩ = some (.int .i64 b1))) (HB3 : Hid (w.cell? ⟨b, 3, none⟩ = some (.int .i64 b2))) (HB4 : Hid (w.cell? ⟨b, 4, none⟩ = some (.int .i64 c1))) (HB5 : Hid (w.cell? ⟨b, 5, none⟩ = some (.int .i64 c2)))
    (H1 : Hid (∀ W : World, Calls Try.prog 52 #[.agg #[.int .i64 b1, .int .i64 b2], .agg #[.int .i64 a1, .int .i64 a2]] W fun e w' => e = .returned (.agg #[.int .i64 d1, .int .i64 d2]) ∧ Below W.heap.size W w'))
    (H2 : Hid (∀ W : World, Calls Try.prog 52 #[.agg #[.int .i64 c1, .int .i64 c2], .agg #[.int .i64 a1, .int .i64 a2]] W fun e w' => e = .returned (.agg #[.int .i64 e1, .int .i64 e2]) ∧ Below W.heap.size W w'))
    (H3 : Hid (∀ W : World, Calls Try.prog 55 #[.agg #[.int .i64 d1, .int .i64 d2], .agg #[.int .i64 e1, .int .i64 e2]] W fun e w' => e = .returned (.int .i64 S) ∧ Below W.heap.size W w'))
    (H4 : Hid (∀ W : World, Calls Try.prog 54 #[.agg #[.int .i64 d1, .int .i64 d2], .agg #[.int .i64 d1, .int .i64 d2]] W fun e w' => e = .returned (.int .i64 bb) ∧ Below W.heap.size W w'))
    (H5 : Hid (∀ W : World, Calls Try.prog 54 #[.agg #[.int .i64 e1, .int .i64 e2], .agg #[.int .i64 e1, .int .i64 e2]] W fun e w' => e = .returned (.int .i64 cc) ∧ Below W.heap.size W w'))
    (H6 : Hid (∀ W : World, Calls Try.prog 87 #[.int .i64 wl] W fun e w' => e = .returned (.int .i64 sg) ∧ w' = W))
    (H7 : Hid (∀ W : World, Calls Try.prog 88 #[.int .i64 xs, .int .i64 ys, .int .i64 ws] W fun e w' => e = .returned (.agg #[.int .i64 X, .int .i64 Y, .int .i64 D]) ∧ Below W.heap.size W w'))
    (W0 : Hid (IntKind.i64.wrap (2 * S) = wl))
    (W1 : Hid (IntKind.i64.wrap (a1 * wl) = p4)) (W2 : Hid (IntKind.i64.wrap (e2 * bb) = q4)) (W3 : Hid (IntKind.i64.wrap (p4 + q4) = r4)) (W4 : Hid (IntKind.i64.wrap (d2 * cc) = u4)) (W5 : Hid (IntKind.i64.wrap (r4 - u4) = x))
    (W6 : Hid (IntKind.i64.wrap (a2 * wl) = p5)) (W7 : Hid (IntKind.i64.wrap (d1 * cc) = q5)) (W8 : Hid (IntKind.i64.wrap (p5 + q5) = r5)) (W9 : Hid (IntKind.i64.wrap (e1 * bb) = u5)) (W10 : Hid (IntKind.i64.wrap (r5 - u5) = y))
    (W11 : IntKind.i64.wrap (x * sg) = xs) (W12 : IntKind.i64.wrap (y * sg) = ys) (W13 : IntKind.i64.wrap (wl * sg) = ws) :
    Calls Try.prog 89 #[.pointer (some ⟨b, 0, none⟩)] w fun e w' => e = .returned (.agg #[.int .i64 X, .int .i64 Y, .int .i64 D]) ∧ Below w.heap.size w w' := by
  have K0 : Hid (Below w.heap.size w ((w.alloc (.cells #[.int .i64 0, .int .i64 0, .int .i64 0] 70)).alloc (.cells #[.int .i64 a1, .int .i64 a2] 30))) := hide (ba (ba (Below.refl _ _) _) _)
  have R2 : Hid (cb ((w.alloc (.cells #[.int .i64 0, .int .i64 0, .int .i64 0] 70)).alloc (.cells #[.int .i64 a1, .int .i64 a2] 30)) w.heap.size 70 [.int .i64 0, .int .i64 0, .int .i64 0]) := hide (cb_new1 w 70 [.int .i64 0, .int .i64 0, .int .i64 0] _)
  have R3 : Hid (cb ((w.alloc (.cells #[.int .i64 0, .int .i64 0, .int .i64 0] 70)).alloc (.cells #[.int .i64 a1, .int .i64 a2] 30)) (w.heap.size + 1) 30 [.int .i64 a1, .int .i64 a2]) := hide (cb_new2 w 30 [.int .i64 a1, .int .i64 a2] _)
  have x0 := unhide HB0
  have x1 := unhide HB1
  have v0 := ka (o := .cells #[.int .i64 0, .int .i64 0, .int .i64 0] 70) x0
  have v1 := ka (o := .cells #[.int .i64 0, .int .i64 0, .int .i64 0] 70) x1
  go_enter Try.func89, Try.ntmps89
  go_wp2_with fail
  clear x0 x1 v0 v1
  have B2 := hide (keep1 (unhide K0) (unhide HB2))
  have B3 := hide (keep1 (unhide K0) (unhide HB3))
  have B4 := hide (keep1 (unhide K0) (unhide HB4))
  have B5 := hide (keep1 (unhide K0) (unhide HB5))
  generalize (w.alloc (.cells #[.int .i64 0, .int .i64 0, .int .i64 0] 70)).alloc (.cells #[.int .i64 a1, .int .i64 a2] 30) = V0 at *
  refine Go.Code.wp_mono (Only.to (fun _ _ h => h)) (ce2 (d1 := d1) (d2 := d2) (e1 := e1) (e2 := e2) (hide ((unhide R3).cell (m := 0) rfl)) (hide ((unhide R3).cell (m := 1) rfl)) B2 B3 B4 B5 (hide fun X _ => unhide H1 X) (hide fun X _ => unhide H2 X) (fun n4 n5 V1 hB1 v4 g4 v5 g5 hne => ?_))
  have K1 := hide (bc (unhide K0) hB1)
  have R2a := hide ((unhide R2).bel hB1)
  have R3a := hide ((unhide R3).bel hB1)
  have R4 := hide v4
  have R5 := hide v5
  have y0 := v4.cell (m := 0) rfl
  have y1 := v4.cell (m := 1) rfl
  have y2 := v5.cell (m := 0) rfl
  have y3 := v5.cell (m := 1) rfl
  have z0 := unhide W0
  clear R2 R3 hB1 v4 v5 B2 B3 B4 B5 HB0 HB1 HB2 HB3 HB4 HB5 H1 H2 K0 g4 g5 hne
  go_wp2_with fail
  refine (unhide H3 _).mono ?_
  rintro e V2 ⟨rfl, hB2⟩
  clear y0 y1 y2 y3
  have K2 := hide (bc (unhide K1) hB2)
  have R2b := hide ((unhide R2a).bel hB2)
  have R3b := hide ((unhide R3a).bel hB2)
  have R4b := hide ((unhide R4).bel hB2)
  have R5b := hide ((unhide R5).bel hB2)
  clear K1 R2a R3a R4 R5 hB2 H3
  go_wp2_with fail
  refine Go.Code.wp_mono (Only.to (fun _ _ h => h)) (ce4 (p := p4) (q := q4) (r := r4) (u := u4) (x := x) (bb := bb) (cc := cc) (hide ((unhide R3b).cell (m := 0) rfl)) (hide ((unhide R3b).cell (m := 1) rfl)) (hide ((unhide R4b).cell (m := 0) rfl)) (hide ((unhide R4b).cell (m := 1) rfl)) (hide ((unhide R5b).cell (m := 0) rfl)) (hide ((unhide R5b).cell (m := 1) rfl)) W1 (hide fun X _ => unhide H4 X) W2 W3 (hide fun X _ => unhide H5 X) W4 W5 (fun V3 hB3 => ?_))
  have K3 := hide (bc (unhide K2) hB3)
  have R2c := hide ((unhide R2b).bel hB3)
  have R3c := hide ((unhide R3b).bel hB3)
  have R4c := hide ((unhide R4b).bel hB3)
  have R5c := hide ((unhide R5b).bel hB3)
  clear K2 R2b R3b R4b R5b hB3 z0
  try go_wp2_with fail
  refine Go.Code.wp_mono (Only.to (fun _ _ h => h)) (ce5 (p := p5) (q := q5) (r := r5) (u := u5) (x := y) (bb := bb) (cc := cc) (hide ((unhide R3c).cell (m := 0) rfl)) (hide ((unhide R3c).cell (m := 1) rfl)) (hide ((unhide R4c).cell (m := 0) rfl)) (hide ((unhide R4c).cell (m := 1) rfl)) (hide ((unhide R5c).cell (m := 0) rfl)) (hide ((unhide R5c).cell (m := 1) rfl)) W6 (hide fun X _ => unhide H5 X) W7 W8 (hide fun X _ => unhide H4 X) W9 W10 (fun V4 hB4 => ?_))
  have K4 := hide (bc (unhide K3) hB4)
  have R2d := hide ((unhide R2c).bel hB4)
  clear K3 R2c R3c R4c R5c hB4
  try go_wp2_with fail
  refine (unhide H6 _).mono ?_
  rintro e V5 ⟨rfl, hq⟩
  rw [hq]
  clear hq
  go_wp2_with fail
  refine (unhide H7 _).mono ?_
  rintro e V6 ⟨rfl, hB6⟩
  have K6 := hide (bc (unhide K4) hB6)
  have R2e := hide ((unhide R2d).bel hB6)
  have l0 := (unhide R2e).lt
  have o0 := (unhide R2e).cell (m := 0) rfl
  have o1 := (unhide R2e).cell (m := 1) rfl
  have o2 := (unhide R2e).cell (m := 2) rfl
  have f0 := (unhide R2e).frozen
  clear K4 R2d hB6
  go_wp2_with fail
  have T := (((unhide R2e).set 0 (.int .i64 X)).set 1 (.int .i64 Y)).set 2 (.int .i64 D)
  have hBV : Below w.heap.size w (((V6.setCell ⟨w.heap.size, 0, none⟩ (.int .i64 X)).setCell ⟨w.heap.size, 1, none⟩ (.int .i64 Y)).setCell ⟨w.heap.size, 2, none⟩ (.int .i64 D)) :=
    Below.setCell (Below.setCell (Below.setCell (unhide K6) (Nat.le_refl _) _) (Nat.le_refl _) _) (Nat.le_refl _) _
  generalize ((V6.setCell ⟨w.heap.size, 0, none⟩ (.int .i64 X)).setCell ⟨w.heap.size, 1, none⟩ (.int .i64 Y)).setCell ⟨w.heap.size, 2, none⟩ (.int .i64 D) = V9 at *
  have s0 := T.cell (m := 0) rfl
  have s1 := T.cell (m := 1) rfl
  have s2 := T.cell (m := 2) rfl
  have ls := T.lt
  refine bodyPost_ret (v := .agg #[.int .i64 X, .int .i64 Y, .int .i64 D]) (by simp [results, Try.results89, go_sem, s0, s1, s2, ls]) rfl ⟨rfl, hBV⟩
end Go.Proofs.Ytdcecfgmfmpeeaa

namespace Go.Proofs.Ytdcecfgmfmpeeaa
open Go.ChangeShapes Go.WideShapes Go.ChangeAt Go.RowKit
set_option linter.unusedVariables false
set_option linter.unusedSimpArgs false

noncomputable def rg65 (id : Nat) : Go.Code := match Try.f65.body with | some c => (regOfZ id c).getD .skip | none => .skip
noncomputable def rg40 (id : Nat) : Go.Code := match Try.f40.body with | some c => (regOfZ id c).getD .skip | none => .skip
set_option maxHeartbeats 4000000 in
set_option maxRecDepth 100000 in
theorem ci7 {s1 s4 s5 s6 s7 s8 s9 s10 s11 s12 s13 s14 s15 s16 s17 s18 s19 s20 s21 s22 s23 s24 s25 s26 s27 s28 s29 s30 s31 s32 s33 s34 s35 s36 s37 s38 s39 s40 s41 s42 s43 s44 s45 s46 s47 s48 s49 s50 s51 s52 s53 s54 : Value} {b b2 b3 cap : Nat} {x0 y0 X Y D : Int} {V : World} {K_ : Act → World → Prop} 
    (HA0 : Hid (V.cell? ⟨b, 0, none⟩ = some (.int .i64 (x0)))) (HA1 : Hid (V.cell? ⟨b, 1, none⟩ = some (.int .i64 (y0)))) (hbO : b3 < V.heap.size) {oo0 : Value} (HO0 : Hid (V.cell? ⟨b3, 0, none⟩ = some oo0)) {oo1 : Value} (HO1 : Hid (V.cell? ⟨b3, 1, none⟩ = some oo1)) {oo2 : Value} (HO2 : Hid (V.cell? ⟨b3, 2, none⟩ = some oo2)) (HOf : Hid (∀ o, V.frozen? ⟨b3, o, none⟩ = false))
    (HF8 : Hid (∀ Xw, Below V.heap.size V Xw → Calls Try.prog 88 #[.int .i64 (x0), .int .i64 (y0), .int .i64 (1)] Xw fun e w' => e = .returned (.agg #[.int .i64 (X), .int .i64 (Y), .int .i64 (D)]) ∧ Below Xw.heap.size Xw w'))
    (hQ : ∀ (W1 W9 : World), W9 = (((W1.setCell ⟨b3, 0, none⟩ (.int .i64 (X))).setCell ⟨b3, 1, none⟩ (.int .i64 (Y))).setCell ⟨b3, 2, none⟩ (.int .i64 (D))) → Below V.heap.size V W1 → K_ { tmps := #[.slice (some ⟨b, 0, none⟩) 1 cap, s1, .pointer (some ⟨b2, 0, none⟩), .pointer (some ⟨b3, 0, none⟩), s4, s5, s6, s7, s8, s9, s10, s11, s12, s13, s14, s15, .slice (some ⟨b, 0, none⟩) 1 cap, .pointer (some ⟨b, 0, none⟩), .pointer (some ⟨b, 0, none⟩), .int .i64 (x0), .slice (some ⟨b, 0, none⟩) 1 cap, .pointer (some ⟨b, 0, none⟩), .pointer (some ⟨b, 1, none⟩), .int .i64 (y0), .agg #[.int .i64 (X), .int .i64 (Y), .int .i64 (D)], .pointer (some ⟨b3, 0, none⟩), s26, s27, s28, s29, s30, s31, s32, s33, s34, s35, s36, s37, s38, s39, s40, s41, s42, s43, s44, s45, s46, s47, s48, s49, s50, s51, s52, s53, s54], defers := [] } W9) :
    Go.Code.wp Try.prog (rg65 7) (Only K_) { tmps := #[.slice (some ⟨b, 0, none⟩) 1 cap, s1, .pointer (some ⟨b2, 0, none⟩), .pointer (some ⟨b3, 0, none⟩), s4, s5, s6, s7, s8, s9, s10, s11, s12, s13, s14, s15, s16, s17, s18, s19, s20, s21, s22, s23, s24, s25, s26, s27, s28, s29, s30, s31, s32, s33, s34, s35, s36, s37, s38, s39, s40, s41, s42, s43, s44, s45, s46, s47, s48, s49, s50, s51, s52, s53, s54], defers := [] } V := by
  have HQ := hide hQ
  clear hQ
  conv => arg 2; whnf
  refine wp_region_inv2 (fun Lb A W => ∃ (u0 u1 u2 u3 u4 u5 u6 u7 u8 u9 u10 : Bool) (dm : Nat), Lb = #[u0, u1, u2, u3, u4, u5, u6, u7, u8, u9, u10] ∧ A = ({ tmps := #[.slice (some ⟨b, 0, none⟩) 1 cap, s1, .pointer (some ⟨b2, 0, none⟩), .pointer (some ⟨b3, 0, none⟩), s4, s5, s6, s7, s8, s9, s10, s11, s12, s13, s14, s15, (bif u0 then .slice (some ⟨b, 0, none⟩) 1 cap else s16), (bif u1 then .pointer (some ⟨b, 0, none⟩) else s17), (bif u2 then .pointer (some ⟨b, 0, none⟩) else s18), (bif u3 then .int .i64 (x0) else s19), (bif u4 then .slice (some ⟨b, 0, none⟩) 1 cap else s20), (bif u5 then .pointer (some ⟨b, 0, none⟩) else s21), (bif u6 then .pointer (some ⟨b, 1, none⟩) else s22), (bif u7 then .int .i64 (y0) else s23), (bif u8 then .agg #[.int .i64 (X), .int .i64 (Y), .int .i64 (D)] else s24), (bif u9 then .pointer (some ⟨b3, 0, none⟩) else s25), s26, s27, s28, s29, s30, s31, s32, s33, s34, s35, s36, s37, s38, s39, s40, s41, s42, s43, s44, s45, s46, s47, s48, s49, s50, s51, s52, s53, s54], defers := [] } : Act) ∧ (u10 = false → Below V.heap.size V W) ∧ (u10 = true → ∃ W1, Below V.heap.size V W1 ∧ W = (((W1.setCell ⟨b3, 0, none⟩ (.int .i64 (X))).setCell ⟨b3, 1, none⟩ (.int .i64 (Y))).setCell ⟨b3, 2, none⟩ (.int .i64 (D)))) ∧ (u1 = true → u0 = true) ∧ (u2 = true → u1 = true) ∧ (u3 = true → u2 = true) ∧ (u5 = true → u4 = true) ∧ (u6 = true → u5 = true) ∧ (u7 = true → u6 = true) ∧ (u8 = true → u3 = true ∧ u7 = true) ∧ (u9 = true → u8 = true) ∧ (u10 = true → u0 = true ∧ u1 = true ∧ u2 = true ∧ u3 = true ∧ u4 = true ∧ u5 = true ∧ u6 = true ∧ u7 = true ∧ u8 = true ∧ u9 = true)) (by kernel_rfl) (by kernel_rfl) ?h0 ?hstep ?hend
  case h0 =>
    exact ⟨false, false, false, false, false, false, false, false, false, false, false, 0, rfl, rfl, (fun _ => Below.drew (Below.refl _ _)), (fun h => nomatch h), (fun h => nomatch h), (fun h => nomatch h), (fun h => nomatch h), (fun h => nomatch h), (fun h => nomatch h), (fun h => nomatch h), (fun h => nomatch h), (fun h => nomatch h), (fun h => nomatch h)⟩
  case hstep =>
    intro Lb A W hI
    obtain ⟨u0, hI⟩ := hI
    obtain ⟨u1, hI⟩ := hI
    obtain ⟨u2, hI⟩ := hI
    obtain ⟨u3, hI⟩ := hI
    obtain ⟨u4, hI⟩ := hI
    obtain ⟨u5, hI⟩ := hI
    obtain ⟨u6, hI⟩ := hI
    obtain ⟨u7, hI⟩ := hI
    obtain ⟨u8, hI⟩ := hI
    obtain ⟨u9, hI⟩ := hI
    obtain ⟨u10, hI⟩ := hI
    obtain ⟨dm, hI⟩ := hI
    obtain ⟨hLb, hI⟩ := hI
    obtain ⟨hA, hI⟩ := hI
    obtain ⟨kB, hI⟩ := hI
    obtain ⟨kZ, hI⟩ := hI
    obtain ⟨c1, hI⟩ := hI
    obtain ⟨c2, hI⟩ := hI
    obtain ⟨c3, hI⟩ := hI
    obtain ⟨c5, hI⟩ := hI
    obtain ⟨c6, hI⟩ := hI
    obtain ⟨c7, hI⟩ := hI
    obtain ⟨c8, hI⟩ := hI
    obtain ⟨c9, hI⟩ := hI
    have kF := hI
    clear hI
    subst hLb
    subst hA
    have H_kB := hide kB
    have H_kZ := hide kZ
    have H_c1 := hide c1
    have H_c2 := hide c2
    have H_c3 := hide c3
    have H_c5 := hide c5
    have H_c6 := hide c6
    have H_c7 := hide c7
    have H_c8 := hide c8
    have H_c9 := hide c9
    have H_kF := hide kF
    clear kB kZ c1 c2 c3 c5 c6 c7 c8 c9 kF
    refine ⟨?_, ?_, ?_, ?_, ?_, ?_, ?_, ?_, ?_, ?_, ?_, trivial⟩
    · intro h0 hd K hK
      have z : u0 = false := h0
      have z10_ : u10 = false := by
        cases hu : u10 with
        | false => rfl
        | true => exact nomatch z.symm.trans ((unhide H_kF hu).1)
      subst z10_
      subst z
      clear h0 hd
      rw [if_pos (by rfl)]
      go_simp
      exact unhide hK _ _ ⟨true, u1, u2, u3, u4, u5, u6, u7, u8, u9, false, dm, rfl, rfl, unhide H_kB, (fun h => nomatch h), (fun h => rfl), unhide H_c2, unhide H_c3, unhide H_c5, unhide H_c6, unhide H_c7, unhide H_c8, unhide H_c9, (fun h => nomatch h)⟩
    · intro h0 hd K hK
      have z : u1 = false := h0
      have z10_ : u10 = false := by
        cases hu : u10 with
        | false => rfl
        | true => exact nomatch z.symm.trans ((unhide H_kF hu).2.1)
      have zd : u0 = true := by
        simp [Region.binds] at hd
        simp [hd]
      obtain ⟨rfl⟩ := zd
      subst z10_
      subst z
      clear h0 hd
      rw [if_pos (by rfl)]
      go_simp
      exact unhide hK _ _ ⟨true, true, u2, u3, u4, u5, u6, u7, u8, u9, false, dm, rfl, rfl, unhide H_kB, (fun h => nomatch h), (fun _ => rfl), (fun h => rfl), unhide H_c3, unhide H_c5, unhide H_c6, unhide H_c7, unhide H_c8, unhide H_c9, (fun h => nomatch h)⟩
    · intro h0 hd K hK
      have z : u2 = false := h0
      have z10_ : u10 = false := by
        cases hu : u10 with
        | false => rfl
        | true => exact nomatch z.symm.trans ((unhide H_kF hu).2.2.1)
      have zd : u1 = true := by
        simp [Region.binds] at hd
        simp [hd]
      obtain ⟨rfl⟩ := zd
      subst z10_
      subst z
      clear h0 hd
      rw [if_pos (by rfl)]
      go_simp
      exact unhide hK _ _ ⟨u0, true, true, u3, u4, u5, u6, u7, u8, u9, false, dm, rfl, rfl, unhide H_kB, (fun h => nomatch h), unhide H_c1, (fun _ => rfl), (fun h => rfl), unhide H_c5, unhide H_c6, unhide H_c7, unhide H_c8, unhide H_c9, (fun h => nomatch h)⟩
    · intro h0 hd K hK
      have z : u3 = false := h0
      have z10_ : u10 = false := by
        cases hu : u10 with
        | false => rfl
        | true => exact nomatch z.symm.trans ((unhide H_kF hu).2.2.2.1)
      have zd : u2 = true := by
        simp [Region.binds] at hd
        simp [hd]
      obtain ⟨rfl⟩ := zd
      subst z10_
      subst z
      clear h0 hd
      rw [if_pos (by rfl)]
      have c0 := keep1 (unhide H_kB rfl) (unhide HA0)
      go_simp
      exact unhide hK _ _ ⟨u0, u1, true, true, u4, u5, u6, u7, u8, u9, false, dm, rfl, rfl, unhide H_kB, (fun h => nomatch h), unhide H_c1, unhide H_c2, (fun _ => rfl), unhide H_c5, unhide H_c6, unhide H_c7, (fun h => ⟨rfl, (unhide H_c8 h).2⟩), unhide H_c9, (fun h => nomatch h)⟩
    · intro h0 hd K hK
      have z : u4 = false := h0
      have z10_ : u10 = false := by
        cases hu : u10 with
        | false => rfl
        | true => exact nomatch z.symm.trans ((unhide H_kF hu).2.2.2.2.1)
      subst z10_
      subst z
      clear h0 hd
      rw [if_pos (by rfl)]
      go_simp
      exact unhide hK _ _ ⟨u0, u1, u2, u3, true, u5, u6, u7, u8, u9, false, dm, rfl, rfl, unhide H_kB, (fun h => nomatch h), unhide H_c1, unhide H_c2, unhide H_c3, (fun h => rfl), unhide H_c6, unhide H_c7, unhide H_c8, unhide H_c9, (fun h => nomatch h)⟩
    · intro h0 hd K hK
      have z : u5 = false := h0
      have z10_ : u10 = false := by
        cases hu : u10 with
        | false => rfl
        | true => exact nomatch z.symm.trans ((unhide H_kF hu).2.2.2.2.2.1)
      have zd : u4 = true := by
        simp [Region.binds] at hd
        simp [hd]
      obtain ⟨rfl⟩ := zd
      subst z10_
      subst z
      clear h0 hd
      rw [if_pos (by rfl)]
      go_simp
      exact unhide hK _ _ ⟨u0, u1, u2, u3, true, true, u6, u7, u8, u9, false, dm, rfl, rfl, unhide H_kB, (fun h => nomatch h), unhide H_c1, unhide H_c2, unhide H_c3, (fun _ => rfl), (fun h => rfl), unhide H_c7, unhide H_c8, unhide H_c9, (fun h => nomatch h)⟩
    · intro h0 hd K hK
      have z : u6 = false := h0
      have z10_ : u10 = false := by
        cases hu : u10 with
        | false => rfl
        | true => exact nomatch z.symm.trans ((unhide H_kF hu).2.2.2.2.2.2.1)
      have zd : u5 = true := by
        simp [Region.binds] at hd
        simp [hd]
      obtain ⟨rfl⟩ := zd
      subst z10_
      subst z
      clear h0 hd
      rw [if_pos (by rfl)]
      go_simp
      exact unhide hK _ _ ⟨u0, u1, u2, u3, u4, true, true, u7, u8, u9, false, dm, rfl, rfl, unhide H_kB, (fun h => nomatch h), unhide H_c1, unhide H_c2, unhide H_c3, unhide H_c5, (fun _ => rfl), (fun h => rfl), unhide H_c8, unhide H_c9, (fun h => nomatch h)⟩
    · intro h0 hd K hK
      have z : u7 = false := h0
      have z10_ : u10 = false := by
        cases hu : u10 with
        | false => rfl
        | true => exact nomatch z.symm.trans ((unhide H_kF hu).2.2.2.2.2.2.2.1)
      have zd : u6 = true := by
        simp [Region.binds] at hd
        simp [hd]
      obtain ⟨rfl⟩ := zd
      subst z10_
      subst z
      clear h0 hd
      rw [if_pos (by rfl)]
      have c0 := keep1 (unhide H_kB rfl) (unhide HA1)
      go_simp
      exact unhide hK _ _ ⟨u0, u1, u2, u3, u4, u5, true, true, u8, u9, false, dm, rfl, rfl, unhide H_kB, (fun h => nomatch h), unhide H_c1, unhide H_c2, unhide H_c3, unhide H_c5, unhide H_c6, (fun _ => rfl), (fun h => ⟨(unhide H_c8 h).1, rfl⟩), unhide H_c9, (fun h => nomatch h)⟩
    · intro h0 hd K hK
      have z : u8 = false := h0
      have z10_ : u10 = false := by
        cases hu : u10 with
        | false => rfl
        | true => exact nomatch z.symm.trans ((unhide H_kF hu).2.2.2.2.2.2.2.2.1)
      have zd : u3 = true ∧ u7 = true := by
        simp [Region.binds] at hd
        simp [hd]
      obtain ⟨rfl, rfl⟩ := zd
      subst z10_
      subst z
      clear h0 hd
      rw [if_pos (by rfl)]
      go_simp
      refine (unhide HF8 W (unhide H_kB rfl)).mono ?_
      rintro e w8 ⟨rfl, hb8⟩
      exact unhide hK _ _ ⟨u0, u1, u2, true, u4, u5, u6, true, true, u9, false, dm, rfl, rfl, (fun _ => bc (unhide H_kB rfl) hb8), (fun h => nomatch h), unhide H_c1, unhide H_c2, unhide H_c3, unhide H_c5, unhide H_c6, unhide H_c7, (fun _ => ⟨rfl, rfl⟩), (fun h => rfl), (fun h => nomatch h)⟩
    · intro h0 hd K hK
      have z : u9 = false := h0
      have z10_ : u10 = false := by
        cases hu : u10 with
        | false => rfl
        | true => exact nomatch z.symm.trans ((unhide H_kF hu).2.2.2.2.2.2.2.2.2)
      have zd : u8 = true := by
        simp [Region.binds] at hd
        simp [hd]
      obtain ⟨rfl⟩ := zd
      subst z10_
      subst z
      clear h0 hd
      rw [if_pos (by rfl)]
      go_simp
      exact unhide hK _ _ ⟨u0, u1, u2, u3, u4, u5, u6, u7, true, true, false, dm, rfl, rfl, unhide H_kB, (fun h => nomatch h), unhide H_c1, unhide H_c2, unhide H_c3, unhide H_c5, unhide H_c6, unhide H_c7, unhide H_c8, (fun _ => rfl), (fun h => nomatch h)⟩
    · intro h0 hd K hK
      have z : u10 = false := h0
      have zd0 : u9 = true ∧ u8 = true := by
        simp [Region.binds] at hd
        simp [hd]
      have zd : u9 = true ∧ u8 = true ∧ u0 = true ∧ u1 = true ∧ u2 = true ∧ u3 = true ∧ u4 = true ∧ u5 = true ∧ u6 = true ∧ u7 = true := ⟨zd0.1, zd0.2, (unhide H_c1 (unhide H_c2 (unhide H_c3 (unhide H_c8 (unhide H_c9 zd0.1)).1))), (unhide H_c2 (unhide H_c3 (unhide H_c8 (unhide H_c9 zd0.1)).1)), (unhide H_c3 (unhide H_c8 (unhide H_c9 zd0.1)).1), (unhide H_c8 (unhide H_c9 zd0.1)).1, (unhide H_c5 (unhide H_c6 (unhide H_c7 (unhide H_c8 (unhide H_c9 zd0.1)).2))), (unhide H_c6 (unhide H_c7 (unhide H_c8 (unhide H_c9 zd0.1)).2)), (unhide H_c7 (unhide H_c8 (unhide H_c9 zd0.1)).2), (unhide H_c8 (unhide H_c9 zd0.1)).2⟩
      obtain ⟨rfl, rfl, rfl, rfl, rfl, rfl, rfl, rfl, rfl, rfl⟩ := zd
      subst z
      clear h0 hd
      rw [if_pos (by rfl)]
      have hB := (unhide H_kB rfl)
      have q0 := keep1 hB (unhide HO0)
      have q1 := keep1 hB (unhide HO1)
      have q2 := keep1 hB (unhide HO2)
      have fz : ∀ o, W.frozen? ⟨b3, o, none⟩ = false := fun o => keepz hB hbO (unhide HOf o)
      have HBB := hide hB
      clear hB
      go_simp
      exact unhide hK _ _ ⟨true, true, true, true, true, true, true, true, true, true, true, dm, rfl, rfl, (fun h => nomatch h), (fun _ => ⟨W, unhide HBB, rfl⟩), (fun _ => rfl), (fun _ => rfl), (fun _ => rfl), (fun _ => rfl), (fun _ => rfl), (fun _ => rfl), (fun _ => ⟨rfl, rfl⟩), (fun _ => rfl), (fun _ => ⟨rfl, rfl, rfl, rfl, rfl, rfl, rfl, rfl, rfl, rfl⟩)⟩
  case hend =>
    intro Lb A W hI
    obtain ⟨u0, hI⟩ := hI
    obtain ⟨u1, hI⟩ := hI
    obtain ⟨u2, hI⟩ := hI
    obtain ⟨u3, hI⟩ := hI
    obtain ⟨u4, hI⟩ := hI
    obtain ⟨u5, hI⟩ := hI
    obtain ⟨u6, hI⟩ := hI
    obtain ⟨u7, hI⟩ := hI
    obtain ⟨u8, hI⟩ := hI
    obtain ⟨u9, hI⟩ := hI
    obtain ⟨u10, hI⟩ := hI
    obtain ⟨dm, hI⟩ := hI
    obtain ⟨hLb, hI⟩ := hI
    obtain ⟨hA, hI⟩ := hI
    obtain ⟨kB, hI⟩ := hI
    obtain ⟨kZ, hI⟩ := hI
    obtain ⟨c1, hI⟩ := hI
    obtain ⟨c2, hI⟩ := hI
    obtain ⟨c3, hI⟩ := hI
    obtain ⟨c5, hI⟩ := hI
    obtain ⟨c6, hI⟩ := hI
    obtain ⟨c7, hI⟩ := hI
    obtain ⟨c8, hI⟩ := hI
    obtain ⟨c9, hI⟩ := hI
    have kF := hI
    clear hI
    subst hLb
    subst hA
    intro hL
    have hl : u0 = true ∧ u1 = true ∧ u2 = true ∧ u3 = true ∧ u4 = true ∧ u5 = true ∧ u6 = true ∧ u7 = true ∧ u8 = true ∧ u9 = true ∧ u10 = true := by
      have h2 := congrArg Array.toList hL
      simpa [List.replicate] using h2
    obtain ⟨rfl, rfl, rfl, rfl, rfl, rfl, rfl, rfl, rfl, rfl, rfl⟩ := hl
    obtain ⟨W1, hA, hZ⟩ := kZ rfl
    exact unhide HQ  W1 W hZ hA

set_option maxHeartbeats 4000000 in
set_option maxRecDepth 100000 in
theorem ci9 {s1 s4 s5 s6 s7 s8 s9 s10 s11 s12 s13 s14 s15 s16 s17 s18 s19 s20 s21 s22 s23 s24 s25 s26 s27 s28 s29 s30 s31 s32 s33 s34 s35 s36 s37 s38 s39 s40 s41 s42 s43 s44 s45 s46 s47 s48 s49 s50 s51 s52 s53 s54 : Value} {b b2 b3 cap : Nat} {x0 y0 x1 y1 X Y D : Int} {V : World} {K_ : Act → World → Prop} 
    (HA0 : Hid (V.cell? ⟨b, 0, none⟩ = some (.int .i64 (x0)))) (HA1 : Hid (V.cell? ⟨b, 1, none⟩ = some (.int .i64 (y0)))) (HA2 : Hid (V.cell? ⟨b, 2, none⟩ = some (.int .i64 (x1)))) (HA3 : Hid (V.cell? ⟨b, 3, none⟩ = some (.int .i64 (y1)))) (hbO : b3 < V.heap.size) {oo0 : Value} (HO0 : Hid (V.cell? ⟨b3, 0, none⟩ = some oo0)) {oo1 : Value} (HO1 : Hid (V.cell? ⟨b3, 1, none⟩ = some oo1)) {oo2 : Value} (HO2 : Hid (V.cell? ⟨b3, 2, none⟩ = some oo2)) (HOf : Hid (∀ o, V.frozen? ⟨b3, o, none⟩ = false))
    (HW8 : Hid (IntKind.i64.wrap (x0 + x1) = x0 + x1))
    (HW17 : Hid (IntKind.i64.wrap (y0 + y1) = y0 + y1))
    (HF18 : Hid (∀ Xw, Below V.heap.size V Xw → Calls Try.prog 88 #[.int .i64 (x0 + x1), .int .i64 (y0 + y1), .int .i64 (2)] Xw fun e w' => e = .returned (.agg #[.int .i64 (X), .int .i64 (Y), .int .i64 (D)]) ∧ Below Xw.heap.size Xw w'))
    (hQ : ∀ (W1 W9 : World), W9 = (((W1.setCell ⟨b3, 0, none⟩ (.int .i64 (X))).setCell ⟨b3, 1, none⟩ (.int .i64 (Y))).setCell ⟨b3, 2, none⟩ (.int .i64 (D))) → Below V.heap.size V W1 → K_ { tmps := #[.slice (some ⟨b, 0, none⟩) 2 cap, s1, .pointer (some ⟨b2, 0, none⟩), .pointer (some ⟨b3, 0, none⟩), s4, s5, s6, s7, s8, s9, s10, s11, s12, s13, s14, s15, s16, s17, s18, s19, s20, s21, s22, s23, s24, s25, s26, s27, .slice (some ⟨b, 0, none⟩) 2 cap, .pointer (some ⟨b, 0, none⟩), .pointer (some ⟨b, 0, none⟩), .int .i64 (x0), .slice (some ⟨b, 0, none⟩) 2 cap, .pointer (some ⟨b, 2, none⟩), .pointer (some ⟨b, 2, none⟩), .int .i64 (x1), .int .i64 (x0 + x1), .slice (some ⟨b, 0, none⟩) 2 cap, .pointer (some ⟨b, 0, none⟩), .pointer (some ⟨b, 1, none⟩), .int .i64 (y0), .slice (some ⟨b, 0, none⟩) 2 cap, .pointer (some ⟨b, 2, none⟩), .pointer (some ⟨b, 3, none⟩), .int .i64 (y1), .int .i64 (y0 + y1), .agg #[.int .i64 (X), .int .i64 (Y), .int .i64 (D)], .pointer (some ⟨b3, 0, none⟩), s48, s49, s50, s51, s52, s53, s54], defers := [] } W9) :
    Go.Code.wp Try.prog (rg65 9) (Only K_) { tmps := #[.slice (some ⟨b, 0, none⟩) 2 cap, s1, .pointer (some ⟨b2, 0, none⟩), .pointer (some ⟨b3, 0, none⟩), s4, s5, s6, s7, s8, s9, s10, s11, s12, s13, s14, s15, s16, s17, s18, s19, s20, s21, s22, s23, s24, s25, s26, s27, s28, s29, s30, s31, s32, s33, s34, s35, s36, s37, s38, s39, s40, s41, s42, s43, s44, s45, s46, s47, s48, s49, s50, s51, s52, s53, s54], defers := [] } V := by
  have HQ := hide hQ
  clear hQ
  conv => arg 2; whnf
  refine wp_region_inv2 (fun Lb A W => ∃ (u0 u1 u2 u3 u4 u5 u6 u7 u8 u9 u10 u11 u12 u13 u14 u15 u16 u17 u18 u19 u20 : Bool) (dm : Nat), Lb = #[u0, u1, u2, u3, u4, u5, u6, u7, u8, u9, u10, u11, u12, u13, u14, u15, u16, u17, u18, u19, u20] ∧ A = ({ tmps := #[.slice (some ⟨b, 0, none⟩) 2 cap, s1, .pointer (some ⟨b2, 0, none⟩), .pointer (some ⟨b3, 0, none⟩), s4, s5, s6, s7, s8, s9, s10, s11, s12, s13, s14, s15, s16, s17, s18, s19, s20, s21, s22, s23, s24, s25, s26, s27, (bif u0 then .slice (some ⟨b, 0, none⟩) 2 cap else s28), (bif u1 then .pointer (some ⟨b, 0, none⟩) else s29), (bif u2 then .pointer (some ⟨b, 0, none⟩) else s30), (bif u3 then .int .i64 (x0) else s31), (bif u4 then .slice (some ⟨b, 0, none⟩) 2 cap else s32), (bif u5 then .pointer (some ⟨b, 2, none⟩) else s33), (bif u6 then .pointer (some ⟨b, 2, none⟩) else s34), (bif u7 then .int .i64 (x1) else s35), (bif u8 then .int .i64 (x0 + x1) else s36), (bif u9 then .slice (some ⟨b, 0, none⟩) 2 cap else s37), (bif u10 then .pointer (some ⟨b, 0, none⟩) else s38), (bif u11 then .pointer (some ⟨b, 1, none⟩) else s39), (bif u12 then .int .i64 (y0) else s40), (bif u13 then .slice (some ⟨b, 0, none⟩) 2 cap else s41), (bif u14 then .pointer (some ⟨b, 2, none⟩) else s42), (bif u15 then .pointer (some ⟨b, 3, none⟩) else s43), (bif u16 then .int .i64 (y1) else s44), (bif u17 then .int .i64 (y0 + y1) else s45), (bif u18 then .agg #[.int .i64 (X), .int .i64 (Y), .int .i64 (D)] else s46), (bif u19 then .pointer (some ⟨b3, 0, none⟩) else s47), s48, s49, s50, s51, s52, s53, s54], defers := [] } : Act) ∧ (u20 = false → Below V.heap.size V W) ∧ (u20 = true → ∃ W1, Below V.heap.size V W1 ∧ W = (((W1.setCell ⟨b3, 0, none⟩ (.int .i64 (X))).setCell ⟨b3, 1, none⟩ (.int .i64 (Y))).setCell ⟨b3, 2, none⟩ (.int .i64 (D)))) ∧ (u1 = true → u0 = true) ∧ (u2 = true → u1 = true) ∧ (u3 = true → u2 = true) ∧ (u5 = true → u4 = true) ∧ (u6 = true → u5 = true) ∧ (u7 = true → u6 = true) ∧ (u8 = true → u3 = true ∧ u7 = true) ∧ (u10 = true → u9 = true) ∧ (u11 = true → u10 = true) ∧ (u12 = true → u11 = true) ∧ (u14 = true → u13 = true) ∧ (u15 = true → u14 = true) ∧ (u16 = true → u15 = true) ∧ (u17 = true → u12 = true ∧ u16 = true) ∧ (u18 = true → u8 = true ∧ u17 = true) ∧ (u19 = true → u18 = true) ∧ (u20 = true → u0 = true ∧ u1 = true ∧ u2 = true ∧ u3 = true ∧ u4 = true ∧ u5 = true ∧ u6 = true ∧ u7 = true ∧ u8 = true ∧ u9 = true ∧ u10 = true ∧ u11 = true ∧ u12 = true ∧ u13 = true ∧ u14 = true ∧ u15 = true ∧ u16 = true ∧ u17 = true ∧ u18 = true ∧ u19 = true)) (by kernel_rfl) (by kernel_rfl) ?h0 ?hstep ?hend
  case h0 =>
    exact ⟨false, false, false, false, false, false, false, false, false, false, false, false, false, false, false, false, false, false, false, false, false, 0, rfl, rfl, (fun _ => Below.drew (Below.refl _ _)), (fun h => nomatch h), (fun h => nomatch h), (fun h => nomatch h), (fun h => nomatch h), (fun h => nomatch h), (fun h => nomatch h), (fun h => nomatch h), (fun h => nomatch h), (fun h => nomatch h), (fun h => nomatch h), (fun h => nomatch h), (fun h => nomatch h), (fun h => nomatch h), (fun h => nomatch h), (fun h => nomatch h), (fun h => nomatch h), (fun h => nomatch h), (fun h => nomatch h)⟩
  case hstep =>
    intro Lb A W hI
    obtain ⟨u0, hI⟩ := hI
    obtain ⟨u1, hI⟩ := hI
    obtain ⟨u2, hI⟩ := hI
    obtain ⟨u3, hI⟩ := hI
    obtain ⟨u4, hI⟩ := hI
    obtain ⟨u5, hI⟩ := hI
    obtain ⟨u6, hI⟩ := hI
    obtain ⟨u7, hI⟩ := hI
    obtain ⟨u8, hI⟩ := hI
    obtain ⟨u9, hI⟩ := hI
    obtain ⟨u10, hI⟩ := hI
    obtain ⟨u11, hI⟩ := hI
    obtain ⟨u12, hI⟩ := hI
    obtain ⟨u13, hI⟩ := hI
    obtain ⟨u14, hI⟩ := hI
    obtain ⟨u15, hI⟩ := hI
    obtain ⟨u16, hI⟩ := hI
    obtain ⟨u17, hI⟩ := hI
    obtain ⟨u18, hI⟩ := hI
    obtain ⟨u19, hI⟩ := hI
    obtain ⟨u20, hI⟩ := hI
    obtain ⟨dm, hI⟩ := hI
    obtain ⟨hLb, hI⟩ := hI
    obtain ⟨hA, hI⟩ := hI
    obtain ⟨kB, hI⟩ := hI
    obtain ⟨kZ, hI⟩ := hI
    obtain ⟨c1, hI⟩ := hI
    obtain ⟨c2, hI⟩ := hI
    obtain ⟨c3, hI⟩ := hI
    obtain ⟨c5, hI⟩ := hI
    obtain ⟨c6, hI⟩ := hI
    obtain ⟨c7, hI⟩ := hI
    obtain ⟨c8, hI⟩ := hI
    obtain ⟨c10, hI⟩ := hI
    obtain ⟨c11, hI⟩ := hI
    obtain ⟨c12, hI⟩ := hI
    obtain ⟨c14, hI⟩ := hI
    obtain ⟨c15, hI⟩ := hI
    obtain ⟨c16, hI⟩ := hI
    obtain ⟨c17, hI⟩ := hI
    obtain ⟨c18, hI⟩ := hI
    obtain ⟨c19, hI⟩ := hI
    have kF := hI
    clear hI
    subst hLb
    subst hA
    have H_kB := hide kB
    have H_kZ := hide kZ
    have H_c1 := hide c1
    have H_c2 := hide c2
    have H_c3 := hide c3
    have H_c5 := hide c5
    have H_c6 := hide c6
    have H_c7 := hide c7
    have H_c8 := hide c8
    have H_c10 := hide c10
    have H_c11 := hide c11
    have H_c12 := hide c12
    have H_c14 := hide c14
    have H_c15 := hide c15
    have H_c16 := hide c16
    have H_c17 := hide c17
    have H_c18 := hide c18
    have H_c19 := hide c19
    have H_kF := hide kF
    clear kB kZ c1 c2 c3 c5 c6 c7 c8 c10 c11 c12 c14 c15 c16 c17 c18 c19 kF
    refine ⟨?_, ?_, ?_, ?_, ?_, ?_, ?_, ?_, ?_, ?_, ?_, ?_, ?_, ?_, ?_, ?_, ?_, ?_, ?_, ?_, ?_, trivial⟩
    · intro h0 hd K hK
      have z : u0 = false := h0
      have z20_ : u20 = false := by
        cases hu : u20 with
        | false => rfl
        | true => exact nomatch z.symm.trans ((unhide H_kF hu).1)
      subst z20_
      subst z
      clear h0 hd
      rw [if_pos (by rfl)]
      go_simp
      exact unhide hK _ _ ⟨true, u1, u2, u3, u4, u5, u6, u7, u8, u9, u10, u11, u12, u13, u14, u15, u16, u17, u18, u19, false, dm, rfl, rfl, unhide H_kB, (fun h => nomatch h), (fun h => rfl), unhide H_c2, unhide H_c3, unhide H_c5, unhide H_c6, unhide H_c7, unhide H_c8, unhide H_c10, unhide H_c11, unhide H_c12, unhide H_c14, unhide H_c15, unhide H_c16, unhide H_c17, unhide H_c18, unhide H_c19, (fun h => nomatch h)⟩
    · intro h0 hd K hK
      have z : u1 = false := h0
      have z20_ : u20 = false := by
        cases hu : u20 with
        | false => rfl
        | true => exact nomatch z.symm.trans ((unhide H_kF hu).2.1)
      have zd : u0 = true := by
        simp [Region.binds] at hd
        simp [hd]
      obtain ⟨rfl⟩ := zd
      subst z20_
      subst z
      clear h0 hd
      rw [if_pos (by rfl)]
      go_simp
      exact unhide hK _ _ ⟨true, true, u2, u3, u4, u5, u6, u7, u8, u9, u10, u11, u12, u13, u14, u15, u16, u17, u18, u19, false, dm, rfl, rfl, unhide H_kB, (fun h => nomatch h), (fun _ => rfl), (fun h => rfl), unhide H_c3, unhide H_c5, unhide H_c6, unhide H_c7, unhide H_c8, unhide H_c10, unhide H_c11, unhide H_c12, unhide H_c14, unhide H_c15, unhide H_c16, unhide H_c17, unhide H_c18, unhide H_c19, (fun h => nomatch h)⟩
    · intro h0 hd K hK
      have z : u2 = false := h0
      have z20_ : u20 = false := by
        cases hu : u20 with
        | false => rfl
        | true => exact nomatch z.symm.trans ((unhide H_kF hu).2.2.1)
      have zd : u1 = true := by
        simp [Region.binds] at hd
        simp [hd]
      obtain ⟨rfl⟩ := zd
      subst z20_
      subst z
      clear h0 hd
      rw [if_pos (by rfl)]
      go_simp
      exact unhide hK _ _ ⟨u0, true, true, u3, u4, u5, u6, u7, u8, u9, u10, u11, u12, u13, u14, u15, u16, u17, u18, u19, false, dm, rfl, rfl, unhide H_kB, (fun h => nomatch h), unhide H_c1, (fun _ => rfl), (fun h => rfl), unhide H_c5, unhide H_c6, unhide H_c7, unhide H_c8, unhide H_c10, unhide H_c11, unhide H_c12, unhide H_c14, unhide H_c15, unhide H_c16, unhide H_c17, unhide H_c18, unhide H_c19, (fun h => nomatch h)⟩
    · intro h0 hd K hK
      have z : u3 = false := h0
      have z20_ : u20 = false := by
        cases hu : u20 with
        | false => rfl
        | true => exact nomatch z.symm.trans ((unhide H_kF hu).2.2.2.1)
      have zd : u2 = true := by
        simp [Region.binds] at hd
        simp [hd]
      obtain ⟨rfl⟩ := zd
      subst z20_
      subst z
      clear h0 hd
      rw [if_pos (by rfl)]
      have c0 := keep1 (unhide H_kB rfl) (unhide HA0)
      go_simp
      exact unhide hK _ _ ⟨u0, u1, true, true, u4, u5, u6, u7, u8, u9, u10, u11, u12, u13, u14, u15, u16, u17, u18, u19, false, dm, rfl, rfl, unhide H_kB, (fun h => nomatch h), unhide H_c1, unhide H_c2, (fun _ => rfl), unhide H_c5, unhide H_c6, unhide H_c7, (fun h => ⟨rfl, (unhide H_c8 h).2⟩), unhide H_c10, unhide H_c11, unhide H_c12, unhide H_c14, unhide H_c15, unhide H_c16, unhide H_c17, unhide H_c18, unhide H_c19, (fun h => nomatch h)⟩
    · intro h0 hd K hK
      have z : u4 = false := h0
      have z20_ : u20 = false := by
        cases hu : u20 with
        | false => rfl
        | true => exact nomatch z.symm.trans ((unhide H_kF hu).2.2.2.2.1)
      subst z20_
      subst z
      clear h0 hd
      rw [if_pos (by rfl)]
      go_simp
      exact unhide hK _ _ ⟨u0, u1, u2, u3, true, u5, u6, u7, u8, u9, u10, u11, u12, u13, u14, u15, u16, u17, u18, u19, false, dm, rfl, rfl, unhide H_kB, (fun h => nomatch h), unhide H_c1, unhide H_c2, unhide H_c3, (fun h => rfl), unhide H_c6, unhide H_c7, unhide H_c8, unhide H_c10, unhide H_c11, unhide H_c12, unhide H_c14, unhide H_c15, unhide H_c16, unhide H_c17, unhide H_c18, unhide H_c19, (fun h => nomatch h)⟩
    · intro h0 hd K hK
      have z : u5 = false := h0
      have z20_ : u20 = false := by
        cases hu : u20 with
        | false => rfl
        | true => exact nomatch z.symm.trans ((unhide H_kF hu).2.2.2.2.2.1)
      have zd : u4 = true := by
        simp [Region.binds] at hd
        simp [hd]
      obtain ⟨rfl⟩ := zd
      subst z20_
      subst z
      clear h0 hd
      rw [if_pos (by rfl)]
      go_simp
      exact unhide hK _ _ ⟨u0, u1, u2, u3, true, true, u6, u7, u8, u9, u10, u11, u12, u13, u14, u15, u16, u17, u18, u19, false, dm, rfl, rfl, unhide H_kB, (fun h => nomatch h), unhide H_c1, unhide H_c2, unhide H_c3, (fun _ => rfl), (fun h => rfl), unhide H_c7, unhide H_c8, unhide H_c10, unhide H_c11, unhide H_c12, unhide H_c14, unhide H_c15, unhide H_c16, unhide H_c17, unhide H_c18, unhide H_c19, (fun h => nomatch h)⟩
    · intro h0 hd K hK
      have z : u6 = false := h0
      have z20_ : u20 = false := by
        cases hu : u20 with
        | false => rfl
        | true => exact nomatch z.symm.trans ((unhide H_kF hu).2.2.2.2.2.2.1)
      have zd : u5 = true := by
        simp [Region.binds] at hd
        simp [hd]
      obtain ⟨rfl⟩ := zd
      subst z20_
      subst z
      clear h0 hd
      rw [if_pos (by rfl)]
      go_simp
      exact unhide hK _ _ ⟨u0, u1, u2, u3, u4, true, true, u7, u8, u9, u10, u11, u12, u13, u14, u15, u16, u17, u18, u19, false, dm, rfl, rfl, unhide H_kB, (fun h => nomatch h), unhide H_c1, unhide H_c2, unhide H_c3, unhide H_c5, (fun _ => rfl), (fun h => rfl), unhide H_c8, unhide H_c10, unhide H_c11, unhide H_c12, unhide H_c14, unhide H_c15, unhide H_c16, unhide H_c17, unhide H_c18, unhide H_c19, (fun h => nomatch h)⟩
    · intro h0 hd K hK
      have z : u7 = false := h0
      have z20_ : u20 = false := by
        cases hu : u20 with
        | false => rfl
        | true => exact nomatch z.symm.trans ((unhide H_kF hu).2.2.2.2.2.2.2.1)
      have zd : u6 = true := by
        simp [Region.binds] at hd
        simp [hd]
      obtain ⟨rfl⟩ := zd
      subst z20_
      subst z
      clear h0 hd
      rw [if_pos (by rfl)]
      have c0 := keep1 (unhide H_kB rfl) (unhide HA2)
      go_simp
      exact unhide hK _ _ ⟨u0, u1, u2, u3, u4, u5, true, true, u8, u9, u10, u11, u12, u13, u14, u15, u16, u17, u18, u19, false, dm, rfl, rfl, unhide H_kB, (fun h => nomatch h), unhide H_c1, unhide H_c2, unhide H_c3, unhide H_c5, unhide H_c6, (fun _ => rfl), (fun h => ⟨(unhide H_c8 h).1, rfl⟩), unhide H_c10, unhide H_c11, unhide H_c12, unhide H_c14, unhide H_c15, unhide H_c16, unhide H_c17, unhide H_c18, unhide H_c19, (fun h => nomatch h)⟩
    · intro h0 hd K hK
      have z : u8 = false := h0
      have z20_ : u20 = false := by
        cases hu : u20 with
        | false => rfl
        | true => exact nomatch z.symm.trans ((unhide H_kF hu).2.2.2.2.2.2.2.2.1)
      have zd : u3 = true ∧ u7 = true := by
        simp [Region.binds] at hd
        simp [hd]
      obtain ⟨rfl, rfl⟩ := zd
      subst z20_
      subst z
      clear h0 hd
      rw [if_pos (by rfl)]
      have wq := unhide HW8
      go_simp
      exact unhide hK _ _ ⟨u0, u1, u2, true, u4, u5, u6, true, true, u9, u10, u11, u12, u13, u14, u15, u16, u17, u18, u19, false, dm, rfl, rfl, unhide H_kB, (fun h => nomatch h), unhide H_c1, unhide H_c2, unhide H_c3, unhide H_c5, unhide H_c6, unhide H_c7, (fun _ => ⟨rfl, rfl⟩), unhide H_c10, unhide H_c11, unhide H_c12, unhide H_c14, unhide H_c15, unhide H_c16, unhide H_c17, (fun h => ⟨rfl, (unhide H_c18 h).2⟩), unhide H_c19, (fun h => nomatch h)⟩
    · intro h0 hd K hK
      have z : u9 = false := h0
      have z20_ : u20 = false := by
        cases hu : u20 with
        | false => rfl
        | true => exact nomatch z.symm.trans ((unhide H_kF hu).2.2.2.2.2.2.2.2.2.1)
      subst z20_
      subst z
      clear h0 hd
      rw [if_pos (by rfl)]
      go_simp
      exact unhide hK _ _ ⟨u0, u1, u2, u3, u4, u5, u6, u7, u8, true, u10, u11, u12, u13, u14, u15, u16, u17, u18, u19, false, dm, rfl, rfl, unhide H_kB, (fun h => nomatch h), unhide H_c1, unhide H_c2, unhide H_c3, unhide H_c5, unhide H_c6, unhide H_c7, unhide H_c8, (fun h => rfl), unhide H_c11, unhide H_c12, unhide H_c14, unhide H_c15, unhide H_c16, unhide H_c17, unhide H_c18, unhide H_c19, (fun h => nomatch h)⟩
    · intro h0 hd K hK
      have z : u10 = false := h0
      have z20_ : u20 = false := by
        cases hu : u20 with
        | false => rfl
        | true => exact nomatch z.symm.trans ((unhide H_kF hu).2.2.2.2.2.2.2.2.2.2.1)
      have zd : u9 = true := by
        simp [Region.binds] at hd
        simp [hd]
      obtain ⟨rfl⟩ := zd
      subst z20_
      subst z
      clear h0 hd
      rw [if_pos (by rfl)]
      go_simp
      exact unhide hK _ _ ⟨u0, u1, u2, u3, u4, u5, u6, u7, u8, true, true, u11, u12, u13, u14, u15, u16, u17, u18, u19, false, dm, rfl, rfl, unhide H_kB, (fun h => nomatch h), unhide H_c1, unhide H_c2, unhide H_c3, unhide H_c5, unhide H_c6, unhide H_c7, unhide H_c8, (fun _ => rfl), (fun h => rfl), unhide H_c12, unhide H_c14, unhide H_c15, unhide H_c16, unhide H_c17, unhide H_c18, unhide H_c19, (fun h => nomatch h)⟩
    · intro h0 hd K hK
      have z : u11 = false := h0
      have z20_ : u20 = false := by
        cases hu : u20 with
        | false => rfl
        | true => exact nomatch z.symm.trans ((unhide H_kF hu).2.2.2.2.2.2.2.2.2.2.2.1)
      have zd : u10 = true := by
        simp [Region.binds] at hd
        simp [hd]
      obtain ⟨rfl⟩ := zd
      subst z20_
      subst z
      clear h0 hd
      rw [if_pos (by rfl)]
      go_simp
      exact unhide hK _ _ ⟨u0, u1, u2, u3, u4, u5, u6, u7, u8, u9, true, true, u12, u13, u14, u15, u16, u17, u18, u19, false, dm, rfl, rfl, unhide H_kB, (fun h => nomatch h), unhide H_c1, unhide H_c2, unhide H_c3, unhide H_c5, unhide H_c6, unhide H_c7, unhide H_c8, unhide H_c10, (fun _ => rfl), (fun h => rfl), unhide H_c14, unhide H_c15, unhide H_c16, unhide H_c17, unhide H_c18, unhide H_c19, (fun h => nomatch h)⟩
    · intro h0 hd K hK
      have z : u12 = false := h0
      have z20_ : u20 = false := by
        cases hu : u20 with
        | false => rfl
        | true => exact nomatch z.symm.trans ((unhide H_kF hu).2.2.2.2.2.2.2.2.2.2.2.2.1)
      have zd : u11 = true := by
        simp [Region.binds] at hd
        simp [hd]
      obtain ⟨rfl⟩ := zd
      subst z20_
      subst z
      clear h0 hd
      rw [if_pos (by rfl)]
      have c0 := keep1 (unhide H_kB rfl) (unhide HA1)
      go_simp
      exact unhide hK _ _ ⟨u0, u1, u2, u3, u4, u5, u6, u7, u8, u9, u10, true, true, u13, u14, u15, u16, u17, u18, u19, false, dm, rfl, rfl, unhide H_kB, (fun h => nomatch h), unhide H_c1, unhide H_c2, unhide H_c3, unhide H_c5, unhide H_c6, unhide H_c7, unhide H_c8, unhide H_c10, unhide H_c11, (fun _ => rfl), unhide H_c14, unhide H_c15, unhide H_c16, (fun h => ⟨rfl, (unhide H_c17 h).2⟩), unhide H_c18, unhide H_c19, (fun h => nomatch h)⟩
    · intro h0 hd K hK
      have z : u13 = false := h0
      have z20_ : u20 = false := by
        cases hu : u20 with
        | false => rfl
        | true => exact nomatch z.symm.trans ((unhide H_kF hu).2.2.2.2.2.2.2.2.2.2.2.2.2.1)
      subst z20_
      subst z
      clear h0 hd
      rw [if_pos (by rfl)]
      go_simp
      exact unhide hK _ _ ⟨u0, u1, u2, u3, u4, u5, u6, u7, u8, u9, u10, u11, u12, true, u14, u15, u16, u17, u18, u19, false, dm, rfl, rfl, unhide H_kB, (fun h => nomatch h), unhide H_c1, unhide H_c2, unhide H_c3, unhide H_c5, unhide H_c6, unhide H_c7, unhide H_c8, unhide H_c10, unhide H_c11, unhide H_c12, (fun h => rfl), unhide H_c15, unhide H_c16, unhide H_c17, unhide H_c18, unhide H_c19, (fun h => nomatch h)⟩
    · intro h0 hd K hK
      have z : u14 = false := h0
      have z20_ : u20 = false := by
        cases hu : u20 with
        | false => rfl
        | true => exact nomatch z.symm.trans ((unhide H_kF hu).2.2.2.2.2.2.2.2.2.2.2.2.2.2.1)
      have zd : u13 = true := by
        simp [Region.binds] at hd
        simp [hd]
      obtain ⟨rfl⟩ := zd
      subst z20_
      subst z
      clear h0 hd
      rw [if_pos (by rfl)]
      go_simp
      exact unhide hK _ _ ⟨u0, u1, u2, u3, u4, u5, u6, u7, u8, u9, u10, u11, u12, true, true, u15, u16, u17, u18, u19, false, dm, rfl, rfl, unhide H_kB, (fun h => nomatch h), unhide H_c1, unhide H_c2, unhide H_c3, unhide H_c5, unhide H_c6, unhide H_c7, unhide H_c8, unhide H_c10, unhide H_c11, unhide H_c12, (fun _ => rfl), (fun h => rfl), unhide H_c16, unhide H_c17, unhide H_c18, unhide H_c19, (fun h => nomatch h)⟩
    · intro h0 hd K hK
      have z : u15 = false := h0
      have z20_ : u20 = false := by
        cases hu : u20 with
        | false => rfl
        | true => exact nomatch z.symm.trans ((unhide H_kF hu).2.2.2.2.2.2.2.2.2.2.2.2.2.2.2.1)
      have zd : u14 = true := by
        simp [Region.binds] at hd
        simp [hd]
      obtain ⟨rfl⟩ := zd
      subst z20_
      subst z
      clear h0 hd
      rw [if_pos (by rfl)]
      go_simp
      exact unhide hK _ _ ⟨u0, u1, u2, u3, u4, u5, u6, u7, u8, u9, u10, u11, u12, u13, true, true, u16, u17, u18, u19, false, dm, rfl, rfl, unhide H_kB, (fun h => nomatch h), unhide H_c1, unhide H_c2, unhide H_c3, unhide H_c5, unhide H_c6, unhide H_c7, unhide H_c8, unhide H_c10, unhide H_c11, unhide H_c12, unhide H_c14, (fun _ => rfl), (fun h => rfl), unhide H_c17, unhide H_c18, unhide H_c19, (fun h => nomatch h)⟩
    · intro h0 hd K hK
      have z : u16 = false := h0
      have z20_ : u20 = false := by
        cases hu : u20 with
        | false => rfl
        | true => exact nomatch z.symm.trans ((unhide H_kF hu).2.2.2.2.2.2.2.2.2.2.2.2.2.2.2.2.1)
      have zd : u15 = true := by
        simp [Region.binds] at hd
        simp [hd]
      obtain ⟨rfl⟩ := zd
      subst z20_
      subst z
      clear h0 hd
      rw [if_pos (by rfl)]
      have c0 := keep1 (unhide H_kB rfl) (unhide HA3)
      go_simp
      exact unhide hK _ _ ⟨u0, u1, u2, u3, u4, u5, u6, u7, u8, u9, u10, u11, u12, u13, u14, true, true, u17, u18, u19, false, dm, rfl, rfl, unhide H_kB, (fun h => nomatch h), unhide H_c1, unhide H_c2, unhide H_c3, unhide H_c5, unhide H_c6, unhide H_c7, unhide H_c8, unhide H_c10, unhide H_c11, unhide H_c12, unhide H_c14, unhide H_c15, (fun _ => rfl), (fun h => ⟨(unhide H_c17 h).1, rfl⟩), unhide H_c18, unhide H_c19, (fun h => nomatch h)⟩
    · intro h0 hd K hK
      have z : u17 = false := h0
      have z20_ : u20 = false := by
        cases hu : u20 with
        | false => rfl
        | true => exact nomatch z.symm.trans ((unhide H_kF hu).2.2.2.2.2.2.2.2.2.2.2.2.2.2.2.2.2.1)
      have zd : u12 = true ∧ u16 = true := by
        simp [Region.binds] at hd
        simp [hd]
      obtain ⟨rfl, rfl⟩ := zd
      subst z20_
      subst z
      clear h0 hd
      rw [if_pos (by rfl)]
      have wq := unhide HW17
      go_simp
      exact unhide hK _ _ ⟨u0, u1, u2, u3, u4, u5, u6, u7, u8, u9, u10, u11, true, u13, u14, u15, true, true, u18, u19, false, dm, rfl, rfl, unhide H_kB, (fun h => nomatch h), unhide H_c1, unhide H_c2, unhide H_c3, unhide H_c5, unhide H_c6, unhide H_c7, unhide H_c8, unhide H_c10, unhide H_c11, unhide H_c12, unhide H_c14, unhide H_c15, unhide H_c16, (fun _ => ⟨rfl, rfl⟩), (fun h => ⟨(unhide H_c18 h).1, rfl⟩), unhide H_c19, (fun h => nomatch h)⟩
    · intro h0 hd K hK
      have z : u18 = false := h0
      have z20_ : u20 = false := by
        cases hu : u20 with
        | false => rfl
        | true => exact nomatch z.symm.trans ((unhide H_kF hu).2.2.2.2.2.2.2.2.2.2.2.2.2.2.2.2.2.2.1)
      have zd : u8 = true ∧ u17 = true := by
        simp [Region.binds] at hd
        simp [hd]
      obtain ⟨rfl, rfl⟩ := zd
      subst z20_
      subst z
      clear h0 hd
      rw [if_pos (by rfl)]
      go_simp
      refine (unhide HF18 W (unhide H_kB rfl)).mono ?_
      rintro e w8 ⟨rfl, hb8⟩
      exact unhide hK _ _ ⟨u0, u1, u2, u3, u4, u5, u6, u7, true, u9, u10, u11, u12, u13, u14, u15, u16, true, true, u19, false, dm, rfl, rfl, (fun _ => bc (unhide H_kB rfl) hb8), (fun h => nomatch h), unhide H_c1, unhide H_c2, unhide H_c3, unhide H_c5, unhide H_c6, unhide H_c7, unhide H_c8, unhide H_c10, unhide H_c11, unhide H_c12, unhide H_c14, unhide H_c15, unhide H_c16, unhide H_c17, (fun _ => ⟨rfl, rfl⟩), (fun h => rfl), (fun h => nomatch h)⟩
    · intro h0 hd K hK
      have z : u19 = false := h0
      have z20_ : u20 = false := by
        cases hu : u20 with
        | false => rfl
        | true => exact nomatch z.symm.trans ((unhide H_kF hu).2.2.2.2.2.2.2.2.2.2.2.2.2.2.2.2.2.2.2)
      have zd : u18 = true := by
        simp [Region.binds] at hd
        simp [hd]
      obtain ⟨rfl⟩ := zd
      subst z20_
      subst z
      clear h0 hd
      rw [if_pos (by rfl)]
      go_simp
      exact unhide hK _ _ ⟨u0, u1, u2, u3, u4, u5, u6, u7, u8, u9, u10, u11, u12, u13, u14, u15, u16, u17, true, true, false, dm, rfl, rfl, unhide H_kB, (fun h => nomatch h), unhide H_c1, unhide H_c2, unhide H_c3, unhide H_c5, unhide H_c6, unhide H_c7, unhide H_c8, unhide H_c10, unhide H_c11, unhide H_c12, unhide H_c14, unhide H_c15, unhide H_c16, unhide H_c17, unhide H_c18, (fun _ => rfl), (fun h => nomatch h)⟩
    · intro h0 hd K hK
      have z : u20 = false := h0
      have zd0 : u19 = true ∧ u18 = true := by
        simp [Region.binds] at hd
        simp [hd]
      have zd : u19 = true ∧ u18 = true ∧ u0 = true ∧ u1 = true ∧ u2 = true ∧ u3 = true ∧ u4 = true ∧ u5 = true ∧ u6 = true ∧ u7 = true ∧ u8 = true ∧ u9 = true ∧ u10 = true ∧ u11 = true ∧ u12 = true ∧ u13 = true ∧ u14 = true ∧ u15 = true ∧ u16 = true ∧ u17 = true := ⟨zd0.1, zd0.2, (unhide H_c1 (unhide H_c2 (unhide H_c3 (unhide H_c8 (unhide H_c18 (unhide H_c19 zd0.1)).1).1))), (unhide H_c2 (unhide H_c3 (unhide H_c8 (unhide H_c18 (unhide H_c19 zd0.1)).1).1)), (unhide H_c3 (unhide H_c8 (unhide H_c18 (unhide H_c19 zd0.1)).1).1), (unhide H_c8 (unhide H_c18 (unhide H_c19 zd0.1)).1).1, (unhide H_c5 (unhide H_c6 (unhide H_c7 (unhide H_c8 (unhide H_c18 (unhide H_c19 zd0.1)).1).2))), (unhide H_c6 (unhide H_c7 (unhide H_c8 (unhide H_c18 (unhide H_c19 zd0.1)).1).2)), (unhide H_c7 (unhide H_c8 (unhide H_c18 (unhide H_c19 zd0.1)).1).2), (unhide H_c8 (unhide H_c18 (unhide H_c19 zd0.1)).1).2, (unhide H_c18 (unhide H_c19 zd0.1)).1, (unhide H_c10 (unhide H_c11 (unhide H_c12 (unhide H_c17 (unhide H_c18 (unhide H_c19 zd0.1)).2).1))), (unhide H_c11 (unhide H_c12 (unhide H_c17 (unhide H_c18 (unhide H_c19 zd0.1)).2).1)), (unhide H_c12 (unhide H_c17 (unhide H_c18 (unhide H_c19 zd0.1)).2).1), (unhide H_c17 (unhide H_c18 (unhide H_c19 zd0.1)).2).1, (unhide H_c14 (unhide H_c15 (unhide H_c16 (unhide H_c17 (unhide H_c18 (unhide H_c19 zd0.1)).2).2))), (unhide H_c15 (unhide H_c16 (unhide H_c17 (unhide H_c18 (unhide H_c19 zd0.1)).2).2)), (unhide H_c16 (unhide H_c17 (unhide H_c18 (unhide H_c19 zd0.1)).2).2), (unhide H_c17 (unhide H_c18 (unhide H_c19 zd0.1)).2).2, (unhide H_c18 (unhide H_c19 zd0.1)).2⟩
      obtain ⟨rfl, rfl, rfl, rfl, rfl, rfl, rfl, rfl, rfl, rfl, rfl, rfl, rfl, rfl, rfl, rfl, rfl, rfl, rfl, rfl⟩ := zd
      subst z
      clear h0 hd
      rw [if_pos (by rfl)]
      have hB := (unhide H_kB rfl)
      have q0 := keep1 hB (unhide HO0)
      have q1 := keep1 hB (unhide HO1)
      have q2 := keep1 hB (unhide HO2)
      have fz : ∀ o, W.frozen? ⟨b3, o, none⟩ = false := fun o => keepz hB hbO (unhide HOf o)
      have HBB := hide hB
      clear hB
      go_simp
      exact unhide hK _ _ ⟨true, true, true, true, true, true, true, true, true, true, true, true, true, true, true, true, true, true, true, true, true, dm, rfl, rfl, (fun h => nomatch h), (fun _ => ⟨W, unhide HBB, rfl⟩), (fun _ => rfl), (fun _ => rfl), (fun _ => rfl), (fun _ => rfl), (fun _ => rfl), (fun _ => rfl), (fun _ => ⟨rfl, rfl⟩), (fun _ => rfl), (fun _ => rfl), (fun _ => rfl), (fun _ => rfl), (fun _ => rfl), (fun _ => rfl), (fun _ => ⟨rfl, rfl⟩), (fun _ => ⟨rfl, rfl⟩), (fun _ => rfl), (fun _ => ⟨rfl, rfl, rfl, rfl, rfl, rfl, rfl, rfl, rfl, rfl, rfl, rfl, rfl, rfl, rfl, rfl, rfl, rfl, rfl, rfl⟩)⟩
  case hend =>
    intro Lb A W hI
    obtain ⟨u0, hI⟩ := hI
    obtain ⟨u1, hI⟩ := hI
    obtain ⟨u2, hI⟩ := hI
    obtain ⟨u3, hI⟩ := hI
    obtain ⟨u4, hI⟩ := hI
    obtain ⟨u5, hI⟩ := hI
    obtain ⟨u6, hI⟩ := hI
    obtain ⟨u7, hI⟩ := hI
    obtain ⟨u8, hI⟩ := hI
    obtain ⟨u9, hI⟩ := hI
    obtain ⟨u10, hI⟩ := hI
    obtain ⟨u11, hI⟩ := hI
    obtain ⟨u12, hI⟩ := hI
    obtain ⟨u13, hI⟩ := hI
    obtain ⟨u14, hI⟩ := hI
    obtain ⟨u15, hI⟩ := hI
    obtain ⟨u16, hI⟩ := hI
    obtain ⟨u17, hI⟩ := hI
    obtain ⟨u18, hI⟩ := hI
    obtain ⟨u19, hI⟩ := hI
    obtain ⟨u20, hI⟩ := hI
    obtain ⟨dm, hI⟩ := hI
    obtain ⟨hLb, hI⟩ := hI
    obtain ⟨hA, hI⟩ := hI
    obtain ⟨kB, hI⟩ := hI
    obtain ⟨kZ, hI⟩ := hI
    obtain ⟨c1, hI⟩ := hI
    obtain ⟨c2, hI⟩ := hI
    obtain ⟨c3, hI⟩ := hI
    obtain ⟨c5, hI⟩ := hI
    obtain ⟨c6, hI⟩ := hI
    obtain ⟨c7, hI⟩ := hI
    obtain ⟨c8, hI⟩ := hI
    obtain ⟨c10, hI⟩ := hI
    obtain ⟨c11, hI⟩ := hI
    obtain ⟨c12, hI⟩ := hI
    obtain ⟨c14, hI⟩ := hI
    obtain ⟨c15, hI⟩ := hI
    obtain ⟨c16, hI⟩ := hI
    obtain ⟨c17, hI⟩ := hI
    obtain ⟨c18, hI⟩ := hI
    obtain ⟨c19, hI⟩ := hI
    have kF := hI
    clear hI
    subst hLb
    subst hA
    intro hL
    have hl : u0 = true ∧ u1 = true ∧ u2 = true ∧ u3 = true ∧ u4 = true ∧ u5 = true ∧ u6 = true ∧ u7 = true ∧ u8 = true ∧ u9 = true ∧ u10 = true ∧ u11 = true ∧ u12 = true ∧ u13 = true ∧ u14 = true ∧ u15 = true ∧ u16 = true ∧ u17 = true ∧ u18 = true ∧ u19 = true ∧ u20 = true := by
      have h2 := congrArg Array.toList hL
      simpa [List.replicate] using h2
    obtain ⟨rfl, rfl, rfl, rfl, rfl, rfl, rfl, rfl, rfl, rfl, rfl, rfl, rfl, rfl, rfl, rfl, rfl, rfl, rfl, rfl, rfl⟩ := hl
    obtain ⟨W1, hA, hZ⟩ := kZ rfl
    exact unhide HQ  W1 W hZ hA

set_option maxHeartbeats 4000000 in
set_option maxRecDepth 100000 in
theorem ci10 {s1 s4 s5 s6 s7 s8 s9 s10 s11 s12 s13 s14 s15 s16 s17 s18 s19 s20 s21 s22 s23 s24 s25 s26 s27 s28 s29 s30 s31 s32 s33 s34 s35 s36 s37 s38 s39 s40 s41 s42 s43 s44 s45 s46 s47 s48 s49 s50 s51 s52 s53 s54 : Value} {b b2 b3 cap n : Nat} {x0 y0 X Y D o3 r : Int} {V : World} {K_ : Act → World → Prop} 
    (HA0 : Hid (V.cell? ⟨b, 0, none⟩ = some (.int .i64 (x0)))) (HA1 : Hid (V.cell? ⟨b, 1, none⟩ = some (.int .i64 (y0)))) (H30 : Hid (V.cell? ⟨b3, 0, none⟩ = some (.int .i64 (X)))) (H31 : Hid (V.cell? ⟨b3, 1, none⟩ = some (.int .i64 (Y)))) (H32 : Hid (V.cell? ⟨b3, 2, none⟩ = some (.int .i64 (D)))) (H33 : Hid (V.cell? ⟨b3, 3, none⟩ = some (.int .i64 (o3)))) (hbO : b3 < V.heap.size) {oo0 : Value} (HO0 : Hid (V.cell? ⟨b3, 3, none⟩ = some oo0)) (HOf : Hid (∀ o, V.frozen? ⟨b3, o, none⟩ = false))
    (HX2 : Hid (0 < n))
    (HF4 : Hid (∀ Xw, Below V.heap.size V Xw → Calls Try.prog 66 #[.agg #[.int .i64 (X), .int .i64 (Y), .int .i64 (D), .int .i64 (o3)], .agg #[.int .i64 (x0), .int .i64 (y0)]] Xw fun e w' => e = .returned (.int .i64 (r)) ∧ Below Xw.heap.size Xw w'))
    (hQ : ∀ (W1 W9 : World), W9 = (W1.setCell ⟨b3, 3, none⟩ (.int .i64 (r))) → Below V.heap.size V W1 → K_ { tmps := #[.slice (some ⟨b, 0, none⟩) n cap, s1, .pointer (some ⟨b2, 0, none⟩), .pointer (some ⟨b3, 0, none⟩), s4, s5, s6, s7, s8, s9, s10, s11, s12, s13, s14, s15, s16, s17, s18, s19, s20, s21, s22, s23, s24, s25, s26, s27, s28, s29, s30, s31, s32, s33, s34, s35, s36, s37, s38, s39, s40, s41, s42, s43, s44, s45, s46, s47, .agg #[.int .i64 (X), .int .i64 (Y), .int .i64 (D), .int .i64 (o3)], .slice (some ⟨b, 0, none⟩) n cap, .pointer (some ⟨b, 0, none⟩), .agg #[.int .i64 (x0), .int .i64 (y0)], .int .i64 (r), .pointer (some ⟨b3, 3, none⟩), s54], defers := [] } W9) :
    Go.Code.wp Try.prog (rg65 10) (Only K_) { tmps := #[.slice (some ⟨b, 0, none⟩) n cap, s1, .pointer (some ⟨b2, 0, none⟩), .pointer (some ⟨b3, 0, none⟩), s4, s5, s6, s7, s8, s9, s10, s11, s12, s13, s14, s15, s16, s17, s18, s19, s20, s21, s22, s23, s24, s25, s26, s27, s28, s29, s30, s31, s32, s33, s34, s35, s36, s37, s38, s39, s40, s41, s42, s43, s44, s45, s46, s47, s48, s49, s50, s51, s52, s53, s54], defers := [] } V := by
  have HQ := hide hQ
  clear hQ
  conv => arg 2; whnf
  refine wp_region_inv2 (fun Lb A W => ∃ (u0 u1 u2 u3 u4 u5 u6 : Bool) (dm : Nat), Lb = #[u0, u1, u2, u3, u4, u5, u6] ∧ A = ({ tmps := #[.slice (some ⟨b, 0, none⟩) n cap, s1, .pointer (some ⟨b2, 0, none⟩), .pointer (some ⟨b3, 0, none⟩), s4, s5, s6, s7, s8, s9, s10, s11, s12, s13, s14, s15, s16, s17, s18, s19, s20, s21, s22, s23, s24, s25, s26, s27, s28, s29, s30, s31, s32, s33, s34, s35, s36, s37, s38, s39, s40, s41, s42, s43, s44, s45, s46, s47, (bif u0 then .agg #[.int .i64 (X), .int .i64 (Y), .int .i64 (D), .int .i64 (o3)] else s48), (bif u1 then .slice (some ⟨b, 0, none⟩) n cap else s49), (bif u2 then .pointer (some ⟨b, 0, none⟩) else s50), (bif u3 then .agg #[.int .i64 (x0), .int .i64 (y0)] else s51), (bif u4 then .int .i64 (r) else s52), (bif u5 then .pointer (some ⟨b3, 3, none⟩) else s53), s54], defers := [] } : Act) ∧ (u6 = false → Below V.heap.size V W) ∧ (u6 = true → ∃ W1, Below V.heap.size V W1 ∧ W = (W1.setCell ⟨b3, 3, none⟩ (.int .i64 (r)))) ∧ (u2 = true → u1 = true) ∧ (u3 = true → u2 = true) ∧ (u4 = true → u0 = true ∧ u3 = true) ∧ (u5 = true → u4 = true) ∧ (u6 = true → u0 = true ∧ u1 = true ∧ u2 = true ∧ u3 = true ∧ u4 = true ∧ u5 = true)) (by kernel_rfl) (by kernel_rfl) ?h0 ?hstep ?hend
  case h0 =>
    exact ⟨false, false, false, false, false, false, false, 0, rfl, rfl, (fun _ => Below.drew (Below.refl _ _)), (fun h => nomatch h), (fun h => nomatch h), (fun h => nomatch h), (fun h => nomatch h), (fun h => nomatch h), (fun h => nomatch h)⟩
  case hstep =>
    intro Lb A W hI
    obtain ⟨u0, hI⟩ := hI
    obtain ⟨u1, hI⟩ := hI
    obtain ⟨u2, hI⟩ := hI
    obtain ⟨u3, hI⟩ := hI
    obtain ⟨u4, hI⟩ := hI
    obtain ⟨u5, hI⟩ := hI
    obtain ⟨u6, hI⟩ := hI
    obtain ⟨dm, hI⟩ := hI
    obtain ⟨hLb, hI⟩ := hI
    obtain ⟨hA, hI⟩ := hI
    obtain ⟨kB, hI⟩ := hI
    obtain ⟨kZ, hI⟩ := hI
    obtain ⟨c2, hI⟩ := hI
    obtain ⟨c3, hI⟩ := hI
    obtain ⟨c4, hI⟩ := hI
    obtain ⟨c5, hI⟩ := hI
    have kF := hI
    clear hI
    subst hLb
    subst hA
    have H_kB := hide kB
    have H_kZ := hide kZ
    have H_c2 := hide c2
    have H_c3 := hide c3
    have H_c4 := hide c4
    have H_c5 := hide c5
    have H_kF := hide kF
    clear kB kZ c2 c3 c4 c5 kF
    refine ⟨?_, ?_, ?_, ?_, ?_, ?_, ?_, trivial⟩
    · intro h0 hd K hK
      have z : u0 = false := h0
      have z6_ : u6 = false := by
        cases hu : u6 with
        | false => rfl
        | true => exact nomatch z.symm.trans ((unhide H_kF hu).1)
      subst z6_
      subst z
      clear h0 hd
      rw [if_pos (by rfl)]
      have c0 := keep1 (unhide H_kB rfl) (unhide H30)
      have c1 := keep1 (unhide H_kB rfl) (unhide H31)
      have c2 := keep1 (unhide H_kB rfl) (unhide H32)
      have c3 := keep1 (unhide H_kB rfl) (unhide H33)
      go_simp
      exact unhide hK _ _ ⟨true, u1, u2, u3, u4, u5, false, dm, rfl, rfl, unhide H_kB, (fun h => nomatch h), unhide H_c2, unhide H_c3, (fun h => ⟨rfl, (unhide H_c4 h).2⟩), unhide H_c5, (fun h => nomatch h)⟩
    · intro h0 hd K hK
      have z : u1 = false := h0
      have z6_ : u6 = false := by
        cases hu : u6 with
        | false => rfl
        | true => exact nomatch z.symm.trans ((unhide H_kF hu).2.1)
      subst z6_
      subst z
      clear h0 hd
      rw [if_pos (by rfl)]
      go_simp
      exact unhide hK _ _ ⟨u0, true, u2, u3, u4, u5, false, dm, rfl, rfl, unhide H_kB, (fun h => nomatch h), (fun h => rfl), unhide H_c3, unhide H_c4, unhide H_c5, (fun h => nomatch h)⟩
    · intro h0 hd K hK
      have z : u2 = false := h0
      have z6_ : u6 = false := by
        cases hu : u6 with
        | false => rfl
        | true => exact nomatch z.symm.trans ((unhide H_kF hu).2.2.1)
      have zd : u1 = true := by
        simp [Region.binds] at hd
        simp [hd]
      obtain ⟨rfl⟩ := zd
      subst z6_
      subst z
      clear h0 hd
      rw [if_pos (by rfl)]
      have q1 : 0 < n := unhide HX2
      have q2 : (0 : Int) < (n : Int) := by omega
      go_simp
      exact unhide hK _ _ ⟨u0, true, true, u3, u4, u5, false, dm, rfl, rfl, unhide H_kB, (fun h => nomatch h), (fun _ => rfl), (fun h => rfl), unhide H_c4, unhide H_c5, (fun h => nomatch h)⟩
    · intro h0 hd K hK
      have z : u3 = false := h0
      have z6_ : u6 = false := by
        cases hu : u6 with
        | false => rfl
        | true => exact nomatch z.symm.trans ((unhide H_kF hu).2.2.2.1)
      have zd : u2 = true := by
        simp [Region.binds] at hd
        simp [hd]
      obtain ⟨rfl⟩ := zd
      subst z6_
      subst z
      clear h0 hd
      rw [if_pos (by rfl)]
      have c0 := keep1 (unhide H_kB rfl) (unhide HA0)
      have c1 := keep1 (unhide H_kB rfl) (unhide HA1)
      go_simp
      exact unhide hK _ _ ⟨u0, u1, true, true, u4, u5, false, dm, rfl, rfl, unhide H_kB, (fun h => nomatch h), unhide H_c2, (fun _ => rfl), (fun h => ⟨(unhide H_c4 h).1, rfl⟩), unhide H_c5, (fun h => nomatch h)⟩
    · intro h0 hd K hK
      have z : u4 = false := h0
      have z6_ : u6 = false := by
        cases hu : u6 with
        | false => rfl
        | true => exact nomatch z.symm.trans ((unhide H_kF hu).2.2.2.2.1)
      have zd : u0 = true ∧ u3 = true := by
        simp [Region.binds] at hd
        simp [hd]
      obtain ⟨rfl, rfl⟩ := zd
      subst z6_
      subst z
      clear h0 hd
      rw [if_pos (by rfl)]
      go_simp
      refine (unhide HF4 W (unhide H_kB rfl)).mono ?_
      rintro e w8 ⟨rfl, hb8⟩
      exact unhide hK _ _ ⟨true, u1, u2, true, true, u5, false, dm, rfl, rfl, (fun _ => bc (unhide H_kB rfl) hb8), (fun h => nomatch h), unhide H_c2, unhide H_c3, (fun _ => ⟨rfl, rfl⟩), (fun h => rfl), (fun h => nomatch h)⟩
    · intro h0 hd K hK
      have z : u5 = false := h0
      have z6_ : u6 = false := by
        cases hu : u6 with
        | false => rfl
        | true => exact nomatch z.symm.trans ((unhide H_kF hu).2.2.2.2.2)
      have zd : u4 = true := by
        simp [Region.binds] at hd
        simp [hd]
      obtain ⟨rfl⟩ := zd
      subst z6_
      subst z
      clear h0 hd
      rw [if_pos (by rfl)]
      go_simp
      exact unhide hK _ _ ⟨u0, u1, u2, u3, true, true, false, dm, rfl, rfl, unhide H_kB, (fun h => nomatch h), unhide H_c2, unhide H_c3, unhide H_c4, (fun _ => rfl), (fun h => nomatch h)⟩
    · intro h0 hd K hK
      have z : u6 = false := h0
      have zd0 : u5 = true ∧ u4 = true := by
        simp [Region.binds] at hd
        simp [hd]
      have zd : u5 = true ∧ u4 = true ∧ u0 = true ∧ u1 = true ∧ u2 = true ∧ u3 = true := ⟨zd0.1, zd0.2, (unhide H_c4 (unhide H_c5 zd0.1)).1, (unhide H_c2 (unhide H_c3 (unhide H_c4 (unhide H_c5 zd0.1)).2)), (unhide H_c3 (unhide H_c4 (unhide H_c5 zd0.1)).2), (unhide H_c4 (unhide H_c5 zd0.1)).2⟩
      obtain ⟨rfl, rfl, rfl, rfl, rfl, rfl⟩ := zd
      subst z
      clear h0 hd
      rw [if_pos (by rfl)]
      have hB := (unhide H_kB rfl)
      have q0 := keep1 hB (unhide HO0)
      have fz : ∀ o, W.frozen? ⟨b3, o, none⟩ = false := fun o => keepz hB hbO (unhide HOf o)
      have HBB := hide hB
      clear hB
      go_simp
      exact unhide hK _ _ ⟨true, true, true, true, true, true, true, dm, rfl, rfl, (fun h => nomatch h), (fun _ => ⟨W, unhide HBB, rfl⟩), (fun _ => rfl), (fun _ => rfl), (fun _ => ⟨rfl, rfl⟩), (fun _ => rfl), (fun _ => ⟨rfl, rfl, rfl, rfl, rfl, rfl⟩)⟩
  case hend =>
    intro Lb A W hI
    obtain ⟨u0, hI⟩ := hI
    obtain ⟨u1, hI⟩ := hI
    obtain ⟨u2, hI⟩ := hI
    obtain ⟨u3, hI⟩ := hI
    obtain ⟨u4, hI⟩ := hI
    obtain ⟨u5, hI⟩ := hI
    obtain ⟨u6, hI⟩ := hI
    obtain ⟨dm, hI⟩ := hI
    obtain ⟨hLb, hI⟩ := hI
    obtain ⟨hA, hI⟩ := hI
    obtain ⟨kB, hI⟩ := hI
    obtain ⟨kZ, hI⟩ := hI
    obtain ⟨c2, hI⟩ := hI
    obtain ⟨c3, hI⟩ := hI
    obtain ⟨c4, hI⟩ := hI
    obtain ⟨c5, hI⟩ := hI
    have kF := hI
    clear hI
    subst hLb
    subst hA
    intro hL
    have hl : u0 = true ∧ u1 = true ∧ u2 = true ∧ u3 = true ∧ u4 = true ∧ u5 = true ∧ u6 = true := by
      have h2 := congrArg Array.toList hL
      simpa [List.replicate] using h2
    obtain ⟨rfl, rfl, rfl, rfl, rfl, rfl, rfl⟩ := hl
    obtain ⟨W1, hA, hZ⟩ := kZ rfl
    exact unhide HQ  W1 W hZ hA

set_option maxHeartbeats 4000000 in
set_option maxRecDepth 100000 in
theorem sm7 {s0 s1 s2 s3 s4 s6 s8 s9 s10 s11 s12 s13 s14 s15 s16 s17 s18 s19 s20 s21 s22 s23 s24 s25 s26 s27 s28 s29 s30 s31 s32 s33 s34 s35 s36 s37 s38 s39 s40 s41 s42 s43 : Value} {b5 b7 : Nat} {X Y D N x y r : Int} {V : World} {K_ : Act → World → Prop} 
    (H50 : Hid (V.cell? ⟨b5, 0, none⟩ = some (.int .i64 (X)))) (H51 : Hid (V.cell? ⟨b5, 1, none⟩ = some (.int .i64 (Y)))) (H52 : Hid (V.cell? ⟨b5, 2, none⟩ = some (.int .i64 (D)))) (H53 : Hid (V.cell? ⟨b5, 3, none⟩ = some (.int .i64 (N)))) (H70 : Hid (V.cell? ⟨b7, 0, none⟩ = some (.int .i64 (x)))) (H71 : Hid (V.cell? ⟨b7, 1, none⟩ = some (.int .i64 (y)))) 
    (HF2 : Hid (∀ Xw, Below V.heap.size V Xw → Calls Try.prog 66 #[.agg #[.int .i64 (X), .int .i64 (Y), .int .i64 (D), .int .i64 (N)], .agg #[.int .i64 (x), .int .i64 (y)]] Xw fun e w' => e = .returned (.int .i64 (r)) ∧ Below Xw.heap.size Xw w'))
    (hQ : ∀ (W1 : World), Below V.heap.size V W1 → K_ { tmps := #[s0, s1, s2, s3, s4, .pointer (some ⟨b5, 0, none⟩), s6, .pointer (some ⟨b7, 0, none⟩), s8, s9, s10, s11, s12, s13, s14, s15, s16, s17, s18, s19, s20, s21, s22, .agg #[.int .i64 (X), .int .i64 (Y), .int .i64 (D), .int .i64 (N)], .agg #[.int .i64 (x), .int .i64 (y)], .int .i64 (r), .pointer (some ⟨b5, 3, none⟩), .int .i64 (N), .bool (decide (N < r)), s29, s30, s31, s32, s33, s34, s35, s36, s37, s38, s39, s40, s41, s42, s43], defers := [] } W1) :
    Go.Code.wp Try.prog (rg40 7) (Only K_) { tmps := #[s0, s1, s2, s3, s4, .pointer (some ⟨b5, 0, none⟩), s6, .pointer (some ⟨b7, 0, none⟩), s8, s9, s10, s11, s12, s13, s14, s15, s16, s17, s18, s19, s20, s21, s22, s23, s24, s25, s26, s27, s28, s29, s30, s31, s32, s33, s34, s35, s36, s37, s38, s39, s40, s41, s42, s43], defers := [] } V := by
  have HQ := hide hQ
  clear hQ
  conv => arg 2; whnf
  refine wp_region_inv2 (fun Lb A W => ∃ (u0 u1 u2 u3 u4 u5 : Bool) (dm : Nat), Lb = #[u0, u1, u2, u3, u4, u5] ∧ A = ({ tmps := #[s0, s1, s2, s3, s4, .pointer (some ⟨b5, 0, none⟩), s6, .pointer (some ⟨b7, 0, none⟩), s8, s9, s10, s11, s12, s13, s14, s15, s16, s17, s18, s19, s20, s21, s22, (bif u0 then .agg #[.int .i64 (X), .int .i64 (Y), .int .i64 (D), .int .i64 (N)] else s23), (bif u1 then .agg #[.int .i64 (x), .int .i64 (y)] else s24), (bif u2 then .int .i64 (r) else s25), (bif u3 then .pointer (some ⟨b5, 3, none⟩) else s26), (bif u4 then .int .i64 (N) else s27), (bif u5 then .bool (decide (N < r)) else s28), s29, s30, s31, s32, s33, s34, s35, s36, s37, s38, s39, s40, s41, s42, s43], defers := [] } : Act) ∧ Below V.heap.size V W ∧ (u2 = true → u0 = true ∧ u1 = true) ∧ (u4 = true → u3 = true) ∧ (u5 = true → u0 = true ∧ u1 = true ∧ u2 = true ∧ u3 = true ∧ u4 = true)) (by kernel_rfl) (by kernel_rfl) ?h0 ?hstep ?hend
  case h0 =>
    exact ⟨false, false, false, false, false, false, 0, rfl, rfl, Below.drew (Below.refl _ _), (fun h => nomatch h), (fun h => nomatch h), (fun h => nomatch h)⟩
  case hstep =>
    intro Lb A W hI
    obtain ⟨u0, hI⟩ := hI
    obtain ⟨u1, hI⟩ := hI
    obtain ⟨u2, hI⟩ := hI
    obtain ⟨u3, hI⟩ := hI
    obtain ⟨u4, hI⟩ := hI
    obtain ⟨u5, hI⟩ := hI
    obtain ⟨dm, hI⟩ := hI
    obtain ⟨hLb, hI⟩ := hI
    obtain ⟨hA, hI⟩ := hI
    obtain ⟨kB, hI⟩ := hI
    obtain ⟨c2, hI⟩ := hI
    obtain ⟨c4, hI⟩ := hI
    have kF := hI
    clear hI
    subst hLb
    subst hA
    have H_kB := hide kB
    have H_c2 := hide c2
    have H_c4 := hide c4
    have H_kF := hide kF
    clear kB c2 c4 kF
    refine ⟨?_, ?_, ?_, ?_, ?_, ?_, trivial⟩
    · intro h0 hd K hK
      have z : u0 = false := h0
      have z5_ : u5 = false := by
        cases hu : u5 with
        | false => rfl
        | true => exact nomatch z.symm.trans ((unhide H_kF hu).1)
      subst z5_
      subst z
      clear h0 hd
      rw [if_pos (by rfl)]
      have c0 := keep1 (unhide H_kB) (unhide H50)
      have c1 := keep1 (unhide H_kB) (unhide H51)
      have c2 := keep1 (unhide H_kB) (unhide H52)
      have c3 := keep1 (unhide H_kB) (unhide H53)
      go_simp
      exact unhide hK _ _ ⟨true, u1, u2, u3, u4, false, dm, rfl, rfl, unhide H_kB, (fun h => ⟨rfl, (unhide H_c2 h).2⟩), unhide H_c4, (fun h => nomatch h)⟩
    · intro h0 hd K hK
      have z : u1 = false := h0
      have z5_ : u5 = false := by
        cases hu : u5 with
        | false => rfl
        | true => exact nomatch z.symm.trans ((unhide H_kF hu).2.1)
      subst z5_
      subst z
      clear h0 hd
      rw [if_pos (by rfl)]
      have c0 := keep1 (unhide H_kB) (unhide H70)
      have c1 := keep1 (unhide H_kB) (unhide H71)
      go_simp
      exact unhide hK _ _ ⟨u0, true, u2, u3, u4, false, dm, rfl, rfl, unhide H_kB, (fun h => ⟨(unhide H_c2 h).1, rfl⟩), unhide H_c4, (fun h => nomatch h)⟩
    · intro h0 hd K hK
      have z : u2 = false := h0
      have z5_ : u5 = false := by
        cases hu : u5 with
        | false => rfl
        | true => exact nomatch z.symm.trans ((unhide H_kF hu).2.2.1)
      have zd : u0 = true ∧ u1 = true := by
        simp [Region.binds] at hd
        simp [hd]
      obtain ⟨rfl, rfl⟩ := zd
      subst z5_
      subst z
      clear h0 hd
      rw [if_pos (by rfl)]
      go_simp
      refine (unhide HF2 W (unhide H_kB)).mono ?_
      rintro e w8 ⟨rfl, hb8⟩
      exact unhide hK _ _ ⟨true, true, true, u3, u4, false, dm, rfl, rfl, bc (unhide H_kB) hb8, (fun _ => ⟨rfl, rfl⟩), unhide H_c4, (fun h => nomatch h)⟩
    · intro h0 hd K hK
      have z : u3 = false := h0
      have z5_ : u5 = false := by
        cases hu : u5 with
        | false => rfl
        | true => exact nomatch z.symm.trans ((unhide H_kF hu).2.2.2.1)
      subst z5_
      subst z
      clear h0 hd
      rw [if_pos (by rfl)]
      go_simp
      exact unhide hK _ _ ⟨u0, u1, u2, true, u4, false, dm, rfl, rfl, unhide H_kB, unhide H_c2, (fun h => rfl), (fun h => nomatch h)⟩
    · intro h0 hd K hK
      have z : u4 = false := h0
      have z5_ : u5 = false := by
        cases hu : u5 with
        | false => rfl
        | true => exact nomatch z.symm.trans ((unhide H_kF hu).2.2.2.2)
      have zd : u3 = true := by
        simp [Region.binds] at hd
        simp [hd]
      obtain ⟨rfl⟩ := zd
      subst z5_
      subst z
      clear h0 hd
      rw [if_pos (by rfl)]
      have c0 := keep1 (unhide H_kB) (unhide H53)
      go_simp
      exact unhide hK _ _ ⟨u0, u1, u2, true, true, false, dm, rfl, rfl, unhide H_kB, unhide H_c2, (fun _ => rfl), (fun h => nomatch h)⟩
    · intro h0 hd K hK
      have z : u5 = false := h0
      have zd0 : u2 = true ∧ u4 = true := by
        simp [Region.binds] at hd
        simp [hd]
      have zd : u2 = true ∧ u4 = true ∧ u0 = true ∧ u1 = true ∧ u3 = true := ⟨zd0.1, zd0.2, (unhide H_c2 zd0.1).1, (unhide H_c2 zd0.1).2, (unhide H_c4 zd0.2)⟩
      obtain ⟨rfl, rfl, rfl, rfl, rfl⟩ := zd
      subst z
      clear h0 hd
      rw [if_pos (by rfl)]
      go_simp
      exact unhide hK _ _ ⟨true, true, true, true, true, true, dm, rfl, rfl, unhide H_kB, (fun _ => ⟨rfl, rfl⟩), (fun _ => rfl), (fun _ => ⟨rfl, rfl, rfl, rfl, rfl⟩)⟩
  case hend =>
    intro Lb A W hI
    obtain ⟨u0, hI⟩ := hI
    obtain ⟨u1, hI⟩ := hI
    obtain ⟨u2, hI⟩ := hI
    obtain ⟨u3, hI⟩ := hI
    obtain ⟨u4, hI⟩ := hI
    obtain ⟨u5, hI⟩ := hI
    obtain ⟨dm, hI⟩ := hI
    obtain ⟨hLb, hI⟩ := hI
    obtain ⟨hA, hI⟩ := hI
    obtain ⟨kB, hI⟩ := hI
    obtain ⟨c2, hI⟩ := hI
    obtain ⟨c4, hI⟩ := hI
    have kF := hI
    clear hI
    subst hLb
    subst hA
    intro hL
    have hl : u0 = true ∧ u1 = true ∧ u2 = true ∧ u3 = true ∧ u4 = true ∧ u5 = true := by
      have h2 := congrArg Array.toList hL
      simpa [List.replicate] using h2
    obtain ⟨rfl, rfl, rfl, rfl, rfl, rfl⟩ := hl
    exact unhide HQ  W kB

set_option maxHeartbeats 4000000 in
set_option maxRecDepth 100000 in
theorem sm11 {s1 s2 s3 s4 s7 s10 s11 s12 s13 s14 s15 s16 s17 s18 s19 s20 s21 s22 s23 s24 s25 s26 s27 s28 s29 s30 s31 s32 s33 s34 s35 s36 s37 s38 s39 s40 s41 s42 s43 : Value} {b b5 b8 n cap i m m1 : Nat} {X Y D N : Int} {V : World} {K_ : Act → World → Prop} (hic : i ≤ cap) (hm1 : m1 ≤ 3)
     (hbO : b5 < V.heap.size) {oo0 : Value} (HO0 : Hid (V.cell? ⟨b5, 0, none⟩ = some oo0)) {oo1 : Value} (HO1 : Hid (V.cell? ⟨b5, 1, none⟩ = some oo1)) {oo2 : Value} (HO2 : Hid (V.cell? ⟨b5, 2, none⟩ = some oo2)) {oo3 : Value} (HO3 : Hid (V.cell? ⟨b5, 3, none⟩ = some oo3)) (HOf : Hid (∀ o, V.frozen? ⟨b5, o, none⟩ = false))
    (HW4 : Hid (IntKind.i64.wrap ((m : Int) + 1) = (m1 : Int)))
    (HF6 : Hid (∀ Xw, Below V.heap.size V Xw → Calls Try.prog 40 #[.slice (some ⟨b, 0, none⟩) i cap, .slice (some ⟨b8, 0, none⟩) m1 3] Xw fun e w' => e = .returned (.agg #[.int .i64 (X), .int .i64 (Y), .int .i64 (D), .int .i64 (N)]) ∧ Below Xw.heap.size Xw w'))
    (hQ : ∀ (W1 W9 : World), W9 = ((((W1.setCell ⟨b5, 0, none⟩ (.int .i64 (X))).setCell ⟨b5, 1, none⟩ (.int .i64 (Y))).setCell ⟨b5, 2, none⟩ (.int .i64 (D))).setCell ⟨b5, 3, none⟩ (.int .i64 (N))) → Below V.heap.size V W1 → K_ { tmps := #[.slice (some ⟨b, 0, none⟩) n cap, s1, s2, s3, s4, .pointer (some ⟨b5, 0, none⟩), .int .i64 (i : Int), s7, .pointer (some ⟨b8, 0, none⟩), .int .i64 (m : Int), s10, s11, s12, s13, s14, s15, s16, s17, s18, s19, s20, s21, s22, s23, s24, s25, s26, s27, s28, s29, s30, s31, s32, s33, s34, .slice (some ⟨b, 0, none⟩) n cap, .int .i64 (i : Int), .slice (some ⟨b, 0, none⟩) i cap, .int .i64 (m : Int), .int .i64 (m1 : Int), .slice (some ⟨b8, 0, none⟩) m1 3, .agg #[.int .i64 (X), .int .i64 (Y), .int .i64 (D), .int .i64 (N)], s42, s43], defers := [] } W9) :
    Go.Code.wp Try.prog (rg40 11) (Only K_) { tmps := #[.slice (some ⟨b, 0, none⟩) n cap, s1, s2, s3, s4, .pointer (some ⟨b5, 0, none⟩), .int .i64 (i : Int), s7, .pointer (some ⟨b8, 0, none⟩), .int .i64 (m : Int), s10, s11, s12, s13, s14, s15, s16, s17, s18, s19, s20, s21, s22, s23, s24, s25, s26, s27, s28, s29, s30, s31, s32, s33, s34, s35, s36, s37, s38, s39, s40, s41, s42, s43], defers := [] } V := by
  have HQ := hide hQ
  clear hQ
  conv => arg 2; whnf
  refine wp_region_inv2 (fun Lb A W => ∃ (u0 u1 u2 u3 u4 u5 u6 u7 : Bool) (dm : Nat), Lb = #[u0, u1, u2, u3, u4, u5, u6, u7] ∧ A = ({ tmps := #[.slice (some ⟨b, 0, none⟩) n cap, s1, s2, s3, s4, .pointer (some ⟨b5, 0, none⟩), .int .i64 (i : Int), s7, .pointer (some ⟨b8, 0, none⟩), .int .i64 (m : Int), s10, s11, s12, s13, s14, s15, s16, s17, s18, s19, s20, s21, s22, s23, s24, s25, s26, s27, s28, s29, s30, s31, s32, s33, s34, (bif u0 then .slice (some ⟨b, 0, none⟩) n cap else s35), (bif u1 then .int .i64 (i : Int) else s36), (bif u2 then .slice (some ⟨b, 0, none⟩) i cap else s37), (bif u3 then .int .i64 (m : Int) else s38), (bif u4 then .int .i64 (m1 : Int) else s39), (bif u5 then .slice (some ⟨b8, 0, none⟩) m1 3 else s40), (bif u6 then .agg #[.int .i64 (X), .int .i64 (Y), .int .i64 (D), .int .i64 (N)] else s41), s42, s43], defers := [] } : Act) ∧ (u7 = false → Below V.heap.size V W) ∧ (u7 = true → ∃ W1, Below V.heap.size V W1 ∧ W = ((((W1.setCell ⟨b5, 0, none⟩ (.int .i64 (X))).setCell ⟨b5, 1, none⟩ (.int .i64 (Y))).setCell ⟨b5, 2, none⟩ (.int .i64 (D))).setCell ⟨b5, 3, none⟩ (.int .i64 (N)))) ∧ (u2 = true → u0 = true ∧ u1 = true) ∧ (u4 = true → u3 = true) ∧ (u5 = true → u4 = true) ∧ (u6 = true → u2 = true ∧ u5 = true) ∧ (u7 = true → u0 = true ∧ u1 = true ∧ u2 = true ∧ u3 = true ∧ u4 = true ∧ u5 = true ∧ u6 = true)) (by kernel_rfl) (by kernel_rfl) ?h0 ?hstep ?hend
  case h0 =>
    exact ⟨false, false, false, false, false, false, false, false, 0, rfl, rfl, (fun _ => Below.drew (Below.refl _ _)), (fun h => nomatch h), (fun h => nomatch h), (fun h => nomatch h), (fun h => nomatch h), (fun h => nomatch h), (fun h => nomatch h)⟩
  case hstep =>
    intro Lb A W hI
    obtain ⟨u0, hI⟩ := hI
    obtain ⟨u1, hI⟩ := hI
    obtain ⟨u2, hI⟩ := hI
    obtain ⟨u3, hI⟩ := hI
    obtain ⟨u4, hI⟩ := hI
    obtain ⟨u5, hI⟩ := hI
    obtain ⟨u6, hI⟩ := hI
    obtain ⟨u7, hI⟩ := hI
    obtain ⟨dm, hI⟩ := hI
    obtain ⟨hLb, hI⟩ := hI
    obtain ⟨hA, hI⟩ := hI
    obtain ⟨kB, hI⟩ := hI
    obtain ⟨kZ, hI⟩ := hI
    obtain ⟨c2, hI⟩ := hI
    obtain ⟨c4, hI⟩ := hI
    obtain ⟨c5, hI⟩ := hI
    obtain ⟨c6, hI⟩ := hI
    have kF := hI
    clear hI
    subst hLb
    subst hA
    have H_kB := hide kB
    have H_kZ := hide kZ
    have H_c2 := hide c2
    have H_c4 := hide c4
    have H_c5 := hide c5
    have H_c6 := hide c6
    have H_kF := hide kF
    clear kB kZ c2 c4 c5 c6 kF
    refine ⟨?_, ?_, ?_, ?_, ?_, ?_, ?_, ?_, trivial⟩
    · intro h0 hd K hK
      have z : u0 = false := h0
      have z7_ : u7 = false := by
        cases hu : u7 with
        | false => rfl
        | true => exact nomatch z.symm.trans ((unhide H_kF hu).1)
      subst z7_
      subst z
      clear h0 hd
      rw [if_pos (by rfl)]
      go_simp
      exact unhide hK _ _ ⟨true, u1, u2, u3, u4, u5, u6, false, dm, rfl, rfl, unhide H_kB, (fun h => nomatch h), (fun h => ⟨rfl, (unhide H_c2 h).2⟩), unhide H_c4, unhide H_c5, unhide H_c6, (fun h => nomatch h)⟩
    · intro h0 hd K hK
      have z : u1 = false := h0
      have z7_ : u7 = false := by
        cases hu : u7 with
        | false => rfl
        | true => exact nomatch z.symm.trans ((unhide H_kF hu).2.1)
      subst z7_
      subst z
      clear h0 hd
      rw [if_pos (by rfl)]
      go_simp
      exact unhide hK _ _ ⟨u0, true, u2, u3, u4, u5, u6, false, dm, rfl, rfl, unhide H_kB, (fun h => nomatch h), (fun h => ⟨(unhide H_c2 h).1, rfl⟩), unhide H_c4, unhide H_c5, unhide H_c6, (fun h => nomatch h)⟩
    · intro h0 hd K hK
      have z : u2 = false := h0
      have z7_ : u7 = false := by
        cases hu : u7 with
        | false => rfl
        | true => exact nomatch z.symm.trans ((unhide H_kF hu).2.2.1)
      have zd : u0 = true ∧ u1 = true := by
        simp [Region.binds] at hd
        simp [hd]
      obtain ⟨rfl, rfl⟩ := zd
      subst z7_
      subst z
      clear h0 hd
      rw [if_pos (by rfl)]
      have q1 : (i : Int) ≤ (cap : Int) := by omega
      go_simp
      exact unhide hK _ _ ⟨true, true, true, u3, u4, u5, u6, false, dm, rfl, rfl, unhide H_kB, (fun h => nomatch h), (fun _ => ⟨rfl, rfl⟩), unhide H_c4, unhide H_c5, (fun h => ⟨rfl, (unhide H_c6 h).2⟩), (fun h => nomatch h)⟩
    · intro h0 hd K hK
      have z : u3 = false := h0
      have z7_ : u7 = false := by
        cases hu : u7 with
        | false => rfl
        | true => exact nomatch z.symm.trans ((unhide H_kF hu).2.2.2.1)
      subst z7_
      subst z
      clear h0 hd
      rw [if_pos (by rfl)]
      go_simp
      exact unhide hK _ _ ⟨u0, u1, u2, true, u4, u5, u6, false, dm, rfl, rfl, unhide H_kB, (fun h => nomatch h), unhide H_c2, (fun h => rfl), unhide H_c5, unhide H_c6, (fun h => nomatch h)⟩
    · intro h0 hd K hK
      have z : u4 = false := h0
      have z7_ : u7 = false := by
        cases hu : u7 with
        | false => rfl
        | true => exact nomatch z.symm.trans ((unhide H_kF hu).2.2.2.2.1)
      have zd : u3 = true := by
        simp [Region.binds] at hd
        simp [hd]
      obtain ⟨rfl⟩ := zd
      subst z7_
      subst z
      clear h0 hd
      rw [if_pos (by rfl)]
      have wq := unhide HW4
      go_simp
      exact unhide hK _ _ ⟨u0, u1, u2, true, true, u5, u6, false, dm, rfl, rfl, unhide H_kB, (fun h => nomatch h), unhide H_c2, (fun _ => rfl), (fun h => rfl), unhide H_c6, (fun h => nomatch h)⟩
    · intro h0 hd K hK
      have z : u5 = false := h0
      have z7_ : u7 = false := by
        cases hu : u7 with
        | false => rfl
        | true => exact nomatch z.symm.trans ((unhide H_kF hu).2.2.2.2.2.1)
      have zd : u4 = true := by
        simp [Region.binds] at hd
        simp [hd]
      obtain ⟨rfl⟩ := zd
      subst z7_
      subst z
      clear h0 hd
      rw [if_pos (by rfl)]
      have q1 : (m1 : Int) ≤ 3 := by omega
      go_simp
      exact unhide hK _ _ ⟨u0, u1, u2, u3, true, true, u6, false, dm, rfl, rfl, unhide H_kB, (fun h => nomatch h), unhide H_c2, unhide H_c4, (fun _ => rfl), (fun h => ⟨(unhide H_c6 h).1, rfl⟩), (fun h => nomatch h)⟩
    · intro h0 hd K hK
      have z : u6 = false := h0
      have z7_ : u7 = false := by
        cases hu : u7 with
        | false => rfl
        | true => exact nomatch z.symm.trans ((unhide H_kF hu).2.2.2.2.2.2)
      have zd : u2 = true ∧ u5 = true := by
        simp [Region.binds] at hd
        simp [hd]
      obtain ⟨rfl, rfl⟩ := zd
      subst z7_
      subst z
      clear h0 hd
      rw [if_pos (by rfl)]
      go_simp
      refine (unhide HF6 W (unhide H_kB rfl)).mono ?_
      rintro e w8 ⟨rfl, hb8⟩
      exact unhide hK _ _ ⟨u0, u1, true, u3, u4, true, true, false, dm, rfl, rfl, (fun _ => bc (unhide H_kB rfl) hb8), (fun h => nomatch h), unhide H_c2, unhide H_c4, unhide H_c5, (fun _ => ⟨rfl, rfl⟩), (fun h => nomatch h)⟩
    · intro h0 hd K hK
      have z : u7 = false := h0
      have zd0 : u6 = true := by
        simp [Region.binds] at hd
        simp [hd]
      have zd : u6 = true ∧ u0 = true ∧ u1 = true ∧ u2 = true ∧ u3 = true ∧ u4 = true ∧ u5 = true := ⟨zd0, (unhide H_c2 (unhide H_c6 zd0).1).1, (unhide H_c2 (unhide H_c6 zd0).1).2, (unhide H_c6 zd0).1, (unhide H_c4 (unhide H_c5 (unhide H_c6 zd0).2)), (unhide H_c5 (unhide H_c6 zd0).2), (unhide H_c6 zd0).2⟩
      obtain ⟨rfl, rfl, rfl, rfl, rfl, rfl, rfl⟩ := zd
      subst z
      clear h0 hd
      rw [if_pos (by rfl)]
      have hB := (unhide H_kB rfl)
      have q0 := keep1 hB (unhide HO0)
      have q1 := keep1 hB (unhide HO1)
      have q2 := keep1 hB (unhide HO2)
      have q3 := keep1 hB (unhide HO3)
      have fz : ∀ o, W.frozen? ⟨b5, o, none⟩ = false := fun o => keepz hB hbO (unhide HOf o)
      have HBB := hide hB
      clear hB
      go_simp
      exact unhide hK _ _ ⟨true, true, true, true, true, true, true, true, dm, rfl, rfl, (fun h => nomatch h), (fun _ => ⟨W, unhide HBB, rfl⟩), (fun _ => ⟨rfl, rfl⟩), (fun _ => rfl), (fun _ => rfl), (fun _ => ⟨rfl, rfl⟩), (fun _ => ⟨rfl, rfl, rfl, rfl, rfl, rfl, rfl⟩)⟩
  case hend =>
    intro Lb A W hI
    obtain ⟨u0, hI⟩ := hI
    obtain ⟨u1, hI⟩ := hI
    obtain ⟨u2, hI⟩ := hI
    obtain ⟨u3, hI⟩ := hI
    obtain ⟨u4, hI⟩ := hI
    obtain ⟨u5, hI⟩ := hI
    obtain ⟨u6, hI⟩ := hI
    obtain ⟨u7, hI⟩ := hI
    obtain ⟨dm, hI⟩ := hI
    obtain ⟨hLb, hI⟩ := hI
    obtain ⟨hA, hI⟩ := hI
    obtain ⟨kB, hI⟩ := hI
    obtain ⟨kZ, hI⟩ := hI
    obtain ⟨c2, hI⟩ := hI
    obtain ⟨c4, hI⟩ := hI
    obtain ⟨c5, hI⟩ := hI
    obtain ⟨c6, hI⟩ := hI
    have kF := hI
    clear hI
    subst hLb
    subst hA
    intro hL
    have hl : u0 = true ∧ u1 = true ∧ u2 = true ∧ u3 = true ∧ u4 = true ∧ u5 = true ∧ u6 = true ∧ u7 = true := by
      have h2 := congrArg Array.toList hL
      simpa [List.replicate] using h2
    obtain ⟨rfl, rfl, rfl, rfl, rfl, rfl, rfl, rfl⟩ := hl
    obtain ⟨W1, hA, hZ⟩ := kZ rfl
    exact unhide HQ  W1 W hZ hA

end Go.Proofs.Ytdcecfgmfmpeeaa

namespace Go.Proofs.Ytdcecfgmfmpeeaa
set_option linter.unusedVariables false
set_option linter.unusedSimpArgs false

theorem rsq (a : Rat) : 0 ≤ a * a := by
  by_cases h : 0 ≤ a
  · exact Rat.mul_nonneg h h
  · have := Rat.mul_nonneg (a := -a) (b := -a) (by grind) (by grind)
    grind
theorem rsq0 {a : Rat} (h : a * a ≤ 0) : a = 0 := by
  have := rsq a
  have h0 : a * a = 0 := by grind
  grind
theorem rneg {a b : Rat} (h : 0 < a) (h2 : a * b ≤ 0) : b ≤ 0 := by
  by_cases h3 : b ≤ 0
  · exact h3
  · have h4 : 0 < b := by grind
    have := Rat.mul_pos h h4
    grind
theorem rmul {a b : Rat} (h : 0 ≤ a) (h2 : b ≤ 0) : a * b ≤ 0 := by
  have := Rat.mul_nonneg h (show 0 ≤ -b by grind)
  grind
/-- a circle: its centre and the square of its radius -/
structure Ci where
  x : Rat
  y : Rat
  n : Rat
/-- how far beyond the circle a point lies -/
def pw (c : Ci) (p : Pt) : Rat := ((p.1 : Rat) - c.x) * ((p.1 : Rat) - c.x) + ((p.2 : Rat) - c.y) * ((p.2 : Rat) - c.y) - c.n
/-- the circle has all of P, and R on its rim -/
structure Fea (P R : List Pt) (c : Ci) : Prop where
  has : ∀ p ∈ P, pw c p ≤ 0
  rim : ∀ r ∈ R, pw c r = 0
/-- the centre lies among S and R -/
def Cer (S R : List Pt) (c : Ci) : Prop := ∀ v w a : Rat, (∀ s ∈ S, v * (s.1 : Rat) + w * (s.2 : Rat) + a ≤ 0) → (∀ r ∈ R, v * (r.1 : Rat) + w * (r.2 : Rat) + a = 0) → v * c.x + w * c.y + a ≤ 0
structure Md (P R S : List Pt) (c : Ci) : Prop where
  fea : Fea P R c
  sub : ∀ s ∈ S, s ∈ P
  on : ∀ s ∈ S, pw c s = 0
  cer : Cer S R c
theorem Fea.sub {P P' R : List Pt} {c : Ci} (h : Fea P R c) (hs : ∀ p ∈ P', p ∈ P) : Fea P' R c := ⟨fun p hp => h.has p (hs p hp), h.rim⟩
theorem Md.least {P R S : List Pt} {c c' : Ci} (h : Md P R S c) (h' : Fea P R c') : c.n + ((c'.x - c.x) * (c'.x - c.x) + (c'.y - c.y) * (c'.y - c.y)) ≤ c'.n := by
  have h1 := h.cer (-2 * (c'.x - c.x)) (-2 * (c'.y - c.y)) ((c'.x * c'.x + c'.y * c'.y - c'.n) - (c.x * c.x + c.y * c.y - c.n)) (fun s hs => by
    have a := h'.has s (h.sub s hs)
    have b := h.on s hs
    unfold pw at a b
    grind) (fun r hr => by
    have a := h'.rim r hr
    have b := h.fea.rim r hr
    unfold pw at a b
    grind)
  grind
theorem Md.uniq {P R S S' : List Pt} {c c' : Ci} (h : Md P R S c) (h' : Md P R S' c') : c' = c := by
  have a := h.least h'.fea
  have b := h'.least h.fea
  have x2 := rsq (c'.x - c.x)
  have y2 := rsq (c'.y - c.y)
  have hx : c'.x - c.x = 0 := rsq0 (by grind)
  have hy : c'.y - c.y = 0 := rsq0 (by grind)
  rw [hx, hy] at a
  obtain ⟨cx, cy, cn⟩ := c
  obtain ⟨cx', cy', cn'⟩ := c'
  simp only [Ci.mk.injEq] at *
  refine ⟨by grind, by grind, by grind⟩
theorem Md.keep {P R S : List Pt} {c : Ci} {p : Pt} (h : Md P R S c) (hp : pw c p ≤ 0) : Md (P ++ [p]) R S c := by
  refine ⟨⟨fun q hq => ?_, h.fea.rim⟩, fun s hs => by simp [h.sub s hs], h.on, h.cer⟩
  rcases List.mem_append.1 hq with h1 | h1
  · exact h.fea.has q h1
  · rw [List.mem_singleton.1 h1]; exact hp
/-- a point beyond the circle lies on the rim of the next one -/
theorem Md.lift {P R S0 S1 : List Pt} {c0 c1 : Ci} {p : Pt} (h0 : Md P R S0 c0) (h1 : Md P (R ++ [p]) S1 c1) (hp : 0 < pw c0 p) : Md (P ++ [p]) R (p :: S1) c1 := by
  have hpz : pw c1 p = 0 := h1.fea.rim p (by simp)
  have hf : Fea P R c1 := ⟨h1.fea.has, fun r hr => h1.fea.rim r (by simp [hr])⟩
  refine ⟨⟨fun q hq => ?_, fun r hr => h1.fea.rim r (by simp [hr])⟩, fun s hs => ?_, fun s hs => ?_, fun v w a hS hR => ?_⟩
  · rcases List.mem_append.1 hq with h | h
    · exact h1.fea.has q h
    · rw [List.mem_singleton.1 h, hpz]; exact Rat.le_refl
  · rcases List.mem_cons.1 hs with h | h
    · simp [h]
    · simp [h1.sub s h]
  · rcases List.mem_cons.1 hs with h | h
    · rw [h]; exact hpz
    · exact h1.on s h
  · have hl := h0.least hf
    have x2 := rsq (c1.x - c0.x)
    have y2 := rsq (c1.y - c0.y)
    have lp := hS p (by simp)
    -- the one number that g is about
    generalize hg1 : -2 * (c0.x - c1.x) = gv at *
    generalize hg2 : -2 * (c0.y - c1.y) = gw at *
    generalize hg3 : (c0.x * c0.x + c0.y * c0.y - c0.n) - (c1.x * c1.x + c1.y * c1.y - c1.n) = ga at *
    generalize hL : v * (p.1 : Rat) + w * (p.2 : Rat) + a = Lp at *
    generalize hG : pw c0 p = G at *
    have hGp : gv * (p.1 : Rat) + gw * (p.2 : Rat) + ga = G := by
      rw [← hG]
      unfold pw at hpz ⊢
      grind
    have hgc : 0 ≤ gv * c1.x + gw * c1.y + ga := by
      have e : gv * c1.x + gw * c1.y + ga = ((c1.x - c0.x) * (c1.x - c0.x) + (c1.y - c0.y) * (c1.y - c0.y)) - c0.n + c1.n := by
        rw [← hg1, ← hg2, ← hg3]
        grind
      rw [e]
      clear e hg1 hg2 hg3 hL hGp hG hS hR lp
      grind
    have hq := h1.cer (G * v - Lp * gv) (G * w - Lp * gw) (G * a - Lp * ga) (fun s hs => ?_) (fun r hr => ?_)
    · have e1 : G * (v * c1.x + w * c1.y + a) = (G * v - Lp * gv) * c1.x + (G * w - Lp * gw) * c1.y + (G * a - Lp * ga) + Lp * (gv * c1.x + gw * c1.y + ga) := by grind
      have e2 := rmul hgc lp
      refine rneg hp ?_
      rw [e1]
      grind
    · have a1 := hS s (by simp [hs])
      have a2 := h0.fea.has s (h1.sub s hs)
      have a3 := h1.on s hs
      have e0 : gv * (s.1 : Rat) + gw * (s.2 : Rat) + ga = pw c0 s - pw c1 s := by
        unfold pw
        grind
      rw [a3] at e0
      have e1 : (G * v - Lp * gv) * (s.1 : Rat) + (G * w - Lp * gw) * (s.2 : Rat) + (G * a - Lp * ga) = G * (v * (s.1 : Rat) + w * (s.2 : Rat) + a) - Lp * (gv * (s.1 : Rat) + gw * (s.2 : Rat) + ga) := by grind
      rw [e1, e0]
      have m1 := rmul (Rat.le_of_lt hp) a1
      have m2 := Rat.mul_nonneg (show 0 ≤ -Lp by grind) (show 0 ≤ -(pw c0 s - 0) by grind)
      grind
    · rcases List.mem_append.1 hr with h | h
      · have a1 := hR r h
        have a2 := h0.fea.rim r h
        have a3 := h1.fea.rim r hr
        have e0 : gv * (r.1 : Rat) + gw * (r.2 : Rat) + ga = pw c0 r - pw c1 r := by
          unfold pw
          grind
        rw [a2, a3] at e0
        have e1 : (G * v - Lp * gv) * (r.1 : Rat) + (G * w - Lp * gw) * (r.2 : Rat) + (G * a - Lp * ga) = G * (v * (r.1 : Rat) + w * (r.2 : Rat) + a) - Lp * (gv * (r.1 : Rat) + gw * (r.2 : Rat) + ga) := by grind
        rw [e1, e0, a1]
        grind
      · rw [List.mem_singleton.1 h]
        have e1 : (G * v - Lp * gv) * (p.1 : Rat) + (G * w - Lp * gw) * (p.2 : Rat) + (G * a - Lp * ga) = G * (v * (p.1 : Rat) + w * (p.2 : Rat) + a) - Lp * (gv * (p.1 : Rat) + gw * (p.2 : Rat) + ga) := by grind
        rw [e1, hGp, hL]
        grind
/-- between a circle that lacks the point and one that has it lies one with the point on its rim -/
theorem Fea.mix {P R : List Pt} {c0 c' : Ci} {p : Pt} (h0 : Fea P R c0) (h' : Fea (P ++ [p]) R c') (hp : 0 < pw c0 p) : ∃ c, Fea P (R ++ [p]) c := by
  have hq : pw c' p ≤ 0 := h'.has p (by simp)
  have hd : 0 < pw c0 p - pw c' p := by grind
  have hd0 : pw c0 p - pw c' p ≠ 0 := by grind
  obtain ⟨t, ht⟩ : ∃ t : Rat, t * (pw c0 p - pw c' p) = pw c0 p := ⟨pw c0 p / (pw c0 p - pw c' p), Rat.div_mul_cancel hd0⟩
  have t0 : 0 ≤ t := by
    by_cases h : 0 ≤ t
    · exact h
    · have := Rat.mul_pos (show 0 < -t by grind) hd
      grind
  have t1 : 0 ≤ 1 - t := by
    by_cases h : 0 ≤ 1 - t
    · exact h
    · have := Rat.mul_pos (show 0 < t - 1 by grind) hd
      grind
  have key : ∀ q : Pt, pw ⟨(1 - t) * c0.x + t * c'.x, (1 - t) * c0.y + t * c'.y, ((1 - t) * c0.x + t * c'.x) * ((1 - t) * c0.x + t * c'.x) + ((1 - t) * c0.y + t * c'.y) * ((1 - t) * c0.y + t * c'.y) - ((1 - t) * (c0.x * c0.x + c0.y * c0.y - c0.n) + t * (c'.x * c'.x + c'.y * c'.y - c'.n))⟩ q = (1 - t) * pw c0 q + t * pw c' q := by
    intro q
    unfold pw
    grind
  refine ⟨⟨(1 - t) * c0.x + t * c'.x, (1 - t) * c0.y + t * c'.y, ((1 - t) * c0.x + t * c'.x) * ((1 - t) * c0.x + t * c'.x) + ((1 - t) * c0.y + t * c'.y) * ((1 - t) * c0.y + t * c'.y) - ((1 - t) * (c0.x * c0.x + c0.y * c0.y - c0.n) + t * (c'.x * c'.x + c'.y * c'.y - c'.n))⟩, ⟨fun q hq => ?_, fun r hr => ?_⟩⟩
  · rw [key q]
    have a := rmul t1 (h0.has q hq)
    have b := rmul t0 (h'.has q (by simp [hq]))
    grind
  · rw [key r]
    rcases List.mem_append.1 hr with h | h
    · rw [h0.rim r h, h'.rim r h]
      grind
    · rw [List.mem_singleton.1 h]
      grind
end Go.Proofs.Ytdcecfgmfmpeeaa

namespace Go.Proofs.Ytdcecfgmfmpeeaa
set_option linter.unusedVariables false
set_option linter.unusedSimpArgs false

structure Ic where
  X : Int
  Y : Int
  D : Int
  N : Int
deriving DecidableEq
def aptS (s : Sp) (p : Pt) : Int := (p.1 * s.2.2 - s.1) * (p.1 * s.2.2 - s.1) + (p.2 * s.2.2 - s.2.1) * (p.2 * s.2.2 - s.2.1)
def apt (c : Ic) (p : Pt) : Int := aptS (c.X, c.Y, c.D) p
structure Is (c : Ic) (k : Ci) : Prop where
  pos : 0 < c.D
  ex : k.x * (c.D : Rat) = (c.X : Rat)
  ey : k.y * (c.D : Rat) = (c.Y : Rat)
  en : k.n * ((c.D : Rat) * (c.D : Rat)) = (c.N : Rat)
  cop : redG c.X c.Y c.D = 1
theorem Is.rpos {c : Ic} {k : Ci} (h : Is c k) : (0 : Rat) < (c.D : Rat) * (c.D : Rat) := by
  have h1 : (0 : Rat) < (c.D : Rat) := by have := Rat.intCast_lt_intCast.2 h.pos; simpa using this
  exact Rat.mul_pos h1 h1
theorem Is.pw {c : Ic} {k : Ci} (h : Is c k) (p : Pt) : pw k p * ((c.D : Rat) * (c.D : Rat)) = ((apt c p - c.N : Int) : Rat) := by
  have e1 := h.ex
  have e2 := h.ey
  have e3 := h.en
  unfold apt aptS Go.Proofs.Ytdcecfgmfmpeeaa.pw
  simp only [Rat.intCast_sub, Rat.intCast_add, Rat.intCast_mul]
  rw [← e1, ← e2, ← e3]
  grind
theorem Is.out {c : Ic} {k : Ci} (h : Is c k) (p : Pt) : 0 < Go.Proofs.Ytdcecfgmfmpeeaa.pw k p ↔ c.N < apt c p := by
  have e := h.pw p
  have hp := h.rpos
  constructor
  · intro h1
    have := Rat.mul_pos h1 hp
    rw [e] at this
    have h2 : (0 : Int) < apt c p - c.N := Rat.intCast_lt_intCast.1 (by simpa using this)
    omega
  · intro h1
    have h2 : (0 : Rat) < ((apt c p - c.N : Int) : Rat) := by
      have := Rat.intCast_lt_intCast.2 (show (0 : Int) < apt c p - c.N by omega)
      simpa using this
    rw [← e] at h2
    by_cases h3 : 0 < Go.Proofs.Ytdcecfgmfmpeeaa.pw k p
    · exact h3
    · have := rmul (Rat.le_of_lt hp) (show Go.Proofs.Ytdcecfgmfmpeeaa.pw k p ≤ 0 by grind)
      grind
theorem Is.onr {c : Ic} {k : Ci} (h : Is c k) (p : Pt) : Go.Proofs.Ytdcecfgmfmpeeaa.pw k p = 0 ↔ apt c p = c.N := by
  have e := h.pw p
  have hp := h.rpos
  constructor
  · intro h1
    rw [h1, Rat.zero_mul] at e
    have : (apt c p - c.N : Int) = 0 := Rat.intCast_inj.1 (by simpa using e.symm)
    omega
  · intro h1
    rw [h1, Int.sub_self] at e
    have e' : Go.Proofs.Ytdcecfgmfmpeeaa.pw k p * ((c.D : Rat) * (c.D : Rat)) = 0 := by simpa using e
    rcases Rat.mul_eq_zero.1 e' with h2 | h2
    · exact h2
    · grind
theorem Is.inn {c : Ic} {k : Ci} (h : Is c k) (p : Pt) : Go.Proofs.Ytdcecfgmfmpeeaa.pw k p ≤ 0 ↔ apt c p ≤ c.N := by
  have := h.out p
  constructor
  · intro h1
    by_cases h2 : c.N < apt c p
    · have := this.2 h2; grind
    · omega
  · intro h1
    by_cases h2 : 0 < Go.Proofs.Ytdcecfgmfmpeeaa.pw k p
    · have := this.1 h2; omega
    · grind
theorem red_facts (x y d : Int) (hd : 0 < d) : ∃ g : Int, 0 < g ∧ x = (red x y d).1 * g ∧ y = (red x y d).2.1 * g ∧ d = (red x y d).2.2 * g ∧ 0 < (red x y d).2.2 ∧ redG (red x y d).1 (red x y d).2.1 (red x y d).2.2 = 1 := by
  obtain ⟨g1, g2⟩ := redG_le x y d (by omega)
  have hx : redG x y d ∣ x.natAbs := Nat.dvd_trans (Nat.gcd_dvd_left _ _) (Nat.gcd_dvd_left _ _)
  have hy : redG x y d ∣ y.natAbs := Nat.dvd_trans (Nat.gcd_dvd_left _ _) (Nat.gcd_dvd_right _ _)
  have hdd : redG x y d ∣ d.natAbs := Nat.gcd_dvd_right _ _
  have ix : ((redG x y d : Nat) : Int) ∣ x := Int.natAbs_dvd_natAbs.1 (by rw [Int.natAbs_natCast]; exact hx)
  have iy : ((redG x y d : Nat) : Int) ∣ y := Int.natAbs_dvd_natAbs.1 (by rw [Int.natAbs_natCast]; exact hy)
  have id' : ((redG x y d : Nat) : Int) ∣ d := Int.natAbs_dvd_natAbs.1 (by rw [Int.natAbs_natCast]; exact hdd)
  have ex := (Int.tdiv_mul_cancel ix).symm
  have ey := (Int.tdiv_mul_cancel iy).symm
  have ed := (Int.tdiv_mul_cancel id').symm
  have hg : (0 : Int) < (redG x y d : Nat) := by omega
  have hD : 0 < d.tdiv (redG x y d : Nat) := by
    by_cases h : 0 < d.tdiv (redG x y d : Nat)
    · exact h
    · have := Int.mul_nonneg (show 0 ≤ -(d.tdiv (redG x y d : Nat)) by omega) (Int.le_of_lt hg)
      rw [Int.neg_mul, ← ed] at this
      omega
  refine ⟨(redG x y d : Nat), hg, ex, ey, ed, hD, ?_⟩
  show redG (x.tdiv (redG x y d : Nat)) (y.tdiv (redG x y d : Nat)) (d.tdiv (redG x y d : Nat)) = 1
  have hm : redG x y d = redG (x.tdiv (redG x y d : Nat)) (y.tdiv (redG x y d : Nat)) (d.tdiv (redG x y d : Nat)) * redG x y d := by
    have e : redG (x.tdiv (redG x y d : Nat) * (redG x y d : Nat)) (y.tdiv (redG x y d : Nat) * (redG x y d : Nat)) (d.tdiv (redG x y d : Nat) * (redG x y d : Nat)) = redG (x.tdiv (redG x y d : Nat)) (y.tdiv (redG x y d : Nat)) (d.tdiv (redG x y d : Nat)) * redG x y d := by
      generalize redG x y d = G
      unfold redG
      rw [Int.natAbs_mul, Int.natAbs_mul, Int.natAbs_mul, Int.natAbs_natCast, Nat.gcd_mul_right, Nat.gcd_mul_right]
    rw [← ex, ← ey, ← ed] at e
    exact e
  exact Nat.eq_of_mul_eq_mul_right g1 (by rw [Nat.one_mul]; exact hm.symm)
def cir (s : Sp) (p : Pt) : Ic := ⟨s.1, s.2.1, s.2.2, aptS s p⟩
/-- the circle about a centre through a point -/
theorem cir_is (x y d : Int) (p : Pt) (hd : 0 < d) : ∃ k : Ci, Is (cir (red x y d) p) k ∧ k.x * (d : Rat) = (x : Rat) ∧ k.y * (d : Rat) = (y : Rat) ∧ pw k p = 0 := by
  obtain ⟨g, hg, ex, ey, ed, hD, hc⟩ := red_facts x y d hd
  have rD : (0 : Rat) < ((red x y d).2.2 : Rat) := by have := Rat.intCast_lt_intCast.2 hD; simpa using this
  have rD0 : ((red x y d).2.2 : Rat) ≠ 0 := by grind
  obtain ⟨kx, hx⟩ : ∃ k : Rat, k * ((red x y d).2.2 : Rat) = ((red x y d).1 : Rat) := ⟨_, Rat.div_mul_cancel rD0⟩
  obtain ⟨ky, hy⟩ : ∃ k : Rat, k * ((red x y d).2.2 : Rat) = ((red x y d).2.1 : Rat) := ⟨_, Rat.div_mul_cancel rD0⟩
  have hI : Is (cir (red x y d) p) ⟨kx, ky, ((p.1 : Rat) - kx) * ((p.1 : Rat) - kx) + ((p.2 : Rat) - ky) * ((p.2 : Rat) - ky)⟩ := by
    refine ⟨hD, hx, hy, ?_, hc⟩
    show (((p.1 : Rat) - kx) * ((p.1 : Rat) - kx) + ((p.2 : Rat) - ky) * ((p.2 : Rat) - ky)) * (((red x y d).2.2 : Rat) * ((red x y d).2.2 : Rat)) = ((aptS (red x y d) p : Int) : Rat)
    unfold aptS
    simp only [Rat.intCast_sub, Rat.intCast_add, Rat.intCast_mul]
    rw [← hx, ← hy]
    grind
  have cx := congrArg (fun t : Int => (t : Rat)) ex
  have cy := congrArg (fun t : Int => (t : Rat)) ey
  have cd := congrArg (fun t : Int => (t : Rat)) ed
  simp only [Rat.intCast_mul] at cx cy cd
  refine ⟨_, hI, ?_, ?_, ?_⟩
  · show kx * (d : Rat) = (x : Rat)
    rw [cx, cd, ← hx]
    grind
  · show ky * (d : Rat) = (y : Rat)
    rw [cy, cd, ← hy]
    grind
  · unfold pw
    grind
/-- one circle has one such form -/
theorem Is.uniq {c c' : Ic} {k : Ci} (h : Is c k) (h' : Is c' k) : c = c' := by
  have hd : c.D ∣ c'.D ∧ c'.D ∣ c.D := by
    have key : ∀ a b : Ic, Is a k → Is b k → a.D ∣ b.D := by
      intro a b ha hb
      have x1 : a.X * b.D = b.X * a.D := by
        have h1 := ha.ex
        have h2 := hb.ex
        refine Rat.intCast_inj.1 ?_
        rw [Rat.intCast_mul, Rat.intCast_mul, ← h1, ← h2]
        grind
      have y1 : a.Y * b.D = b.Y * a.D := by
        have h1 := ha.ey
        have h2 := hb.ey
        refine Rat.intCast_inj.1 ?_
        rw [Rat.intCast_mul, Rat.intCast_mul, ← h1, ← h2]
        grind
      have dx : a.D.natAbs ∣ a.X.natAbs * b.D.natAbs := by rw [← Int.natAbs_mul, x1, Int.natAbs_mul]; exact Nat.dvd_mul_left _ _
      have dy : a.D.natAbs ∣ a.Y.natAbs * b.D.natAbs := by rw [← Int.natAbs_mul, y1, Int.natAbs_mul]; exact Nat.dvd_mul_left _ _
      have dd : a.D.natAbs ∣ a.D.natAbs * b.D.natAbs := Nat.dvd_mul_right _ _
      have := Nat.dvd_gcd (Nat.dvd_gcd dx dy) dd
      rw [Nat.gcd_mul_right, Nat.gcd_mul_right] at this
      have hc := ha.cop
      unfold redG at hc
      rw [hc, Nat.one_mul] at this
      exact Int.natAbs_dvd_natAbs.1 this
    exact ⟨key c c' h h', key c' c h' h⟩
  have hD : c.D = c'.D := Int.dvd_antisymm (Int.le_of_lt h.pos) (Int.le_of_lt h'.pos) hd.1 hd.2
  have hX : c.X = c'.X := Rat.intCast_inj.1 (by rw [← h.ex, ← h'.ex, hD])
  have hY : c.Y = c'.Y := Rat.intCast_inj.1 (by rw [← h.ey, ← h'.ey, hD])
  have hN : c.N = c'.N := Rat.intCast_inj.1 (by rw [← h.en, ← h'.en, hD])
  obtain ⟨a1, a2, a3, a4⟩ := c
  obtain ⟨b1, b2, b3, b4⟩ := c'
  simp only at hD hX hY hN
  rw [hD, hX, hY, hN]
end Go.Proofs.Ytdcecfgmfmpeeaa
