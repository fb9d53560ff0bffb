/-
  A statement of the law of tones that draws its order.
-/
import Derived.Test.YtgocgcnpgmamiaaFlOk
import Derived.Test.YtgocgcnpgmamiaaInv2
namespace Go.Proofs.Ytgocgcnpgmamiaa
open Go.ChangeShapes Go.WideShapes Go.ChangeAt Go.RowKit
set_option linter.unusedVariables false
set_option linter.unusedSimpArgs false

attribute [local go_sem] run_store_flt run_store_cpx
noncomputable def rg4 (id : Nat) : Go.Code := match Try.f4.body with | some c => (regOfZ id c).getD .skip | none => .skip
set_option maxHeartbeats 4000000 in
set_option maxRecDepth 100000 in
theorem sq24 {s0 s1 s2 s3 s4 s5 s7 s8 s9 s10 s11 s12 s15 s16 s17 s18 s19 s20 s21 s22 s23 s24 s25 s26 s27 s28 s29 s30 s31 s32 s33 s34 s35 s36 s37 s38 s39 s40 s41 s42 s43 s44 s45 s46 s47 s48 s49 s50 s51 s52 s53 s54 s55 s56 s57 s58 s59 s60 s61 s62 s63 s64 s65 s66 s67 s68 s69 s70 s71 s72 s73 s74 s75 s76 s77 s78 s79 s80 s81 s82 s83 s84 s85 s86 s87 s88 s89 s90 s91 s92 s93 s94 s95 s96 s97 s98 s99 s100 s101 s102 s103 s104 s105 s106 s107 s108 s109 s110 s111 s112 s113 s114 s115 s116 s117 s118 s119 s120 s121 s122 s123 s124 s125 s126 s127 s128 s129 s130 s131 s132 s133 s134 s135 s136 s137 s138 s139 s140 s141 s142 s143 s144 s145 s146 s147 s148 s149 s150 s151 s152 s153 s154 s155 s156 s157 s158 s159 s160 s161 s162 s163 s164 s165 s166 s167 s168 s169 s170 s171 s172 s173 s174 s175 s176 s177 s178 s179 s180 s181 s182 s183 s184 s185 s186 s187 s188 s189 s190 s191 s192 s193 s194 s195 s196 s197 s198 s199 s200 s201 s202 s203 s204 s205 s206 s207 s208 s209 s210 s211 s212 s213 s214 s215 s216 s217 s218 s219 s220 s221 s222 s223 s224 s225 s226 s227 : Value} {gt ct k j ep a0 a1 b0 b1 r1 r2 : Nat} {V : World} {K_ : Act → World → Prop} (HM1 : Hid (∀ W : World, (binOp .sub 28 (.float .f64 a0) (.float .f64 b0)).run Try.prog W = .ok (.float .f64 r1) W)) (HM2 : Hid (∀ W : World, (binOp .add 28 (.float .f64 a1) (.float .f64 b1)).run Try.prog W = .ok (.float .f64 r2) W))
    (HC0 : Hid (V.cell? ⟨gt, k * 2, none⟩ = some (.float .f64 a0))) (HC1 : Hid (V.cell? ⟨gt, k * 2 + 1, none⟩ = some (.float .f64 a1))) (HC2 : Hid (V.cell? ⟨gt, j * 2, none⟩ = some (.float .f64 b0))) (HC3 : Hid (V.cell? ⟨gt, j * 2 + 1, none⟩ = some (.float .f64 b1))) 
    (HX2 : Hid (k < 8))
    (HW7 : Hid (IntKind.i64.wrap (8 - (k : Int)) = (j : Int)))
    (HX8 : Hid (j < 8))
    (HF13 : Hid (∀ Xw, Below V.heap.size V Xw → Calls Try.prog 18 #[.float .f64 r1, .float .f64 ep] Xw fun e w' => e = .returned (.bool (true)) ∧ Below Xw.heap.size Xw w'))
    (HX18 : Hid (k < 8))
    (HW23 : Hid (IntKind.i64.wrap (8 - (k : Int)) = (j : Int)))
    (HX24 : Hid (j < 8))
    (HF29 : Hid (∀ Xw, Below V.heap.size V Xw → Calls Try.prog 18 #[.float .f64 r2, .float .f64 ep] Xw fun e w' => e = .returned (.bool (true)) ∧ Below Xw.heap.size Xw w'))
    (hQ : ∀  (W1 : World), Below V.heap.size V W1 → K_ { tmps := #[s0, s1, s2, s3, s4, s5, .slice (some ⟨gt, 0, none⟩) 8 ct, s7, s8, s9, s10, s11, s12, .float .f64 ep, .int .i64 (k : Int), s15, s16, s17, s18, s19, s20, s21, s22, s23, s24, s25, s26, s27, s28, s29, s30, s31, s32, s33, s34, s35, s36, s37, s38, s39, s40, s41, s42, s43, s44, s45, s46, s47, s48, s49, s50, s51, s52, s53, s54, s55, s56, s57, s58, s59, s60, s61, s62, s63, s64, s65, s66, s67, s68, s69, s70, s71, s72, s73, s74, s75, s76, s77, s78, s79, s80, s81, s82, s83, s84, s85, s86, s87, s88, s89, s90, s91, s92, s93, s94, s95, s96, s97, s98, s99, s100, s101, s102, s103, s104, s105, s106, s107, s108, s109, s110, s111, s112, s113, s114, s115, s116, s117, s118, s119, .slice (some ⟨gt, 0, none⟩) 8 ct, .int .i64 (k : Int), .pointer (some ⟨gt, k * 2, none⟩), .pointer (some ⟨gt, k * 2, none⟩), .float .f64 a0, .slice (some ⟨gt, 0, none⟩) 8 ct, .int .i64 (k : Int), .int .i64 (j : Int), .pointer (some ⟨gt, j * 2, none⟩), .pointer (some ⟨gt, j * 2, none⟩), .float .f64 b0, .float .f64 r1, .float .f64 ep, .bool (true), .bool (!true), .bool (!true), .slice (some ⟨gt, 0, none⟩) 8 ct, .int .i64 (k : Int), .pointer (some ⟨gt, k * 2, none⟩), .pointer (some ⟨gt, k * 2 + 1, none⟩), .float .f64 a1, .slice (some ⟨gt, 0, none⟩) 8 ct, .int .i64 (k : Int), .int .i64 (j : Int), .pointer (some ⟨gt, j * 2, none⟩), .pointer (some ⟨gt, j * 2 + 1, none⟩), .float .f64 b1, .float .f64 r2, .float .f64 ep, .bool (true), .bool (!true), .bool (!true), s152, s153, s154, s155, s156, s157, s158, s159, s160, s161, s162, s163, s164, s165, s166, s167, s168, s169, s170, s171, s172, s173, s174, s175, s176, s177, s178, s179, s180, s181, s182, s183, s184, s185, s186, s187, s188, s189, s190, s191, s192, s193, s194, s195, s196, s197, s198, s199, s200, s201, s202, s203, s204, s205, s206, s207, s208, s209, s210, s211, s212, s213, s214, s215, s216, s217, s218, s219, s220, s221, s222, s223, s224, s225, s226, s227], defers := [] } W1) :
    Go.Code.wp Try.prog (rg4 24) (Only K_) { tmps := #[s0, s1, s2, s3, s4, s5, .slice (some ⟨gt, 0, none⟩) 8 ct, s7, s8, s9, s10, s11, s12, .float .f64 ep, .int .i64 (k : Int), s15, s16, s17, s18, s19, s20, s21, s22, s23, s24, s25, s26, s27, s28, s29, s30, s31, s32, s33, s34, s35, s36, s37, s38, s39, s40, s41, s42, s43, s44, s45, s46, s47, s48, s49, s50, s51, s52, s53, s54, s55, s56, s57, s58, s59, s60, s61, s62, s63, s64, s65, s66, s67, s68, s69, s70, s71, s72, s73, s74, s75, s76, s77, s78, s79, s80, s81, s82, s83, s84, s85, s86, s87, s88, s89, s90, s91, s92, s93, s94, s95, s96, s97, s98, s99, s100, s101, s102, s103, s104, s105, s106, s107, s108, s109, s110, s111, s112, s113, s114, s115, s116, s117, s118, s119, s120, s121, s122, s123, s124, s125, s126, s127, s128, s129, s130, s131, s132, s133, s134, s135, s136, s137, s138, s139, s140, s141, s142, s143, s144, s145, s146, s147, s148, s149, s150, s151, s152, s153, s154, s155, s156, s157, s158, s159, s160, s161, s162, s163, s164, s165, s166, s167, s168, s169, s170, s171, s172, s173, s174, s175, s176, s177, s178, s179, s180, s181, s182, s183, s184, s185, s186, s187, s188, s189, s190, s191, s192, s193, s194, s195, s196, s197, s198, s199, s200, s201, s202, s203, s204, s205, s206, s207, s208, s209, s210, s211, s212, s213, s214, s215, s216, s217, s218, s219, s220, s221, s222, s223, s224, s225, s226, s227], defers := [] } V := by
  have HQ := hide hQ
  clear hQ
  conv => arg 2; whnf
  refine wp_region_inv2 (fun Lb A W => ∃ (u0 u1 u2 u3 u4 u5 u6 u7 u8 u9 u10 u11 u12 u13 u14 u15 u16 u17 u18 u19 u20 u21 u22 u23 u24 u25 u26 u27 u28 u29 u30 u31 : Bool) (dm : Nat), Lb = #[u0, u1, u2, u3, u4, u5, u6, u7, u8, u9, u10, u11, u12, u13, u14, u15, u16, u17, u18, u19, u20, u21, u22, u23, u24, u25, u26, u27, u28, u29, u30, u31] ∧ A = ({ tmps := #[s0, s1, s2, s3, s4, s5, .slice (some ⟨gt, 0, none⟩) 8 ct, s7, s8, s9, s10, s11, s12, .float .f64 ep, .int .i64 (k : Int), s15, s16, s17, s18, s19, s20, s21, s22, s23, s24, s25, s26, s27, s28, s29, s30, s31, s32, s33, s34, s35, s36, s37, s38, s39, s40, s41, s42, s43, s44, s45, s46, s47, s48, s49, s50, s51, s52, s53, s54, s55, s56, s57, s58, s59, s60, s61, s62, s63, s64, s65, s66, s67, s68, s69, s70, s71, s72, s73, s74, s75, s76, s77, s78, s79, s80, s81, s82, s83, s84, s85, s86, s87, s88, s89, s90, s91, s92, s93, s94, s95, s96, s97, s98, s99, s100, s101, s102, s103, s104, s105, s106, s107, s108, s109, s110, s111, s112, s113, s114, s115, s116, s117, s118, s119, (bif u0 then .slice (some ⟨gt, 0, none⟩) 8 ct else s120), (bif u1 then .int .i64 (k : Int) else s121), (bif u2 then .pointer (some ⟨gt, k * 2, none⟩) else s122), (bif u3 then .pointer (some ⟨gt, k * 2, none⟩) else s123), (bif u4 then .float .f64 a0 else s124), (bif u5 then .slice (some ⟨gt, 0, none⟩) 8 ct else s125), (bif u6 then .int .i64 (k : Int) else s126), (bif u7 then .int .i64 (j : Int) else s127), (bif u8 then .pointer (some ⟨gt, j * 2, none⟩) else s128), (bif u9 then .pointer (some ⟨gt, j * 2, none⟩) else s129), (bif u10 then .float .f64 b0 else s130), (bif u11 then .float .f64 r1 else s131), (bif u12 then .float .f64 ep else s132), (bif u13 then .bool (true) else s133), (bif u14 then .bool (!true) else s134), (bif u15 then .bool (!true) else s135), (bif u16 then .slice (some ⟨gt, 0, none⟩) 8 ct else s136), (bif u17 then .int .i64 (k : Int) else s137), (bif u18 then .pointer (some ⟨gt, k * 2, none⟩) else s138), (bif u19 then .pointer (some ⟨gt, k * 2 + 1, none⟩) else s139), (bif u20 then .float .f64 a1 else s140), (bif u21 then .slice (some ⟨gt, 0, none⟩) 8 ct else s141), (bif u22 then .int .i64 (k : Int) else s142), (bif u23 then .int .i64 (j : Int) else s143), (bif u24 then .pointer (some ⟨gt, j * 2, none⟩) else s144), (bif u25 then .pointer (some ⟨gt, j * 2 + 1, none⟩) else s145), (bif u26 then .float .f64 b1 else s146), (bif u27 then .float .f64 r2 else s147), (bif u28 then .float .f64 ep else s148), (bif u29 then .bool (true) else s149), (bif u30 then .bool (!true) else s150), (bif u31 then .bool (!true) else s151), s152, s153, s154, s155, s156, s157, s158, s159, s160, s161, s162, s163, s164, s165, s166, s167, s168, s169, s170, s171, s172, s173, s174, s175, s176, s177, s178, s179, s180, s181, s182, s183, s184, s185, s186, s187, s188, s189, s190, s191, s192, s193, s194, s195, s196, s197, s198, s199, s200, s201, s202, s203, s204, s205, s206, s207, s208, s209, s210, s211, s212, s213, s214, s215, s216, s217, s218, s219, s220, s221, s222, s223, s224, s225, s226, s227], defers := [] } : Act) ∧ Below V.heap.size V W ∧ (u2 = true → u0 = true ∧ u1 = true) ∧ (u3 = true → u2 = true) ∧ (u4 = true → u3 = true) ∧ (u7 = true → u6 = true) ∧ (u8 = true → u5 = true ∧ u7 = true) ∧ (u9 = true → u8 = true) ∧ (u10 = true → u9 = true) ∧ (u11 = true → u4 = true ∧ u10 = true) ∧ (u13 = true → u11 = true ∧ u12 = true) ∧ (u14 = true → u13 = true) ∧ (u15 = true → u14 = true) ∧ (u16 = true → u15 = true) ∧ (u17 = true → u15 = true) ∧ (u18 = true → u16 = true ∧ u17 = true ∧ u15 = true) ∧ (u19 = true → u18 = true ∧ u15 = true) ∧ (u20 = true → u19 = true ∧ u15 = true) ∧ (u21 = true → u15 = true) ∧ (u22 = true → u15 = true) ∧ (u23 = true → u22 = true ∧ u15 = true) ∧ (u24 = true → u21 = true ∧ u23 = true ∧ u15 = true) ∧ (u25 = true → u24 = true ∧ u15 = true) ∧ (u26 = true → u25 = true ∧ u15 = true) ∧ (u27 = true → u20 = true ∧ u26 = true ∧ u15 = true) ∧ (u28 = true → u15 = true) ∧ (u29 = true → u27 = true ∧ u28 = true ∧ u15 = true) ∧ (u30 = true → u29 = true ∧ u15 = true) ∧ (u31 = true → u0 = true ∧ u1 = true ∧ u2 = true ∧ u3 = true ∧ u4 = true ∧ u5 = true ∧ u6 = true ∧ u7 = true ∧ u8 = true ∧ u9 = true ∧ u10 = true ∧ u11 = true ∧ u12 = true ∧ u13 = true ∧ u14 = true ∧ u15 = true ∧ u16 = true ∧ u17 = true ∧ u18 = true ∧ u19 = true ∧ u20 = true ∧ u21 = true ∧ u22 = true ∧ u23 = true ∧ u24 = true ∧ u25 = true ∧ u26 = true ∧ u27 = true ∧ u28 = true ∧ u29 = true ∧ u30 = true)) (by kernel_rfl) (by kernel_rfl) ?h0 ?hstep ?hend
  case h0 =>
    exact ⟨false, false, false, false, false, false, false, false, false, false, false, false, false, false, false, false, false, false, false, false, false, false, false, false, false, false, false, false, false, false, false, false, 0, rfl, rfl, Below.drew (Below.refl _ _), zf, zf, zf, zf, zf, zf, zf, zf, zf, zf, zf, zf, zf, zf, zf, zf, zf, zf, zf, zf, zf, zf, zf, zf, zf, zf, zf⟩
  case hstep =>
    intro Lb A W hI
    obtain ⟨u0, u1, u2, u3, u4, hI⟩ := hI
    obtain ⟨u5, u6, u7, u8, u9, hI⟩ := hI
    obtain ⟨u10, u11, u12, u13, u14, hI⟩ := hI
    obtain ⟨u15, u16, u17, u18, u19, hI⟩ := hI
    obtain ⟨u20, u21, u22, u23, u24, hI⟩ := hI
    obtain ⟨u25, u26, u27, u28, u29, hI⟩ := hI
    obtain ⟨u30, u31, dm, hI⟩ := hI
    obtain ⟨hLb, hI⟩ := hI
    obtain ⟨hA, hI⟩ := hI
    obtain ⟨kB, hI⟩ := hI
    obtain ⟨l2, hI⟩ := hI
    obtain ⟨l3, hI⟩ := hI
    obtain ⟨l4, hI⟩ := hI
    obtain ⟨l7, hI⟩ := hI
    obtain ⟨l8, hI⟩ := hI
    obtain ⟨l9, hI⟩ := hI
    obtain ⟨l10, hI⟩ := hI
    obtain ⟨l11, hI⟩ := hI
    obtain ⟨l13, hI⟩ := hI
    obtain ⟨l14, hI⟩ := hI
    obtain ⟨l15, hI⟩ := hI
    obtain ⟨l16, hI⟩ := hI
    obtain ⟨l17, hI⟩ := hI
    obtain ⟨l18, hI⟩ := hI
    obtain ⟨l19, hI⟩ := hI
    obtain ⟨l20, hI⟩ := hI
    obtain ⟨l21, hI⟩ := hI
    obtain ⟨l22, hI⟩ := hI
    obtain ⟨l23, hI⟩ := hI
    obtain ⟨l24, hI⟩ := hI
    obtain ⟨l25, hI⟩ := hI
    obtain ⟨l26, hI⟩ := hI
    obtain ⟨l27, hI⟩ := hI
    obtain ⟨l28, hI⟩ := hI
    obtain ⟨l29, hI⟩ := hI
    obtain ⟨l30, hI⟩ := hI
    have kF := hI
    clear hI
    subst hLb
    subst hA
    replace kB := hide kB
    replace l2 := hide l2
    replace l3 := hide l3
    replace l4 := hide l4
    replace l7 := hide l7
    replace l8 := hide l8
    replace l9 := hide l9
    replace l10 := hide l10
    replace l11 := hide l11
    replace l13 := hide l13
    replace l14 := hide l14
    replace l15 := hide l15
    replace l16 := hide l16
    replace l17 := hide l17
    replace l18 := hide l18
    replace l19 := hide l19
    replace l20 := hide l20
    replace l21 := hide l21
    replace l22 := hide l22
    replace l23 := hide l23
    replace l24 := hide l24
    replace l25 := hide l25
    replace l26 := hide l26
    replace l27 := hide l27
    replace l28 := hide l28
    replace l29 := hide l29
    replace l30 := hide l30
    replace kF := hide kF
    refine ⟨?_, ?_, ?_, ?_, ?_, ?_, ?_, ?_, ?_, ?_, ?_, ?_, ?_, ?_, ?_, ?_, ?_, ?_, ?_, ?_, ?_, ?_, ?_, ?_, ?_, ?_, ?_, ?_, ?_, ?_, ?_, ?_, trivial⟩
    · intro h0 hd K hK
      have z : u0 = false := h0
      have z31_ : u31 = false := znb fun hu => z.symm.trans ((zu kF hu).1)
      subst z31_
      subst z
      clear h0 hd
      rw [if_pos (by rfl)]
      go_simp
      exact unhide hK _ _ ⟨true, u1, u2, u3, u4, u5, u6, u7, u8, u9, u10, u11, u12, u13, u14, u15, u16, u17, u18, u19, u20, u21, u22, u23, u24, u25, u26, u27, u28, u29, u30, false, dm, rfl, rfl, zu kB, (fun h => ⟨rfl, (zu l2 h).2⟩), zu l3, zu l4, zu l7, zu l8, zu l9, zu l10, zu l11, zu l13, zu l14, zu l15, zu l16, zu l17, zu l18, zu l19, zu l20, zu l21, zu l22, zu l23, zu l24, zu l25, zu l26, zu l27, zu l28, zu l29, zu l30, zf⟩
    · intro h0 hd K hK
      have z : u1 = false := h0
      have z31_ : u31 = false := znb fun hu => z.symm.trans ((zu kF hu).2.1)
      subst z31_
      subst z
      clear h0 hd
      rw [if_pos (by rfl)]
      go_simp
      exact unhide hK _ _ ⟨u0, true, u2, u3, u4, u5, u6, u7, u8, u9, u10, u11, u12, u13, u14, u15, u16, u17, u18, u19, u20, u21, u22, u23, u24, u25, u26, u27, u28, u29, u30, false, dm, rfl, rfl, zu kB, (fun h => ⟨(zu l2 h).1, rfl⟩), zu l3, zu l4, zu l7, zu l8, zu l9, zu l10, zu l11, zu l13, zu l14, zu l15, zu l16, zu l17, zu l18, zu l19, zu l20, zu l21, zu l22, zu l23, zu l24, zu l25, zu l26, zu l27, zu l28, zu l29, zu l30, zf⟩
    · intro h0 hd K hK
      have z : u2 = false := h0
      have z31_ : u31 = false := znb fun hu => z.symm.trans ((zu kF hu).2.2.1)
      have zd : u0 = true ∧ u1 = true := by
        simp [Region.binds] at hd
        simp [hd]
      obtain ⟨rfl, rfl⟩ := zd
      subst z31_
      subst z
      clear h0 hd
      rw [if_pos (by rfl)]
      have q1 : k < 8 := unhide HX2
      have q2 : (k : Int) < (8 : Int) := by omega
      go_simp
      exact unhide hK _ _ ⟨true, true, true, u3, u4, u5, u6, u7, u8, u9, u10, u11, u12, u13, u14, u15, u16, u17, u18, u19, u20, u21, u22, u23, u24, u25, u26, u27, u28, u29, u30, false, dm, rfl, rfl, zu kB, (fun _ => ⟨rfl, rfl⟩), (fun h => rfl), zu l4, zu l7, zu l8, zu l9, zu l10, zu l11, zu l13, zu l14, zu l15, zu l16, zu l17, zu l18, zu l19, zu l20, zu l21, zu l22, zu l23, zu l24, zu l25, zu l26, zu l27, zu l28, zu l29, zu l30, zf⟩
    · intro h0 hd K hK
      have z : u3 = false := h0
      have z31_ : u31 = false := znb fun hu => z.symm.trans ((zu kF hu).2.2.2.1)
      have zd : u2 = true := by
        simp [Region.binds] at hd
        simp [hd]
      obtain ⟨rfl⟩ := zd
      subst z31_
      subst z
      clear h0 hd
      rw [if_pos (by rfl)]
      go_simp
      exact unhide hK _ _ ⟨u0, u1, true, true, u4, u5, u6, u7, u8, u9, u10, u11, u12, u13, u14, u15, u16, u17, u18, u19, u20, u21, u22, u23, u24, u25, u26, u27, u28, u29, u30, false, dm, rfl, rfl, zu kB, zu l2, (fun _ => rfl), (fun h => rfl), zu l7, zu l8, zu l9, zu l10, zu l11, zu l13, zu l14, zu l15, zu l16, zu l17, zu l18, zu l19, zu l20, zu l21, zu l22, zu l23, zu l24, zu l25, zu l26, zu l27, zu l28, zu l29, zu l30, zf⟩
    · intro h0 hd K hK
      have z : u4 = false := h0
      have z31_ : u31 = false := znb fun hu => z.symm.trans ((zu kF hu).2.2.2.2.1)
      have zd : u3 = true := by
        simp [Region.binds] at hd
        simp [hd]
      obtain ⟨rfl⟩ := zd
      subst z31_
      subst z
      clear h0 hd
      rw [if_pos (by rfl)]
      have c0 := keep1 (zu kB) (unhide HC0)
      go_simp
      exact unhide hK _ _ ⟨u0, u1, u2, true, true, u5, u6, u7, u8, u9, u10, u11, u12, u13, u14, u15, u16, u17, u18, u19, u20, u21, u22, u23, u24, u25, u26, u27, u28, u29, u30, false, dm, rfl, rfl, zu kB, zu l2, zu l3, (fun _ => rfl), zu l7, zu l8, zu l9, zu l10, (fun h => ⟨rfl, (zu l11 h).2⟩), zu l13, zu l14, zu l15, zu l16, zu l17, zu l18, zu l19, zu l20, zu l21, zu l22, zu l23, zu l24, zu l25, zu l26, zu l27, zu l28, zu l29, zu l30, zf⟩
    · intro h0 hd K hK
      have z : u5 = false := h0
      have z31_ : u31 = false := znb fun hu => z.symm.trans ((zu kF hu).2.2.2.2.2.1)
      subst z31_
      subst z
      clear h0 hd
      rw [if_pos (by rfl)]
      go_simp
      exact unhide hK _ _ ⟨u0, u1, u2, u3, u4, true, u6, u7, u8, u9, u10, u11, u12, u13, u14, u15, u16, u17, u18, u19, u20, u21, u22, u23, u24, u25, u26, u27, u28, u29, u30, false, dm, rfl, rfl, zu kB, zu l2, zu l3, zu l4, zu l7, (fun h => ⟨rfl, (zu l8 h).2⟩), zu l9, zu l10, zu l11, zu l13, zu l14, zu l15, zu l16, zu l17, zu l18, zu l19, zu l20, zu l21, zu l22, zu l23, zu l24, zu l25, zu l26, zu l27, zu l28, zu l29, zu l30, zf⟩
    · intro h0 hd K hK
      have z : u6 = false := h0
      have z31_ : u31 = false := znb fun hu => z.symm.trans ((zu kF hu).2.2.2.2.2.2.1)
      subst z31_
      subst z
      clear h0 hd
      rw [if_pos (by rfl)]
      go_simp
      exact unhide hK _ _ ⟨u0, u1, u2, u3, u4, u5, true, u7, u8, u9, u10, u11, u12, u13, u14, u15, u16, u17, u18, u19, u20, u21, u22, u23, u24, u25, u26, u27, u28, u29, u30, false, dm, rfl, rfl, zu kB, zu l2, zu l3, zu l4, (fun h => rfl), zu l8, zu l9, zu l10, zu l11, zu l13, zu l14, zu l15, zu l16, zu l17, zu l18, zu l19, zu l20, zu l21, zu l22, zu l23, zu l24, zu l25, zu l26, zu l27, zu l28, zu l29, zu l30, zf⟩
    · intro h0 hd K hK
      have z : u7 = false := h0
      have z31_ : u31 = false := znb fun hu => z.symm.trans ((zu kF hu).2.2.2.2.2.2.2.1)
      have zd : u6 = true := by
        simp [Region.binds] at hd
        simp [hd]
      obtain ⟨rfl⟩ := zd
      subst z31_
      subst z
      clear h0 hd
      rw [if_pos (by rfl)]
      have wq := unhide HW7
      go_simp
      exact unhide hK _ _ ⟨u0, u1, u2, u3, u4, u5, true, true, u8, u9, u10, u11, u12, u13, u14, u15, u16, u17, u18, u19, u20, u21, u22, u23, u24, u25, u26, u27, u28, u29, u30, false, dm, rfl, rfl, zu kB, zu l2, zu l3, zu l4, (fun _ => rfl), (fun h => ⟨(zu l8 h).1, rfl⟩), zu l9, zu l10, zu l11, zu l13, zu l14, zu l15, zu l16, zu l17, zu l18, zu l19, zu l20, zu l21, zu l22, zu l23, zu l24, zu l25, zu l26, zu l27, zu l28, zu l29, zu l30, zf⟩
    · intro h0 hd K hK
      have z : u8 = false := h0
      have z31_ : u31 = false := znb fun hu => z.symm.trans ((zu kF hu).2.2.2.2.2.2.2.2.1)
      have zd : u5 = true ∧ u7 = true := by
        simp [Region.binds] at hd
        simp [hd]
      obtain ⟨rfl, rfl⟩ := zd
      subst z31_
      subst z
      clear h0 hd
      rw [if_pos (by rfl)]
      have q1 : j < 8 := unhide HX8
      have q2 : (j : Int) < (8 : Int) := by omega
      go_simp
      exact unhide hK _ _ ⟨u0, u1, u2, u3, u4, true, u6, true, true, u9, u10, u11, u12, u13, u14, u15, u16, u17, u18, u19, u20, u21, u22, u23, u24, u25, u26, u27, u28, u29, u30, false, dm, rfl, rfl, zu kB, zu l2, zu l3, zu l4, zu l7, (fun _ => ⟨rfl, rfl⟩), (fun h => rfl), zu l10, zu l11, zu l13, zu l14, zu l15, zu l16, zu l17, zu l18, zu l19, zu l20, zu l21, zu l22, zu l23, zu l24, zu l25, zu l26, zu l27, zu l28, zu l29, zu l30, zf⟩
    · intro h0 hd K hK
      have z : u9 = false := h0
      have z31_ : u31 = false := znb fun hu => z.symm.trans ((zu kF hu).2.2.2.2.2.2.2.2.2.1)
      have zd : u8 = true := by
        simp [Region.binds] at hd
        simp [hd]
      obtain ⟨rfl⟩ := zd
      subst z31_
      subst z
      clear h0 hd
      rw [if_pos (by rfl)]
      go_simp
      exact unhide hK _ _ ⟨u0, u1, u2, u3, u4, u5, u6, u7, true, true, u10, u11, u12, u13, u14, u15, u16, u17, u18, u19, u20, u21, u22, u23, u24, u25, u26, u27, u28, u29, u30, false, dm, rfl, rfl, zu kB, zu l2, zu l3, zu l4, zu l7, zu l8, (fun _ => rfl), (fun h => rfl), zu l11, zu l13, zu l14, zu l15, zu l16, zu l17, zu l18, zu l19, zu l20, zu l21, zu l22, zu l23, zu l24, zu l25, zu l26, zu l27, zu l28, zu l29, zu l30, zf⟩
    · intro h0 hd K hK
      have z : u10 = false := h0
      have z31_ : u31 = false := znb fun hu => z.symm.trans ((zu kF hu).2.2.2.2.2.2.2.2.2.2.1)
      have zd : u9 = true := by
        simp [Region.binds] at hd
        simp [hd]
      obtain ⟨rfl⟩ := zd
      subst z31_
      subst z
      clear h0 hd
      rw [if_pos (by rfl)]
      have c0 := keep1 (zu kB) (unhide HC2)
      go_simp
      exact unhide hK _ _ ⟨u0, u1, u2, u3, u4, u5, u6, u7, u8, true, true, u11, u12, u13, u14, u15, u16, u17, u18, u19, u20, u21, u22, u23, u24, u25, u26, u27, u28, u29, u30, false, dm, rfl, rfl, zu kB, zu l2, zu l3, zu l4, zu l7, zu l8, zu l9, (fun _ => rfl), (fun h => ⟨(zu l11 h).1, rfl⟩), zu l13, zu l14, zu l15, zu l16, zu l17, zu l18, zu l19, zu l20, zu l21, zu l22, zu l23, zu l24, zu l25, zu l26, zu l27, zu l28, zu l29, zu l30, zf⟩
    · intro h0 hd K hK
      have z : u11 = false := h0
      have z31_ : u31 = false := znb fun hu => z.symm.trans ((zu kF hu).2.2.2.2.2.2.2.2.2.2.2.1)
      have zd : u4 = true ∧ u10 = true := by
        simp [Region.binds] at hd
        simp [hd]
      obtain ⟨rfl, rfl⟩ := zd
      subst z31_
      subst z
      clear h0 hd
      rw [if_pos (by rfl)]
      have hm1 := unhide HM1
      go_simp
      exact unhide hK _ _ ⟨u0, u1, u2, u3, true, u5, u6, u7, u8, u9, true, true, u12, u13, u14, u15, u16, u17, u18, u19, u20, u21, u22, u23, u24, u25, u26, u27, u28, u29, u30, false, dm, rfl, rfl, zu kB, zu l2, zu l3, zu l4, zu l7, zu l8, zu l9, zu l10, (fun _ => ⟨rfl, rfl⟩), (fun h => ⟨rfl, (zu l13 h).2⟩), zu l14, zu l15, zu l16, zu l17, zu l18, zu l19, zu l20, zu l21, zu l22, zu l23, zu l24, zu l25, zu l26, zu l27, zu l28, zu l29, zu l30, zf⟩
    · intro h0 hd K hK
      have z : u12 = false := h0
      have z31_ : u31 = false := znb fun hu => z.symm.trans ((zu kF hu).2.2.2.2.2.2.2.2.2.2.2.2.1)
      subst z31_
      subst z
      clear h0 hd
      rw [if_pos (by rfl)]
      go_simp
      exact unhide hK _ _ ⟨u0, u1, u2, u3, u4, u5, u6, u7, u8, u9, u10, u11, true, u13, u14, u15, u16, u17, u18, u19, u20, u21, u22, u23, u24, u25, u26, u27, u28, u29, u30, false, dm, rfl, rfl, zu kB, zu l2, zu l3, zu l4, zu l7, zu l8, zu l9, zu l10, zu l11, (fun h => ⟨(zu l13 h).1, rfl⟩), zu l14, zu l15, zu l16, zu l17, zu l18, zu l19, zu l20, zu l21, zu l22, zu l23, zu l24, zu l25, zu l26, zu l27, zu l28, zu l29, zu l30, zf⟩
    · intro h0 hd K hK
      have z : u13 = false := h0
      have z31_ : u31 = false := znb fun hu => z.symm.trans ((zu kF hu).2.2.2.2.2.2.2.2.2.2.2.2.2.1)
      have zd : u11 = true ∧ u12 = true := by
        simp [Region.binds] at hd
        simp [hd]
      obtain ⟨rfl, rfl⟩ := zd
      subst z31_
      subst z
      clear h0 hd
      rw [if_pos (by rfl)]
      go_simp
      refine (unhide HF13 W (zu kB)).mono ?_
      rintro e w8 ⟨rfl, hb8⟩
      exact unhide hK _ _ ⟨u0, u1, u2, u3, u4, u5, u6, u7, u8, u9, u10, true, true, true, u14, u15, u16, u17, u18, u19, u20, u21, u22, u23, u24, u25, u26, u27, u28, u29, u30, false, dm, rfl, rfl, bc (zu kB) hb8, zu l2, zu l3, zu l4, zu l7, zu l8, zu l9, zu l10, zu l11, (fun _ => ⟨rfl, rfl⟩), (fun h => rfl), zu l15, zu l16, zu l17, zu l18, zu l19, zu l20, zu l21, zu l22, zu l23, zu l24, zu l25, zu l26, zu l27, zu l28, zu l29, zu l30, zf⟩
    · intro h0 hd K hK
      have z : u14 = false := h0
      have z31_ : u31 = false := znb fun hu => z.symm.trans ((zu kF hu).2.2.2.2.2.2.2.2.2.2.2.2.2.2.1)
      have zd : u13 = true := by
        simp [Region.binds] at hd
        simp [hd]
      obtain ⟨rfl⟩ := zd
      subst z31_
      subst z
      clear h0 hd
      rw [if_pos (by rfl)]
      go_simp
      exact unhide hK _ _ ⟨u0, u1, u2, u3, u4, u5, u6, u7, u8, u9, u10, u11, u12, true, true, u15, u16, u17, u18, u19, u20, u21, u22, u23, u24, u25, u26, u27, u28, u29, u30, false, dm, rfl, rfl, zu kB, zu l2, zu l3, zu l4, zu l7, zu l8, zu l9, zu l10, zu l11, zu l13, (fun _ => rfl), (fun h => rfl), zu l16, zu l17, zu l18, zu l19, zu l20, zu l21, zu l22, zu l23, zu l24, zu l25, zu l26, zu l27, zu l28, zu l29, zu l30, zf⟩
    · intro h0 hd K hK
      have z : u15 = false := h0
      have z31_ : u31 = false := znb fun hu => z.symm.trans ((zu kF hu).2.2.2.2.2.2.2.2.2.2.2.2.2.2.2.1)
      have zd : u14 = true := by
        simp [Region.binds] at hd
        simp [hd]
      obtain ⟨rfl⟩ := zd
      subst z31_
      subst z
      clear h0 hd
      rw [if_pos (by rfl)]
      go_simp
      exact unhide hK _ _ ⟨u0, u1, u2, u3, u4, u5, u6, u7, u8, u9, u10, u11, u12, u13, true, true, u16, u17, u18, u19, u20, u21, u22, u23, u24, u25, u26, u27, u28, u29, u30, false, dm, rfl, rfl, zu kB, zu l2, zu l3, zu l4, zu l7, zu l8, zu l9, zu l10, zu l11, zu l13, zu l14, (fun _ => rfl), (fun h => rfl), (fun h => rfl), (fun h => ⟨(zu l18 h).1, (zu l18 h).2.1, rfl⟩), (fun h => ⟨(zu l19 h).1, rfl⟩), (fun h => ⟨(zu l20 h).1, rfl⟩), (fun h => rfl), (fun h => rfl), (fun h => ⟨(zu l23 h).1, rfl⟩), (fun h => ⟨(zu l24 h).1, (zu l24 h).2.1, rfl⟩), (fun h => ⟨(zu l25 h).1, rfl⟩), (fun h => ⟨(zu l26 h).1, rfl⟩), (fun h => ⟨(zu l27 h).1, (zu l27 h).2.1, rfl⟩), (fun h => rfl), (fun h => ⟨(zu l29 h).1, (zu l29 h).2.1, rfl⟩), (fun h => ⟨(zu l30 h).1, rfl⟩), zf⟩
    · intro h0 hd K hK
      have z : u16 = false := h0
      have z31_ : u31 = false := znb fun hu => z.symm.trans ((zu kF hu).2.2.2.2.2.2.2.2.2.2.2.2.2.2.2.2.1)
      have zd : u15 = true := by
        simp [Region.binds] at hd
        simp [hd]
      obtain ⟨rfl⟩ := zd
      subst z31_
      subst z
      clear h0 hd
      rw [if_pos (by rfl)]
      go_simp
      exact unhide hK _ _ ⟨u0, u1, u2, u3, u4, u5, u6, u7, u8, u9, u10, u11, u12, u13, u14, true, true, u17, u18, u19, u20, u21, u22, u23, u24, u25, u26, u27, u28, u29, u30, false, dm, rfl, rfl, zu kB, zu l2, zu l3, zu l4, zu l7, zu l8, zu l9, zu l10, zu l11, zu l13, zu l14, zu l15, (fun _ => rfl), (fun h => rfl), (fun h => ⟨rfl, (zu l18 h).2.1, rfl⟩), (fun h => ⟨(zu l19 h).1, rfl⟩), (fun h => ⟨(zu l20 h).1, rfl⟩), (fun h => rfl), (fun h => rfl), (fun h => ⟨(zu l23 h).1, rfl⟩), (fun h => ⟨(zu l24 h).1, (zu l24 h).2.1, rfl⟩), (fun h => ⟨(zu l25 h).1, rfl⟩), (fun h => ⟨(zu l26 h).1, rfl⟩), (fun h => ⟨(zu l27 h).1, (zu l27 h).2.1, rfl⟩), (fun h => rfl), (fun h => ⟨(zu l29 h).1, (zu l29 h).2.1, rfl⟩), (fun h => ⟨(zu l30 h).1, rfl⟩), zf⟩
    · intro h0 hd K hK
      have z : u17 = false := h0
      have z31_ : u31 = false := znb fun hu => z.symm.trans ((zu kF hu).2.2.2.2.2.2.2.2.2.2.2.2.2.2.2.2.2.1)
      have zd : u15 = true := by
        simp [Region.binds] at hd
        simp [hd]
      obtain ⟨rfl⟩ := zd
      subst z31_
      subst z
      clear h0 hd
      rw [if_pos (by rfl)]
      go_simp
      exact unhide hK _ _ ⟨u0, u1, u2, u3, u4, u5, u6, u7, u8, u9, u10, u11, u12, u13, u14, true, u16, true, u18, u19, u20, u21, u22, u23, u24, u25, u26, u27, u28, u29, u30, false, dm, rfl, rfl, zu kB, zu l2, zu l3, zu l4, zu l7, zu l8, zu l9, zu l10, zu l11, zu l13, zu l14, zu l15, (fun h => rfl), (fun _ => rfl), (fun h => ⟨(zu l18 h).1, rfl, rfl⟩), (fun h => ⟨(zu l19 h).1, rfl⟩), (fun h => ⟨(zu l20 h).1, rfl⟩), (fun h => rfl), (fun h => rfl), (fun h => ⟨(zu l23 h).1, rfl⟩), (fun h => ⟨(zu l24 h).1, (zu l24 h).2.1, rfl⟩), (fun h => ⟨(zu l25 h).1, rfl⟩), (fun h => ⟨(zu l26 h).1, rfl⟩), (fun h => ⟨(zu l27 h).1, (zu l27 h).2.1, rfl⟩), (fun h => rfl), (fun h => ⟨(zu l29 h).1, (zu l29 h).2.1, rfl⟩), (fun h => ⟨(zu l30 h).1, rfl⟩), zf⟩
    · intro h0 hd K hK
      have z : u18 = false := h0
      have z31_ : u31 = false := znb fun hu => z.symm.trans ((zu kF hu).2.2.2.2.2.2.2.2.2.2.2.2.2.2.2.2.2.2.1)
      have zd : u16 = true ∧ u17 = true ∧ u15 = true := by
        simp [Region.binds] at hd
        simp [hd]
      obtain ⟨rfl, rfl, rfl⟩ := zd
      subst z31_
      subst z
      clear h0 hd
      rw [if_pos (by rfl)]
      have q1 : k < 8 := unhide HX18
      have q2 : (k : Int) < (8 : Int) := by omega
      go_simp
      exact unhide hK _ _ ⟨u0, u1, u2, u3, u4, u5, u6, u7, u8, u9, u10, u11, u12, u13, u14, true, true, true, true, u19, u20, u21, u22, u23, u24, u25, u26, u27, u28, u29, u30, false, dm, rfl, rfl, zu kB, zu l2, zu l3, zu l4, zu l7, zu l8, zu l9, zu l10, zu l11, zu l13, zu l14, zu l15, (fun h => rfl), (fun h => rfl), (fun _ => ⟨rfl, rfl, rfl⟩), (fun h => ⟨rfl, rfl⟩), (fun h => ⟨(zu l20 h).1, rfl⟩), (fun h => rfl), (fun h => rfl), (fun h => ⟨(zu l23 h).1, rfl⟩), (fun h => ⟨(zu l24 h).1, (zu l24 h).2.1, rfl⟩), (fun h => ⟨(zu l25 h).1, rfl⟩), (fun h => ⟨(zu l26 h).1, rfl⟩), (fun h => ⟨(zu l27 h).1, (zu l27 h).2.1, rfl⟩), (fun h => rfl), (fun h => ⟨(zu l29 h).1, (zu l29 h).2.1, rfl⟩), (fun h => ⟨(zu l30 h).1, rfl⟩), zf⟩
    · intro h0 hd K hK
      have z : u19 = false := h0
      have z31_ : u31 = false := znb fun hu => z.symm.trans ((zu kF hu).2.2.2.2.2.2.2.2.2.2.2.2.2.2.2.2.2.2.2.1)
      have zd : u18 = true ∧ u15 = true := by
        simp [Region.binds] at hd
        simp [hd]
      obtain ⟨rfl, rfl⟩ := zd
      subst z31_
      subst z
      clear h0 hd
      rw [if_pos (by rfl)]
      go_simp
      exact unhide hK _ _ ⟨u0, u1, u2, u3, u4, u5, u6, u7, u8, u9, u10, u11, u12, u13, u14, true, u16, u17, true, true, u20, u21, u22, u23, u24, u25, u26, u27, u28, u29, u30, false, dm, rfl, rfl, zu kB, zu l2, zu l3, zu l4, zu l7, zu l8, zu l9, zu l10, zu l11, zu l13, zu l14, zu l15, (fun h => rfl), (fun h => rfl), (fun h => ⟨(zu l18 h).1, (zu l18 h).2.1, rfl⟩), (fun _ => ⟨rfl, rfl⟩), (fun h => ⟨rfl, rfl⟩), (fun h => rfl), (fun h => rfl), (fun h => ⟨(zu l23 h).1, rfl⟩), (fun h => ⟨(zu l24 h).1, (zu l24 h).2.1, rfl⟩), (fun h => ⟨(zu l25 h).1, rfl⟩), (fun h => ⟨(zu l26 h).1, rfl⟩), (fun h => ⟨(zu l27 h).1, (zu l27 h).2.1, rfl⟩), (fun h => rfl), (fun h => ⟨(zu l29 h).1, (zu l29 h).2.1, rfl⟩), (fun h => ⟨(zu l30 h).1, rfl⟩), zf⟩
    · intro h0 hd K hK
      have z : u20 = false := h0
      have z31_ : u31 = false := znb fun hu => z.symm.trans ((zu kF hu).2.2.2.2.2.2.2.2.2.2.2.2.2.2.2.2.2.2.2.2.1)
      have zd : u19 = true ∧ u15 = true := by
        simp [Region.binds] at hd
        simp [hd]
      obtain ⟨rfl, rfl⟩ := zd
      subst z31_
      subst z
      clear h0 hd
      rw [if_pos (by rfl)]
      have c0 := keep1 (zu kB) (unhide HC1)
      go_simp
      exact unhide hK _ _ ⟨u0, u1, u2, u3, u4, u5, u6, u7, u8, u9, u10, u11, u12, u13, u14, true, u16, u17, u18, true, true, u21, u22, u23, u24, u25, u26, u27, u28, u29, u30, false, dm, rfl, rfl, zu kB, zu l2, zu l3, zu l4, zu l7, zu l8, zu l9, zu l10, zu l11, zu l13, zu l14, zu l15, (fun h => rfl), (fun h => rfl), (fun h => ⟨(zu l18 h).1, (zu l18 h).2.1, rfl⟩), (fun h => ⟨(zu l19 h).1, rfl⟩), (fun _ => ⟨rfl, rfl⟩), (fun h => rfl), (fun h => rfl), (fun h => ⟨(zu l23 h).1, rfl⟩), (fun h => ⟨(zu l24 h).1, (zu l24 h).2.1, rfl⟩), (fun h => ⟨(zu l25 h).1, rfl⟩), (fun h => ⟨(zu l26 h).1, rfl⟩), (fun h => ⟨rfl, (zu l27 h).2.1, rfl⟩), (fun h => rfl), (fun h => ⟨(zu l29 h).1, (zu l29 h).2.1, rfl⟩), (fun h => ⟨(zu l30 h).1, rfl⟩), zf⟩
    · intro h0 hd K hK
      have z : u21 = false := h0
      have z31_ : u31 = false := znb fun hu => z.symm.trans ((zu kF hu).2.2.2.2.2.2.2.2.2.2.2.2.2.2.2.2.2.2.2.2.2.1)
      have zd : u15 = true := by
        simp [Region.binds] at hd
        simp [hd]
      obtain ⟨rfl⟩ := zd
      subst z31_
      subst z
      clear h0 hd
      rw [if_pos (by rfl)]
      go_simp
      exact unhide hK _ _ ⟨u0, u1, u2, u3, u4, u5, u6, u7, u8, u9, u10, u11, u12, u13, u14, true, u16, u17, u18, u19, u20, true, u22, u23, u24, u25, u26, u27, u28, u29, u30, false, dm, rfl, rfl, zu kB, zu l2, zu l3, zu l4, zu l7, zu l8, zu l9, zu l10, zu l11, zu l13, zu l14, zu l15, (fun h => rfl), (fun h => rfl), (fun h => ⟨(zu l18 h).1, (zu l18 h).2.1, rfl⟩), (fun h => ⟨(zu l19 h).1, rfl⟩), (fun h => ⟨(zu l20 h).1, rfl⟩), (fun _ => rfl), (fun h => rfl), (fun h => ⟨(zu l23 h).1, rfl⟩), (fun h => ⟨rfl, (zu l24 h).2.1, rfl⟩), (fun h => ⟨(zu l25 h).1, rfl⟩), (fun h => ⟨(zu l26 h).1, rfl⟩), (fun h => ⟨(zu l27 h).1, (zu l27 h).2.1, rfl⟩), (fun h => rfl), (fun h => ⟨(zu l29 h).1, (zu l29 h).2.1, rfl⟩), (fun h => ⟨(zu l30 h).1, rfl⟩), zf⟩
    · intro h0 hd K hK
      have z : u22 = false := h0
      have z31_ : u31 = false := znb fun hu => z.symm.trans ((zu kF hu).2.2.2.2.2.2.2.2.2.2.2.2.2.2.2.2.2.2.2.2.2.2.1)
      have zd : u15 = true := by
        simp [Region.binds] at hd
        simp [hd]
      obtain ⟨rfl⟩ := zd
      subst z31_
      subst z
      clear h0 hd
      rw [if_pos (by rfl)]
      go_simp
      exact unhide hK _ _ ⟨u0, u1, u2, u3, u4, u5, u6, u7, u8, u9, u10, u11, u12, u13, u14, true, u16, u17, u18, u19, u20, u21, true, u23, u24, u25, u26, u27, u28, u29, u30, false, dm, rfl, rfl, zu kB, zu l2, zu l3, zu l4, zu l7, zu l8, zu l9, zu l10, zu l11, zu l13, zu l14, zu l15, (fun h => rfl), (fun h => rfl), (fun h => ⟨(zu l18 h).1, (zu l18 h).2.1, rfl⟩), (fun h => ⟨(zu l19 h).1, rfl⟩), (fun h => ⟨(zu l20 h).1, rfl⟩), (fun h => rfl), (fun _ => rfl), (fun h => ⟨rfl, rfl⟩), (fun h => ⟨(zu l24 h).1, (zu l24 h).2.1, rfl⟩), (fun h => ⟨(zu l25 h).1, rfl⟩), (fun h => ⟨(zu l26 h).1, rfl⟩), (fun h => ⟨(zu l27 h).1, (zu l27 h).2.1, rfl⟩), (fun h => rfl), (fun h => ⟨(zu l29 h).1, (zu l29 h).2.1, rfl⟩), (fun h => ⟨(zu l30 h).1, rfl⟩), zf⟩
    · intro h0 hd K hK
      have z : u23 = false := h0
      have z31_ : u31 = false := znb fun hu => z.symm.trans ((zu kF hu).2.2.2.2.2.2.2.2.2.2.2.2.2.2.2.2.2.2.2.2.2.2.2.1)
      have zd : u22 = true ∧ u15 = true := by
        simp [Region.binds] at hd
        simp [hd]
      obtain ⟨rfl, rfl⟩ := zd
      subst z31_
      subst z
      clear h0 hd
      rw [if_pos (by rfl)]
      have wq := unhide HW23
      go_simp
      exact unhide hK _ _ ⟨u0, u1, u2, u3, u4, u5, u6, u7, u8, u9, u10, u11, u12, u13, u14, true, u16, u17, u18, u19, u20, u21, true, true, u24, u25, u26, u27, u28, u29, u30, false, dm, rfl, rfl, zu kB, zu l2, zu l3, zu l4, zu l7, zu l8, zu l9, zu l10, zu l11, zu l13, zu l14, zu l15, (fun h => rfl), (fun h => rfl), (fun h => ⟨(zu l18 h).1, (zu l18 h).2.1, rfl⟩), (fun h => ⟨(zu l19 h).1, rfl⟩), (fun h => ⟨(zu l20 h).1, rfl⟩), (fun h => rfl), (fun h => rfl), (fun _ => ⟨rfl, rfl⟩), (fun h => ⟨(zu l24 h).1, rfl, rfl⟩), (fun h => ⟨(zu l25 h).1, rfl⟩), (fun h => ⟨(zu l26 h).1, rfl⟩), (fun h => ⟨(zu l27 h).1, (zu l27 h).2.1, rfl⟩), (fun h => rfl), (fun h => ⟨(zu l29 h).1, (zu l29 h).2.1, rfl⟩), (fun h => ⟨(zu l30 h).1, rfl⟩), zf⟩
    · intro h0 hd K hK
      have z : u24 = false := h0
      have z31_ : u31 = false := znb fun hu => z.symm.trans ((zu kF hu).2.2.2.2.2.2.2.2.2.2.2.2.2.2.2.2.2.2.2.2.2.2.2.2.1)
      have zd : u21 = true ∧ u23 = true ∧ u15 = true := by
        simp [Region.binds] at hd
        simp [hd]
      obtain ⟨rfl, rfl, rfl⟩ := zd
      subst z31_
      subst z
      clear h0 hd
      rw [if_pos (by rfl)]
      have q1 : j < 8 := unhide HX24
      have q2 : (j : Int) < (8 : Int) := by omega
      go_simp
      exact unhide hK _ _ ⟨u0, u1, u2, u3, u4, u5, u6, u7, u8, u9, u10, u11, u12, u13, u14, true, u16, u17, u18, u19, u20, true, u22, true, true, u25, u26, u27, u28, u29, u30, false, dm, rfl, rfl, zu kB, zu l2, zu l3, zu l4, zu l7, zu l8, zu l9, zu l10, zu l11, zu l13, zu l14, zu l15, (fun h => rfl), (fun h => rfl), (fun h => ⟨(zu l18 h).1, (zu l18 h).2.1, rfl⟩), (fun h => ⟨(zu l19 h).1, rfl⟩), (fun h => ⟨(zu l20 h).1, rfl⟩), (fun h => rfl), (fun h => rfl), (fun h => ⟨(zu l23 h).1, rfl⟩), (fun _ => ⟨rfl, rfl, rfl⟩), (fun h => ⟨rfl, rfl⟩), (fun h => ⟨(zu l26 h).1, rfl⟩), (fun h => ⟨(zu l27 h).1, (zu l27 h).2.1, rfl⟩), (fun h => rfl), (fun h => ⟨(zu l29 h).1, (zu l29 h).2.1, rfl⟩), (fun h => ⟨(zu l30 h).1, rfl⟩), zf⟩
    · intro h0 hd K hK
      have z : u25 = false := h0
      have z31_ : u31 = false := znb fun hu => z.symm.trans ((zu kF hu).2.2.2.2.2.2.2.2.2.2.2.2.2.2.2.2.2.2.2.2.2.2.2.2.2.1)
      have zd : u24 = true ∧ u15 = true := by
        simp [Region.binds] at hd
        simp [hd]
      obtain ⟨rfl, rfl⟩ := zd
      subst z31_
      subst z
      clear h0 hd
      rw [if_pos (by rfl)]
      go_simp
      exact unhide hK _ _ ⟨u0, u1, u2, u3, u4, u5, u6, u7, u8, u9, u10, u11, u12, u13, u14, true, u16, u17, u18, u19, u20, u21, u22, u23, true, true, u26, u27, u28, u29, u30, false, dm, rfl, rfl, zu kB, zu l2, zu l3, zu l4, zu l7, zu l8, zu l9, zu l10, zu l11, zu l13, zu l14, zu l15, (fun h => rfl), (fun h => rfl), (fun h => ⟨(zu l18 h).1, (zu l18 h).2.1, rfl⟩), (fun h => ⟨(zu l19 h).1, rfl⟩), (fun h => ⟨(zu l20 h).1, rfl⟩), (fun h => rfl), (fun h => rfl), (fun h => ⟨(zu l23 h).1, rfl⟩), (fun h => ⟨(zu l24 h).1, (zu l24 h).2.1, rfl⟩), (fun _ => ⟨rfl, rfl⟩), (fun h => ⟨rfl, rfl⟩), (fun h => ⟨(zu l27 h).1, (zu l27 h).2.1, rfl⟩), (fun h => rfl), (fun h => ⟨(zu l29 h).1, (zu l29 h).2.1, rfl⟩), (fun h => ⟨(zu l30 h).1, rfl⟩), zf⟩
    · intro h0 hd K hK
      have z : u26 = false := h0
      have z31_ : u31 = false := znb fun hu => z.symm.trans ((zu kF hu).2.2.2.2.2.2.2.2.2.2.2.2.2.2.2.2.2.2.2.2.2.2.2.2.2.2.1)
      have zd : u25 = true ∧ u15 = true := by
        simp [Region.binds] at hd
        simp [hd]
      obtain ⟨rfl, rfl⟩ := zd
      subst z31_
      subst z
      clear h0 hd
      rw [if_pos (by rfl)]
      have c0 := keep1 (zu kB) (unhide HC3)
      go_simp
      exact unhide hK _ _ ⟨u0, u1, u2, u3, u4, u5, u6, u7, u8, u9, u10, u11, u12, u13, u14, true, u16, u17, u18, u19, u20, u21, u22, u23, u24, true, true, u27, u28, u29, u30, false, dm, rfl, rfl, zu kB, zu l2, zu l3, zu l4, zu l7, zu l8, zu l9, zu l10, zu l11, zu l13, zu l14, zu l15, (fun h => rfl), (fun h => rfl), (fun h => ⟨(zu l18 h).1, (zu l18 h).2.1, rfl⟩), (fun h => ⟨(zu l19 h).1, rfl⟩), (fun h => ⟨(zu l20 h).1, rfl⟩), (fun h => rfl), (fun h => rfl), (fun h => ⟨(zu l23 h).1, rfl⟩), (fun h => ⟨(zu l24 h).1, (zu l24 h).2.1, rfl⟩), (fun h => ⟨(zu l25 h).1, rfl⟩), (fun _ => ⟨rfl, rfl⟩), (fun h => ⟨(zu l27 h).1, rfl, rfl⟩), (fun h => rfl), (fun h => ⟨(zu l29 h).1, (zu l29 h).2.1, rfl⟩), (fun h => ⟨(zu l30 h).1, rfl⟩), zf⟩
    · intro h0 hd K hK
      have z : u27 = false := h0
      have z31_ : u31 = false := znb fun hu => z.symm.trans ((zu kF hu).2.2.2.2.2.2.2.2.2.2.2.2.2.2.2.2.2.2.2.2.2.2.2.2.2.2.2.1)
      have zd : u20 = true ∧ u26 = true ∧ u15 = true := by
        simp [Region.binds] at hd
        simp [hd]
      obtain ⟨rfl, rfl, rfl⟩ := zd
      subst z31_
      subst z
      clear h0 hd
      rw [if_pos (by rfl)]
      have hm2 := unhide HM2
      go_simp
      exact unhide hK _ _ ⟨u0, u1, u2, u3, u4, u5, u6, u7, u8, u9, u10, u11, u12, u13, u14, true, u16, u17, u18, u19, true, u21, u22, u23, u24, u25, true, true, u28, u29, u30, false, dm, rfl, rfl, zu kB, zu l2, zu l3, zu l4, zu l7, zu l8, zu l9, zu l10, zu l11, zu l13, zu l14, zu l15, (fun h => rfl), (fun h => rfl), (fun h => ⟨(zu l18 h).1, (zu l18 h).2.1, rfl⟩), (fun h => ⟨(zu l19 h).1, rfl⟩), (fun h => ⟨(zu l20 h).1, rfl⟩), (fun h => rfl), (fun h => rfl), (fun h => ⟨(zu l23 h).1, rfl⟩), (fun h => ⟨(zu l24 h).1, (zu l24 h).2.1, rfl⟩), (fun h => ⟨(zu l25 h).1, rfl⟩), (fun h => ⟨(zu l26 h).1, rfl⟩), (fun _ => ⟨rfl, rfl, rfl⟩), (fun h => rfl), (fun h => ⟨rfl, (zu l29 h).2.1, rfl⟩), (fun h => ⟨(zu l30 h).1, rfl⟩), zf⟩
    · intro h0 hd K hK
      have z : u28 = false := h0
      have z31_ : u31 = false := znb fun hu => z.symm.trans ((zu kF hu).2.2.2.2.2.2.2.2.2.2.2.2.2.2.2.2.2.2.2.2.2.2.2.2.2.2.2.2.1)
      have zd : u15 = true := by
        simp [Region.binds] at hd
        simp [hd]
      obtain ⟨rfl⟩ := zd
      subst z31_
      subst z
      clear h0 hd
      rw [if_pos (by rfl)]
      go_simp
      exact unhide hK _ _ ⟨u0, u1, u2, u3, u4, u5, u6, u7, u8, u9, u10, u11, u12, u13, u14, true, u16, u17, u18, u19, u20, u21, u22, u23, u24, u25, u26, u27, true, u29, u30, false, dm, rfl, rfl, zu kB, zu l2, zu l3, zu l4, zu l7, zu l8, zu l9, zu l10, zu l11, zu l13, zu l14, zu l15, (fun h => rfl), (fun h => rfl), (fun h => ⟨(zu l18 h).1, (zu l18 h).2.1, rfl⟩), (fun h => ⟨(zu l19 h).1, rfl⟩), (fun h => ⟨(zu l20 h).1, rfl⟩), (fun h => rfl), (fun h => rfl), (fun h => ⟨(zu l23 h).1, rfl⟩), (fun h => ⟨(zu l24 h).1, (zu l24 h).2.1, rfl⟩), (fun h => ⟨(zu l25 h).1, rfl⟩), (fun h => ⟨(zu l26 h).1, rfl⟩), (fun h => ⟨(zu l27 h).1, (zu l27 h).2.1, rfl⟩), (fun _ => rfl), (fun h => ⟨(zu l29 h).1, rfl, rfl⟩), (fun h => ⟨(zu l30 h).1, rfl⟩), zf⟩
    · intro h0 hd K hK
      have z : u29 = false := h0
      have z31_ : u31 = false := znb fun hu => z.symm.trans ((zu kF hu).2.2.2.2.2.2.2.2.2.2.2.2.2.2.2.2.2.2.2.2.2.2.2.2.2.2.2.2.2.1)
      have zd : u27 = true ∧ u28 = true ∧ u15 = true := by
        simp [Region.binds] at hd
        simp [hd]
      obtain ⟨rfl, rfl, rfl⟩ := zd
      subst z31_
      subst z
      clear h0 hd
      rw [if_pos (by rfl)]
      go_simp
      refine (unhide HF29 W (zu kB)).mono ?_
      rintro e w8 ⟨rfl, hb8⟩
      exact unhide hK _ _ ⟨u0, u1, u2, u3, u4, u5, u6, u7, u8, u9, u10, u11, u12, u13, u14, true, u16, u17, u18, u19, u20, u21, u22, u23, u24, u25, u26, true, true, true, u30, false, dm, rfl, rfl, bc (zu kB) hb8, zu l2, zu l3, zu l4, zu l7, zu l8, zu l9, zu l10, zu l11, zu l13, zu l14, zu l15, (fun h => rfl), (fun h => rfl), (fun h => ⟨(zu l18 h).1, (zu l18 h).2.1, rfl⟩), (fun h => ⟨(zu l19 h).1, rfl⟩), (fun h => ⟨(zu l20 h).1, rfl⟩), (fun h => rfl), (fun h => rfl), (fun h => ⟨(zu l23 h).1, rfl⟩), (fun h => ⟨(zu l24 h).1, (zu l24 h).2.1, rfl⟩), (fun h => ⟨(zu l25 h).1, rfl⟩), (fun h => ⟨(zu l26 h).1, rfl⟩), (fun h => ⟨(zu l27 h).1, (zu l27 h).2.1, rfl⟩), (fun h => rfl), (fun _ => ⟨rfl, rfl, rfl⟩), (fun h => ⟨rfl, rfl⟩), zf⟩
    · intro h0 hd K hK
      have z : u30 = false := h0
      have z31_ : u31 = false := znb fun hu => z.symm.trans ((zu kF hu).2.2.2.2.2.2.2.2.2.2.2.2.2.2.2.2.2.2.2.2.2.2.2.2.2.2.2.2.2.2)
      have zd : u29 = true ∧ u15 = true := by
        simp [Region.binds] at hd
        simp [hd]
      obtain ⟨rfl, rfl⟩ := zd
      subst z31_
      subst z
      clear h0 hd
      rw [if_pos (by rfl)]
      go_simp
      exact unhide hK _ _ ⟨u0, u1, u2, u3, u4, u5, u6, u7, u8, u9, u10, u11, u12, u13, u14, true, u16, u17, u18, u19, u20, u21, u22, u23, u24, u25, u26, u27, u28, true, true, false, dm, rfl, rfl, zu kB, zu l2, zu l3, zu l4, zu l7, zu l8, zu l9, zu l10, zu l11, zu l13, zu l14, zu l15, (fun h => rfl), (fun h => rfl), (fun h => ⟨(zu l18 h).1, (zu l18 h).2.1, rfl⟩), (fun h => ⟨(zu l19 h).1, rfl⟩), (fun h => ⟨(zu l20 h).1, rfl⟩), (fun h => rfl), (fun h => rfl), (fun h => ⟨(zu l23 h).1, rfl⟩), (fun h => ⟨(zu l24 h).1, (zu l24 h).2.1, rfl⟩), (fun h => ⟨(zu l25 h).1, rfl⟩), (fun h => ⟨(zu l26 h).1, rfl⟩), (fun h => ⟨(zu l27 h).1, (zu l27 h).2.1, rfl⟩), (fun h => rfl), (fun h => ⟨(zu l29 h).1, (zu l29 h).2.1, rfl⟩), (fun _ => ⟨rfl, rfl⟩), zf⟩
    · intro h0 hd K hK
      have z : u31 = false := h0
      have zd0 : u15 = true ∧ u30 = true := by
        simp [Region.binds] at hd
        simp [hd]
      have zd : u15 = true ∧ u30 = true ∧ u0 = true ∧ u1 = true ∧ u2 = true ∧ u3 = true ∧ u4 = true ∧ u5 = true ∧ u6 = true ∧ u7 = true ∧ u8 = true ∧ u9 = true ∧ u10 = true ∧ u11 = true ∧ u12 = true ∧ u13 = true ∧ u14 = true ∧ u16 = true ∧ u17 = true ∧ u18 = true ∧ u19 = true ∧ u20 = true ∧ u21 = true ∧ u22 = true ∧ u23 = true ∧ u24 = true ∧ u25 = true ∧ u26 = true ∧ u27 = true ∧ u28 = true ∧ u29 = true := ⟨zd0.1, zd0.2, (zu l2 (zu l3 (zu l4 (zu l11 (zu l13 (zu l14 (zu l15 zd0.1))).1).1))).1, (zu l2 (zu l3 (zu l4 (zu l11 (zu l13 (zu l14 (zu l15 zd0.1))).1).1))).2, (zu l3 (zu l4 (zu l11 (zu l13 (zu l14 (zu l15 zd0.1))).1).1)), (zu l4 (zu l11 (zu l13 (zu l14 (zu l15 zd0.1))).1).1), (zu l11 (zu l13 (zu l14 (zu l15 zd0.1))).1).1, (zu l8 (zu l9 (zu l10 (zu l11 (zu l13 (zu l14 (zu l15 zd0.1))).1).2))).1, (zu l7 (zu l8 (zu l9 (zu l10 (zu l11 (zu l13 (zu l14 (zu l15 zd0.1))).1).2))).2), (zu l8 (zu l9 (zu l10 (zu l11 (zu l13 (zu l14 (zu l15 zd0.1))).1).2))).2, (zu l9 (zu l10 (zu l11 (zu l13 (zu l14 (zu l15 zd0.1))).1).2)), (zu l10 (zu l11 (zu l13 (zu l14 (zu l15 zd0.1))).1).2), (zu l11 (zu l13 (zu l14 (zu l15 zd0.1))).1).2, (zu l13 (zu l14 (zu l15 zd0.1))).1, (zu l13 (zu l14 (zu l15 zd0.1))).2, (zu l14 (zu l15 zd0.1)), (zu l15 zd0.1), (zu l18 (zu l19 (zu l20 (zu l27 (zu l29 (zu l30 zd0.2).1).1).1).1).1).1, (zu l18 (zu l19 (zu l20 (zu l27 (zu l29 (zu l30 zd0.2).1).1).1).1).1).2.1, (zu l19 (zu l20 (zu l27 (zu l29 (zu l30 zd0.2).1).1).1).1).1, (zu l20 (zu l27 (zu l29 (zu l30 zd0.2).1).1).1).1, (zu l27 (zu l29 (zu l30 zd0.2).1).1).1, (zu l24 (zu l25 (zu l26 (zu l27 (zu l29 (zu l30 zd0.2).1).1).2.1).1).1).1, (zu l23 (zu l24 (zu l25 (zu l26 (zu l27 (zu l29 (zu l30 zd0.2).1).1).2.1).1).1).2.1).1, (zu l24 (zu l25 (zu l26 (zu l27 (zu l29 (zu l30 zd0.2).1).1).2.1).1).1).2.1, (zu l25 (zu l26 (zu l27 (zu l29 (zu l30 zd0.2).1).1).2.1).1).1, (zu l26 (zu l27 (zu l29 (zu l30 zd0.2).1).1).2.1).1, (zu l27 (zu l29 (zu l30 zd0.2).1).1).2.1, (zu l29 (zu l30 zd0.2).1).1, (zu l29 (zu l30 zd0.2).1).2.1, (zu l30 zd0.2).1⟩
      obtain ⟨rfl, rfl, rfl, rfl, rfl, rfl, rfl, rfl, rfl, rfl, rfl, rfl, rfl, rfl, rfl, rfl, rfl, rfl, rfl, rfl, rfl, rfl, rfl, rfl, rfl, rfl, rfl, rfl, rfl, rfl, rfl⟩ := zd
      subst z
      clear h0 hd
      rw [if_pos (by rfl)]
      go_simp
      exact unhide hK _ _ ⟨true, true, true, true, true, true, true, true, true, true, true, true, true, true, true, true, true, true, true, true, true, true, true, true, true, true, true, true, true, true, true, true, dm, rfl, rfl, zu kB, (fun _ => ⟨rfl, rfl⟩), (fun _ => rfl), (fun _ => rfl), (fun _ => rfl), (fun _ => ⟨rfl, rfl⟩), (fun _ => rfl), (fun _ => rfl), (fun _ => ⟨rfl, rfl⟩), (fun _ => ⟨rfl, rfl⟩), (fun _ => rfl), (fun _ => rfl), (fun _ => rfl), (fun _ => rfl), (fun _ => ⟨rfl, rfl, rfl⟩), (fun _ => ⟨rfl, rfl⟩), (fun _ => ⟨rfl, rfl⟩), (fun _ => rfl), (fun _ => rfl), (fun _ => ⟨rfl, rfl⟩), (fun _ => ⟨rfl, rfl, rfl⟩), (fun _ => ⟨rfl, rfl⟩), (fun _ => ⟨rfl, rfl⟩), (fun _ => ⟨rfl, rfl, rfl⟩), (fun _ => rfl), (fun _ => ⟨rfl, rfl, rfl⟩), (fun _ => ⟨rfl, rfl⟩), (fun _ => ⟨rfl, rfl, rfl, rfl, rfl, rfl, rfl, rfl, rfl, rfl, rfl, rfl, rfl, rfl, rfl, rfl, rfl, rfl, rfl, rfl, rfl, rfl, rfl, rfl, rfl, rfl, rfl, rfl, rfl, rfl, rfl⟩)⟩
  case hend =>
    intro Lb A W hI
    obtain ⟨u0, u1, u2, u3, u4, hI⟩ := hI
    obtain ⟨u5, u6, u7, u8, u9, hI⟩ := hI
    obtain ⟨u10, u11, u12, u13, u14, hI⟩ := hI
    obtain ⟨u15, u16, u17, u18, u19, hI⟩ := hI
    obtain ⟨u20, u21, u22, u23, u24, hI⟩ := hI
    obtain ⟨u25, u26, u27, u28, u29, hI⟩ := hI
    obtain ⟨u30, u31, dm, hI⟩ := hI
    obtain ⟨hLb, hI⟩ := hI
    obtain ⟨hA, hI⟩ := hI
    obtain ⟨kB, hI⟩ := hI
    obtain ⟨l2, hI⟩ := hI
    obtain ⟨l3, hI⟩ := hI
    obtain ⟨l4, hI⟩ := hI
    obtain ⟨l7, hI⟩ := hI
    obtain ⟨l8, hI⟩ := hI
    obtain ⟨l9, hI⟩ := hI
    obtain ⟨l10, hI⟩ := hI
    obtain ⟨l11, hI⟩ := hI
    obtain ⟨l13, hI⟩ := hI
    obtain ⟨l14, hI⟩ := hI
    obtain ⟨l15, hI⟩ := hI
    obtain ⟨l16, hI⟩ := hI
    obtain ⟨l17, hI⟩ := hI
    obtain ⟨l18, hI⟩ := hI
    obtain ⟨l19, hI⟩ := hI
    obtain ⟨l20, hI⟩ := hI
    obtain ⟨l21, hI⟩ := hI
    obtain ⟨l22, hI⟩ := hI
    obtain ⟨l23, hI⟩ := hI
    obtain ⟨l24, hI⟩ := hI
    obtain ⟨l25, hI⟩ := hI
    obtain ⟨l26, hI⟩ := hI
    obtain ⟨l27, hI⟩ := hI
    obtain ⟨l28, hI⟩ := hI
    obtain ⟨l29, hI⟩ := hI
    obtain ⟨l30, hI⟩ := hI
    have kF := hI
    clear hI
    subst hLb
    subst hA
    intro hL
    have hl : u0 = true ∧ u1 = true ∧ u2 = true ∧ u3 = true ∧ u4 = true ∧ u5 = true ∧ u6 = true ∧ u7 = true ∧ u8 = true ∧ u9 = true ∧ u10 = true ∧ u11 = true ∧ u12 = true ∧ u13 = true ∧ u14 = true ∧ u15 = true ∧ u16 = true ∧ u17 = true ∧ u18 = true ∧ u19 = true ∧ u20 = true ∧ u21 = true ∧ u22 = true ∧ u23 = true ∧ u24 = true ∧ u25 = true ∧ u26 = true ∧ u27 = true ∧ u28 = true ∧ u29 = true ∧ u30 = true ∧ u31 = true := by
      have h2 := congrArg Array.toList hL
      simpa [List.replicate] using h2
    obtain ⟨rfl, rfl, rfl, rfl, rfl, rfl, rfl, rfl, rfl, rfl, rfl, rfl, rfl, rfl, rfl, rfl, rfl, rfl, rfl, rfl, rfl, rfl, rfl, rfl, rfl, rfl, rfl, rfl, rfl, rfl, rfl, rfl⟩ := hl
    exact unhide HQ   W kB

end Go.Proofs.Ytgocgcnpgmamiaa
