/-
  A statement of the model's PlanCode that draws its order, walked alone.
-/
import Derived.Test.YtbgekppggakdoaaPcA
import Derived.Test.YtbgekppggakdoaaInv2
import Derived.Test.YtbgekppggakdoaaVb
namespace Go.Proofs.Ytbgekppggakdoaa
open Go.ChangeShapes Go.WideShapes Go.ChangeAt Go.RowKit
set_option linter.unusedVariables false
set_option linter.unusedSimpArgs false

noncomputable def rg14 (id : Nat) : Go.Code := match Try.f14.body with | some c => (regOfZ id c).getD .skip | none => .skip
set_option maxHeartbeats 4000000 in
set_option maxRecDepth 100000 in
theorem pc35 {s0 s1 s2 s3 s4 s5 s6 s7 s9 s12 s13 s14 s16 s17 s18 s19 s20 s21 s22 s23 s24 s25 s26 s27 s28 s29 s30 s31 s32 s33 s34 s35 s36 s37 s38 s39 s40 s41 s42 s43 s44 s45 s46 s47 s48 s49 s50 s51 s52 s53 s54 s55 s56 s57 s58 s59 s60 s61 s62 s63 s64 s65 s66 s67 s68 s69 s70 s71 s72 s73 s74 s75 s76 s77 s78 s79 s80 s81 s82 s83 s84 s85 s86 s87 s88 s89 s90 s91 s92 s93 s94 s95 s96 s97 s98 s99 s100 s101 s102 s103 s104 s105 s106 s107 s108 s109 s110 s111 s112 s113 s114 s115 s116 s117 s118 s119 s120 s121 s122 s123 s124 s125 s126 s127 s128 s129 s130 s131 s132 s133 s134 s135 s136 s137 s138 s139 s140 s141 s142 s143 s144 s145 s146 s147 s148 s149 s150 s151 s152 s153 s154 s155 s156 s157 s158 s159 s160 s161 s162 s163 s164 s165 s166 s167 s168 s169 s170 s171 s172 s173 s174 s175 s176 s177 s178 s179 s180 s181 s182 s183 s184 s185 s186 s187 s188 s189 s190 s191 s192 s193 s194 s195 s196 s197 s198 s199 s200 s201 s202 s203 s204 s205 s206 s207 s208 s209 s210 s211 s212 s213 s214 s215 s216 s217 s218 s219 s220 s221 s222 s223 s224 s225 s226 s227 : Value} {gv m cap bx xb mm : Nat} {ff : Bool} {ti sti sl se yf yt yw wn : Int} {V : World} {K_ : Act → World → Prop} 
    (HB2 : Hid (V.cell? ⟨bx, 2, none⟩ = some (.int .i64 (mm : Int)))) (HB4 : Hid (V.cell? ⟨bx, 4, none⟩ = some (.int .i64 (ti)))) (HX0 : Hid (V.cell? ⟨xb, 0, none⟩ = some (.int .i64 (mm : Int)))) (HX1 : Hid (V.cell? ⟨xb, 1, none⟩ = some (.int .i64 (sti)))) (HX2 : Hid (V.cell? ⟨xb, 2, none⟩ = some (.int .i64 (sl)))) (HX3 : Hid (V.cell? ⟨xb, 3, none⟩ = some (.int .i64 (se)))) (HG0 : Hid (V.cell? ⟨gv, mm * 3, none⟩ = some (.int .i64 (yf)))) (HG1 : Hid (V.cell? ⟨gv, mm * 3 + 1, none⟩ = some (.int .i64 (yt)))) (HG2 : Hid (V.cell? ⟨gv, mm * 3 + 2, none⟩ = some (.int .i64 (yw)))) (hbO : gv < V.heap.size) {oo0 : Value} (HO0 : Hid (V.cell? ⟨gv, mm * 3, none⟩ = some oo0)) {oo1 : Value} (HO1 : Hid (V.cell? ⟨gv, mm * 3 + 1, none⟩ = some oo1)) {oo2 : Value} (HO2 : Hid (V.cell? ⟨gv, mm * 3 + 2, none⟩ = some oo2)) (HOf : Hid (∀ o, V.frozen? ⟨gv, o, none⟩ = false))
    (HX6 : Hid (mm < m))
    (HF12 : Hid (∀ Xw, Below V.heap.size V Xw → Calls Try.prog 38 #[.agg #[.int .i64 (yf), .int .i64 (yt), .int .i64 (yw)], .agg #[.int .i64 (mm : Int), .int .i64 (sti), .int .i64 (sl), .int .i64 (se)], .bool (ff), .int .i64 (ti)] Xw fun e w' => e = .returned (.agg #[.int .i64 (ti), .int .i64 (sl), .int .i64 (wn)]) ∧ Below Xw.heap.size Xw w'))
    (HX13 : Hid (mm < m))
    (hQ : ∀  (W1 W9 : World), W9 = (((W1.setCell ⟨gv, mm * 3, none⟩ (.int .i64 (ti))).setCell ⟨gv, mm * 3 + 1, none⟩ (.int .i64 (sl))).setCell ⟨gv, mm * 3 + 2, none⟩ (.int .i64 (wn))) → Below V.heap.size V W1 → K_ { tmps := #[s0, s1, s2, s3, s4, s5, s6, s7, .slice (some ⟨gv, 0, none⟩) m cap, s9, .pointer (some ⟨bx, 0, none⟩), .pointer (some ⟨xb, 0, none⟩), s12, s13, s14, .bool (ff), s16, s17, s18, s19, s20, s21, s22, s23, s24, s25, s26, s27, s28, s29, s30, s31, s32, s33, s34, s35, s36, s37, s38, s39, s40, s41, s42, s43, s44, s45, s46, s47, s48, s49, s50, s51, s52, s53, s54, s55, s56, s57, s58, s59, s60, s61, s62, s63, s64, s65, s66, s67, s68, s69, s70, s71, s72, s73, s74, s75, s76, s77, s78, s79, s80, s81, s82, s83, s84, s85, s86, s87, s88, s89, s90, s91, s92, s93, s94, s95, s96, s97, s98, s99, s100, s101, s102, s103, s104, s105, s106, s107, s108, s109, s110, s111, s112, s113, s114, s115, s116, s117, s118, s119, s120, s121, s122, s123, s124, s125, s126, s127, s128, s129, s130, s131, s132, s133, s134, s135, s136, s137, s138, s139, s140, s141, s142, s143, s144, s145, s146, s147, s148, s149, s150, s151, s152, s153, s154, s155, s156, s157, s158, s159, s160, s161, s162, s163, s164, s165, s166, s167, s168, s169, s170, s171, s172, s173, s174, s175, s176, s177, s178, s179, s180, s181, s182, s183, s184, s185, s186, s187, s188, s189, s190, s191, s192, s193, .slice (some ⟨gv, 0, none⟩) m cap, .pointer (some ⟨bx, 2, none⟩), .int .i64 (mm : Int), .slice (some ⟨gv, 0, none⟩) m cap, .pointer (some ⟨bx, 2, none⟩), .int .i64 (mm : Int), .pointer (some ⟨gv, mm * 3, none⟩), .agg #[.int .i64 (yf), .int .i64 (yt), .int .i64 (yw)], .agg #[.int .i64 (mm : Int), .int .i64 (sti), .int .i64 (sl), .int .i64 (se)], .bool (ff), .pointer (some ⟨bx, 4, none⟩), .int .i64 (ti), .agg #[.int .i64 (ti), .int .i64 (sl), .int .i64 (wn)], .pointer (some ⟨gv, mm * 3, none⟩), s208, s209, s210, s211, s212, s213, s214, s215, s216, s217, s218, s219, s220, s221, s222, s223, s224, s225, s226, s227], defers := [] } W9) :
    Go.Code.wp Try.prog (rg14 35) (Only K_) { tmps := #[s0, s1, s2, s3, s4, s5, s6, s7, .slice (some ⟨gv, 0, none⟩) m cap, s9, .pointer (some ⟨bx, 0, none⟩), .pointer (some ⟨xb, 0, none⟩), s12, s13, s14, .bool (ff), s16, s17, s18, s19, s20, s21, s22, s23, s24, s25, s26, s27, s28, s29, s30, s31, s32, s33, s34, s35, s36, s37, s38, s39, s40, s41, s42, s43, s44, s45, s46, s47, s48, s49, s50, s51, s52, s53, s54, s55, s56, s57, s58, s59, s60, s61, s62, s63, s64, s65, s66, s67, s68, s69, s70, s71, s72, s73, s74, s75, s76, s77, s78, s79, s80, s81, s82, s83, s84, s85, s86, s87, s88, s89, s90, s91, s92, s93, s94, s95, s96, s97, s98, s99, s100, s101, s102, s103, s104, s105, s106, s107, s108, s109, s110, s111, s112, s113, s114, s115, s116, s117, s118, s119, s120, s121, s122, s123, s124, s125, s126, s127, s128, s129, s130, s131, s132, s133, s134, s135, s136, s137, s138, s139, s140, s141, s142, s143, s144, s145, s146, s147, s148, s149, s150, s151, s152, s153, s154, s155, s156, s157, s158, s159, s160, s161, s162, s163, s164, s165, s166, s167, s168, s169, s170, s171, s172, s173, s174, s175, s176, s177, s178, s179, s180, s181, s182, s183, s184, s185, s186, s187, s188, s189, s190, s191, s192, s193, s194, s195, s196, s197, s198, s199, s200, s201, s202, s203, s204, s205, s206, s207, s208, s209, s210, s211, s212, s213, s214, s215, s216, s217, s218, s219, s220, s221, s222, s223, s224, s225, s226, s227], defers := [] } V := by
  have HQ := hide hQ
  clear hQ
  conv => arg 2; whnf
  refine wp_region_inv2 (fun Lb A W => ∃ (u0 u1 u2 u3 u4 u5 u6 u7 u8 u9 u10 u11 u12 u13 u14 : Bool) (dm : Nat), Lb = #[u0, u1, u2, u3, u4, u5, u6, u7, u8, u9, u10, u11, u12, u13, u14] ∧ A = ({ tmps := #[s0, s1, s2, s3, s4, s5, s6, s7, .slice (some ⟨gv, 0, none⟩) m cap, s9, .pointer (some ⟨bx, 0, none⟩), .pointer (some ⟨xb, 0, none⟩), s12, s13, s14, .bool (ff), s16, s17, s18, s19, s20, s21, s22, s23, s24, s25, s26, s27, s28, s29, s30, s31, s32, s33, s34, s35, s36, s37, s38, s39, s40, s41, s42, s43, s44, s45, s46, s47, s48, s49, s50, s51, s52, s53, s54, s55, s56, s57, s58, s59, s60, s61, s62, s63, s64, s65, s66, s67, s68, s69, s70, s71, s72, s73, s74, s75, s76, s77, s78, s79, s80, s81, s82, s83, s84, s85, s86, s87, s88, s89, s90, s91, s92, s93, s94, s95, s96, s97, s98, s99, s100, s101, s102, s103, s104, s105, s106, s107, s108, s109, s110, s111, s112, s113, s114, s115, s116, s117, s118, s119, s120, s121, s122, s123, s124, s125, s126, s127, s128, s129, s130, s131, s132, s133, s134, s135, s136, s137, s138, s139, s140, s141, s142, s143, s144, s145, s146, s147, s148, s149, s150, s151, s152, s153, s154, s155, s156, s157, s158, s159, s160, s161, s162, s163, s164, s165, s166, s167, s168, s169, s170, s171, s172, s173, s174, s175, s176, s177, s178, s179, s180, s181, s182, s183, s184, s185, s186, s187, s188, s189, s190, s191, s192, s193, (bif u0 then .slice (some ⟨gv, 0, none⟩) m cap else s194), (bif u1 then .pointer (some ⟨bx, 2, none⟩) else s195), (bif u2 then .int .i64 (mm : Int) else s196), (bif u3 then .slice (some ⟨gv, 0, none⟩) m cap else s197), (bif u4 then .pointer (some ⟨bx, 2, none⟩) else s198), (bif u5 then .int .i64 (mm : Int) else s199), (bif u6 then .pointer (some ⟨gv, mm * 3, none⟩) else s200), (bif u7 then .agg #[.int .i64 (yf), .int .i64 (yt), .int .i64 (yw)] else s201), (bif u8 then .agg #[.int .i64 (mm : Int), .int .i64 (sti), .int .i64 (sl), .int .i64 (se)] else s202), (bif u9 then .bool (ff) else s203), (bif u10 then .pointer (some ⟨bx, 4, none⟩) else s204), (bif u11 then .int .i64 (ti) else s205), (bif u12 then .agg #[.int .i64 (ti), .int .i64 (sl), .int .i64 (wn)] else s206), (bif u13 then .pointer (some ⟨gv, mm * 3, none⟩) else s207), s208, s209, s210, s211, s212, s213, s214, s215, s216, s217, s218, s219, s220, s221, s222, s223, s224, s225, s226, s227], defers := [] } : Act) ∧ (u14 = false → Below V.heap.size V W) ∧ (u14 = true → ∃ W1, Below V.heap.size V W1 ∧ W = (((W1.setCell ⟨gv, mm * 3, none⟩ (.int .i64 (ti))).setCell ⟨gv, mm * 3 + 1, none⟩ (.int .i64 (sl))).setCell ⟨gv, mm * 3 + 2, none⟩ (.int .i64 (wn)))) ∧ (u14 = true → u0 = true ∧ u1 = true ∧ u2 = true ∧ u3 = true ∧ u4 = true ∧ u5 = true ∧ u6 = true ∧ u7 = true ∧ u8 = true ∧ u9 = true ∧ u10 = true ∧ u11 = true ∧ u12 = true ∧ u13 = true)) (by kernel_rfl) (by kernel_rfl) ?h0 ?hstep ?hend
  case h0 =>
    exact ⟨false, false, false, false, false, false, false, false, false, false, false, false, false, false, false, 0, rfl, rfl, (fun _ => Below.drew (Below.refl _ _)), zf, zf⟩
  case hstep =>
    intro Lb A W hI
    obtain ⟨u0, u1, u2, u3, u4, hI⟩ := hI
    obtain ⟨u5, u6, u7, u8, u9, hI⟩ := hI
    obtain ⟨u10, u11, u12, u13, u14, hI⟩ := hI
    obtain ⟨dm, hI⟩ := hI
    obtain ⟨hLb, hI⟩ := hI
    obtain ⟨hA, hI⟩ := hI
    obtain ⟨kB, hI⟩ := hI
    obtain ⟨kZ, hI⟩ := hI
    have kF := hI
    clear hI
    subst hLb
    subst hA
    replace kB := hide kB
    replace kZ := hide kZ
    replace kF := hide kF
    refine ⟨?_, ?_, ?_, ?_, ?_, ?_, ?_, ?_, ?_, ?_, ?_, ?_, ?_, ?_, ?_, trivial⟩
    · intro h0 hd K hK
      have z : u0 = false := h0
      have z14_ : u14 = false := znb fun hu => z.symm.trans ((zu kF hu).1)
      subst z14_
      subst z
      clear h0 hd
      rw [if_pos (by rfl)]
      go_simp
      exact unhide hK _ _ ⟨true, u1, u2, u3, u4, u5, u6, u7, u8, u9, u10, u11, u12, u13, false, dm, rfl, rfl, zu kB, zf, zf⟩
    · intro h0 hd K hK
      have z : u1 = false := h0
      have z14_ : u14 = false := znb fun hu => z.symm.trans ((zu kF hu).2.1)
      subst z14_
      subst z
      clear h0 hd
      rw [if_pos (by rfl)]
      go_simp
      exact unhide hK _ _ ⟨u0, true, u2, u3, u4, u5, u6, u7, u8, u9, u10, u11, u12, u13, false, dm, rfl, rfl, zu kB, zf, zf⟩
    · intro h0 hd K hK
      have z : u2 = false := h0
      have z14_ : u14 = false := znb fun hu => z.symm.trans ((zu kF hu).2.2.1)
      have zd : u1 = true := by
        simp [Region.binds] at hd
        simp [hd]
      obtain ⟨rfl⟩ := zd
      subst z14_
      subst z
      clear h0 hd
      rw [if_pos (by rfl)]
      have c0 := keep1 (zu kB rfl) (unhide HB2)
      go_simp
      exact unhide hK _ _ ⟨u0, true, true, u3, u4, u5, u6, u7, u8, u9, u10, u11, u12, u13, false, dm, rfl, rfl, zu kB, zf, zf⟩
    · intro h0 hd K hK
      have z : u3 = false := h0
      have z14_ : u14 = false := znb fun hu => z.symm.trans ((zu kF hu).2.2.2.1)
      subst z14_
      subst z
      clear h0 hd
      rw [if_pos (by rfl)]
      go_simp
      exact unhide hK _ _ ⟨u0, u1, u2, true, u4, u5, u6, u7, u8, u9, u10, u11, u12, u13, false, dm, rfl, rfl, zu kB, zf, zf⟩
    · intro h0 hd K hK
      have z : u4 = false := h0
      have z14_ : u14 = false := znb fun hu => z.symm.trans ((zu kF hu).2.2.2.2.1)
      subst z14_
      subst z
      clear h0 hd
      rw [if_pos (by rfl)]
      go_simp
      exact unhide hK _ _ ⟨u0, u1, u2, u3, true, u5, u6, u7, u8, u9, u10, u11, u12, u13, false, dm, rfl, rfl, zu kB, zf, zf⟩
    · intro h0 hd K hK
      have z : u5 = false := h0
      have z14_ : u14 = false := znb fun hu => z.symm.trans ((zu kF hu).2.2.2.2.2.1)
      have zd : u4 = true := by
        simp [Region.binds] at hd
        simp [hd]
      obtain ⟨rfl⟩ := zd
      subst z14_
      subst z
      clear h0 hd
      rw [if_pos (by rfl)]
      have c0 := keep1 (zu kB rfl) (unhide HB2)
      go_simp
      exact unhide hK _ _ ⟨u0, u1, u2, u3, true, true, u6, u7, u8, u9, u10, u11, u12, u13, false, dm, rfl, rfl, zu kB, zf, zf⟩
    · intro h0 hd K hK
      have z : u6 = false := h0
      have z14_ : u14 = false := znb fun hu => z.symm.trans ((zu kF hu).2.2.2.2.2.2.1)
      have zd : u3 = true ∧ u5 = true := by
        simp [Region.binds] at hd
        simp [hd]
      obtain ⟨rfl, rfl⟩ := zd
      subst z14_
      subst z
      clear h0 hd
      rw [if_pos (by rfl)]
      have q1 : mm < m := unhide HX6
      have q2 : (mm : Int) < (m : Int) := by omega
      go_simp
      exact unhide hK _ _ ⟨u0, u1, u2, true, u4, true, true, u7, u8, u9, u10, u11, u12, u13, false, dm, rfl, rfl, zu kB, zf, zf⟩
    · intro h0 hd K hK
      have z : u7 = false := h0
      have z14_ : u14 = false := znb fun hu => z.symm.trans ((zu kF hu).2.2.2.2.2.2.2.1)
      have zd : u6 = true := by
        simp [Region.binds] at hd
        simp [hd]
      obtain ⟨rfl⟩ := zd
      subst z14_
      subst z
      clear h0 hd
      rw [if_pos (by rfl)]
      have c0 := keep1 (zu kB rfl) (unhide HG0)
      have c1 := keep1 (zu kB rfl) (unhide HG1)
      have c2 := keep1 (zu kB rfl) (unhide HG2)
      go_simp
      exact unhide hK _ _ ⟨u0, u1, u2, u3, u4, u5, true, true, u8, u9, u10, u11, u12, u13, false, dm, rfl, rfl, zu kB, zf, zf⟩
    · intro h0 hd K hK
      have z : u8 = false := h0
      have z14_ : u14 = false := znb fun hu => z.symm.trans ((zu kF hu).2.2.2.2.2.2.2.2.1)
      subst z14_
      subst z
      clear h0 hd
      rw [if_pos (by rfl)]
      have c0 := keep1 (zu kB rfl) (unhide HX0)
      have c1 := keep1 (zu kB rfl) (unhide HX1)
      have c2 := keep1 (zu kB rfl) (unhide HX2)
      have c3 := keep1 (zu kB rfl) (unhide HX3)
      go_simp
      exact unhide hK _ _ ⟨u0, u1, u2, u3, u4, u5, u6, u7, true, u9, u10, u11, u12, u13, false, dm, rfl, rfl, zu kB, zf, zf⟩
    · intro h0 hd K hK
      have z : u9 = false := h0
      have z14_ : u14 = false := znb fun hu => z.symm.trans ((zu kF hu).2.2.2.2.2.2.2.2.2.1)
      subst z14_
      subst z
      clear h0 hd
      rw [if_pos (by rfl)]
      go_simp
      exact unhide hK _ _ ⟨u0, u1, u2, u3, u4, u5, u6, u7, u8, true, u10, u11, u12, u13, false, dm, rfl, rfl, zu kB, zf, zf⟩
    · intro h0 hd K hK
      have z : u10 = false := h0
      have z14_ : u14 = false := znb fun hu => z.symm.trans ((zu kF hu).2.2.2.2.2.2.2.2.2.2.1)
      subst z14_
      subst z
      clear h0 hd
      rw [if_pos (by rfl)]
      go_simp
      exact unhide hK _ _ ⟨u0, u1, u2, u3, u4, u5, u6, u7, u8, u9, true, u11, u12, u13, false, dm, rfl, rfl, zu kB, zf, zf⟩
    · intro h0 hd K hK
      have z : u11 = false := h0
      have z14_ : u14 = false := znb fun hu => z.symm.trans ((zu kF hu).2.2.2.2.2.2.2.2.2.2.2.1)
      have zd : u10 = true := by
        simp [Region.binds] at hd
        simp [hd]
      obtain ⟨rfl⟩ := zd
      subst z14_
      subst z
      clear h0 hd
      rw [if_pos (by rfl)]
      have c0 := keep1 (zu kB rfl) (unhide HB4)
      go_simp
      exact unhide hK _ _ ⟨u0, u1, u2, u3, u4, u5, u6, u7, u8, u9, true, true, u12, u13, false, dm, rfl, rfl, zu kB, zf, zf⟩
    · intro h0 hd K hK
      have z : u12 = false := h0
      have z14_ : u14 = false := znb fun hu => z.symm.trans ((zu kF hu).2.2.2.2.2.2.2.2.2.2.2.2.1)
      have zd : u7 = true ∧ u8 = true ∧ u9 = true ∧ u11 = true := by
        simp [Region.binds] at hd
        simp [hd]
      obtain ⟨rfl, rfl, rfl, rfl⟩ := zd
      subst z14_
      subst z
      clear h0 hd
      rw [if_pos (by rfl)]
      go_simp
      refine (unhide HF12 W (zu kB rfl)).mono ?_
      rintro e w8 ⟨rfl, hb8⟩
      exact unhide hK _ _ ⟨u0, u1, u2, u3, u4, u5, u6, true, true, true, u10, true, true, u13, false, dm, rfl, rfl, (fun _ => bc (zu kB rfl) hb8), zf, zf⟩
    · intro h0 hd K hK
      have z : u13 = false := h0
      have z14_ : u14 = false := znb fun hu => z.symm.trans ((zu kF hu).2.2.2.2.2.2.2.2.2.2.2.2.2)
      have zd : u0 = true ∧ u2 = true ∧ u12 = true := by
        simp [Region.binds] at hd
        simp [hd]
      obtain ⟨rfl, rfl, rfl⟩ := zd
      subst z14_
      subst z
      clear h0 hd
      rw [if_pos (by rfl)]
      have q1 : mm < m := unhide HX13
      have q2 : (mm : Int) < (m : Int) := by omega
      go_simp
      exact unhide hK _ _ ⟨true, u1, true, u3, u4, u5, u6, u7, u8, u9, u10, u11, true, true, false, dm, rfl, rfl, zu kB, zf, zf⟩
    · intro h0 hd K hK
      have z : u14 = false := h0
      have zd0 : u0 = true ∧ u1 = true ∧ u2 = true ∧ u3 = true ∧ u4 = true ∧ u5 = true ∧ u6 = true ∧ u7 = true ∧ u8 = true ∧ u9 = true ∧ u10 = true ∧ u11 = true ∧ u12 = true ∧ u13 = true := by
        simp [Region.binds] at hd
        simp [hd]
      have zd : u0 = true ∧ u1 = true ∧ u2 = true ∧ u3 = true ∧ u4 = true ∧ u5 = true ∧ u6 = true ∧ u7 = true ∧ u8 = true ∧ u9 = true ∧ u10 = true ∧ u11 = true ∧ u12 = true ∧ u13 = true := ⟨zd0.1, zd0.2.1, zd0.2.2.1, zd0.2.2.2.1, zd0.2.2.2.2.1, zd0.2.2.2.2.2.1, zd0.2.2.2.2.2.2.1, zd0.2.2.2.2.2.2.2.1, zd0.2.2.2.2.2.2.2.2.1, zd0.2.2.2.2.2.2.2.2.2.1, zd0.2.2.2.2.2.2.2.2.2.2.1, zd0.2.2.2.2.2.2.2.2.2.2.2.1, zd0.2.2.2.2.2.2.2.2.2.2.2.2.1, zd0.2.2.2.2.2.2.2.2.2.2.2.2.2⟩
      obtain ⟨rfl, rfl, rfl, rfl, rfl, rfl, rfl, rfl, rfl, rfl, rfl, rfl, rfl, rfl⟩ := zd
      subst z
      clear h0 hd
      rw [if_pos (by rfl)]
      have hB := (zu kB rfl)
      have q0 := keep1 hB (unhide HO0)
      have q1 := keep1 hB (unhide HO1)
      have q2 := keep1 hB (unhide HO2)
      have fz : ∀ o, W.frozen? ⟨gv, o, none⟩ = false := fun o => keepz hB hbO (unhide HOf o)
      have HBB := hide hB
      clear hB
      go_simp
      exact unhide hK _ _ ⟨true, true, true, true, true, true, true, true, true, true, true, true, true, true, true, dm, rfl, rfl, zt, (fun _ => ⟨W, unhide HBB, rfl⟩), (fun _ => ⟨rfl, rfl, rfl, rfl, rfl, rfl, rfl, rfl, rfl, rfl, rfl, rfl, rfl, rfl⟩)⟩
  case hend =>
    intro Lb A W hI
    obtain ⟨u0, u1, u2, u3, u4, hI⟩ := hI
    obtain ⟨u5, u6, u7, u8, u9, hI⟩ := hI
    obtain ⟨u10, u11, u12, u13, u14, hI⟩ := hI
    obtain ⟨dm, hI⟩ := hI
    obtain ⟨hLb, hI⟩ := hI
    obtain ⟨hA, hI⟩ := hI
    obtain ⟨kB, hI⟩ := hI
    obtain ⟨kZ, hI⟩ := hI
    have kF := hI
    clear hI
    subst hLb
    subst hA
    intro hL
    have hl : u0 = true ∧ u1 = true ∧ u2 = true ∧ u3 = true ∧ u4 = true ∧ u5 = true ∧ u6 = true ∧ u7 = true ∧ u8 = true ∧ u9 = true ∧ u10 = true ∧ u11 = true ∧ u12 = true ∧ u13 = true ∧ u14 = true := by
      have h2 := congrArg Array.toList hL
      simpa [List.replicate] using h2
    obtain ⟨rfl, rfl, rfl, rfl, rfl, rfl, rfl, rfl, rfl, rfl, rfl, rfl, rfl, rfl, rfl⟩ := hl
    obtain ⟨W1, hA, hZ⟩ := kZ rfl
    exact unhide HQ   W1 W hZ hA

end Go.Proofs.Ytbgekppggakdoaa
