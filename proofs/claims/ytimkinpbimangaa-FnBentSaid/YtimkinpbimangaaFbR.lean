/-
  Statements of the law on strips that draw their order, each walked alone.
-/
import Derived.Test.YtimkinpbimangaaFtR
namespace Go.Proofs.Ytimkinpbimangaa
open Go.ChangeShapes Go.WideShapes Go.ChangeAt Go.RowKit
set_option linter.unusedVariables false
set_option linter.unusedSimpArgs false

noncomputable def rg10 (id : Nat) : Go.Code := match Try.f10.body with | some c => (regOfZ id c).getD .skip | none => .skip
noncomputable def rg3 (id : Nat) : Go.Code := match Try.f3.body with | some c => (regOfZ id c).getD .skip | none => .skip
set_option maxHeartbeats 4000000 in
set_option maxRecDepth 100000 in
theorem sp6 {s2 s3 s4 s6 s7 s8 s9 s10 s11 s12 s13 s14 s15 s16 s17 s18 s19 s20 s21 s22 s23 s24 s25 : Value} {b n cap c m dap i : Nat} {x0 y0 x1 y1 : Int} {V : World} {K_ : Act → World → Prop} 
    (HA0 : Hid (V.cell? ⟨b, i * 2, none⟩ = some (.int .i64 (x0)))) (HA1 : Hid (V.cell? ⟨b, i * 2 + 1, none⟩ = some (.int .i64 (y0)))) (HB0 : Hid (V.cell? ⟨c, i * 2, none⟩ = some (.int .i64 (x1)))) (HB1 : Hid (V.cell? ⟨c, i * 2 + 1, none⟩ = some (.int .i64 (y1)))) 
    (HX2 : Hid (i < n))
    (HX6 : Hid (i < m))
    (hQ : ∀  (W1 : World), Below V.heap.size V W1 → K_ { tmps := #[.slice (some ⟨b, 0, none⟩) n cap, .slice (some ⟨c, 0, none⟩) m dap, s2, s3, s4, .int .i64 (i : Int), s6, s7, s8, s9, s10, s11, s12, s13, s14, s15, s16, .slice (some ⟨b, 0, none⟩) n cap, .int .i64 (i : Int), .pointer (some ⟨b, i * 2, none⟩), .agg #[.int .i64 (x0), .int .i64 (y0)], .slice (some ⟨c, 0, none⟩) m dap, .int .i64 (i : Int), .pointer (some ⟨c, i * 2, none⟩), .agg #[.int .i64 (x1), .int .i64 (y1)], .bool (!decide (x0 = x1) || !decide (y0 = y1))], defers := [] } W1) :
    Go.Code.wp Try.prog (rg10 6) (Only K_) { tmps := #[.slice (some ⟨b, 0, none⟩) n cap, .slice (some ⟨c, 0, none⟩) m dap, s2, s3, s4, .int .i64 (i : Int), s6, s7, s8, s9, s10, s11, s12, s13, s14, s15, s16, s17, s18, s19, s20, s21, s22, s23, s24, s25], defers := [] } V := by
  have HQ := hide hQ
  clear hQ
  have eqf := neq32 x0 y0 x1 y1
  conv => arg 2; whnf
  refine wp_region_inv2 (fun Lb A W => ∃ (u0 u1 u2 u3 u4 u5 u6 u7 u8 : Bool) (dm : Nat), Lb = #[u0, u1, u2, u3, u4, u5, u6, u7, u8] ∧ A = ({ tmps := #[.slice (some ⟨b, 0, none⟩) n cap, .slice (some ⟨c, 0, none⟩) m dap, s2, s3, s4, .int .i64 (i : Int), s6, s7, s8, s9, s10, s11, s12, s13, s14, s15, s16, (bif u0 then .slice (some ⟨b, 0, none⟩) n cap else s17), (bif u1 then .int .i64 (i : Int) else s18), (bif u2 then .pointer (some ⟨b, i * 2, none⟩) else s19), (bif u3 then .agg #[.int .i64 (x0), .int .i64 (y0)] else s20), (bif u4 then .slice (some ⟨c, 0, none⟩) m dap else s21), (bif u5 then .int .i64 (i : Int) else s22), (bif u6 then .pointer (some ⟨c, i * 2, none⟩) else s23), (bif u7 then .agg #[.int .i64 (x1), .int .i64 (y1)] else s24), (bif u8 then .bool (!decide (x0 = x1) || !decide (y0 = y1)) else s25)], defers := [] } : Act) ∧ Below V.heap.size V W ∧ (u2 = true → u0 = true ∧ u1 = true) ∧ (u3 = true → u2 = true) ∧ (u6 = true → u4 = true ∧ u5 = true) ∧ (u7 = true → u6 = true) ∧ (u8 = true → u0 = true ∧ u1 = true ∧ u2 = true ∧ u3 = true ∧ u4 = true ∧ u5 = true ∧ u6 = true ∧ u7 = true)) (by kernel_rfl) (by kernel_rfl) ?h0 ?hstep ?hend
  case h0 =>
    exact ⟨false, false, false, false, false, false, false, false, false, 0, rfl, rfl, Below.drew (Below.refl _ _), zf, zf, zf, zf, zf⟩
  case hstep =>
    intro Lb A W hI
    obtain ⟨u0, u1, u2, u3, u4, hI⟩ := hI
    obtain ⟨u5, u6, u7, u8, dm, hI⟩ := hI
    obtain ⟨hLb, hI⟩ := hI
    obtain ⟨hA, hI⟩ := hI
    obtain ⟨kB, hI⟩ := hI
    obtain ⟨l2, hI⟩ := hI
    obtain ⟨l3, hI⟩ := hI
    obtain ⟨l6, hI⟩ := hI
    obtain ⟨l7, hI⟩ := hI
    have kF := hI
    clear hI
    subst hLb
    subst hA
    replace kB := hide kB
    replace l2 := hide l2
    replace l3 := hide l3
    replace l6 := hide l6
    replace l7 := hide l7
    replace kF := hide kF
    refine ⟨?_, ?_, ?_, ?_, ?_, ?_, ?_, ?_, ?_, trivial⟩
    · intro h0 hd K hK
      have z : u0 = false := h0
      have z8_ : u8 = false := znb fun hu => z.symm.trans ((zu kF hu).1)
      subst z8_
      subst z
      clear h0 hd
      rw [if_pos (by rfl)]
      go_simp
      exact unhide hK _ _ ⟨true, u1, u2, u3, u4, u5, u6, u7, false, dm, rfl, rfl, zu kB, (fun h => ⟨rfl, (zu l2 h).2⟩), zu l3, zu l6, zu l7, zf⟩
    · intro h0 hd K hK
      have z : u1 = false := h0
      have z8_ : u8 = false := znb fun hu => z.symm.trans ((zu kF hu).2.1)
      subst z8_
      subst z
      clear h0 hd
      rw [if_pos (by rfl)]
      go_simp
      exact unhide hK _ _ ⟨u0, true, u2, u3, u4, u5, u6, u7, false, dm, rfl, rfl, zu kB, (fun h => ⟨(zu l2 h).1, rfl⟩), zu l3, zu l6, zu l7, zf⟩
    · intro h0 hd K hK
      have z : u2 = false := h0
      have z8_ : u8 = false := znb fun hu => z.symm.trans ((zu kF hu).2.2.1)
      have zd : u0 = true ∧ u1 = true := by
        simp [Region.binds] at hd
        simp [hd]
      obtain ⟨rfl, rfl⟩ := zd
      subst z8_
      subst z
      clear h0 hd
      rw [if_pos (by rfl)]
      have q1 : i < n := unhide HX2
      have q2 : (i : Int) < (n : Int) := by omega
      go_simp
      exact unhide hK _ _ ⟨true, true, true, u3, u4, u5, u6, u7, false, dm, rfl, rfl, zu kB, (fun _ => ⟨rfl, rfl⟩), (fun h => rfl), zu l6, zu l7, zf⟩
    · intro h0 hd K hK
      have z : u3 = false := h0
      have z8_ : u8 = false := znb fun hu => z.symm.trans ((zu kF hu).2.2.2.1)
      have zd : u2 = true := by
        simp [Region.binds] at hd
        simp [hd]
      obtain ⟨rfl⟩ := zd
      subst z8_
      subst z
      clear h0 hd
      rw [if_pos (by rfl)]
      have c0 := keep1 (zu kB) (unhide HA0)
      have c1 := keep1 (zu kB) (unhide HA1)
      go_simp
      exact unhide hK _ _ ⟨u0, u1, true, true, u4, u5, u6, u7, false, dm, rfl, rfl, zu kB, zu l2, (fun _ => rfl), zu l6, zu l7, zf⟩
    · intro h0 hd K hK
      have z : u4 = false := h0
      have z8_ : u8 = false := znb fun hu => z.symm.trans ((zu kF hu).2.2.2.2.1)
      subst z8_
      subst z
      clear h0 hd
      rw [if_pos (by rfl)]
      go_simp
      exact unhide hK _ _ ⟨u0, u1, u2, u3, true, u5, u6, u7, false, dm, rfl, rfl, zu kB, zu l2, zu l3, (fun h => ⟨rfl, (zu l6 h).2⟩), zu l7, zf⟩
    · intro h0 hd K hK
      have z : u5 = false := h0
      have z8_ : u8 = false := znb fun hu => z.symm.trans ((zu kF hu).2.2.2.2.2.1)
      subst z8_
      subst z
      clear h0 hd
      rw [if_pos (by rfl)]
      go_simp
      exact unhide hK _ _ ⟨u0, u1, u2, u3, u4, true, u6, u7, false, dm, rfl, rfl, zu kB, zu l2, zu l3, (fun h => ⟨(zu l6 h).1, rfl⟩), zu l7, zf⟩
    · intro h0 hd K hK
      have z : u6 = false := h0
      have z8_ : u8 = false := znb fun hu => z.symm.trans ((zu kF hu).2.2.2.2.2.2.1)
      have zd : u4 = true ∧ u5 = true := by
        simp [Region.binds] at hd
        simp [hd]
      obtain ⟨rfl, rfl⟩ := zd
      subst z8_
      subst z
      clear h0 hd
      rw [if_pos (by rfl)]
      have q1 : i < m := unhide HX6
      have q2 : (i : Int) < (m : Int) := by omega
      go_simp
      exact unhide hK _ _ ⟨u0, u1, u2, u3, true, true, true, u7, false, dm, rfl, rfl, zu kB, zu l2, zu l3, (fun _ => ⟨rfl, rfl⟩), (fun h => rfl), zf⟩
    · intro h0 hd K hK
      have z : u7 = false := h0
      have z8_ : u8 = false := znb fun hu => z.symm.trans ((zu kF hu).2.2.2.2.2.2.2)
      have zd : u6 = true := by
        simp [Region.binds] at hd
        simp [hd]
      obtain ⟨rfl⟩ := zd
      subst z8_
      subst z
      clear h0 hd
      rw [if_pos (by rfl)]
      have c0 := keep1 (zu kB) (unhide HB0)
      have c1 := keep1 (zu kB) (unhide HB1)
      go_simp
      exact unhide hK _ _ ⟨u0, u1, u2, u3, u4, u5, true, true, false, dm, rfl, rfl, zu kB, zu l2, zu l3, zu l6, (fun _ => rfl), zf⟩
    · intro h0 hd K hK
      have z : u8 = false := h0
      have zd0 : u3 = true ∧ u7 = true := by
        simp [Region.binds] at hd
        simp [hd]
      have zd : u3 = true ∧ u7 = true ∧ u0 = true ∧ u1 = true ∧ u2 = true ∧ u4 = true ∧ u5 = true ∧ u6 = true := ⟨zd0.1, zd0.2, (zu l2 (zu l3 zd0.1)).1, (zu l2 (zu l3 zd0.1)).2, (zu l3 zd0.1), (zu l6 (zu l7 zd0.2)).1, (zu l6 (zu l7 zd0.2)).2, (zu l7 zd0.2)⟩
      obtain ⟨rfl, rfl, rfl, rfl, rfl, rfl, rfl, rfl⟩ := zd
      subst z
      clear h0 hd
      rw [if_pos (by rfl)]
      go_simp
      exact unhide hK _ _ ⟨true, true, true, true, true, true, true, true, true, dm, rfl, rfl, zu kB, (fun _ => ⟨rfl, rfl⟩), (fun _ => rfl), (fun _ => ⟨rfl, rfl⟩), (fun _ => rfl), (fun _ => ⟨rfl, rfl, rfl, rfl, rfl, rfl, rfl, rfl⟩)⟩
  case hend =>
    intro Lb A W hI
    obtain ⟨u0, u1, u2, u3, u4, hI⟩ := hI
    obtain ⟨u5, u6, u7, u8, dm, hI⟩ := hI
    obtain ⟨hLb, hI⟩ := hI
    obtain ⟨hA, hI⟩ := hI
    obtain ⟨kB, hI⟩ := hI
    obtain ⟨l2, hI⟩ := hI
    obtain ⟨l3, hI⟩ := hI
    obtain ⟨l6, hI⟩ := hI
    obtain ⟨l7, hI⟩ := hI
    have kF := hI
    clear hI
    subst hLb
    subst hA
    intro hL
    have hl : u0 = true ∧ u1 = true ∧ u2 = true ∧ u3 = true ∧ u4 = true ∧ u5 = true ∧ u6 = true ∧ u7 = true ∧ u8 = true := by
      have h2 := congrArg Array.toList hL
      simpa [List.replicate] using h2
    obtain ⟨rfl, rfl, rfl, rfl, rfl, rfl, rfl, rfl, rfl⟩ := hl
    exact unhide HQ   W kB

set_option maxHeartbeats 4000000 in
set_option maxRecDepth 100000 in
theorem fb12 {s0 s1 s2 s3 s4 s6 s8 s9 s10 s11 s12 s14 s15 s16 s17 s18 s19 s20 s21 s22 s23 s24 s25 s26 s27 s28 s29 s30 s31 s32 s33 s34 s35 s36 s37 s38 s39 s40 s41 s42 s43 s44 s45 s46 s47 s48 s49 s50 s51 s52 s53 s54 s55 s56 s57 s58 s59 s60 s61 s62 s63 s64 s65 s66 s67 s68 s69 s70 s71 s72 s73 s74 s75 s76 s77 s78 s79 s80 s81 s82 s83 s84 s85 s86 s87 s88 s89 s90 s91 s92 s93 s94 s95 s96 s97 s98 s99 s100 s101 s102 s103 s104 s105 s106 s107 s108 s109 s110 s111 s112 s113 s114 s115 s116 s117 s118 s119 s120 s121 s122 s123 s124 s125 s126 s127 s128 s129 s130 s131 s132 s133 s134 s135 s136 s137 s138 s139 s140 s141 s142 s143 s144 s145 s146 s147 s148 s149 s150 s151 s152 s153 s154 s155 s156 s157 s158 s159 s160 s161 s162 s163 s164 s165 s166 s167 s168 s169 s170 s171 s172 s173 s174 s175 s176 s177 s178 s179 s180 s181 s182 s183 s184 s185 s186 s187 s188 s189 s190 s191 s192 s193 s194 s195 s196 s197 s198 s199 s200 s201 s202 s203 s204 s205 s206 s207 s208 s209 s210 s211 s212 s213 s214 s215 s216 s217 s218 s219 s220 s221 s222 s223 s224 s225 s226 s227 s228 s229 s230 s231 s232 s233 s234 s235 s236 s237 s238 s239 s240 s241 : Value} {pb n cu b m cap i j : Nat} {x0 y0 x1 y1 l a0 a1 dx dy ln : Int} {V : World} {K_ : Act → World → Prop} 
    (HA0 : Hid (V.cell? ⟨b, j * 2, none⟩ = some (.int .i64 (x1)))) (HA1 : Hid (V.cell? ⟨b, j * 2 + 1, none⟩ = some (.int .i64 (y1)))) (HB0 : Hid (V.cell? ⟨b, i * 2, none⟩ = some (.int .i64 (x0)))) (HB1 : Hid (V.cell? ⟨b, i * 2 + 1, none⟩ = some (.int .i64 (y0)))) (HC : Hid (V.cell? ⟨pb, i, none⟩ = some (.int .i64 (l)))) 
    (HW2 : Hid (IntKind.i64.wrap ((i : Int) + 1) = (j : Int)))
    (HX3 : Hid (j < m))
    (HX8 : Hid (i < m))
    (HW11 : Hid (IntKind.i64.wrap (x1 - x0) = dx))
    (HF12 : Hid (∀ Xw, Below V.heap.size V Xw → Calls Try.prog 11 #[.int .i64 (dx)] Xw fun e w' => e = .returned (.int .i64 (a0)) ∧ Below Xw.heap.size Xw w'))
    (HW15 : Hid (IntKind.i64.wrap ((i : Int) + 1) = (j : Int)))
    (HX16 : Hid (j < m))
    (HX21 : Hid (i < m))
    (HW24 : Hid (IntKind.i64.wrap (y1 - y0) = dy))
    (HF25 : Hid (∀ Xw, Below V.heap.size V Xw → Calls Try.prog 11 #[.int .i64 (dy)] Xw fun e w' => e = .returned (.int .i64 (a1)) ∧ Below Xw.heap.size Xw w'))
    (HW26 : Hid (IntKind.i64.wrap (a0 + a1) = ln))
    (HX29 : Hid (i < n))
    (hQ : ∀  (W1 : World), Below V.heap.size V W1 → K_ { tmps := #[s0, s1, s2, s3, s4, .slice (some ⟨pb, 0, none⟩) n cu, s6, .slice (some ⟨b, 0, none⟩) m cap, s8, s9, s10, s11, s12, .int .i64 (i : Int), s14, s15, s16, s17, s18, s19, s20, s21, s22, s23, s24, s25, s26, s27, s28, s29, s30, s31, s32, s33, s34, s35, s36, s37, s38, s39, s40, s41, s42, s43, s44, s45, s46, s47, s48, s49, s50, s51, s52, s53, s54, s55, s56, s57, s58, s59, s60, s61, s62, s63, s64, s65, s66, s67, s68, s69, s70, s71, s72, s73, s74, s75, s76, s77, s78, s79, s80, s81, s82, .slice (some ⟨b, 0, none⟩) m cap, .int .i64 (i : Int), .int .i64 (j : Int), .pointer (some ⟨b, j * 2, none⟩), .pointer (some ⟨b, j * 2, none⟩), .int .i64 (x1), .slice (some ⟨b, 0, none⟩) m cap, .int .i64 (i : Int), .pointer (some ⟨b, i * 2, none⟩), .pointer (some ⟨b, i * 2, none⟩), .int .i64 (x0), .int .i64 (dx), .int .i64 (a0), .slice (some ⟨b, 0, none⟩) m cap, .int .i64 (i : Int), .int .i64 (j : Int), .pointer (some ⟨b, j * 2, none⟩), .pointer (some ⟨b, j * 2 + 1, none⟩), .int .i64 (y1), .slice (some ⟨b, 0, none⟩) m cap, .int .i64 (i : Int), .pointer (some ⟨b, i * 2, none⟩), .pointer (some ⟨b, i * 2 + 1, none⟩), .int .i64 (y0), .int .i64 (dy), .int .i64 (a1), .int .i64 (ln), .slice (some ⟨pb, 0, none⟩) n cu, .int .i64 (i : Int), .pointer (some ⟨pb, i, none⟩), .int .i64 (l), .bool (ln != l), s115, s116, s117, s118, s119, s120, s121, s122, s123, s124, s125, s126, s127, s128, s129, s130, s131, s132, s133, s134, s135, s136, s137, s138, s139, s140, s141, s142, s143, s144, s145, s146, s147, s148, s149, s150, s151, s152, s153, s154, s155, s156, s157, s158, s159, s160, s161, s162, s163, s164, s165, s166, s167, s168, s169, s170, s171, s172, s173, s174, s175, s176, s177, s178, s179, s180, s181, s182, s183, s184, s185, s186, s187, s188, s189, s190, s191, s192, s193, s194, s195, s196, s197, s198, s199, s200, s201, s202, s203, s204, s205, s206, s207, s208, s209, s210, s211, s212, s213, s214, s215, s216, s217, s218, s219, s220, s221, s222, s223, s224, s225, s226, s227, s228, s229, s230, s231, s232, s233, s234, s235, s236, s237, s238, s239, s240, s241], defers := [] } W1) :
    Go.Code.wp Try.prog (rg3 12) (Only K_) { tmps := #[s0, s1, s2, s3, s4, .slice (some ⟨pb, 0, none⟩) n cu, s6, .slice (some ⟨b, 0, none⟩) m cap, s8, s9, s10, s11, s12, .int .i64 (i : Int), s14, s15, s16, s17, s18, s19, s20, s21, s22, s23, s24, s25, s26, s27, s28, s29, s30, s31, s32, s33, s34, s35, s36, s37, s38, s39, s40, s41, s42, s43, s44, s45, s46, s47, s48, s49, s50, s51, s52, s53, s54, s55, s56, s57, s58, s59, s60, s61, s62, s63, s64, s65, s66, s67, s68, s69, s70, s71, s72, s73, s74, s75, s76, s77, s78, s79, s80, s81, s82, s83, s84, s85, s86, s87, s88, s89, s90, s91, s92, s93, s94, s95, s96, s97, s98, s99, s100, s101, s102, s103, s104, s105, s106, s107, s108, s109, s110, s111, s112, s113, s114, s115, s116, s117, s118, s119, s120, s121, s122, s123, s124, s125, s126, s127, s128, s129, s130, s131, s132, s133, s134, s135, s136, s137, s138, s139, s140, s141, s142, s143, s144, s145, s146, s147, s148, s149, s150, s151, s152, s153, s154, s155, s156, s157, s158, s159, s160, s161, s162, s163, s164, s165, s166, s167, s168, s169, s170, s171, s172, s173, s174, s175, s176, s177, s178, s179, s180, s181, s182, s183, s184, s185, s186, s187, s188, s189, s190, s191, s192, s193, s194, s195, s196, s197, s198, s199, s200, s201, s202, s203, s204, s205, s206, s207, s208, s209, s210, s211, s212, s213, s214, s215, s216, s217, s218, s219, s220, s221, s222, s223, s224, s225, s226, s227, s228, s229, s230, s231, s232, s233, s234, s235, s236, s237, s238, s239, s240, s241], defers := [] } V := by
  have HQ := hide hQ
  clear hQ
  conv => arg 2; whnf
  refine wp_region_inv2 (fun Lb A W => ∃ (u0 u1 u2 u3 u4 u5 u6 u7 u8 u9 u10 u11 u12 u13 u14 u15 u16 u17 u18 u19 u20 u21 u22 u23 u24 u25 u26 u27 u28 u29 u30 u31 : Bool) (dm : Nat), Lb = #[u0, u1, u2, u3, u4, u5, u6, u7, u8, u9, u10, u11, u12, u13, u14, u15, u16, u17, u18, u19, u20, u21, u22, u23, u24, u25, u26, u27, u28, u29, u30, u31] ∧ A = ({ tmps := #[s0, s1, s2, s3, s4, .slice (some ⟨pb, 0, none⟩) n cu, s6, .slice (some ⟨b, 0, none⟩) m cap, s8, s9, s10, s11, s12, .int .i64 (i : Int), s14, s15, s16, s17, s18, s19, s20, s21, s22, s23, s24, s25, s26, s27, s28, s29, s30, s31, s32, s33, s34, s35, s36, s37, s38, s39, s40, s41, s42, s43, s44, s45, s46, s47, s48, s49, s50, s51, s52, s53, s54, s55, s56, s57, s58, s59, s60, s61, s62, s63, s64, s65, s66, s67, s68, s69, s70, s71, s72, s73, s74, s75, s76, s77, s78, s79, s80, s81, s82, (bif u0 then .slice (some ⟨b, 0, none⟩) m cap else s83), (bif u1 then .int .i64 (i : Int) else s84), (bif u2 then .int .i64 (j : Int) else s85), (bif u3 then .pointer (some ⟨b, j * 2, none⟩) else s86), (bif u4 then .pointer (some ⟨b, j * 2, none⟩) else s87), (bif u5 then .int .i64 (x1) else s88), (bif u6 then .slice (some ⟨b, 0, none⟩) m cap else s89), (bif u7 then .int .i64 (i : Int) else s90), (bif u8 then .pointer (some ⟨b, i * 2, none⟩) else s91), (bif u9 then .pointer (some ⟨b, i * 2, none⟩) else s92), (bif u10 then .int .i64 (x0) else s93), (bif u11 then .int .i64 (dx) else s94), (bif u12 then .int .i64 (a0) else s95), (bif u13 then .slice (some ⟨b, 0, none⟩) m cap else s96), (bif u14 then .int .i64 (i : Int) else s97), (bif u15 then .int .i64 (j : Int) else s98), (bif u16 then .pointer (some ⟨b, j * 2, none⟩) else s99), (bif u17 then .pointer (some ⟨b, j * 2 + 1, none⟩) else s100), (bif u18 then .int .i64 (y1) else s101), (bif u19 then .slice (some ⟨b, 0, none⟩) m cap else s102), (bif u20 then .int .i64 (i : Int) else s103), (bif u21 then .pointer (some ⟨b, i * 2, none⟩) else s104), (bif u22 then .pointer (some ⟨b, i * 2 + 1, none⟩) else s105), (bif u23 then .int .i64 (y0) else s106), (bif u24 then .int .i64 (dy) else s107), (bif u25 then .int .i64 (a1) else s108), (bif u26 then .int .i64 (ln) else s109), (bif u27 then .slice (some ⟨pb, 0, none⟩) n cu else s110), (bif u28 then .int .i64 (i : Int) else s111), (bif u29 then .pointer (some ⟨pb, i, none⟩) else s112), (bif u30 then .int .i64 (l) else s113), (bif u31 then .bool (ln != l) else s114), s115, s116, s117, s118, s119, s120, s121, s122, s123, s124, s125, s126, s127, s128, s129, s130, s131, s132, s133, s134, s135, s136, s137, s138, s139, s140, s141, s142, s143, s144, s145, s146, s147, s148, s149, s150, s151, s152, s153, s154, s155, s156, s157, s158, s159, s160, s161, s162, s163, s164, s165, s166, s167, s168, s169, s170, s171, s172, s173, s174, s175, s176, s177, s178, s179, s180, s181, s182, s183, s184, s185, s186, s187, s188, s189, s190, s191, s192, s193, s194, s195, s196, s197, s198, s199, s200, s201, s202, s203, s204, s205, s206, s207, s208, s209, s210, s211, s212, s213, s214, s215, s216, s217, s218, s219, s220, s221, s222, s223, s224, s225, s226, s227, s228, s229, s230, s231, s232, s233, s234, s235, s236, s237, s238, s239, s240, s241], defers := [] } : Act) ∧ Below V.heap.size V W ∧ (u2 = true → u1 = true) ∧ (u3 = true → u0 = true ∧ u2 = true) ∧ (u4 = true → u3 = true) ∧ (u5 = true → u4 = true) ∧ (u8 = true → u6 = true ∧ u7 = true) ∧ (u9 = true → u8 = true) ∧ (u10 = true → u9 = true) ∧ (u11 = true → u5 = true ∧ u10 = true) ∧ (u12 = true → u11 = true) ∧ (u15 = true → u14 = true) ∧ (u16 = true → u13 = true ∧ u15 = true) ∧ (u17 = true → u16 = true) ∧ (u18 = true → u17 = true) ∧ (u21 = true → u19 = true ∧ u20 = true) ∧ (u22 = true → u21 = true) ∧ (u23 = true → u22 = true) ∧ (u24 = true → u18 = true ∧ u23 = true) ∧ (u25 = true → u24 = true ∧ u12 = true) ∧ (u26 = true → u12 = true ∧ u25 = true) ∧ (u29 = true → u27 = true ∧ u28 = true) ∧ (u30 = true → u29 = true) ∧ (u31 = true → u0 = true ∧ u1 = true ∧ u2 = true ∧ u3 = true ∧ u4 = true ∧ u5 = true ∧ u6 = true ∧ u7 = true ∧ u8 = true ∧ u9 = true ∧ u10 = true ∧ u11 = true ∧ u12 = true ∧ u13 = true ∧ u14 = true ∧ u15 = true ∧ u16 = true ∧ u17 = true ∧ u18 = true ∧ u19 = true ∧ u20 = true ∧ u21 = true ∧ u22 = true ∧ u23 = true ∧ u24 = true ∧ u25 = true ∧ u26 = true ∧ u27 = true ∧ u28 = true ∧ u29 = true ∧ u30 = true)) (by kernel_rfl) (by kernel_rfl) ?h0 ?hstep ?hend
  case h0 =>
    exact ⟨false, false, false, false, false, false, false, false, false, false, false, false, false, false, false, false, false, false, false, false, false, false, false, false, false, false, false, false, false, false, false, false, 0, rfl, rfl, Below.drew (Below.refl _ _), zf, zf, zf, zf, zf, zf, zf, zf, zf, zf, zf, zf, zf, zf, zf, zf, zf, zf, zf, zf, zf, zf⟩
  case hstep =>
    intro Lb A W hI
    obtain ⟨u0, u1, u2, u3, u4, hI⟩ := hI
    obtain ⟨u5, u6, u7, u8, u9, hI⟩ := hI
    obtain ⟨u10, u11, u12, u13, u14, hI⟩ := hI
    obtain ⟨u15, u16, u17, u18, u19, hI⟩ := hI
    obtain ⟨u20, u21, u22, u23, u24, hI⟩ := hI
    obtain ⟨u25, u26, u27, u28, u29, hI⟩ := hI
    obtain ⟨u30, u31, dm, hI⟩ := hI
    obtain ⟨hLb, hI⟩ := hI
    obtain ⟨hA, hI⟩ := hI
    obtain ⟨kB, hI⟩ := hI
    obtain ⟨l2, hI⟩ := hI
    obtain ⟨l3, hI⟩ := hI
    obtain ⟨l4, hI⟩ := hI
    obtain ⟨l5, hI⟩ := hI
    obtain ⟨l8, hI⟩ := hI
    obtain ⟨l9, hI⟩ := hI
    obtain ⟨l10, hI⟩ := hI
    obtain ⟨l11, hI⟩ := hI
    obtain ⟨l12, hI⟩ := hI
    obtain ⟨l15, hI⟩ := hI
    obtain ⟨l16, hI⟩ := hI
    obtain ⟨l17, hI⟩ := hI
    obtain ⟨l18, hI⟩ := hI
    obtain ⟨l21, hI⟩ := hI
    obtain ⟨l22, hI⟩ := hI
    obtain ⟨l23, hI⟩ := hI
    obtain ⟨l24, hI⟩ := hI
    obtain ⟨l25, hI⟩ := hI
    obtain ⟨l26, hI⟩ := hI
    obtain ⟨l29, hI⟩ := hI
    obtain ⟨l30, hI⟩ := hI
    have kF := hI
    clear hI
    subst hLb
    subst hA
    replace kB := hide kB
    replace l2 := hide l2
    replace l3 := hide l3
    replace l4 := hide l4
    replace l5 := hide l5
    replace l8 := hide l8
    replace l9 := hide l9
    replace l10 := hide l10
    replace l11 := hide l11
    replace l12 := hide l12
    replace l15 := hide l15
    replace l16 := hide l16
    replace l17 := hide l17
    replace l18 := hide l18
    replace l21 := hide l21
    replace l22 := hide l22
    replace l23 := hide l23
    replace l24 := hide l24
    replace l25 := hide l25
    replace l26 := hide l26
    replace l29 := hide l29
    replace l30 := hide l30
    replace kF := hide kF
    refine ⟨?_, ?_, ?_, ?_, ?_, ?_, ?_, ?_, ?_, ?_, ?_, ?_, ?_, ?_, ?_, ?_, ?_, ?_, ?_, ?_, ?_, ?_, ?_, ?_, ?_, ?_, ?_, ?_, ?_, ?_, ?_, ?_, trivial⟩
    · intro h0 hd K hK
      have z : u0 = false := h0
      have z31_ : u31 = false := znb fun hu => z.symm.trans ((zu kF hu).1)
      subst z31_
      subst z
      clear h0 hd
      rw [if_pos (by rfl)]
      go_simp
      exact unhide hK _ _ ⟨true, u1, u2, u3, u4, u5, u6, u7, u8, u9, u10, u11, u12, u13, u14, u15, u16, u17, u18, u19, u20, u21, u22, u23, u24, u25, u26, u27, u28, u29, u30, false, dm, rfl, rfl, zu kB, zu l2, (fun h => ⟨rfl, (zu l3 h).2⟩), zu l4, zu l5, zu l8, zu l9, zu l10, zu l11, zu l12, zu l15, zu l16, zu l17, zu l18, zu l21, zu l22, zu l23, zu l24, zu l25, zu l26, zu l29, zu l30, zf⟩
    · intro h0 hd K hK
      have z : u1 = false := h0
      have z31_ : u31 = false := znb fun hu => z.symm.trans ((zu kF hu).2.1)
      subst z31_
      subst z
      clear h0 hd
      rw [if_pos (by rfl)]
      go_simp
      exact unhide hK _ _ ⟨u0, true, u2, u3, u4, u5, u6, u7, u8, u9, u10, u11, u12, u13, u14, u15, u16, u17, u18, u19, u20, u21, u22, u23, u24, u25, u26, u27, u28, u29, u30, false, dm, rfl, rfl, zu kB, (fun h => rfl), zu l3, zu l4, zu l5, zu l8, zu l9, zu l10, zu l11, zu l12, zu l15, zu l16, zu l17, zu l18, zu l21, zu l22, zu l23, zu l24, zu l25, zu l26, zu l29, zu l30, zf⟩
    · intro h0 hd K hK
      have z : u2 = false := h0
      have z31_ : u31 = false := znb fun hu => z.symm.trans ((zu kF hu).2.2.1)
      have zd : u1 = true := by
        simp [Region.binds] at hd
        simp [hd]
      obtain ⟨rfl⟩ := zd
      subst z31_
      subst z
      clear h0 hd
      rw [if_pos (by rfl)]
      have wq := unhide HW2
      go_simp
      exact unhide hK _ _ ⟨u0, true, true, u3, u4, u5, u6, u7, u8, u9, u10, u11, u12, u13, u14, u15, u16, u17, u18, u19, u20, u21, u22, u23, u24, u25, u26, u27, u28, u29, u30, false, dm, rfl, rfl, zu kB, (fun _ => rfl), (fun h => ⟨(zu l3 h).1, rfl⟩), zu l4, zu l5, zu l8, zu l9, zu l10, zu l11, zu l12, zu l15, zu l16, zu l17, zu l18, zu l21, zu l22, zu l23, zu l24, zu l25, zu l26, zu l29, zu l30, zf⟩
    · intro h0 hd K hK
      have z : u3 = false := h0
      have z31_ : u31 = false := znb fun hu => z.symm.trans ((zu kF hu).2.2.2.1)
      have zd : u0 = true ∧ u2 = true := by
        simp [Region.binds] at hd
        simp [hd]
      obtain ⟨rfl, rfl⟩ := zd
      subst z31_
      subst z
      clear h0 hd
      rw [if_pos (by rfl)]
      have q1 : j < m := unhide HX3
      have q2 : (j : Int) < (m : Int) := by omega
      go_simp
      exact unhide hK _ _ ⟨true, u1, true, true, u4, u5, u6, u7, u8, u9, u10, u11, u12, u13, u14, u15, u16, u17, u18, u19, u20, u21, u22, u23, u24, u25, u26, u27, u28, u29, u30, false, dm, rfl, rfl, zu kB, zu l2, (fun _ => ⟨rfl, rfl⟩), (fun h => rfl), zu l5, zu l8, zu l9, zu l10, zu l11, zu l12, zu l15, zu l16, zu l17, zu l18, zu l21, zu l22, zu l23, zu l24, zu l25, zu l26, zu l29, zu l30, zf⟩
    · intro h0 hd K hK
      have z : u4 = false := h0
      have z31_ : u31 = false := znb fun hu => z.symm.trans ((zu kF hu).2.2.2.2.1)
      have zd : u3 = true := by
        simp [Region.binds] at hd
        simp [hd]
      obtain ⟨rfl⟩ := zd
      subst z31_
      subst z
      clear h0 hd
      rw [if_pos (by rfl)]
      go_simp
      exact unhide hK _ _ ⟨u0, u1, u2, true, true, u5, u6, u7, u8, u9, u10, u11, u12, u13, u14, u15, u16, u17, u18, u19, u20, u21, u22, u23, u24, u25, u26, u27, u28, u29, u30, false, dm, rfl, rfl, zu kB, zu l2, zu l3, (fun _ => rfl), (fun h => rfl), zu l8, zu l9, zu l10, zu l11, zu l12, zu l15, zu l16, zu l17, zu l18, zu l21, zu l22, zu l23, zu l24, zu l25, zu l26, zu l29, zu l30, zf⟩
    · intro h0 hd K hK
      have z : u5 = false := h0
      have z31_ : u31 = false := znb fun hu => z.symm.trans ((zu kF hu).2.2.2.2.2.1)
      have zd : u4 = true := by
        simp [Region.binds] at hd
        simp [hd]
      obtain ⟨rfl⟩ := zd
      subst z31_
      subst z
      clear h0 hd
      rw [if_pos (by rfl)]
      have c0 := keep1 (zu kB) (unhide HA0)
      go_simp
      exact unhide hK _ _ ⟨u0, u1, u2, u3, true, true, u6, u7, u8, u9, u10, u11, u12, u13, u14, u15, u16, u17, u18, u19, u20, u21, u22, u23, u24, u25, u26, u27, u28, u29, u30, false, dm, rfl, rfl, zu kB, zu l2, zu l3, zu l4, (fun _ => rfl), zu l8, zu l9, zu l10, (fun h => ⟨rfl, (zu l11 h).2⟩), zu l12, zu l15, zu l16, zu l17, zu l18, zu l21, zu l22, zu l23, zu l24, zu l25, zu l26, zu l29, zu l30, zf⟩
    · intro h0 hd K hK
      have z : u6 = false := h0
      have z31_ : u31 = false := znb fun hu => z.symm.trans ((zu kF hu).2.2.2.2.2.2.1)
      subst z31_
      subst z
      clear h0 hd
      rw [if_pos (by rfl)]
      go_simp
      exact unhide hK _ _ ⟨u0, u1, u2, u3, u4, u5, true, u7, u8, u9, u10, u11, u12, u13, u14, u15, u16, u17, u18, u19, u20, u21, u22, u23, u24, u25, u26, u27, u28, u29, u30, false, dm, rfl, rfl, zu kB, zu l2, zu l3, zu l4, zu l5, (fun h => ⟨rfl, (zu l8 h).2⟩), zu l9, zu l10, zu l11, zu l12, zu l15, zu l16, zu l17, zu l18, zu l21, zu l22, zu l23, zu l24, zu l25, zu l26, zu l29, zu l30, zf⟩
    · intro h0 hd K hK
      have z : u7 = false := h0
      have z31_ : u31 = false := znb fun hu => z.symm.trans ((zu kF hu).2.2.2.2.2.2.2.1)
      subst z31_
      subst z
      clear h0 hd
      rw [if_pos (by rfl)]
      go_simp
      exact unhide hK _ _ ⟨u0, u1, u2, u3, u4, u5, u6, true, u8, u9, u10, u11, u12, u13, u14, u15, u16, u17, u18, u19, u20, u21, u22, u23, u24, u25, u26, u27, u28, u29, u30, false, dm, rfl, rfl, zu kB, zu l2, zu l3, zu l4, zu l5, (fun h => ⟨(zu l8 h).1, rfl⟩), zu l9, zu l10, zu l11, zu l12, zu l15, zu l16, zu l17, zu l18, zu l21, zu l22, zu l23, zu l24, zu l25, zu l26, zu l29, zu l30, zf⟩
    · intro h0 hd K hK
      have z : u8 = false := h0
      have z31_ : u31 = false := znb fun hu => z.symm.trans ((zu kF hu).2.2.2.2.2.2.2.2.1)
      have zd : u6 = true ∧ u7 = true := by
        simp [Region.binds] at hd
        simp [hd]
      obtain ⟨rfl, rfl⟩ := zd
      subst z31_
      subst z
      clear h0 hd
      rw [if_pos (by rfl)]
      have q1 : i < m := unhide HX8
      have q2 : (i : Int) < (m : Int) := by omega
      go_simp
      exact unhide hK _ _ ⟨u0, u1, u2, u3, u4, u5, true, true, true, u9, u10, u11, u12, u13, u14, u15, u16, u17, u18, u19, u20, u21, u22, u23, u24, u25, u26, u27, u28, u29, u30, false, dm, rfl, rfl, zu kB, zu l2, zu l3, zu l4, zu l5, (fun _ => ⟨rfl, rfl⟩), (fun h => rfl), zu l10, zu l11, zu l12, zu l15, zu l16, zu l17, zu l18, zu l21, zu l22, zu l23, zu l24, zu l25, zu l26, zu l29, zu l30, zf⟩
    · intro h0 hd K hK
      have z : u9 = false := h0
      have z31_ : u31 = false := znb fun hu => z.symm.trans ((zu kF hu).2.2.2.2.2.2.2.2.2.1)
      have zd : u8 = true := by
        simp [Region.binds] at hd
        simp [hd]
      obtain ⟨rfl⟩ := zd
      subst z31_
      subst z
      clear h0 hd
      rw [if_pos (by rfl)]
      go_simp
      exact unhide hK _ _ ⟨u0, u1, u2, u3, u4, u5, u6, u7, true, true, u10, u11, u12, u13, u14, u15, u16, u17, u18, u19, u20, u21, u22, u23, u24, u25, u26, u27, u28, u29, u30, false, dm, rfl, rfl, zu kB, zu l2, zu l3, zu l4, zu l5, zu l8, (fun _ => rfl), (fun h => rfl), zu l11, zu l12, zu l15, zu l16, zu l17, zu l18, zu l21, zu l22, zu l23, zu l24, zu l25, zu l26, zu l29, zu l30, zf⟩
    · intro h0 hd K hK
      have z : u10 = false := h0
      have z31_ : u31 = false := znb fun hu => z.symm.trans ((zu kF hu).2.2.2.2.2.2.2.2.2.2.1)
      have zd : u9 = true := by
        simp [Region.binds] at hd
        simp [hd]
      obtain ⟨rfl⟩ := zd
      subst z31_
      subst z
      clear h0 hd
      rw [if_pos (by rfl)]
      have c0 := keep1 (zu kB) (unhide HB0)
      go_simp
      exact unhide hK _ _ ⟨u0, u1, u2, u3, u4, u5, u6, u7, u8, true, true, u11, u12, u13, u14, u15, u16, u17, u18, u19, u20, u21, u22, u23, u24, u25, u26, u27, u28, u29, u30, false, dm, rfl, rfl, zu kB, zu l2, zu l3, zu l4, zu l5, zu l8, zu l9, (fun _ => rfl), (fun h => ⟨(zu l11 h).1, rfl⟩), zu l12, zu l15, zu l16, zu l17, zu l18, zu l21, zu l22, zu l23, zu l24, zu l25, zu l26, zu l29, zu l30, zf⟩
    · intro h0 hd K hK
      have z : u11 = false := h0
      have z31_ : u31 = false := znb fun hu => z.symm.trans ((zu kF hu).2.2.2.2.2.2.2.2.2.2.2.1)
      have zd : u5 = true ∧ u10 = true := by
        simp [Region.binds] at hd
        simp [hd]
      obtain ⟨rfl, rfl⟩ := zd
      subst z31_
      subst z
      clear h0 hd
      rw [if_pos (by rfl)]
      have wq := unhide HW11
      go_simp
      exact unhide hK _ _ ⟨u0, u1, u2, u3, u4, true, u6, u7, u8, u9, true, true, u12, u13, u14, u15, u16, u17, u18, u19, u20, u21, u22, u23, u24, u25, u26, u27, u28, u29, u30, false, dm, rfl, rfl, zu kB, zu l2, zu l3, zu l4, zu l5, zu l8, zu l9, zu l10, (fun _ => ⟨rfl, rfl⟩), (fun h => rfl), zu l15, zu l16, zu l17, zu l18, zu l21, zu l22, zu l23, zu l24, zu l25, zu l26, zu l29, zu l30, zf⟩
    · intro h0 hd K hK
      have z : u12 = false := h0
      have z31_ : u31 = false := znb fun hu => z.symm.trans ((zu kF hu).2.2.2.2.2.2.2.2.2.2.2.2.1)
      have zd : u11 = true := by
        simp [Region.binds] at hd
        simp [hd]
      obtain ⟨rfl⟩ := zd
      subst z31_
      subst z
      clear h0 hd
      rw [if_pos (by rfl)]
      go_simp
      refine (unhide HF12 W (zu kB)).mono ?_
      rintro e w8 ⟨rfl, hb8⟩
      exact unhide hK _ _ ⟨u0, u1, u2, u3, u4, u5, u6, u7, u8, u9, u10, true, true, u13, u14, u15, u16, u17, u18, u19, u20, u21, u22, u23, u24, u25, u26, u27, u28, u29, u30, false, dm, rfl, rfl, bc (zu kB) hb8, zu l2, zu l3, zu l4, zu l5, zu l8, zu l9, zu l10, zu l11, (fun _ => rfl), zu l15, zu l16, zu l17, zu l18, zu l21, zu l22, zu l23, zu l24, (fun h => ⟨(zu l25 h).1, rfl⟩), (fun h => ⟨rfl, (zu l26 h).2⟩), zu l29, zu l30, zf⟩
    · intro h0 hd K hK
      have z : u13 = false := h0
      have z31_ : u31 = false := znb fun hu => z.symm.trans ((zu kF hu).2.2.2.2.2.2.2.2.2.2.2.2.2.1)
      subst z31_
      subst z
      clear h0 hd
      rw [if_pos (by rfl)]
      go_simp
      exact unhide hK _ _ ⟨u0, u1, u2, u3, u4, u5, u6, u7, u8, u9, u10, u11, u12, true, u14, u15, u16, u17, u18, u19, u20, u21, u22, u23, u24, u25, u26, u27, u28, u29, u30, false, dm, rfl, rfl, zu kB, zu l2, zu l3, zu l4, zu l5, zu l8, zu l9, zu l10, zu l11, zu l12, zu l15, (fun h => ⟨rfl, (zu l16 h).2⟩), zu l17, zu l18, zu l21, zu l22, zu l23, zu l24, zu l25, zu l26, zu l29, zu l30, zf⟩
    · intro h0 hd K hK
      have z : u14 = false := h0
      have z31_ : u31 = false := znb fun hu => z.symm.trans ((zu kF hu).2.2.2.2.2.2.2.2.2.2.2.2.2.2.1)
      subst z31_
      subst z
      clear h0 hd
      rw [if_pos (by rfl)]
      go_simp
      exact unhide hK _ _ ⟨u0, u1, u2, u3, u4, u5, u6, u7, u8, u9, u10, u11, u12, u13, true, u15, u16, u17, u18, u19, u20, u21, u22, u23, u24, u25, u26, u27, u28, u29, u30, false, dm, rfl, rfl, zu kB, zu l2, zu l3, zu l4, zu l5, zu l8, zu l9, zu l10, zu l11, zu l12, (fun h => rfl), zu l16, zu l17, zu l18, zu l21, zu l22, zu l23, zu l24, zu l25, zu l26, zu l29, zu l30, zf⟩
    · intro h0 hd K hK
      have z : u15 = false := h0
      have z31_ : u31 = false := znb fun hu => z.symm.trans ((zu kF hu).2.2.2.2.2.2.2.2.2.2.2.2.2.2.2.1)
      have zd : u14 = true := by
        simp [Region.binds] at hd
        simp [hd]
      obtain ⟨rfl⟩ := zd
      subst z31_
      subst z
      clear h0 hd
      rw [if_pos (by rfl)]
      have wq := unhide HW15
      go_simp
      exact unhide hK _ _ ⟨u0, u1, u2, u3, u4, u5, u6, u7, u8, u9, u10, u11, u12, u13, true, true, u16, u17, u18, u19, u20, u21, u22, u23, u24, u25, u26, u27, u28, u29, u30, false, dm, rfl, rfl, zu kB, zu l2, zu l3, zu l4, zu l5, zu l8, zu l9, zu l10, zu l11, zu l12, (fun _ => rfl), (fun h => ⟨(zu l16 h).1, rfl⟩), zu l17, zu l18, zu l21, zu l22, zu l23, zu l24, zu l25, zu l26, zu l29, zu l30, zf⟩
    · intro h0 hd K hK
      have z : u16 = false := h0
      have z31_ : u31 = false := znb fun hu => z.symm.trans ((zu kF hu).2.2.2.2.2.2.2.2.2.2.2.2.2.2.2.2.1)
      have zd : u13 = true ∧ u15 = true := by
        simp [Region.binds] at hd
        simp [hd]
      obtain ⟨rfl, rfl⟩ := zd
      subst z31_
      subst z
      clear h0 hd
      rw [if_pos (by rfl)]
      have q1 : j < m := unhide HX16
      have q2 : (j : Int) < (m : Int) := by omega
      go_simp
      exact unhide hK _ _ ⟨u0, u1, u2, u3, u4, u5, u6, u7, u8, u9, u10, u11, u12, true, u14, true, true, u17, u18, u19, u20, u21, u22, u23, u24, u25, u26, u27, u28, u29, u30, false, dm, rfl, rfl, zu kB, zu l2, zu l3, zu l4, zu l5, zu l8, zu l9, zu l10, zu l11, zu l12, zu l15, (fun _ => ⟨rfl, rfl⟩), (fun h => rfl), zu l18, zu l21, zu l22, zu l23, zu l24, zu l25, zu l26, zu l29, zu l30, zf⟩
    · intro h0 hd K hK
      have z : u17 = false := h0
      have z31_ : u31 = false := znb fun hu => z.symm.trans ((zu kF hu).2.2.2.2.2.2.2.2.2.2.2.2.2.2.2.2.2.1)
      have zd : u16 = true := by
        simp [Region.binds] at hd
        simp [hd]
      obtain ⟨rfl⟩ := zd
      subst z31_
      subst z
      clear h0 hd
      rw [if_pos (by rfl)]
      go_simp
      exact unhide hK _ _ ⟨u0, u1, u2, u3, u4, u5, u6, u7, u8, u9, u10, u11, u12, u13, u14, u15, true, true, u18, u19, u20, u21, u22, u23, u24, u25, u26, u27, u28, u29, u30, false, dm, rfl, rfl, zu kB, zu l2, zu l3, zu l4, zu l5, zu l8, zu l9, zu l10, zu l11, zu l12, zu l15, zu l16, (fun _ => rfl), (fun h => rfl), zu l21, zu l22, zu l23, zu l24, zu l25, zu l26, zu l29, zu l30, zf⟩
    · intro h0 hd K hK
      have z : u18 = false := h0
      have z31_ : u31 = false := znb fun hu => z.symm.trans ((zu kF hu).2.2.2.2.2.2.2.2.2.2.2.2.2.2.2.2.2.2.1)
      have zd : u17 = true := by
        simp [Region.binds] at hd
        simp [hd]
      obtain ⟨rfl⟩ := zd
      subst z31_
      subst z
      clear h0 hd
      rw [if_pos (by rfl)]
      have c0 := keep1 (zu kB) (unhide HA1)
      go_simp
      exact unhide hK _ _ ⟨u0, u1, u2, u3, u4, u5, u6, u7, u8, u9, u10, u11, u12, u13, u14, u15, u16, true, true, u19, u20, u21, u22, u23, u24, u25, u26, u27, u28, u29, u30, false, dm, rfl, rfl, zu kB, zu l2, zu l3, zu l4, zu l5, zu l8, zu l9, zu l10, zu l11, zu l12, zu l15, zu l16, zu l17, (fun _ => rfl), zu l21, zu l22, zu l23, (fun h => ⟨rfl, (zu l24 h).2⟩), zu l25, zu l26, zu l29, zu l30, zf⟩
    · intro h0 hd K hK
      have z : u19 = false := h0
      have z31_ : u31 = false := znb fun hu => z.symm.trans ((zu kF hu).2.2.2.2.2.2.2.2.2.2.2.2.2.2.2.2.2.2.2.1)
      subst z31_
      subst z
      clear h0 hd
      rw [if_pos (by rfl)]
      go_simp
      exact unhide hK _ _ ⟨u0, u1, u2, u3, u4, u5, u6, u7, u8, u9, u10, u11, u12, u13, u14, u15, u16, u17, u18, true, u20, u21, u22, u23, u24, u25, u26, u27, u28, u29, u30, false, dm, rfl, rfl, zu kB, zu l2, zu l3, zu l4, zu l5, zu l8, zu l9, zu l10, zu l11, zu l12, zu l15, zu l16, zu l17, zu l18, (fun h => ⟨rfl, (zu l21 h).2⟩), zu l22, zu l23, zu l24, zu l25, zu l26, zu l29, zu l30, zf⟩
    · intro h0 hd K hK
      have z : u20 = false := h0
      have z31_ : u31 = false := znb fun hu => z.symm.trans ((zu kF hu).2.2.2.2.2.2.2.2.2.2.2.2.2.2.2.2.2.2.2.2.1)
      subst z31_
      subst z
      clear h0 hd
      rw [if_pos (by rfl)]
      go_simp
      exact unhide hK _ _ ⟨u0, u1, u2, u3, u4, u5, u6, u7, u8, u9, u10, u11, u12, u13, u14, u15, u16, u17, u18, u19, true, u21, u22, u23, u24, u25, u26, u27, u28, u29, u30, false, dm, rfl, rfl, zu kB, zu l2, zu l3, zu l4, zu l5, zu l8, zu l9, zu l10, zu l11, zu l12, zu l15, zu l16, zu l17, zu l18, (fun h => ⟨(zu l21 h).1, rfl⟩), zu l22, zu l23, zu l24, zu l25, zu l26, zu l29, zu l30, zf⟩
    · intro h0 hd K hK
      have z : u21 = false := h0
      have z31_ : u31 = false := znb fun hu => z.symm.trans ((zu kF hu).2.2.2.2.2.2.2.2.2.2.2.2.2.2.2.2.2.2.2.2.2.1)
      have zd : u19 = true ∧ u20 = true := by
        simp [Region.binds] at hd
        simp [hd]
      obtain ⟨rfl, rfl⟩ := zd
      subst z31_
      subst z
      clear h0 hd
      rw [if_pos (by rfl)]
      have q1 : i < m := unhide HX21
      have q2 : (i : Int) < (m : Int) := by omega
      go_simp
      exact unhide hK _ _ ⟨u0, u1, u2, u3, u4, u5, u6, u7, u8, u9, u10, u11, u12, u13, u14, u15, u16, u17, u18, true, true, true, u22, u23, u24, u25, u26, u27, u28, u29, u30, false, dm, rfl, rfl, zu kB, zu l2, zu l3, zu l4, zu l5, zu l8, zu l9, zu l10, zu l11, zu l12, zu l15, zu l16, zu l17, zu l18, (fun _ => ⟨rfl, rfl⟩), (fun h => rfl), zu l23, zu l24, zu l25, zu l26, zu l29, zu l30, zf⟩
    · intro h0 hd K hK
      have z : u22 = false := h0
      have z31_ : u31 = false := znb fun hu => z.symm.trans ((zu kF hu).2.2.2.2.2.2.2.2.2.2.2.2.2.2.2.2.2.2.2.2.2.2.1)
      have zd : u21 = true := by
        simp [Region.binds] at hd
        simp [hd]
      obtain ⟨rfl⟩ := zd
      subst z31_
      subst z
      clear h0 hd
      rw [if_pos (by rfl)]
      go_simp
      exact unhide hK _ _ ⟨u0, u1, u2, u3, u4, u5, u6, u7, u8, u9, u10, u11, u12, u13, u14, u15, u16, u17, u18, u19, u20, true, true, u23, u24, u25, u26, u27, u28, u29, u30, false, dm, rfl, rfl, zu kB, zu l2, zu l3, zu l4, zu l5, zu l8, zu l9, zu l10, zu l11, zu l12, zu l15, zu l16, zu l17, zu l18, zu l21, (fun _ => rfl), (fun h => rfl), zu l24, zu l25, zu l26, zu l29, zu l30, zf⟩
    · intro h0 hd K hK
      have z : u23 = false := h0
      have z31_ : u31 = false := znb fun hu => z.symm.trans ((zu kF hu).2.2.2.2.2.2.2.2.2.2.2.2.2.2.2.2.2.2.2.2.2.2.2.1)
      have zd : u22 = true := by
        simp [Region.binds] at hd
        simp [hd]
      obtain ⟨rfl⟩ := zd
      subst z31_
      subst z
      clear h0 hd
      rw [if_pos (by rfl)]
      have c0 := keep1 (zu kB) (unhide HB1)
      go_simp
      exact unhide hK _ _ ⟨u0, u1, u2, u3, u4, u5, u6, u7, u8, u9, u10, u11, u12, u13, u14, u15, u16, u17, u18, u19, u20, u21, true, true, u24, u25, u26, u27, u28, u29, u30, false, dm, rfl, rfl, zu kB, zu l2, zu l3, zu l4, zu l5, zu l8, zu l9, zu l10, zu l11, zu l12, zu l15, zu l16, zu l17, zu l18, zu l21, zu l22, (fun _ => rfl), (fun h => ⟨(zu l24 h).1, rfl⟩), zu l25, zu l26, zu l29, zu l30, zf⟩
    · intro h0 hd K hK
      have z : u24 = false := h0
      have z31_ : u31 = false := znb fun hu => z.symm.trans ((zu kF hu).2.2.2.2.2.2.2.2.2.2.2.2.2.2.2.2.2.2.2.2.2.2.2.2.1)
      have zd : u18 = true ∧ u23 = true := by
        simp [Region.binds] at hd
        simp [hd]
      obtain ⟨rfl, rfl⟩ := zd
      subst z31_
      subst z
      clear h0 hd
      rw [if_pos (by rfl)]
      have wq := unhide HW24
      go_simp
      exact unhide hK _ _ ⟨u0, u1, u2, u3, u4, u5, u6, u7, u8, u9, u10, u11, u12, u13, u14, u15, u16, u17, true, u19, u20, u21, u22, true, true, u25, u26, u27, u28, u29, u30, false, dm, rfl, rfl, zu kB, zu l2, zu l3, zu l4, zu l5, zu l8, zu l9, zu l10, zu l11, zu l12, zu l15, zu l16, zu l17, zu l18, zu l21, zu l22, zu l23, (fun _ => ⟨rfl, rfl⟩), (fun h => ⟨rfl, (zu l25 h).2⟩), zu l26, zu l29, zu l30, zf⟩
    · intro h0 hd K hK
      have z : u25 = false := h0
      have z31_ : u31 = false := znb fun hu => z.symm.trans ((zu kF hu).2.2.2.2.2.2.2.2.2.2.2.2.2.2.2.2.2.2.2.2.2.2.2.2.2.1)
      have zd : u24 = true ∧ u12 = true := by
        simp [Region.binds] at hd
        simp [hd]
      obtain ⟨rfl, rfl⟩ := zd
      subst z31_
      subst z
      clear h0 hd
      rw [if_pos (by rfl)]
      go_simp
      refine (unhide HF25 W (zu kB)).mono ?_
      rintro e w8 ⟨rfl, hb8⟩
      exact unhide hK _ _ ⟨u0, u1, u2, u3, u4, u5, u6, u7, u8, u9, u10, u11, true, u13, u14, u15, u16, u17, u18, u19, u20, u21, u22, u23, true, true, u26, u27, u28, u29, u30, false, dm, rfl, rfl, bc (zu kB) hb8, zu l2, zu l3, zu l4, zu l5, zu l8, zu l9, zu l10, zu l11, zu l12, zu l15, zu l16, zu l17, zu l18, zu l21, zu l22, zu l23, zu l24, (fun _ => ⟨rfl, rfl⟩), (fun h => ⟨rfl, rfl⟩), zu l29, zu l30, zf⟩
    · intro h0 hd K hK
      have z : u26 = false := h0
      have z31_ : u31 = false := znb fun hu => z.symm.trans ((zu kF hu).2.2.2.2.2.2.2.2.2.2.2.2.2.2.2.2.2.2.2.2.2.2.2.2.2.2.1)
      have zd : u12 = true ∧ u25 = true := by
        simp [Region.binds] at hd
        simp [hd]
      obtain ⟨rfl, rfl⟩ := zd
      subst z31_
      subst z
      clear h0 hd
      rw [if_pos (by rfl)]
      have wq := unhide HW26
      go_simp
      exact unhide hK _ _ ⟨u0, u1, u2, u3, u4, u5, u6, u7, u8, u9, u10, u11, true, u13, u14, u15, u16, u17, u18, u19, u20, u21, u22, u23, u24, true, true, u27, u28, u29, u30, false, dm, rfl, rfl, zu kB, zu l2, zu l3, zu l4, zu l5, zu l8, zu l9, zu l10, zu l11, zu l12, zu l15, zu l16, zu l17, zu l18, zu l21, zu l22, zu l23, zu l24, (fun h => ⟨(zu l25 h).1, rfl⟩), (fun _ => ⟨rfl, rfl⟩), zu l29, zu l30, zf⟩
    · intro h0 hd K hK
      have z : u27 = false := h0
      have z31_ : u31 = false := znb fun hu => z.symm.trans ((zu kF hu).2.2.2.2.2.2.2.2.2.2.2.2.2.2.2.2.2.2.2.2.2.2.2.2.2.2.2.1)
      subst z31_
      subst z
      clear h0 hd
      rw [if_pos (by rfl)]
      go_simp
      exact unhide hK _ _ ⟨u0, u1, u2, u3, u4, u5, u6, u7, u8, u9, u10, u11, u12, u13, u14, u15, u16, u17, u18, u19, u20, u21, u22, u23, u24, u25, u26, true, u28, u29, u30, false, dm, rfl, rfl, zu kB, zu l2, zu l3, zu l4, zu l5, zu l8, zu l9, zu l10, zu l11, zu l12, zu l15, zu l16, zu l17, zu l18, zu l21, zu l22, zu l23, zu l24, zu l25, zu l26, (fun h => ⟨rfl, (zu l29 h).2⟩), zu l30, zf⟩
    · intro h0 hd K hK
      have z : u28 = false := h0
      have z31_ : u31 = false := znb fun hu => z.symm.trans ((zu kF hu).2.2.2.2.2.2.2.2.2.2.2.2.2.2.2.2.2.2.2.2.2.2.2.2.2.2.2.2.1)
      subst z31_
      subst z
      clear h0 hd
      rw [if_pos (by rfl)]
      go_simp
      exact unhide hK _ _ ⟨u0, u1, u2, u3, u4, u5, u6, u7, u8, u9, u10, u11, u12, u13, u14, u15, u16, u17, u18, u19, u20, u21, u22, u23, u24, u25, u26, u27, true, u29, u30, false, dm, rfl, rfl, zu kB, zu l2, zu l3, zu l4, zu l5, zu l8, zu l9, zu l10, zu l11, zu l12, zu l15, zu l16, zu l17, zu l18, zu l21, zu l22, zu l23, zu l24, zu l25, zu l26, (fun h => ⟨(zu l29 h).1, rfl⟩), zu l30, zf⟩
    · intro h0 hd K hK
      have z : u29 = false := h0
      have z31_ : u31 = false := znb fun hu => z.symm.trans ((zu kF hu).2.2.2.2.2.2.2.2.2.2.2.2.2.2.2.2.2.2.2.2.2.2.2.2.2.2.2.2.2.1)
      have zd : u27 = true ∧ u28 = true := by
        simp [Region.binds] at hd
        simp [hd]
      obtain ⟨rfl, rfl⟩ := zd
      subst z31_
      subst z
      clear h0 hd
      rw [if_pos (by rfl)]
      have q1 : i < n := unhide HX29
      have q2 : (i : Int) < (n : Int) := by omega
      go_simp
      exact unhide hK _ _ ⟨u0, u1, u2, u3, u4, u5, u6, u7, u8, u9, u10, u11, u12, u13, u14, u15, u16, u17, u18, u19, u20, u21, u22, u23, u24, u25, u26, true, true, true, u30, false, dm, rfl, rfl, zu kB, zu l2, zu l3, zu l4, zu l5, zu l8, zu l9, zu l10, zu l11, zu l12, zu l15, zu l16, zu l17, zu l18, zu l21, zu l22, zu l23, zu l24, zu l25, zu l26, (fun _ => ⟨rfl, rfl⟩), (fun h => rfl), zf⟩
    · intro h0 hd K hK
      have z : u30 = false := h0
      have z31_ : u31 = false := znb fun hu => z.symm.trans ((zu kF hu).2.2.2.2.2.2.2.2.2.2.2.2.2.2.2.2.2.2.2.2.2.2.2.2.2.2.2.2.2.2)
      have zd : u29 = true := by
        simp [Region.binds] at hd
        simp [hd]
      obtain ⟨rfl⟩ := zd
      subst z31_
      subst z
      clear h0 hd
      rw [if_pos (by rfl)]
      have c0 := keep1 (zu kB) (unhide HC)
      go_simp
      exact unhide hK _ _ ⟨u0, u1, u2, u3, u4, u5, u6, u7, u8, u9, u10, u11, u12, u13, u14, u15, u16, u17, u18, u19, u20, u21, u22, u23, u24, u25, u26, u27, u28, true, true, false, dm, rfl, rfl, zu kB, zu l2, zu l3, zu l4, zu l5, zu l8, zu l9, zu l10, zu l11, zu l12, zu l15, zu l16, zu l17, zu l18, zu l21, zu l22, zu l23, zu l24, zu l25, zu l26, zu l29, (fun _ => rfl), zf⟩
    · intro h0 hd K hK
      have z : u31 = false := h0
      have zd0 : u26 = true ∧ u30 = true := by
        simp [Region.binds] at hd
        simp [hd]
      have zd : u26 = true ∧ u30 = true ∧ u0 = true ∧ u1 = true ∧ u2 = true ∧ u3 = true ∧ u4 = true ∧ u5 = true ∧ u6 = true ∧ u7 = true ∧ u8 = true ∧ u9 = true ∧ u10 = true ∧ u11 = true ∧ u12 = true ∧ u13 = true ∧ u14 = true ∧ u15 = true ∧ u16 = true ∧ u17 = true ∧ u18 = true ∧ u19 = true ∧ u20 = true ∧ u21 = true ∧ u22 = true ∧ u23 = true ∧ u24 = true ∧ u25 = true ∧ u27 = true ∧ u28 = true ∧ u29 = true := ⟨zd0.1, zd0.2, (zu l3 (zu l4 (zu l5 (zu l11 (zu l12 (zu l26 zd0.1).1)).1))).1, (zu l2 (zu l3 (zu l4 (zu l5 (zu l11 (zu l12 (zu l26 zd0.1).1)).1))).2), (zu l3 (zu l4 (zu l5 (zu l11 (zu l12 (zu l26 zd0.1).1)).1))).2, (zu l4 (zu l5 (zu l11 (zu l12 (zu l26 zd0.1).1)).1)), (zu l5 (zu l11 (zu l12 (zu l26 zd0.1).1)).1), (zu l11 (zu l12 (zu l26 zd0.1).1)).1, (zu l8 (zu l9 (zu l10 (zu l11 (zu l12 (zu l26 zd0.1).1)).2))).1, (zu l8 (zu l9 (zu l10 (zu l11 (zu l12 (zu l26 zd0.1).1)).2))).2, (zu l9 (zu l10 (zu l11 (zu l12 (zu l26 zd0.1).1)).2)), (zu l10 (zu l11 (zu l12 (zu l26 zd0.1).1)).2), (zu l11 (zu l12 (zu l26 zd0.1).1)).2, (zu l12 (zu l26 zd0.1).1), (zu l26 zd0.1).1, (zu l16 (zu l17 (zu l18 (zu l24 (zu l25 (zu l26 zd0.1).2).1).1))).1, (zu l15 (zu l16 (zu l17 (zu l18 (zu l24 (zu l25 (zu l26 zd0.1).2).1).1))).2), (zu l16 (zu l17 (zu l18 (zu l24 (zu l25 (zu l26 zd0.1).2).1).1))).2, (zu l17 (zu l18 (zu l24 (zu l25 (zu l26 zd0.1).2).1).1)), (zu l18 (zu l24 (zu l25 (zu l26 zd0.1).2).1).1), (zu l24 (zu l25 (zu l26 zd0.1).2).1).1, (zu l21 (zu l22 (zu l23 (zu l24 (zu l25 (zu l26 zd0.1).2).1).2))).1, (zu l21 (zu l22 (zu l23 (zu l24 (zu l25 (zu l26 zd0.1).2).1).2))).2, (zu l22 (zu l23 (zu l24 (zu l25 (zu l26 zd0.1).2).1).2)), (zu l23 (zu l24 (zu l25 (zu l26 zd0.1).2).1).2), (zu l24 (zu l25 (zu l26 zd0.1).2).1).2, (zu l25 (zu l26 zd0.1).2).1, (zu l26 zd0.1).2, (zu l29 (zu l30 zd0.2)).1, (zu l29 (zu l30 zd0.2)).2, (zu l30 zd0.2)⟩
      obtain ⟨rfl, rfl, rfl, rfl, rfl, rfl, rfl, rfl, rfl, rfl, rfl, rfl, rfl, rfl, rfl, rfl, rfl, rfl, rfl, rfl, rfl, rfl, rfl, rfl, rfl, rfl, rfl, rfl, rfl, rfl, rfl⟩ := zd
      subst z
      clear h0 hd
      rw [if_pos (by rfl)]
      go_simp
      exact unhide hK _ _ ⟨true, true, true, true, true, true, true, true, true, true, true, true, true, true, true, true, true, true, true, true, true, true, true, true, true, true, true, true, true, true, true, true, dm, rfl, rfl, zu kB, (fun _ => rfl), (fun _ => ⟨rfl, rfl⟩), (fun _ => rfl), (fun _ => rfl), (fun _ => ⟨rfl, rfl⟩), (fun _ => rfl), (fun _ => rfl), (fun _ => ⟨rfl, rfl⟩), (fun _ => rfl), (fun _ => rfl), (fun _ => ⟨rfl, rfl⟩), (fun _ => rfl), (fun _ => rfl), (fun _ => ⟨rfl, rfl⟩), (fun _ => rfl), (fun _ => rfl), (fun _ => ⟨rfl, rfl⟩), (fun _ => ⟨rfl, rfl⟩), (fun _ => ⟨rfl, rfl⟩), (fun _ => ⟨rfl, rfl⟩), (fun _ => rfl), (fun _ => ⟨rfl, rfl, rfl, rfl, rfl, rfl, rfl, rfl, rfl, rfl, rfl, rfl, rfl, rfl, rfl, rfl, rfl, rfl, rfl, rfl, rfl, rfl, rfl, rfl, rfl, rfl, rfl, rfl, rfl, rfl, rfl⟩)⟩
  case hend =>
    intro Lb A W hI
    obtain ⟨u0, u1, u2, u3, u4, hI⟩ := hI
    obtain ⟨u5, u6, u7, u8, u9, hI⟩ := hI
    obtain ⟨u10, u11, u12, u13, u14, hI⟩ := hI
    obtain ⟨u15, u16, u17, u18, u19, hI⟩ := hI
    obtain ⟨u20, u21, u22, u23, u24, hI⟩ := hI
    obtain ⟨u25, u26, u27, u28, u29, hI⟩ := hI
    obtain ⟨u30, u31, dm, hI⟩ := hI
    obtain ⟨hLb, hI⟩ := hI
    obtain ⟨hA, hI⟩ := hI
    obtain ⟨kB, hI⟩ := hI
    obtain ⟨l2, hI⟩ := hI
    obtain ⟨l3, hI⟩ := hI
    obtain ⟨l4, hI⟩ := hI
    obtain ⟨l5, hI⟩ := hI
    obtain ⟨l8, hI⟩ := hI
    obtain ⟨l9, hI⟩ := hI
    obtain ⟨l10, hI⟩ := hI
    obtain ⟨l11, hI⟩ := hI
    obtain ⟨l12, hI⟩ := hI
    obtain ⟨l15, hI⟩ := hI
    obtain ⟨l16, hI⟩ := hI
    obtain ⟨l17, hI⟩ := hI
    obtain ⟨l18, hI⟩ := hI
    obtain ⟨l21, hI⟩ := hI
    obtain ⟨l22, hI⟩ := hI
    obtain ⟨l23, hI⟩ := hI
    obtain ⟨l24, hI⟩ := hI
    obtain ⟨l25, hI⟩ := hI
    obtain ⟨l26, hI⟩ := hI
    obtain ⟨l29, hI⟩ := hI
    obtain ⟨l30, hI⟩ := hI
    have kF := hI
    clear hI
    subst hLb
    subst hA
    intro hL
    have hl : u0 = true ∧ u1 = true ∧ u2 = true ∧ u3 = true ∧ u4 = true ∧ u5 = true ∧ u6 = true ∧ u7 = true ∧ u8 = true ∧ u9 = true ∧ u10 = true ∧ u11 = true ∧ u12 = true ∧ u13 = true ∧ u14 = true ∧ u15 = true ∧ u16 = true ∧ u17 = true ∧ u18 = true ∧ u19 = true ∧ u20 = true ∧ u21 = true ∧ u22 = true ∧ u23 = true ∧ u24 = true ∧ u25 = true ∧ u26 = true ∧ u27 = true ∧ u28 = true ∧ u29 = true ∧ u30 = true ∧ u31 = true := by
      have h2 := congrArg Array.toList hL
      simpa [List.replicate] using h2
    obtain ⟨rfl, rfl, rfl, rfl, rfl, rfl, rfl, rfl, rfl, rfl, rfl, rfl, rfl, rfl, rfl, rfl, rfl, rfl, rfl, rfl, rfl, rfl, rfl, rfl, rfl, rfl, rfl, rfl, rfl, rfl, rfl, rfl⟩ := hl
    exact unhide HQ   W kB

set_option maxHeartbeats 4000000 in
set_option maxRecDepth 100000 in
theorem fb17 {s0 s1 s2 s3 s4 s7 s8 s10 s11 s12 s13 s14 s15 s16 s17 s18 s19 s20 s21 s22 s23 s24 s25 s26 s27 s28 s29 s30 s31 s32 s33 s34 s35 s36 s37 s38 s39 s40 s41 s42 s43 s44 s45 s46 s47 s48 s49 s50 s51 s52 s53 s54 s55 s56 s57 s58 s59 s60 s61 s62 s63 s64 s65 s66 s67 s68 s69 s70 s71 s72 s73 s74 s75 s76 s77 s78 s79 s80 s81 s82 s83 s84 s85 s86 s87 s88 s89 s90 s91 s92 s93 s94 s95 s96 s97 s98 s99 s100 s101 s102 s103 s104 s105 s106 s107 s108 s109 s110 s111 s112 s113 s114 s115 s116 s117 s118 s119 s120 s121 s122 s123 s124 s125 s126 s127 s128 s129 s130 s131 s132 s133 s134 s135 s136 s137 s138 s139 s140 s141 s142 s143 s144 s145 s146 s147 s148 s149 s150 s151 s152 s153 s154 s155 s156 s157 s158 s159 s160 s161 s162 s163 s164 s165 s166 s167 s168 s169 s170 s171 s172 s173 s174 s175 s176 s177 s178 s179 s180 s181 s182 s183 s184 s185 s186 s187 s188 s189 s190 s191 s192 s193 s194 s195 s196 s197 s198 s199 s200 s201 s202 s203 s204 s205 s206 s207 s208 s209 s210 s211 s212 s213 s214 s215 s216 s217 s218 s219 s220 s221 s222 s223 s224 s225 s226 s227 s228 s229 s230 s231 s232 s233 s234 s235 s236 s237 s238 s239 s240 s241 : Value} {pb n cu qb m cv bd c : Nat} {Pq : Value → Prop} {V : World} {K_ : Act → World → Prop} (hbc : bd ≤ cu) (hcc : c ≤ cv)
     
    (HW5 : Hid (IntKind.i64.wrap ((bd : Int) - 1) = (c : Int)))
    (HF8 : Hid (∀ Xw, Below V.heap.size V Xw → Calls Try.prog 8 #[.slice (some ⟨pb, 0, none⟩) bd cu, .slice (some ⟨qb, 0, none⟩) c cv] Xw fun e w' => (∃ r_, e = .returned (.tuple #[r_, .int .i64 (0), .int .i64 (0)]) ∧ Pq r_) ∧ Below Xw.heap.size Xw w'))
    (hQ : ∀  (sv : Value) (W1 : World), Below V.heap.size V W1 → Pq sv → K_ { tmps := #[s0, s1, s2, s3, s4, .slice (some ⟨pb, 0, none⟩) n cu, .slice (some ⟨qb, 0, none⟩) m cv, s7, s8, .int .i64 (bd : Int), s10, s11, s12, s13, s14, s15, s16, sv, .int .i64 (0), .int .i64 (0), s20, s21, s22, s23, s24, s25, s26, s27, s28, s29, s30, s31, s32, s33, s34, s35, s36, s37, s38, s39, s40, s41, s42, s43, s44, s45, s46, s47, s48, s49, s50, s51, s52, s53, s54, s55, s56, s57, s58, s59, s60, s61, s62, s63, s64, s65, s66, s67, s68, s69, s70, s71, s72, s73, s74, s75, s76, s77, s78, s79, s80, s81, s82, s83, s84, s85, s86, s87, s88, s89, s90, s91, s92, s93, s94, s95, s96, s97, s98, s99, s100, s101, s102, s103, s104, s105, s106, s107, s108, s109, s110, s111, s112, s113, s114, s115, s116, s117, s118, s119, s120, s121, s122, s123, s124, s125, s126, s127, s128, s129, s130, s131, s132, s133, s134, .tuple #[sv, .int .i64 (0), .int .i64 (0)], .slice (some ⟨pb, 0, none⟩) n cu, .int .i64 (bd : Int), .slice (some ⟨pb, 0, none⟩) bd cu, .slice (some ⟨qb, 0, none⟩) m cv, .int .i64 (bd : Int), .int .i64 (c : Int), .int .i64 (c : Int), .slice (some ⟨qb, 0, none⟩) c cv, .tuple #[sv, .int .i64 (0), .int .i64 (0)], sv, .int .i64 (0), .int .i64 (0), s148, s149, s150, s151, s152, s153, s154, s155, s156, s157, s158, s159, s160, s161, s162, s163, s164, s165, s166, s167, s168, s169, s170, s171, s172, s173, s174, s175, s176, s177, s178, s179, s180, s181, s182, s183, s184, s185, s186, s187, s188, s189, s190, s191, s192, s193, s194, s195, s196, s197, s198, s199, s200, s201, s202, s203, s204, s205, s206, s207, s208, s209, s210, s211, s212, s213, s214, s215, s216, s217, s218, s219, s220, s221, s222, s223, s224, s225, s226, s227, s228, s229, s230, s231, s232, s233, s234, s235, s236, s237, s238, s239, s240, s241], defers := [] } W1) :
    Go.Code.wp Try.prog (rg3 17) (Only K_) { tmps := #[s0, s1, s2, s3, s4, .slice (some ⟨pb, 0, none⟩) n cu, .slice (some ⟨qb, 0, none⟩) m cv, s7, s8, .int .i64 (bd : Int), s10, s11, s12, s13, s14, s15, s16, s17, s18, s19, s20, s21, s22, s23, s24, s25, s26, s27, s28, s29, s30, s31, s32, s33, s34, s35, s36, s37, s38, s39, s40, s41, s42, s43, s44, s45, s46, s47, s48, s49, s50, s51, s52, s53, s54, s55, s56, s57, s58, s59, s60, s61, s62, s63, s64, s65, s66, s67, s68, s69, s70, s71, s72, s73, s74, s75, s76, s77, s78, s79, s80, s81, s82, s83, s84, s85, s86, s87, s88, s89, s90, s91, s92, s93, s94, s95, s96, s97, s98, s99, s100, s101, s102, s103, s104, s105, s106, s107, s108, s109, s110, s111, s112, s113, s114, s115, s116, s117, s118, s119, s120, s121, s122, s123, s124, s125, s126, s127, s128, s129, s130, s131, s132, s133, s134, s135, s136, s137, s138, s139, s140, s141, s142, s143, s144, s145, s146, s147, s148, s149, s150, s151, s152, s153, s154, s155, s156, s157, s158, s159, s160, s161, s162, s163, s164, s165, s166, s167, s168, s169, s170, s171, s172, s173, s174, s175, s176, s177, s178, s179, s180, s181, s182, s183, s184, s185, s186, s187, s188, s189, s190, s191, s192, s193, s194, s195, s196, s197, s198, s199, s200, s201, s202, s203, s204, s205, s206, s207, s208, s209, s210, s211, s212, s213, s214, s215, s216, s217, s218, s219, s220, s221, s222, s223, s224, s225, s226, s227, s228, s229, s230, s231, s232, s233, s234, s235, s236, s237, s238, s239, s240, s241], defers := [] } V := by
  have HQ := hide hQ
  clear hQ
  conv => arg 2; whnf
  refine wp_region_inv2 (fun Lb A W => ∃ (u0 u1 u2 u3 u4 u5 u6 u7 u8 u9 u10 u11 u12 u13 u14 u15 : Bool) (sv : Value), Lb = #[u0, u1, u2, u3, u4, u5, u6, u7, u8, u9, u10, u11, u12, u13, u14, u15] ∧ A = ({ tmps := #[s0, s1, s2, s3, s4, .slice (some ⟨pb, 0, none⟩) n cu, .slice (some ⟨qb, 0, none⟩) m cv, s7, s8, .int .i64 (bd : Int), s10, s11, s12, s13, s14, s15, s16, (bif u13 then sv else s17), (bif u14 then .int .i64 (0) else s18), (bif u15 then .int .i64 (0) else s19), s20, s21, s22, s23, s24, s25, s26, s27, s28, s29, s30, s31, s32, s33, s34, s35, s36, s37, s38, s39, s40, s41, s42, s43, s44, s45, s46, s47, s48, s49, s50, s51, s52, s53, s54, s55, s56, s57, s58, s59, s60, s61, s62, s63, s64, s65, s66, s67, s68, s69, s70, s71, s72, s73, s74, s75, s76, s77, s78, s79, s80, s81, s82, s83, s84, s85, s86, s87, s88, s89, s90, s91, s92, s93, s94, s95, s96, s97, s98, s99, s100, s101, s102, s103, s104, s105, s106, s107, s108, s109, s110, s111, s112, s113, s114, s115, s116, s117, s118, s119, s120, s121, s122, s123, s124, s125, s126, s127, s128, s129, s130, s131, s132, s133, s134, (bif u9 then .tuple #[sv, .int .i64 (0), .int .i64 (0)] else s135), (bif u0 then .slice (some ⟨pb, 0, none⟩) n cu else s136), (bif u1 then .int .i64 (bd : Int) else s137), (bif u2 then .slice (some ⟨pb, 0, none⟩) bd cu else s138), (bif u3 then .slice (some ⟨qb, 0, none⟩) m cv else s139), (bif u4 then .int .i64 (bd : Int) else s140), (bif u5 then .int .i64 (c : Int) else s141), (bif u6 then .int .i64 (c : Int) else s142), (bif u7 then .slice (some ⟨qb, 0, none⟩) c cv else s143), (bif u8 then .tuple #[sv, .int .i64 (0), .int .i64 (0)] else s144), (bif u10 then sv else s145), (bif u11 then .int .i64 (0) else s146), (bif u12 then .int .i64 (0) else s147), s148, s149, s150, s151, s152, s153, s154, s155, s156, s157, s158, s159, s160, s161, s162, s163, s164, s165, s166, s167, s168, s169, s170, s171, s172, s173, s174, s175, s176, s177, s178, s179, s180, s181, s182, s183, s184, s185, s186, s187, s188, s189, s190, s191, s192, s193, s194, s195, s196, s197, s198, s199, s200, s201, s202, s203, s204, s205, s206, s207, s208, s209, s210, s211, s212, s213, s214, s215, s216, s217, s218, s219, s220, s221, s222, s223, s224, s225, s226, s227, s228, s229, s230, s231, s232, s233, s234, s235, s236, s237, s238, s239, s240, s241], defers := [] } : Act) ∧ Below V.heap.size V W ∧ (u8 = true → Pq sv) ∧ (u9 = true → u8 = true) ∧ (u10 = true → u9 = true) ∧ (u13 = true → u10 = true) ∧ (u15 = true → u0 = true ∧ u1 = true ∧ u2 = true ∧ u3 = true ∧ u4 = true ∧ u5 = true ∧ u6 = true ∧ u7 = true ∧ u8 = true ∧ u9 = true ∧ u10 = true ∧ u11 = true ∧ u12 = true ∧ u13 = true ∧ u14 = true)) (by kernel_rfl) (by kernel_rfl) ?h0 ?hstep ?hend
  case h0 =>
    exact ⟨false, false, false, false, false, false, false, false, false, false, false, false, false, false, false, false, undef, rfl, rfl, Below.drew (Below.refl _ _), zf, zf, zf, zf, zf⟩
  case hstep =>
    intro Lb A W hI
    obtain ⟨u0, u1, u2, u3, u4, hI⟩ := hI
    obtain ⟨u5, u6, u7, u8, u9, hI⟩ := hI
    obtain ⟨u10, u11, u12, u13, u14, hI⟩ := hI
    obtain ⟨u15, sv, hI⟩ := hI
    obtain ⟨hLb, hI⟩ := hI
    obtain ⟨hA, hI⟩ := hI
    obtain ⟨kB, hI⟩ := hI
    obtain ⟨kx8, hI⟩ := hI
    obtain ⟨l9, hI⟩ := hI
    obtain ⟨l10, hI⟩ := hI
    obtain ⟨l13, hI⟩ := hI
    have kF := hI
    clear hI
    subst hLb
    subst hA
    replace kB := hide kB
    replace kx8 := hide kx8
    replace l9 := hide l9
    replace l10 := hide l10
    replace l13 := hide l13
    replace kF := hide kF
    refine ⟨?_, ?_, ?_, ?_, ?_, ?_, ?_, ?_, ?_, ?_, ?_, ?_, ?_, ?_, ?_, ?_, trivial⟩
    · intro h0 hd K hK
      have z : u0 = false := h0
      have z15_ : u15 = false := znb fun hu => z.symm.trans ((zu kF hu).1)
      subst z15_
      subst z
      clear h0 hd
      rw [if_pos (by rfl)]
      go_simp
      exact unhide hK _ _ ⟨true, u1, u2, u3, u4, u5, u6, u7, u8, u9, u10, u11, u12, u13, u14, false, sv, rfl, rfl, zu kB, zu kx8, zu l9, zu l10, zu l13, zf⟩
    · intro h0 hd K hK
      have z : u1 = false := h0
      have z15_ : u15 = false := znb fun hu => z.symm.trans ((zu kF hu).2.1)
      subst z15_
      subst z
      clear h0 hd
      rw [if_pos (by rfl)]
      go_simp
      exact unhide hK _ _ ⟨u0, true, u2, u3, u4, u5, u6, u7, u8, u9, u10, u11, u12, u13, u14, false, sv, rfl, rfl, zu kB, zu kx8, zu l9, zu l10, zu l13, zf⟩
    · intro h0 hd K hK
      have z : u2 = false := h0
      have z15_ : u15 = false := znb fun hu => z.symm.trans ((zu kF hu).2.2.1)
      have zd : u0 = true ∧ u1 = true := by
        simp [Region.binds] at hd
        simp [hd]
      obtain ⟨rfl, rfl⟩ := zd
      subst z15_
      subst z
      clear h0 hd
      rw [if_pos (by rfl)]
      have q1 : (bd : Int) ≤ (cu : Int) := by omega
      go_simp
      exact unhide hK _ _ ⟨true, true, true, u3, u4, u5, u6, u7, u8, u9, u10, u11, u12, u13, u14, false, sv, rfl, rfl, zu kB, zu kx8, zu l9, zu l10, zu l13, zf⟩
    · intro h0 hd K hK
      have z : u3 = false := h0
      have z15_ : u15 = false := znb fun hu => z.symm.trans ((zu kF hu).2.2.2.1)
      subst z15_
      subst z
      clear h0 hd
      rw [if_pos (by rfl)]
      go_simp
      exact unhide hK _ _ ⟨u0, u1, u2, true, u4, u5, u6, u7, u8, u9, u10, u11, u12, u13, u14, false, sv, rfl, rfl, zu kB, zu kx8, zu l9, zu l10, zu l13, zf⟩
    · intro h0 hd K hK
      have z : u4 = false := h0
      have z15_ : u15 = false := znb fun hu => z.symm.trans ((zu kF hu).2.2.2.2.1)
      subst z15_
      subst z
      clear h0 hd
      rw [if_pos (by rfl)]
      go_simp
      exact unhide hK _ _ ⟨u0, u1, u2, u3, true, u5, u6, u7, u8, u9, u10, u11, u12, u13, u14, false, sv, rfl, rfl, zu kB, zu kx8, zu l9, zu l10, zu l13, zf⟩
    · intro h0 hd K hK
      have z : u5 = false := h0
      have z15_ : u15 = false := znb fun hu => z.symm.trans ((zu kF hu).2.2.2.2.2.1)
      have zd : u4 = true := by
        simp [Region.binds] at hd
        simp [hd]
      obtain ⟨rfl⟩ := zd
      subst z15_
      subst z
      clear h0 hd
      rw [if_pos (by rfl)]
      have wq := unhide HW5
      go_simp
      exact unhide hK _ _ ⟨u0, u1, u2, u3, true, true, u6, u7, u8, u9, u10, u11, u12, u13, u14, false, sv, rfl, rfl, zu kB, zu kx8, zu l9, zu l10, zu l13, zf⟩
    · intro h0 hd K hK
      have z : u6 = false := h0
      have z15_ : u15 = false := znb fun hu => z.symm.trans ((zu kF hu).2.2.2.2.2.2.1)
      have zd : u5 = true := by
        simp [Region.binds] at hd
        simp [hd]
      obtain ⟨rfl⟩ := zd
      subst z15_
      subst z
      clear h0 hd
      rw [if_pos (by rfl)]
      have q1 : max (c : Int) 0 = (c : Int) := by omega
      go_simp
      exact unhide hK _ _ ⟨u0, u1, u2, u3, u4, true, true, u7, u8, u9, u10, u11, u12, u13, u14, false, sv, rfl, rfl, zu kB, zu kx8, zu l9, zu l10, zu l13, zf⟩
    · intro h0 hd K hK
      have z : u7 = false := h0
      have z15_ : u15 = false := znb fun hu => z.symm.trans ((zu kF hu).2.2.2.2.2.2.2.1)
      have zd : u3 = true ∧ u6 = true := by
        simp [Region.binds] at hd
        simp [hd]
      obtain ⟨rfl, rfl⟩ := zd
      subst z15_
      subst z
      clear h0 hd
      rw [if_pos (by rfl)]
      have q1 : (c : Int) ≤ (cv : Int) := by omega
      go_simp
      exact unhide hK _ _ ⟨u0, u1, u2, true, u4, u5, true, true, u8, u9, u10, u11, u12, u13, u14, false, sv, rfl, rfl, zu kB, zu kx8, zu l9, zu l10, zu l13, zf⟩
    · intro h0 hd K hK
      have z : u8 = false := h0
      have z15_ : u15 = false := znb fun hu => z.symm.trans ((zu kF hu).2.2.2.2.2.2.2.2.1)
      have z9_ : u9 = false := znb fun hu => z.symm.trans ((zu l9 hu))
      have z10_ : u10 = false := znb fun hu => z.symm.trans ((zu l9 (zu l10 hu)))
      have z13_ : u13 = false := znb fun hu => z.symm.trans ((zu l9 (zu l10 (zu l13 hu))))
      have zd : u2 = true ∧ u7 = true := by
        simp [Region.binds] at hd
        simp [hd]
      obtain ⟨rfl, rfl⟩ := zd
      subst z15_
      subst z9_
      subst z10_
      subst z13_
      subst z
      clear h0 hd
      rw [if_pos (by rfl)]
      go_simp
      refine (unhide HF8 W (zu kB)).mono ?_
      rintro e w8 ⟨⟨r_, rfl, hr_⟩, hb8⟩
      exact unhide hK _ _ ⟨u0, u1, true, u3, u4, u5, u6, true, true, false, false, u11, u12, false, u14, false, r_, rfl, rfl, bc (zu kB) hb8, (fun _ => hr_), zf, zf, zf, zf⟩
    · intro h0 hd K hK
      have z : u9 = false := h0
      have z15_ : u15 = false := znb fun hu => z.symm.trans ((zu kF hu).2.2.2.2.2.2.2.2.2.1)
      have zd : u8 = true := by
        simp [Region.binds] at hd
        simp [hd]
      obtain ⟨rfl⟩ := zd
      subst z15_
      subst z
      clear h0 hd
      rw [if_pos (by rfl)]
      go_simp
      exact unhide hK _ _ ⟨u0, u1, u2, u3, u4, u5, u6, u7, true, true, u10, u11, u12, u13, u14, false, sv, rfl, rfl, zu kB, zu kx8, (fun _ => rfl), (fun h => rfl), zu l13, zf⟩
    · intro h0 hd K hK
      have z : u10 = false := h0
      have z15_ : u15 = false := znb fun hu => z.symm.trans ((zu kF hu).2.2.2.2.2.2.2.2.2.2.1)
      have zd : u9 = true := by
        simp [Region.binds] at hd
        simp [hd]
      obtain ⟨rfl⟩ := zd
      subst z15_
      subst z
      clear h0 hd
      rw [if_pos (by rfl)]
      go_simp
      exact unhide hK _ _ ⟨u0, u1, u2, u3, u4, u5, u6, u7, u8, true, true, u11, u12, u13, u14, false, sv, rfl, rfl, zu kB, zu kx8, zu l9, (fun _ => rfl), (fun h => rfl), zf⟩
    · intro h0 hd K hK
      have z : u11 = false := h0
      have z15_ : u15 = false := znb fun hu => z.symm.trans ((zu kF hu).2.2.2.2.2.2.2.2.2.2.2.1)
      have zd : u9 = true := by
        simp [Region.binds] at hd
        simp [hd]
      obtain ⟨rfl⟩ := zd
      subst z15_
      subst z
      clear h0 hd
      rw [if_pos (by rfl)]
      go_simp
      exact unhide hK _ _ ⟨u0, u1, u2, u3, u4, u5, u6, u7, u8, true, u10, true, u12, u13, u14, false, sv, rfl, rfl, zu kB, zu kx8, zu l9, (fun h => rfl), zu l13, zf⟩
    · intro h0 hd K hK
      have z : u12 = false := h0
      have z15_ : u15 = false := znb fun hu => z.symm.trans ((zu kF hu).2.2.2.2.2.2.2.2.2.2.2.2.1)
      have zd : u9 = true := by
        simp [Region.binds] at hd
        simp [hd]
      obtain ⟨rfl⟩ := zd
      subst z15_
      subst z
      clear h0 hd
      rw [if_pos (by rfl)]
      go_simp
      exact unhide hK _ _ ⟨u0, u1, u2, u3, u4, u5, u6, u7, u8, true, u10, u11, true, u13, u14, false, sv, rfl, rfl, zu kB, zu kx8, zu l9, (fun h => rfl), zu l13, zf⟩
    · intro h0 hd K hK
      have z : u13 = false := h0
      have z15_ : u15 = false := znb fun hu => z.symm.trans ((zu kF hu).2.2.2.2.2.2.2.2.2.2.2.2.2.1)
      have zd : u10 = true := by
        simp [Region.binds] at hd
        simp [hd]
      obtain ⟨rfl⟩ := zd
      subst z15_
      subst z
      clear h0 hd
      rw [if_pos (by rfl)]
      go_simp
      exact unhide hK _ _ ⟨u0, u1, u2, u3, u4, u5, u6, u7, u8, u9, true, u11, u12, true, u14, false, sv, rfl, rfl, zu kB, zu kx8, zu l9, zu l10, (fun _ => rfl), zf⟩
    · intro h0 hd K hK
      have z : u14 = false := h0
      have z15_ : u15 = false := znb fun hu => z.symm.trans ((zu kF hu).2.2.2.2.2.2.2.2.2.2.2.2.2.2)
      have zd : u11 = true ∧ u13 = true := by
        simp [Region.binds] at hd
        simp [hd]
      obtain ⟨rfl, rfl⟩ := zd
      subst z15_
      subst z
      clear h0 hd
      rw [if_pos (by rfl)]
      go_simp
      exact unhide hK _ _ ⟨u0, u1, u2, u3, u4, u5, u6, u7, u8, u9, u10, true, u12, true, true, false, sv, rfl, rfl, zu kB, zu kx8, zu l9, zu l10, zu l13, zf⟩
    · intro h0 hd K hK
      have z : u15 = false := h0
      have zd0 : u0 = true ∧ u1 = true ∧ u2 = true ∧ u3 = true ∧ u4 = true ∧ u5 = true ∧ u6 = true ∧ u7 = true ∧ u8 = true ∧ u9 = true ∧ u10 = true ∧ u11 = true ∧ u12 = true ∧ u13 = true ∧ u14 = true := by
        simp [Region.binds] at hd
        simp [hd]
      have zd : u0 = true ∧ u1 = true ∧ u2 = true ∧ u3 = true ∧ u4 = true ∧ u5 = true ∧ u6 = true ∧ u7 = true ∧ u8 = true ∧ u9 = true ∧ u10 = true ∧ u11 = true ∧ u12 = true ∧ u13 = true ∧ u14 = true := ⟨zd0.1, zd0.2.1, zd0.2.2.1, zd0.2.2.2.1, zd0.2.2.2.2.1, zd0.2.2.2.2.2.1, zd0.2.2.2.2.2.2.1, zd0.2.2.2.2.2.2.2.1, zd0.2.2.2.2.2.2.2.2.1, zd0.2.2.2.2.2.2.2.2.2.1, zd0.2.2.2.2.2.2.2.2.2.2.1, zd0.2.2.2.2.2.2.2.2.2.2.2.1, zd0.2.2.2.2.2.2.2.2.2.2.2.2.1, zd0.2.2.2.2.2.2.2.2.2.2.2.2.2.1, zd0.2.2.2.2.2.2.2.2.2.2.2.2.2.2⟩
      obtain ⟨rfl, rfl, rfl, rfl, rfl, rfl, rfl, rfl, rfl, rfl, rfl, rfl, rfl, rfl, rfl⟩ := zd
      subst z
      clear h0 hd
      rw [if_pos (by rfl)]
      go_simp
      exact unhide hK _ _ ⟨true, true, true, true, true, true, true, true, true, true, true, true, true, true, true, true, sv, rfl, rfl, zu kB, zu kx8, (fun _ => rfl), (fun _ => rfl), (fun _ => rfl), (fun _ => ⟨rfl, rfl, rfl, rfl, rfl, rfl, rfl, rfl, rfl, rfl, rfl, rfl, rfl, rfl, rfl⟩)⟩
  case hend =>
    intro Lb A W hI
    obtain ⟨u0, u1, u2, u3, u4, hI⟩ := hI
    obtain ⟨u5, u6, u7, u8, u9, hI⟩ := hI
    obtain ⟨u10, u11, u12, u13, u14, hI⟩ := hI
    obtain ⟨u15, sv, hI⟩ := hI
    obtain ⟨hLb, hI⟩ := hI
    obtain ⟨hA, hI⟩ := hI
    obtain ⟨kB, hI⟩ := hI
    obtain ⟨kx8, hI⟩ := hI
    obtain ⟨l9, hI⟩ := hI
    obtain ⟨l10, hI⟩ := hI
    obtain ⟨l13, hI⟩ := hI
    have kF := hI
    clear hI
    subst hLb
    subst hA
    intro hL
    have hl : u0 = true ∧ u1 = true ∧ u2 = true ∧ u3 = true ∧ u4 = true ∧ u5 = true ∧ u6 = true ∧ u7 = true ∧ u8 = true ∧ u9 = true ∧ u10 = true ∧ u11 = true ∧ u12 = true ∧ u13 = true ∧ u14 = true ∧ u15 = true := by
      have h2 := congrArg Array.toList hL
      simpa [List.replicate] using h2
    obtain ⟨rfl, rfl, rfl, rfl, rfl, rfl, rfl, rfl, rfl, rfl, rfl, rfl, rfl, rfl, rfl, rfl⟩ := hl
    exact unhide HQ  sv W kB (kx8 rfl)

end Go.Proofs.Ytimkinpbimangaa
