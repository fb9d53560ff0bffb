/-
  Two statements of the drawn sketch, walked alone.
-/
import Derived.Test.YtchdmigeopmacaaSkdT
namespace Go.Proofs.Ytchdmigeopmacaa
open Go.ChangeShapes Go.WideShapes Go.ChangeAt Go.RowKit
set_option linter.unusedVariables false
set_option linter.unusedSimpArgs false

theorem seven_list (x1 x2 x3 x4 x5 x6 : Int) (i : Nat) (h1 : 1 ≤ i) (h2 : i ≤ 6) (b1 : -1000 ≤ x1 ∧ x1 ≤ 1000) (b2 : -1000 ≤ x2 ∧ x2 ≤ 1000) (b3 : -1000 ≤ x3 ∧ x3 ≤ 1000) (b4 : -1000 ≤ x4 ∧ x4 ≤ 1000) (b5 : -1000 ≤ x5 ∧ x5 ≤ 1000) (b6 : -1000 ≤ x6 ∧ x6 ≤ 1000) :
    ∃ y : Int, -1000 ≤ y ∧ y ≤ 1000 ∧ ([.int .i64 0, .int .i64 x1, .int .i64 x2, .int .i64 x3, .int .i64 x4, .int .i64 x5, .int .i64 x6] : List Value)[i]? = some (.int .i64 y) := by
  have hi : i = 1 ∨ i = 2 ∨ i = 3 ∨ i = 4 ∨ i = 5 ∨ i = 6 := by omega
  rcases hi with rfl | rfl | rfl | rfl | rfl | rfl
  · exact ⟨x1, b1.1, b1.2, rfl⟩
  · exact ⟨x2, b2.1, b2.2, rfl⟩
  · exact ⟨x3, b3.1, b3.2, rfl⟩
  · exact ⟨x4, b4.1, b4.2, rfl⟩
  · exact ⟨x5, b5.1, b5.2, rfl⟩
  · exact ⟨x6, b6.1, b6.2, rfl⟩
theorem list_get {l : List Value} {q : Nat} {x : Int} (h : l[q]? = some (.int .i64 x)) : ∀ hq : q < l.length, l[q]'hq = .int .i64 x := by
  intro hq
  rw [List.getElem?_eq_getElem hq] at h
  simpa using h

noncomputable def regOf (id : Nat) : Go.Code → Option Go.Code
  | .region i ops b => if i = id then some (.region i ops b) else none
  | .seq a b => match regOf id a with | some c => some c | none => regOf id b
  | .cond _ a b => match regOf id a with | some c => some c | none => regOf id b
  | .block _ c => regOf id c
  | .loop c => regOf id c
  | .scope c => regOf id c
  | _ => none
noncomputable def reg38 (id : Nat) : Go.Code := match Try.f38.body with | some c => (regOf id c).getD .skip | none => .skip

set_option maxHeartbeats 2000000 in
set_option maxRecDepth 100000 in
theorem q18 {s0 s1 s2 s3 s4 s6 s7 s10 s11 s12 s13 s14 s15 s16 s17 s18 s19 s20 s21 s22 s23 s24 s25 s26 s27 s28 s29 s30 s31 s32 s33 s34 s35 s36 s37 s38 s39 s40 s41 s42 s43 s44 s45 s46 s47 s48 s49 s50 s51 s52 s53 s54 s55 s56 s57 s58 s59 s60 s61 s62 s63 s64 s65 s66 s67 s68 s69 s70 s71 s72 s73 s74 s75 s76 s77 s78 s79 s80 s81 s82 s83 s84 s85 s86 s87 s88 s89 s90 s91 s92 s93 s94 s95 s96 s97 s98 s99 s100 s101 s102 s103 s104 s105 s106 s107 s108 s109 s110 s111 s112 s113 s114 s115 s116 s117 s118 s119 s120 s121 s122 s123 s124 s125 s126 s127 s128 s129 s130 s131 s132 s133 s134 s135 s136 s137 s138 s139 s140 s141 s142 s143 s144 s145 s146 s147 s148 s149 s150 s151 s152 s153 s154 s155 s156 s157 s158 s159 s160 s161 s162 s163 s164 s165 s166 s167 s168 s169 s170 s171 s172 s173 s174 s175 s176 s177 s178 s179 s180 s181 s182 s183 s184 s185 : Value} {ga N capa a b D : Nat} {xa ya xb yb : Int} {w : World} {Q : Exit → Act → World → Prop} (ha1 : (a : Int) < (N : Int)) (hb1 : (b : Int) < (N : Int)) (oxa : w.cell? ⟨ga, a * 2, none⟩ = some (.int .i64 xa)) (oya : w.cell? ⟨ga, a * 2 + 1, none⟩ = some (.int .i64 ya)) (oxb : w.cell? ⟨ga, b * 2, none⟩ = some (.int .i64 xb)) (oyb : w.cell? ⟨ga, b * 2 + 1, none⟩ = some (.int .i64 yb)) (bxa : 0 ≤ xa ∧ xa ≤ 49) (bya : 0 ≤ ya ∧ ya ≤ 49) (bxb : 0 ≤ xb ∧ xb ≤ 49) (byb : 0 ≤ yb ∧ yb ≤ 49)
    (hQ : ∀ (y67 y68 y69 y70 y71 y72 y73 y74 y75 y76 y77 : Value) (nq : Nat), Q .normal { tmps := #[s0, s1, s2, s3, s4, .slice (some ⟨ga, 0, none⟩) N capa, s6, s7, .int .i64 (a : Int), .int .i64 (b : Int), s10, s11, s12, .int .i64 (xb - xa), s14, s15, s16, s17, s18, s19, s20, s21, s22, s23, s24, s25, s26, s27, s28, s29, s30, s31, s32, s33, s34, s35, s36, s37, s38, s39, s40, s41, s42, s43, s44, s45, s46, s47, s48, s49, s50, s51, s52, s53, s54, s55, s56, s57, s58, s59, s60, s61, s62, s63, s64, s65, s66, y67, y68, y69, y70, y71, y72, y73, y74, y75, y76, y77, s78, s79, s80, s81, s82, s83, s84, s85, s86, s87, s88, s89, s90, s91, s92, s93, s94, s95, s96, s97, s98, s99, s100, s101, s102, s103, s104, s105, s106, s107, s108, s109, s110, s111, s112, s113, s114, s115, s116, s117, s118, s119, s120, s121, s122, s123, s124, s125, s126, s127, s128, s129, s130, s131, s132, s133, s134, s135, s136, s137, s138, s139, s140, s141, s142, s143, s144, s145, s146, s147, s148, s149, s150, s151, s152, s153, s154, s155, s156, s157, s158, s159, s160, s161, s162, s163, s164, s165, s166, s167, s168, s169, s170, s171, s172, s173, s174, s175, s176, s177, s178, s179, s180, s181, s182, s183, s184, s185], defers := [] } (w.drewN nq)) :
    Go.Code.wp Try.prog (reg38 18) Q { tmps := #[s0, s1, s2, s3, s4, .slice (some ⟨ga, 0, none⟩) N capa, s6, s7, .int .i64 (a : Int), .int .i64 (b : Int), s10, s11, s12, s13, s14, s15, s16, s17, s18, s19, s20, s21, s22, s23, s24, s25, s26, s27, s28, s29, s30, s31, s32, s33, s34, s35, s36, s37, s38, s39, s40, s41, s42, s43, s44, s45, s46, s47, s48, s49, s50, s51, s52, s53, s54, s55, s56, s57, s58, s59, s60, s61, s62, s63, s64, s65, s66, s67, s68, s69, s70, s71, s72, s73, s74, s75, s76, s77, s78, s79, s80, s81, s82, s83, s84, s85, s86, s87, s88, s89, s90, s91, s92, s93, s94, s95, s96, s97, s98, s99, s100, s101, s102, s103, s104, s105, s106, s107, s108, s109, s110, s111, s112, s113, s114, s115, s116, s117, s118, s119, s120, s121, s122, s123, s124, s125, s126, s127, s128, s129, s130, s131, s132, s133, s134, s135, s136, s137, s138, s139, s140, s141, s142, s143, s144, s145, s146, s147, s148, s149, s150, s151, s152, s153, s154, s155, s156, s157, s158, s159, s160, s161, s162, s163, s164, s165, s166, s167, s168, s169, s170, s171, s172, s173, s174, s175, s176, s177, s178, s179, s180, s181, s182, s183, s184, s185], defers := [] } w := by
  have a0 : (0 : Int) ≤ (a : Int) := by omega
  have b0 : (0 : Int) ≤ (b : Int) := by omega
  have HQ := hide hQ
  clear hQ
  conv => arg 2; whnf
  go_wp2_with fail
  go_quiet (fail)
  exact unhide HQ _ _ _ _ _ _ _ _ _ _ _ _
set_option maxHeartbeats 2000000 in
set_option maxRecDepth 100000 in
theorem q19 {s0 s1 s2 s3 s4 s6 s7 s10 s11 s12 s13 s14 s15 s16 s17 s18 s19 s20 s21 s22 s23 s24 s25 s26 s27 s28 s29 s30 s31 s32 s33 s34 s35 s36 s37 s38 s39 s40 s41 s42 s43 s44 s45 s46 s47 s48 s49 s50 s51 s52 s53 s54 s55 s56 s57 s58 s59 s60 s61 s62 s63 s64 s65 s66 s67 s68 s69 s70 s71 s72 s73 s74 s75 s76 s77 s78 s79 s80 s81 s82 s83 s84 s85 s86 s87 s88 s89 s90 s91 s92 s93 s94 s95 s96 s97 s98 s99 s100 s101 s102 s103 s104 s105 s106 s107 s108 s109 s110 s111 s112 s113 s114 s115 s116 s117 s118 s119 s120 s121 s122 s123 s124 s125 s126 s127 s128 s129 s130 s131 s132 s133 s134 s135 s136 s137 s138 s139 s140 s141 s142 s143 s144 s145 s146 s147 s148 s149 s150 s151 s152 s153 s154 s155 s156 s157 s158 s159 s160 s161 s162 s163 s164 s165 s166 s167 s168 s169 s170 s171 s172 s173 s174 s175 s176 s177 s178 s179 s180 s181 s182 s183 s184 s185 : Value} {ga N capa a b D : Nat} {xa ya xb yb : Int} {w : World} {Q : Exit → Act → World → Prop} (ha1 : (a : Int) < (N : Int)) (hb1 : (b : Int) < (N : Int)) (oxa : w.cell? ⟨ga, a * 2, none⟩ = some (.int .i64 xa)) (oya : w.cell? ⟨ga, a * 2 + 1, none⟩ = some (.int .i64 ya)) (oxb : w.cell? ⟨ga, b * 2, none⟩ = some (.int .i64 xb)) (oyb : w.cell? ⟨ga, b * 2 + 1, none⟩ = some (.int .i64 yb)) (bxa : 0 ≤ xa ∧ xa ≤ 49) (bya : 0 ≤ ya ∧ ya ≤ 49) (bxb : 0 ≤ xb ∧ xb ≤ 49) (byb : 0 ≤ yb ∧ yb ≤ 49)
    (hQ : ∀ (y78 y79 y80 y81 y82 y83 y84 y85 y86 y87 y88 : Value) (nq : Nat), Q .normal { tmps := #[s0, s1, s2, s3, s4, .slice (some ⟨ga, 0, none⟩) N capa, s6, s7, .int .i64 (a : Int), .int .i64 (b : Int), s10, s11, s12, s13, .int .i64 (yb - ya), s15, s16, s17, s18, s19, s20, s21, s22, s23, s24, s25, s26, s27, s28, s29, s30, s31, s32, s33, s34, s35, s36, s37, s38, s39, s40, s41, s42, s43, s44, s45, s46, s47, s48, s49, s50, s51, s52, s53, s54, s55, s56, s57, s58, s59, s60, s61, s62, s63, s64, s65, s66, s67, s68, s69, s70, s71, s72, s73, s74, s75, s76, s77, y78, y79, y80, y81, y82, y83, y84, y85, y86, y87, y88, s89, s90, s91, s92, s93, s94, s95, s96, s97, s98, s99, s100, s101, s102, s103, s104, s105, s106, s107, s108, s109, s110, s111, s112, s113, s114, s115, s116, s117, s118, s119, s120, s121, s122, s123, s124, s125, s126, s127, s128, s129, s130, s131, s132, s133, s134, s135, s136, s137, s138, s139, s140, s141, s142, s143, s144, s145, s146, s147, s148, s149, s150, s151, s152, s153, s154, s155, s156, s157, s158, s159, s160, s161, s162, s163, s164, s165, s166, s167, s168, s169, s170, s171, s172, s173, s174, s175, s176, s177, s178, s179, s180, s181, s182, s183, s184, s185], defers := [] } (w.drewN nq)) :
    Go.Code.wp Try.prog (reg38 19) Q { tmps := #[s0, s1, s2, s3, s4, .slice (some ⟨ga, 0, none⟩) N capa, s6, s7, .int .i64 (a : Int), .int .i64 (b : Int), s10, s11, s12, s13, s14, s15, s16, s17, s18, s19, s20, s21, s22, s23, s24, s25, s26, s27, s28, s29, s30, s31, s32, s33, s34, s35, s36, s37, s38, s39, s40, s41, s42, s43, s44, s45, s46, s47, s48, s49, s50, s51, s52, s53, s54, s55, s56, s57, s58, s59, s60, s61, s62, s63, s64, s65, s66, s67, s68, s69, s70, s71, s72, s73, s74, s75, s76, s77, s78, s79, s80, s81, s82, s83, s84, s85, s86, s87, s88, s89, s90, s91, s92, s93, s94, s95, s96, s97, s98, s99, s100, s101, s102, s103, s104, s105, s106, s107, s108, s109, s110, s111, s112, s113, s114, s115, s116, s117, s118, s119, s120, s121, s122, s123, s124, s125, s126, s127, s128, s129, s130, s131, s132, s133, s134, s135, s136, s137, s138, s139, s140, s141, s142, s143, s144, s145, s146, s147, s148, s149, s150, s151, s152, s153, s154, s155, s156, s157, s158, s159, s160, s161, s162, s163, s164, s165, s166, s167, s168, s169, s170, s171, s172, s173, s174, s175, s176, s177, s178, s179, s180, s181, s182, s183, s184, s185], defers := [] } w := by
  have a0 : (0 : Int) ≤ (a : Int) := by omega
  have b0 : (0 : Int) ≤ (b : Int) := by omega
  have HQ := hide hQ
  clear hQ
  conv => arg 2; whnf
  go_wp2_with fail
  go_quiet (fail)
  exact unhide HQ _ _ _ _ _ _ _ _ _ _ _ _
end Go.Proofs.Ytchdmigeopmacaa
