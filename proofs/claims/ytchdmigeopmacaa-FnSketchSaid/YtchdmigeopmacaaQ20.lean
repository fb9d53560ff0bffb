/-
  The statement of the drawn sketch that gives a rule its number, walked alone.
-/
import Derived.Test.YtchdmigeopmacaaQ18
import Derived.Test.YtchdmigeopmacaaInv
namespace Go.Proofs.Ytchdmigeopmacaa
open Go.ChangeShapes Go.WideShapes Go.ChangeAt Go.RowKit
set_option linter.unusedVariables false
set_option linter.unusedSimpArgs false

/-- only an end in order -/
def Only (K : Act → World → Prop) : Exit → Act → World → Prop := fun e a w => match e with | .normal => K a w | _ => False
theorem Only.to {K : Act → World → Prop} {Q : Exit → Act → World → Prop} (h : ∀ a w, K a w → Q .normal a w) : ∀ e a w, Only K e a w → Q e a w := by
  intro e a w hq
  cases e <;> first | exact h _ _ hq | exact hq.elim
theorem seven_gt (x1 x2 x3 x4 x5 x6 : Int) (i : Nat) (h1 : 1 ≤ i) (h2 : i ≤ 6) (b1 : -1000 ≤ x1 ∧ x1 ≤ 1000) (b2 : -1000 ≤ x2 ∧ x2 ≤ 1000) (b3 : -1000 ≤ x3 ∧ x3 ≤ 1000) (b4 : -1000 ≤ x4 ∧ x4 ≤ 1000) (b5 : -1000 ≤ x5 ∧ x5 ≤ 1000) (b6 : -1000 ≤ x6 ∧ x6 ≤ 1000) :
    -1000 ≤ gt [0, x1, x2, x3, x4, x5, x6] i ∧ gt [0, x1, x2, x3, x4, x5, x6] i ≤ 1000 := by
  have hi : i = 1 ∨ i = 2 ∨ i = 3 ∨ i = 4 ∨ i = 5 ∨ i = 6 := by omega
  rcases hi with rfl | rfl | rfl | rfl | rfl | rfl
  · exact b1
  · exact b2
  · exact b3
  · exact b4
  · exact b5
  · exact b6

set_option maxHeartbeats 4000000 in
set_option maxRecDepth 100000 in
theorem q20 {s1 s2 s3 s4 s6 s7 s11 s12 s15 s16 s17 s18 s19 s20 s21 s22 s23 s24 s25 s26 s27 s28 s29 s30 s31 s32 s33 s34 s35 s36 s37 s38 s39 s40 s41 s42 s43 s44 s45 s46 s47 s48 s49 s50 s51 s52 s53 s54 s55 s56 s57 s58 s59 s60 s61 s62 s63 s64 s65 s66 s67 s68 s69 s70 s71 s72 s73 s74 s75 s76 s77 s78 s79 s80 s81 s82 s83 s84 s85 s86 s87 s88 s89 s90 s91 s92 s93 s94 s95 s96 s97 s98 s99 s100 s101 s102 s103 s104 s105 s106 s107 s108 s109 s110 s111 s112 s113 s114 s115 s116 s117 s118 s119 s120 s121 s122 s123 s124 s125 s126 s127 s128 s129 s130 s131 s132 s133 s134 s135 s136 s137 s138 s139 s140 s141 s142 s143 s144 s145 s146 s147 s148 s149 s150 s151 s152 s153 s154 s155 s156 s157 s158 s159 s160 s161 s162 s163 s164 s165 s166 s167 s168 s169 s170 s171 s172 s173 s174 s175 s176 s177 s178 s179 s180 s181 s182 s183 s184 s185 : Value} {ga N capa a b D B g T m kq : Nat} {xa ya xb yb bb k : Int} {w Wl : World} {v : Value} {L : List Int} {K_ : Act → World → Prop} (ha1 : (a : Int) < (N : Int)) (hb1 : (b : Int) < (N : Int)) (bxa : 0 ≤ xa ∧ xa ≤ 49) (bya : 0 ≤ ya ∧ ya ≤ 49) (bxb : 0 ≤ xb ∧ xb ≤ 49) (byb : 0 ≤ yb ∧ yb ≤ 49)
    (kq1 : 1 ≤ kq) (kq6 : kq ≤ 6) (hk : k ≤ 900000000) (H9 : Hid (Sta B g T (N : Int) k Wl v m L w ∧ Rb D (kq : Int) (a : Int) bb 0 w)) (hD : Wl.heap.size ≤ D) (hO : Hid (∀ b, v.ownBlock = some b → b < D)) (hga1 : ga ≠ g) (hga2 : ga ≠ T) (hDg : D ≠ g) (hgD : ga ≠ D) (hDa : D ≠ ga)
    (qxa : Wl.cell? ⟨ga, a * 2, none⟩ = some (.int .i64 xa)) (qya : Wl.cell? ⟨ga, a * 2 + 1, none⟩ = some (.int .i64 ya))
    (hQ : ∀ (y89 y90 y91 y92 y93 y94 y95 y96 y97 y98 y99 y100 y101 y102 y103 y104 y105 y106 y107 y108 y109 y110 y111 y112 y113 y114 : Value) (yy : Int) (W' : World), -1000 ≤ yy → yy ≤ 1000 → Sta B g T (N : Int) (k + 6) Wl v m L W' → Rb D (kq : Int) (a : Int) bb yy W' → K_ { tmps := #[.pointer (some ⟨g, 0, none⟩), s1, s2, s3, s4, .slice (some ⟨ga, 0, none⟩) N capa, s6, s7, .int .i64 ((a : Int)), .int .i64 ((b : Int)), .pointer (some ⟨D, 0, none⟩), s11, s12, .int .i64 (xb - xa), .int .i64 (yb - ya), s15, s16, s17, s18, s19, s20, s21, s22, s23, s24, s25, s26, s27, s28, s29, s30, s31, s32, s33, s34, s35, s36, s37, s38, s39, s40, s41, s42, s43, s44, s45, s46, s47, s48, s49, s50, s51, s52, s53, s54, s55, s56, s57, s58, s59, s60, s61, s62, s63, s64, s65, s66, s67, s68, s69, s70, s71, s72, s73, s74, s75, s76, s77, s78, s79, s80, s81, s82, s83, s84, s85, s86, s87, s88, y89, y90, y91, y92, y93, y94, y95, y96, y97, y98, y99, y100, y101, y102, y103, y104, y105, y106, y107, y108, y109, y110, y111, y112, y113, y114, s115, s116, s117, s118, s119, s120, s121, s122, s123, s124, s125, s126, s127, s128, s129, s130, s131, s132, s133, s134, s135, s136, s137, s138, s139, s140, s141, s142, s143, s144, s145, s146, s147, s148, s149, s150, s151, s152, s153, s154, s155, s156, s157, s158, s159, s160, s161, s162, s163, s164, s165, s166, s167, s168, s169, s170, s171, s172, s173, s174, s175, s176, s177, s178, s179, s180, s181, s182, s183, s184, s185], defers := [] } W') :
    Go.Code.wp Try.prog (reg38 20) (Only K_) { tmps := #[.pointer (some ⟨g, 0, none⟩), s1, s2, s3, s4, .slice (some ⟨ga, 0, none⟩) N capa, s6, s7, .int .i64 ((a : Int)), .int .i64 ((b : Int)), .pointer (some ⟨D, 0, none⟩), s11, s12, .int .i64 (xb - xa), .int .i64 (yb - ya), s15, s16, s17, s18, s19, s20, s21, s22, s23, s24, s25, s26, s27, s28, s29, s30, s31, s32, s33, s34, s35, s36, s37, s38, s39, s40, s41, s42, s43, s44, s45, s46, s47, s48, s49, s50, s51, s52, s53, s54, s55, s56, s57, s58, s59, s60, s61, s62, s63, s64, s65, s66, s67, s68, s69, s70, s71, s72, s73, s74, s75, s76, s77, s78, s79, s80, s81, s82, s83, s84, s85, s86, s87, s88, s89, s90, s91, s92, s93, s94, s95, s96, s97, s98, s99, s100, s101, s102, s103, s104, s105, s106, s107, s108, s109, s110, s111, s112, s113, s114, s115, s116, s117, s118, s119, s120, s121, s122, s123, s124, s125, s126, s127, s128, s129, s130, s131, s132, s133, s134, s135, s136, s137, s138, s139, s140, s141, s142, s143, s144, s145, s146, s147, s148, s149, s150, s151, s152, s153, s154, s155, s156, s157, s158, s159, s160, s161, s162, s163, s164, s165, s166, s167, s168, s169, s170, s171, s172, s173, s174, s175, s176, s177, s178, s179, s180, s181, s182, s183, s184, s185], defers := [] } w := by
  have a0 : (0 : Int) ≤ (a : Int) := by omega
  have o2 : (kq : Int) < 7 := by omega
  have o3 : (0 : Int) ≤ (kq : Int) := by omega
  have o4 : kq < 7 := by omega
  have HQ := hide hQ
  clear hQ
  conv => arg 2; whnf
  refine wp_region_inv (fun Lb A W => ∃ (u0 u1 u2 u3 u4 u5 u6 u7 u8 u9 u10 u11 u12 u13 u14 u15 u16 u17 u18 u19 u20 u21 u22 u23 u24 u25 u26 : Bool) (r8 r9 : Int) (q : Nat), Lb = #[u0, u1, u2, u3, u4, u5, u6, u7, u8, u9, u10, u11, u12, u13, u14, u15, u16, u17, u18, u19, u20, u21, u22, u23, u24, u25, u26] ∧ A = ({ tmps := #[.pointer (some ⟨g, 0, none⟩), s1, s2, s3, s4, .slice (some ⟨ga, 0, none⟩) N capa, s6, s7, .int .i64 ((a : Int)), .int .i64 ((b : Int)), .pointer (some ⟨D, 0, none⟩), s11, s12, .int .i64 (xb - xa), .int .i64 (yb - ya), s15, s16, s17, s18, s19, s20, s21, s22, s23, s24, s25, s26, s27, s28, s29, s30, s31, s32, s33, s34, s35, s36, s37, s38, s39, s40, s41, s42, s43, s44, s45, s46, s47, s48, s49, s50, s51, s52, s53, s54, s55, s56, s57, s58, s59, s60, s61, s62, s63, s64, s65, s66, s67, s68, s69, s70, s71, s72, s73, s74, s75, s76, s77, s78, s79, s80, s81, s82, s83, s84, s85, s86, s87, s88, (bif u0 then .slice (some ⟨ga, 0, none⟩) N capa else s89), (bif u1 then .int .i64 ((a : Int)) else s90), (bif u2 then .pointer (some ⟨ga, a * 2, none⟩) else s91), (bif u3 then .pointer (some ⟨ga, a * 2, none⟩) else s92), (bif u4 then .int .i64 (xa) else s93), (bif u5 then .slice (some ⟨ga, 0, none⟩) N capa else s94), (bif u6 then .int .i64 ((a : Int)) else s95), (bif u7 then .pointer (some ⟨ga, a * 2, none⟩) else s96), (bif u8 then .pointer (some ⟨ga, a * 2 + 1, none⟩) else s97), (bif u9 then .int .i64 (ya) else s98), (bif u10 then .int .i64 (xb - xa) else s99), (bif u11 then .int .i64 (yb - ya) else s100), (bif u12 then .int .i64 (xb - xa) else s101), (bif u13 then .pointer (some ⟨g, 0, none⟩) else s102), (bif u14 then .int .i64 (r8) else s103), (bif u15 then .int .i64 (xb - xa - r8) else s104), (bif u16 then .int .i64 (yb - ya) else s105), (bif u17 then .pointer (some ⟨g, 0, none⟩) else s106), (bif u18 then .int .i64 (r9) else s107), (bif u19 then .int .i64 (yb - ya - r9) else s108), (bif u20 then .slice (some ⟨q, 0, none⟩) 7 7 else s109), (bif u21 then .pointer (some ⟨D, 0, none⟩) else s110), (bif u22 then .int .i64 ((kq : Int)) else s111), (bif u23 then .pointer (some ⟨q, kq, none⟩) else s112), (bif u24 then .int .i64 (gt [0, xa, ya, xb - xa, yb - ya, xb - xa - r8, yb - ya - r9] kq) else s113), (bif u25 then .pointer (some ⟨D, 3, none⟩) else s114), s115, s116, s117, s118, s119, s120, s121, s122, s123, s124, s125, s126, s127, s128, s129, s130, s131, s132, s133, s134, s135, s136, s137, s138, s139, s140, s141, s142, s143, s144, s145, s146, s147, s148, s149, s150, s151, s152, s153, s154, s155, s156, s157, s158, s159, s160, s161, s162, s163, s164, s165, s166, s167, s168, s169, s170, s171, s172, s173, s174, s175, s176, s177, s178, s179, s180, s181, s182, s183, s184, s185], defers := [] } : Act) ∧ (u18 = true → u14 = true) ∧ Sta B g T (N : Int) (k + (bif u14 then 3 else 0) + (bif u18 then 3 else 0)) Wl v m L W ∧ (u14 = true → 0 ≤ r8 ∧ r8 < 3) ∧ (u18 = true → 0 ≤ r9 ∧ r9 < 3) ∧ (u26 = false → Rb D (kq : Int) (a : Int) bb 0 W) ∧ (u26 = true → Rb D (kq : Int) (a : Int) bb (gt [0, xa, ya, xb - xa, yb - ya, xb - xa - r8, yb - ya - r9] kq) W) ∧ (u20 = true → iblk W q 3 [0, xa, ya, xb - xa, yb - ya, xb - xa - r8, yb - ya - r9] ∧ q ≠ D ∧ q ≠ g) ∧ (u15 = true → u14 = true) ∧ (u19 = true → u18 = true) ∧ (u20 = true → u15 = true ∧ u19 = true) ∧ (u23 = true → u20 = true) ∧ (u24 = true → u23 = true) ∧ (u26 = true → u0 = true ∧ u1 = true ∧ u2 = true ∧ u3 = true ∧ u4 = true ∧ u5 = true ∧ u6 = true ∧ u7 = true ∧ u8 = true ∧ u9 = true ∧ u10 = true ∧ u11 = true ∧ u12 = true ∧ u13 = true ∧ u14 = true ∧ u15 = true ∧ u16 = true ∧ u17 = true ∧ u18 = true ∧ u19 = true ∧ u20 = true ∧ u21 = true ∧ u22 = true ∧ u23 = true ∧ u24 = true ∧ u25 = true)) (by kernel_rfl) (by kernel_rfl) ?h0 ?hstep ?hend
  case h0 =>
    exact ⟨false, false, false, false, false, false, false, false, false, false, false, false, false, false, false, false, false, false, false, false, false, false, false, false, false, false, false, 0, 0, 0, rfl, rfl, (fun h => nomatch h), by first | exact (unhide H9).1 | exact (unhide H9).1.drew | (simpa using (unhide H9).1.drew), (fun h => nomatch h), (fun h => nomatch h), fun _ => (by first | exact (unhide H9).2 | exact (unhide H9).2.drew), (fun h => nomatch h), (fun h => nomatch h), (fun h => nomatch h), (fun h => nomatch h), (fun h => nomatch h), (fun h => nomatch h), (fun h => nomatch h), (fun h => nomatch h)⟩
  case hstep =>
    rintro Lb A W ⟨u0, u1, u2, u3, u4, u5, u6, u7, u8, u9, u10, u11, u12, u13, u14, u15, u16, u17, u18, u19, u20, u21, u22, u23, u24, u25, u26, r8, r9, q, rfl, rfl, kA, kS, kR, kT, kB, kC, kQ, c15, c19, c20, c23, c24, kF⟩
    refine ⟨?_, ?_, ?_, ?_, ?_, ?_, ?_, ?_, ?_, ?_, ?_, ?_, ?_, ?_, ?_, ?_, ?_, ?_, ?_, ?_, ?_, ?_, ?_, ?_, ?_, ?_, ?_, trivial⟩
    · intro h0 hd K hK
      have z : u0 = false := h0
      have z26 : u26 = false := by
        cases hu : u26 with
        | false => rfl
        | true => exact nomatch z.symm.trans ((kF hu).1)
      have H_kA := hide kA
      have H_kS := hide kS
      have H_kR := hide kR
      have H_kT := hide kT
      have H_kB := hide kB
      have H_kC := hide kC
      have H_kQ := hide kQ
      have H_c15 := hide c15
      have H_c19 := hide c19
      have H_c20 := hide c20
      have H_c23 := hide c23
      have H_c24 := hide c24
      have H_kF := hide kF
      clear kA kS kR kT kB kC kQ c15 c19 c20 c23 c24 kF
      subst z26
      subst z
      clear h0 hd
      rw [if_pos (by rfl)]
      go_simp
      exact unhide hK _ _ ⟨true, u1, u2, u3, u4, u5, u6, u7, u8, u9, u10, u11, u12, u13, u14, u15, u16, u17, u18, u19, u20, u21, u22, u23, u24, u25, false, r8, r9, q, rfl, rfl, unhide H_kA, unhide H_kS, unhide H_kR, unhide H_kT, unhide H_kB, (fun h => nomatch h), unhide H_kQ, unhide H_c15, unhide H_c19, unhide H_c20, unhide H_c23, unhide H_c24, (fun h => nomatch h)⟩
    · intro h0 hd K hK
      have z : u1 = false := h0
      have z26 : u26 = false := by
        cases hu : u26 with
        | false => rfl
        | true => exact nomatch z.symm.trans ((kF hu).2.1)
      have H_kA := hide kA
      have H_kS := hide kS
      have H_kR := hide kR
      have H_kT := hide kT
      have H_kB := hide kB
      have H_kC := hide kC
      have H_kQ := hide kQ
      have H_c15 := hide c15
      have H_c19 := hide c19
      have H_c20 := hide c20
      have H_c23 := hide c23
      have H_c24 := hide c24
      have H_kF := hide kF
      clear kA kS kR kT kB kC kQ c15 c19 c20 c23 c24 kF
      subst z26
      subst z
      clear h0 hd
      rw [if_pos (by rfl)]
      go_simp
      exact unhide hK _ _ ⟨u0, true, u2, u3, u4, u5, u6, u7, u8, u9, u10, u11, u12, u13, u14, u15, u16, u17, u18, u19, u20, u21, u22, u23, u24, u25, false, r8, r9, q, rfl, rfl, unhide H_kA, unhide H_kS, unhide H_kR, unhide H_kT, unhide H_kB, (fun h => nomatch h), unhide H_kQ, unhide H_c15, unhide H_c19, unhide H_c20, unhide H_c23, unhide H_c24, (fun h => nomatch h)⟩
    · intro h0 hd K hK
      have z : u2 = false := h0
      have z26 : u26 = false := by
        cases hu : u26 with
        | false => rfl
        | true => exact nomatch z.symm.trans ((kF hu).2.2.1)
      have zd : u0 = true ∧ u1 = true := by
        simp [Region.binds] at hd
        simp [hd]
      have H_kA := hide kA
      have H_kS := hide kS
      have H_kR := hide kR
      have H_kT := hide kT
      have H_kB := hide kB
      have H_kC := hide kC
      have H_kQ := hide kQ
      have H_c15 := hide c15
      have H_c19 := hide c19
      have H_c20 := hide c20
      have H_c23 := hide c23
      have H_c24 := hide c24
      have H_kF := hide kF
      clear kA kS kR kT kB kC kQ c15 c19 c20 c23 c24 kF
      obtain ⟨rfl, rfl⟩ := zd
      subst z26
      subst z
      clear h0 hd
      rw [if_pos (by rfl)]
      go_simp
      exact unhide hK _ _ ⟨true, true, true, u3, u4, u5, u6, u7, u8, u9, u10, u11, u12, u13, u14, u15, u16, u17, u18, u19, u20, u21, u22, u23, u24, u25, false, r8, r9, q, rfl, rfl, unhide H_kA, unhide H_kS, unhide H_kR, unhide H_kT, unhide H_kB, (fun h => nomatch h), unhide H_kQ, unhide H_c15, unhide H_c19, unhide H_c20, unhide H_c23, unhide H_c24, (fun h => nomatch h)⟩
    · intro h0 hd K hK
      have z : u3 = false := h0
      have z26 : u26 = false := by
        cases hu : u26 with
        | false => rfl
        | true => exact nomatch z.symm.trans ((kF hu).2.2.2.1)
      have zd : u2 = true := by
        simp [Region.binds] at hd
        simp [hd]
      have H_kA := hide kA
      have H_kS := hide kS
      have H_kR := hide kR
      have H_kT := hide kT
      have H_kB := hide kB
      have H_kC := hide kC
      have H_kQ := hide kQ
      have H_c15 := hide c15
      have H_c19 := hide c19
      have H_c20 := hide c20
      have H_c23 := hide c23
      have H_c24 := hide c24
      have H_kF := hide kF
      clear kA kS kR kT kB kC kQ c15 c19 c20 c23 c24 kF
      obtain ⟨rfl⟩ := zd
      subst z26
      subst z
      clear h0 hd
      rw [if_pos (by rfl)]
      go_simp
      exact unhide hK _ _ ⟨u0, u1, true, true, u4, u5, u6, u7, u8, u9, u10, u11, u12, u13, u14, u15, u16, u17, u18, u19, u20, u21, u22, u23, u24, u25, false, r8, r9, q, rfl, rfl, unhide H_kA, unhide H_kS, unhide H_kR, unhide H_kT, unhide H_kB, (fun h => nomatch h), unhide H_kQ, unhide H_c15, unhide H_c19, unhide H_c20, unhide H_c23, unhide H_c24, (fun h => nomatch h)⟩
    · intro h0 hd K hK
      have z : u4 = false := h0
      have z26 : u26 = false := by
        cases hu : u26 with
        | false => rfl
        | true => exact nomatch z.symm.trans ((kF hu).2.2.2.2.1)
      have zd : u3 = true := by
        simp [Region.binds] at hd
        simp [hd]
      have H_kA := hide kA
      have H_kS := hide kS
      have H_kR := hide kR
      have H_kT := hide kT
      have H_kB := hide kB
      have H_kC := hide kC
      have H_kQ := hide kQ
      have H_c15 := hide c15
      have H_c19 := hide c19
      have H_c20 := hide c20
      have H_c23 := hide c23
      have H_c24 := hide c24
      have H_kF := hide kF
      clear kA kS kR kT kB kC kQ c15 c19 c20 c23 c24 kF
      obtain ⟨rfl⟩ := zd
      subst z26
      subst z
      clear h0 hd
      rw [if_pos (by rfl)]
      have cc : W.cell? ⟨ga, a * 2, none⟩ = some (.int .i64 xa) := (unhide H_kS).two.cell hga1 hga2 qxa
      go_simp
      exact unhide hK _ _ ⟨u0, u1, u2, true, true, u5, u6, u7, u8, u9, u10, u11, u12, u13, u14, u15, u16, u17, u18, u19, u20, u21, u22, u23, u24, u25, false, r8, r9, q, rfl, rfl, unhide H_kA, unhide H_kS, unhide H_kR, unhide H_kT, unhide H_kB, (fun h => nomatch h), unhide H_kQ, unhide H_c15, unhide H_c19, unhide H_c20, unhide H_c23, unhide H_c24, (fun h => nomatch h)⟩
    · intro h0 hd K hK
      have z : u5 = false := h0
      have z26 : u26 = false := by
        cases hu : u26 with
        | false => rfl
        | true => exact nomatch z.symm.trans ((kF hu).2.2.2.2.2.1)
      have H_kA := hide kA
      have H_kS := hide kS
      have H_kR := hide kR
      have H_kT := hide kT
      have H_kB := hide kB
      have H_kC := hide kC
      have H_kQ := hide kQ
      have H_c15 := hide c15
      have H_c19 := hide c19
      have H_c20 := hide c20
      have H_c23 := hide c23
      have H_c24 := hide c24
      have H_kF := hide kF
      clear kA kS kR kT kB kC kQ c15 c19 c20 c23 c24 kF
      subst z26
      subst z
      clear h0 hd
      rw [if_pos (by rfl)]
      go_simp
      exact unhide hK _ _ ⟨u0, u1, u2, u3, u4, true, u6, u7, u8, u9, u10, u11, u12, u13, u14, u15, u16, u17, u18, u19, u20, u21, u22, u23, u24, u25, false, r8, r9, q, rfl, rfl, unhide H_kA, unhide H_kS, unhide H_kR, unhide H_kT, unhide H_kB, (fun h => nomatch h), unhide H_kQ, unhide H_c15, unhide H_c19, unhide H_c20, unhide H_c23, unhide H_c24, (fun h => nomatch h)⟩
    · intro h0 hd K hK
      have z : u6 = false := h0
      have z26 : u26 = false := by
        cases hu : u26 with
        | false => rfl
        | true => exact nomatch z.symm.trans ((kF hu).2.2.2.2.2.2.1)
      have H_kA := hide kA
      have H_kS := hide kS
      have H_kR := hide kR
      have H_kT := hide kT
      have H_kB := hide kB
      have H_kC := hide kC
      have H_kQ := hide kQ
      have H_c15 := hide c15
      have H_c19 := hide c19
      have H_c20 := hide c20
      have H_c23 := hide c23
      have H_c24 := hide c24
      have H_kF := hide kF
      clear kA kS kR kT kB kC kQ c15 c19 c20 c23 c24 kF
      subst z26
      subst z
      clear h0 hd
      rw [if_pos (by rfl)]
      go_simp
      exact unhide hK _ _ ⟨u0, u1, u2, u3, u4, u5, true, u7, u8, u9, u10, u11, u12, u13, u14, u15, u16, u17, u18, u19, u20, u21, u22, u23, u24, u25, false, r8, r9, q, rfl, rfl, unhide H_kA, unhide H_kS, unhide H_kR, unhide H_kT, unhide H_kB, (fun h => nomatch h), unhide H_kQ, unhide H_c15, unhide H_c19, unhide H_c20, unhide H_c23, unhide H_c24, (fun h => nomatch h)⟩
    · intro h0 hd K hK
      have z : u7 = false := h0
      have z26 : u26 = false := by
        cases hu : u26 with
        | false => rfl
        | true => exact nomatch z.symm.trans ((kF hu).2.2.2.2.2.2.2.1)
      have zd : u5 = true ∧ u6 = true := by
        simp [Region.binds] at hd
        simp [hd]
      have H_kA := hide kA
      have H_kS := hide kS
      have H_kR := hide kR
      have H_kT := hide kT
      have H_kB := hide kB
      have H_kC := hide kC
      have H_kQ := hide kQ
      have H_c15 := hide c15
      have H_c19 := hide c19
      have H_c20 := hide c20
      have H_c23 := hide c23
      have H_c24 := hide c24
      have H_kF := hide kF
      clear kA kS kR kT kB kC kQ c15 c19 c20 c23 c24 kF
      obtain ⟨rfl, rfl⟩ := zd
      subst z26
      subst z
      clear h0 hd
      rw [if_pos (by rfl)]
      go_simp
      exact unhide hK _ _ ⟨u0, u1, u2, u3, u4, true, true, true, u8, u9, u10, u11, u12, u13, u14, u15, u16, u17, u18, u19, u20, u21, u22, u23, u24, u25, false, r8, r9, q, rfl, rfl, unhide H_kA, unhide H_kS, unhide H_kR, unhide H_kT, unhide H_kB, (fun h => nomatch h), unhide H_kQ, unhide H_c15, unhide H_c19, unhide H_c20, unhide H_c23, unhide H_c24, (fun h => nomatch h)⟩
    · intro h0 hd K hK
      have z : u8 = false := h0
      have z26 : u26 = false := by
        cases hu : u26 with
        | false => rfl
        | true => exact nomatch z.symm.trans ((kF hu).2.2.2.2.2.2.2.2.1)
      have zd : u7 = true := by
        simp [Region.binds] at hd
        simp [hd]
      have H_kA := hide kA
      have H_kS := hide kS
      have H_kR := hide kR
      have H_kT := hide kT
      have H_kB := hide kB
      have H_kC := hide kC
      have H_kQ := hide kQ
      have H_c15 := hide c15
      have H_c19 := hide c19
      have H_c20 := hide c20
      have H_c23 := hide c23
      have H_c24 := hide c24
      have H_kF := hide kF
      clear kA kS kR kT kB kC kQ c15 c19 c20 c23 c24 kF
      obtain ⟨rfl⟩ := zd
      subst z26
      subst z
      clear h0 hd
      rw [if_pos (by rfl)]
      go_simp
      exact unhide hK _ _ ⟨u0, u1, u2, u3, u4, u5, u6, true, true, u9, u10, u11, u12, u13, u14, u15, u16, u17, u18, u19, u20, u21, u22, u23, u24, u25, false, r8, r9, q, rfl, rfl, unhide H_kA, unhide H_kS, unhide H_kR, unhide H_kT, unhide H_kB, (fun h => nomatch h), unhide H_kQ, unhide H_c15, unhide H_c19, unhide H_c20, unhide H_c23, unhide H_c24, (fun h => nomatch h)⟩
    · intro h0 hd K hK
      have z : u9 = false := h0
      have z26 : u26 = false := by
        cases hu : u26 with
        | false => rfl
        | true => exact nomatch z.symm.trans ((kF hu).2.2.2.2.2.2.2.2.2.1)
      have zd : u8 = true := by
        simp [Region.binds] at hd
        simp [hd]
      have H_kA := hide kA
      have H_kS := hide kS
      have H_kR := hide kR
      have H_kT := hide kT
      have H_kB := hide kB
      have H_kC := hide kC
      have H_kQ := hide kQ
      have H_c15 := hide c15
      have H_c19 := hide c19
      have H_c20 := hide c20
      have H_c23 := hide c23
      have H_c24 := hide c24
      have H_kF := hide kF
      clear kA kS kR kT kB kC kQ c15 c19 c20 c23 c24 kF
      obtain ⟨rfl⟩ := zd
      subst z26
      subst z
      clear h0 hd
      rw [if_pos (by rfl)]
      have cc : W.cell? ⟨ga, a * 2 + 1, none⟩ = some (.int .i64 ya) := (unhide H_kS).two.cell hga1 hga2 qya
      go_simp
      exact unhide hK _ _ ⟨u0, u1, u2, u3, u4, u5, u6, u7, true, true, u10, u11, u12, u13, u14, u15, u16, u17, u18, u19, u20, u21, u22, u23, u24, u25, false, r8, r9, q, rfl, rfl, unhide H_kA, unhide H_kS, unhide H_kR, unhide H_kT, unhide H_kB, (fun h => nomatch h), unhide H_kQ, unhide H_c15, unhide H_c19, unhide H_c20, unhide H_c23, unhide H_c24, (fun h => nomatch h)⟩
    · intro h0 hd K hK
      have z : u10 = false := h0
      have z26 : u26 = false := by
        cases hu : u26 with
        | false => rfl
        | true => exact nomatch z.symm.trans ((kF hu).2.2.2.2.2.2.2.2.2.2.1)
      have H_kA := hide kA
      have H_kS := hide kS
      have H_kR := hide kR
      have H_kT := hide kT
      have H_kB := hide kB
      have H_kC := hide kC
      have H_kQ := hide kQ
      have H_c15 := hide c15
      have H_c19 := hide c19
      have H_c20 := hide c20
      have H_c23 := hide c23
      have H_c24 := hide c24
      have H_kF := hide kF
      clear kA kS kR kT kB kC kQ c15 c19 c20 c23 c24 kF
      subst z26
      subst z
      clear h0 hd
      rw [if_pos (by rfl)]
      go_simp
      exact unhide hK _ _ ⟨u0, u1, u2, u3, u4, u5, u6, u7, u8, u9, true, u11, u12, u13, u14, u15, u16, u17, u18, u19, u20, u21, u22, u23, u24, u25, false, r8, r9, q, rfl, rfl, unhide H_kA, unhide H_kS, unhide H_kR, unhide H_kT, unhide H_kB, (fun h => nomatch h), unhide H_kQ, unhide H_c15, unhide H_c19, unhide H_c20, unhide H_c23, unhide H_c24, (fun h => nomatch h)⟩
    · intro h0 hd K hK
      have z : u11 = false := h0
      have z26 : u26 = false := by
        cases hu : u26 with
        | false => rfl
        | true => exact nomatch z.symm.trans ((kF hu).2.2.2.2.2.2.2.2.2.2.2.1)
      have H_kA := hide kA
      have H_kS := hide kS
      have H_kR := hide kR
      have H_kT := hide kT
      have H_kB := hide kB
      have H_kC := hide kC
      have H_kQ := hide kQ
      have H_c15 := hide c15
      have H_c19 := hide c19
      have H_c20 := hide c20
      have H_c23 := hide c23
      have H_c24 := hide c24
      have H_kF := hide kF
      clear kA kS kR kT kB kC kQ c15 c19 c20 c23 c24 kF
      subst z26
      subst z
      clear h0 hd
      rw [if_pos (by rfl)]
      go_simp
      exact unhide hK _ _ ⟨u0, u1, u2, u3, u4, u5, u6, u7, u8, u9, u10, true, u12, u13, u14, u15, u16, u17, u18, u19, u20, u21, u22, u23, u24, u25, false, r8, r9, q, rfl, rfl, unhide H_kA, unhide H_kS, unhide H_kR, unhide H_kT, unhide H_kB, (fun h => nomatch h), unhide H_kQ, unhide H_c15, unhide H_c19, unhide H_c20, unhide H_c23, unhide H_c24, (fun h => nomatch h)⟩
    · intro h0 hd K hK
      have z : u12 = false := h0
      have z26 : u26 = false := by
        cases hu : u26 with
        | false => rfl
        | true => exact nomatch z.symm.trans ((kF hu).2.2.2.2.2.2.2.2.2.2.2.2.1)
      have H_kA := hide kA
      have H_kS := hide kS
      have H_kR := hide kR
      have H_kT := hide kT
      have H_kB := hide kB
      have H_kC := hide kC
      have H_kQ := hide kQ
      have H_c15 := hide c15
      have H_c19 := hide c19
      have H_c20 := hide c20
      have H_c23 := hide c23
      have H_c24 := hide c24
      have H_kF := hide kF
      clear kA kS kR kT kB kC kQ c15 c19 c20 c23 c24 kF
      subst z26
      subst z
      clear h0 hd
      rw [if_pos (by rfl)]
      go_simp
      exact unhide hK _ _ ⟨u0, u1, u2, u3, u4, u5, u6, u7, u8, u9, u10, u11, true, u13, u14, u15, u16, u17, u18, u19, u20, u21, u22, u23, u24, u25, false, r8, r9, q, rfl, rfl, unhide H_kA, unhide H_kS, unhide H_kR, unhide H_kT, unhide H_kB, (fun h => nomatch h), unhide H_kQ, unhide H_c15, unhide H_c19, unhide H_c20, unhide H_c23, unhide H_c24, (fun h => nomatch h)⟩
    · intro h0 hd K hK
      have z : u13 = false := h0
      have z26 : u26 = false := by
        cases hu : u26 with
        | false => rfl
        | true => exact nomatch z.symm.trans ((kF hu).2.2.2.2.2.2.2.2.2.2.2.2.2.1)
      have H_kA := hide kA
      have H_kS := hide kS
      have H_kR := hide kR
      have H_kT := hide kT
      have H_kB := hide kB
      have H_kC := hide kC
      have H_kQ := hide kQ
      have H_c15 := hide c15
      have H_c19 := hide c19
      have H_c20 := hide c20
      have H_c23 := hide c23
      have H_c24 := hide c24
      have H_kF := hide kF
      clear kA kS kR kT kB kC kQ c15 c19 c20 c23 c24 kF
      subst z26
      subst z
      clear h0 hd
      rw [if_pos (by rfl)]
      go_simp
      exact unhide hK _ _ ⟨u0, u1, u2, u3, u4, u5, u6, u7, u8, u9, u10, u11, u12, true, u14, u15, u16, u17, u18, u19, u20, u21, u22, u23, u24, u25, false, r8, r9, q, rfl, rfl, unhide H_kA, unhide H_kS, unhide H_kR, unhide H_kT, unhide H_kB, (fun h => nomatch h), unhide H_kQ, unhide H_c15, unhide H_c19, unhide H_c20, unhide H_c23, unhide H_c24, (fun h => nomatch h)⟩
    · intro h0 hd K hK
      have z : u14 = false := h0
      have z26 : u26 = false := by
        cases hu : u26 with
        | false => rfl
        | true => exact nomatch z.symm.trans ((kF hu).2.2.2.2.2.2.2.2.2.2.2.2.2.2.1)
      have z15 : u15 = false := by
        cases hu : u15 with
        | false => rfl
        | true => exact nomatch z.symm.trans (c15 hu)
      have z20 : u20 = false := by
        cases hu : u20 with
        | false => rfl
        | true => exact nomatch z15.symm.trans ((c20 hu).1)
      have z23 : u23 = false := by
        cases hu : u23 with
        | false => rfl
        | true => exact nomatch z20.symm.trans (c23 hu)
      have z24 : u24 = false := by
        cases hu : u24 with
        | false => rfl
        | true => exact nomatch z23.symm.trans (c24 hu)
      have z18 : u18 = false := by
        cases hu : u18 with
        | false => rfl
        | true => exact nomatch z.symm.trans (kA hu)
      have z19 : u19 = false := by
        cases hu : u19 with
        | false => rfl
        | true => exact nomatch z18.symm.trans (c19 hu)
      have zd : u13 = true := by
        simp [Region.binds] at hd
        simp [hd]
      have H_kA := hide kA
      have H_kS := hide kS
      have H_kR := hide kR
      have H_kT := hide kT
      have H_kB := hide kB
      have H_kC := hide kC
      have H_kQ := hide kQ
      have H_c15 := hide c15
      have H_c19 := hide c19
      have H_c20 := hide c20
      have H_c23 := hide c23
      have H_c24 := hide c24
      have H_kF := hide kF
      clear kA kS kR kT kB kC kQ c15 c19 c20 c23 c24 kF
      obtain ⟨rfl⟩ := zd
      subst z26
      subst z15
      subst z20
      subst z23
      subst z24
      subst z18
      subst z19
      subst z
      clear h0 hd
      rw [if_pos (by rfl)]
      go_simp
      have HSS : Sta B g T (N : Int) k Wl v m L W := by have := unhide H_kS; simpa using this
      refine (next_any (k := k) 3 HSS.so (by omega) (by omega) (by omega)).mono ?_
      rintro e w8 ⟨r, rfl, hr1, hr2, hs, mv⟩
      exact unhide hK _ _ ⟨u0, u1, u2, u3, u4, u5, u6, u7, u8, u9, u10, u11, u12, true, true, false, u16, u17, false, false, false, u21, u22, false, false, u25, false, r, r9, q, rfl, rfl, (fun h => nomatch h), (by have := HSS.mv hs mv; simpa using this), (fun _ => ⟨hr1, hr2⟩), (fun h => nomatch h), (fun _ => (unhide H_kB rfl).mv mv hDg), (fun h => nomatch h), (fun h => nomatch h), (fun h => nomatch h), (fun h => nomatch h), (fun h => nomatch h), (fun h => nomatch h), (fun h => nomatch h), (fun h => nomatch h)⟩
    · intro h0 hd K hK
      have z : u15 = false := h0
      have z26 : u26 = false := by
        cases hu : u26 with
        | false => rfl
        | true => exact nomatch z.symm.trans ((kF hu).2.2.2.2.2.2.2.2.2.2.2.2.2.2.2.1)
      have zd : u12 = true ∧ u14 = true := by
        simp [Region.binds] at hd
        simp [hd]
      have H_kA := hide kA
      have H_kS := hide kS
      have H_kR := hide kR
      have H_kT := hide kT
      have H_kB := hide kB
      have H_kC := hide kC
      have H_kQ := hide kQ
      have H_c15 := hide c15
      have H_c19 := hide c19
      have H_c20 := hide c20
      have H_c23 := hide c23
      have H_c24 := hide c24
      have H_kF := hide kF
      clear kA kS kR kT kB kC kQ c15 c19 c20 c23 c24 kF
      obtain ⟨rfl, rfl⟩ := zd
      subst z26
      subst z
      clear h0 hd
      rw [if_pos (by rfl)]
      have hr := unhide H_kR rfl
      go_simp
      try rw [wrap_i (show -9223372036854775808 ≤ xb - xa - r8 by omega) (show xb - xa - r8 ≤ 9223372036854775807 by omega)]
      exact unhide hK _ _ ⟨u0, u1, u2, u3, u4, u5, u6, u7, u8, u9, u10, u11, true, u13, true, true, u16, u17, u18, u19, u20, u21, u22, u23, u24, u25, false, r8, r9, q, rfl, rfl, unhide H_kA, unhide H_kS, unhide H_kR, unhide H_kT, unhide H_kB, (fun h => nomatch h), unhide H_kQ, (fun _ => rfl), unhide H_c19, (fun h => ⟨rfl, (unhide H_c20 h).2⟩), unhide H_c23, unhide H_c24, (fun h => nomatch h)⟩
    · intro h0 hd K hK
      have z : u16 = false := h0
      have z26 : u26 = false := by
        cases hu : u26 with
        | false => rfl
        | true => exact nomatch z.symm.trans ((kF hu).2.2.2.2.2.2.2.2.2.2.2.2.2.2.2.2.1)
      have H_kA := hide kA
      have H_kS := hide kS
      have H_kR := hide kR
      have H_kT := hide kT
      have H_kB := hide kB
      have H_kC := hide kC
      have H_kQ := hide kQ
      have H_c15 := hide c15
      have H_c19 := hide c19
      have H_c20 := hide c20
      have H_c23 := hide c23
      have H_c24 := hide c24
      have H_kF := hide kF
      clear kA kS kR kT kB kC kQ c15 c19 c20 c23 c24 kF
      subst z26
      subst z
      clear h0 hd
      rw [if_pos (by rfl)]
      go_simp
      exact unhide hK _ _ ⟨u0, u1, u2, u3, u4, u5, u6, u7, u8, u9, u10, u11, u12, u13, u14, u15, true, u17, u18, u19, u20, u21, u22, u23, u24, u25, false, r8, r9, q, rfl, rfl, unhide H_kA, unhide H_kS, unhide H_kR, unhide H_kT, unhide H_kB, (fun h => nomatch h), unhide H_kQ, unhide H_c15, unhide H_c19, unhide H_c20, unhide H_c23, unhide H_c24, (fun h => nomatch h)⟩
    · intro h0 hd K hK
      have z : u17 = false := h0
      have z26 : u26 = false := by
        cases hu : u26 with
        | false => rfl
        | true => exact nomatch z.symm.trans ((kF hu).2.2.2.2.2.2.2.2.2.2.2.2.2.2.2.2.2.1)
      have H_kA := hide kA
      have H_kS := hide kS
      have H_kR := hide kR
      have H_kT := hide kT
      have H_kB := hide kB
      have H_kC := hide kC
      have H_kQ := hide kQ
      have H_c15 := hide c15
      have H_c19 := hide c19
      have H_c20 := hide c20
      have H_c23 := hide c23
      have H_c24 := hide c24
      have H_kF := hide kF
      clear kA kS kR kT kB kC kQ c15 c19 c20 c23 c24 kF
      subst z26
      subst z
      clear h0 hd
      rw [if_pos (by rfl)]
      go_simp
      exact unhide hK _ _ ⟨u0, u1, u2, u3, u4, u5, u6, u7, u8, u9, u10, u11, u12, u13, u14, u15, u16, true, u18, u19, u20, u21, u22, u23, u24, u25, false, r8, r9, q, rfl, rfl, unhide H_kA, unhide H_kS, unhide H_kR, unhide H_kT, unhide H_kB, (fun h => nomatch h), unhide H_kQ, unhide H_c15, unhide H_c19, unhide H_c20, unhide H_c23, unhide H_c24, (fun h => nomatch h)⟩
    · intro h0 hd K hK
      have z : u18 = false := h0
      have z26 : u26 = false := by
        cases hu : u26 with
        | false => rfl
        | true => exact nomatch z.symm.trans ((kF hu).2.2.2.2.2.2.2.2.2.2.2.2.2.2.2.2.2.2.1)
      have z19 : u19 = false := by
        cases hu : u19 with
        | false => rfl
        | true => exact nomatch z.symm.trans (c19 hu)
      have z20 : u20 = false := by
        cases hu : u20 with
        | false => rfl
        | true => exact nomatch z19.symm.trans ((c20 hu).2)
      have z23 : u23 = false := by
        cases hu : u23 with
        | false => rfl
        | true => exact nomatch z20.symm.trans (c23 hu)
      have z24 : u24 = false := by
        cases hu : u24 with
        | false => rfl
        | true => exact nomatch z23.symm.trans (c24 hu)
      have zd : u17 = true ∧ u14 = true := by
        simp [Region.binds] at hd
        simp [hd]
      have H_kA := hide kA
      have H_kS := hide kS
      have H_kR := hide kR
      have H_kT := hide kT
      have H_kB := hide kB
      have H_kC := hide kC
      have H_kQ := hide kQ
      have H_c15 := hide c15
      have H_c19 := hide c19
      have H_c20 := hide c20
      have H_c23 := hide c23
      have H_c24 := hide c24
      have H_kF := hide kF
      clear kA kS kR kT kB kC kQ c15 c19 c20 c23 c24 kF
      obtain ⟨rfl, rfl⟩ := zd
      subst z26
      subst z19
      subst z20
      subst z23
      subst z24
      subst z
      clear h0 hd
      rw [if_pos (by rfl)]
      go_simp
      have HSS : Sta B g T (N : Int) (k + 3) Wl v m L W := by have := unhide H_kS; simpa using this
      refine (next_any (k := (k + 3)) 3 HSS.so (by omega) (by omega) (by omega)).mono ?_
      rintro e w8 ⟨r, rfl, hr1, hr2, hs, mv⟩
      exact unhide hK _ _ ⟨u0, u1, u2, u3, u4, u5, u6, u7, u8, u9, u10, u11, u12, u13, true, u15, u16, true, true, false, false, u21, u22, false, false, u25, false, r8, r, q, rfl, rfl, (fun _ => rfl), (by have := HSS.mv hs mv; simpa using this), unhide H_kR, (fun _ => ⟨hr1, hr2⟩), (fun _ => (unhide H_kB rfl).mv mv hDg), (fun h => nomatch h), (fun h => nomatch h), unhide H_c15, (fun h => nomatch h), (fun h => nomatch h), (fun h => nomatch h), (fun h => nomatch h), (fun h => nomatch h)⟩
    · intro h0 hd K hK
      have z : u19 = false := h0
      have z26 : u26 = false := by
        cases hu : u26 with
        | false => rfl
        | true => exact nomatch z.symm.trans ((kF hu).2.2.2.2.2.2.2.2.2.2.2.2.2.2.2.2.2.2.2.1)
      have zd : u16 = true ∧ u18 = true := by
        simp [Region.binds] at hd
        simp [hd]
      have H_kA := hide kA
      have H_kS := hide kS
      have H_kR := hide kR
      have H_kT := hide kT
      have H_kB := hide kB
      have H_kC := hide kC
      have H_kQ := hide kQ
      have H_c15 := hide c15
      have H_c19 := hide c19
      have H_c20 := hide c20
      have H_c23 := hide c23
      have H_c24 := hide c24
      have H_kF := hide kF
      clear kA kS kR kT kB kC kQ c15 c19 c20 c23 c24 kF
      obtain ⟨rfl, rfl⟩ := zd
      subst z26
      subst z
      clear h0 hd
      rw [if_pos (by rfl)]
      have hr := unhide H_kT rfl
      go_simp
      try rw [wrap_i (show -9223372036854775808 ≤ yb - ya - r9 by omega) (show yb - ya - r9 ≤ 9223372036854775807 by omega)]
      exact unhide hK _ _ ⟨u0, u1, u2, u3, u4, u5, u6, u7, u8, u9, u10, u11, u12, u13, u14, u15, true, u17, true, true, u20, u21, u22, u23, u24, u25, false, r8, r9, q, rfl, rfl, unhide H_kA, unhide H_kS, unhide H_kR, unhide H_kT, unhide H_kB, (fun h => nomatch h), unhide H_kQ, unhide H_c15, (fun _ => rfl), (fun h => ⟨(unhide H_c20 h).1, rfl⟩), unhide H_c23, unhide H_c24, (fun h => nomatch h)⟩
    · intro h0 hd K hK
      have z : u20 = false := h0
      have z26 : u26 = false := by
        cases hu : u26 with
        | false => rfl
        | true => exact nomatch z.symm.trans ((kF hu).2.2.2.2.2.2.2.2.2.2.2.2.2.2.2.2.2.2.2.2.1)
      have z23 : u23 = false := by
        cases hu : u23 with
        | false => rfl
        | true => exact nomatch z.symm.trans (c23 hu)
      have z24 : u24 = false := by
        cases hu : u24 with
        | false => rfl
        | true => exact nomatch z23.symm.trans (c24 hu)
      have zd : u4 = true ∧ u9 = true ∧ u10 = true ∧ u11 = true ∧ u15 = true ∧ u19 = true := by
        simp [Region.binds] at hd
        simp [hd]
      have H_kA := hide kA
      have H_kS := hide kS
      have H_kR := hide kR
      have H_kT := hide kT
      have H_kB := hide kB
      have H_kC := hide kC
      have H_kQ := hide kQ
      have H_c15 := hide c15
      have H_c19 := hide c19
      have H_c20 := hide c20
      have H_c23 := hide c23
      have H_c24 := hide c24
      have H_kF := hide kF
      clear kA kS kR kT kB kC kQ c15 c19 c20 c23 c24 kF
      obtain ⟨rfl, rfl, rfl, rfl, rfl, rfl⟩ := zd
      subst z26
      subst z23
      subst z24
      subst z
      clear h0 hd
      rw [if_pos (by rfl)]
      go_simp
      exact unhide hK _ _ ⟨u0, u1, u2, u3, true, u5, u6, u7, u8, true, true, true, u12, u13, u14, true, u16, u17, u18, true, true, u21, u22, false, false, u25, false, r8, r9, W.heap.size, rfl, rfl, unhide H_kA, (unhide H_kS).alloc _, unhide H_kR, unhide H_kT, (fun _ => (unhide H_kB rfl).alloc _), (fun h => nomatch h), (fun _ => ⟨heap_alloc_new W _, by have := (unhide H_kB rfl).lt; omega, by have := (unhide H_kS).so.lt; omega⟩), unhide H_c15, unhide H_c19, (fun _ => ⟨rfl, rfl⟩), (fun h => nomatch h), (fun h => nomatch h), (fun h => nomatch h)⟩
    · intro h0 hd K hK
      have z : u21 = false := h0
      have z26 : u26 = false := by
        cases hu : u26 with
        | false => rfl
        | true => exact nomatch z.symm.trans ((kF hu).2.2.2.2.2.2.2.2.2.2.2.2.2.2.2.2.2.2.2.2.2.1)
      have H_kA := hide kA
      have H_kS := hide kS
      have H_kR := hide kR
      have H_kT := hide kT
      have H_kB := hide kB
      have H_kC := hide kC
      have H_kQ := hide kQ
      have H_c15 := hide c15
      have H_c19 := hide c19
      have H_c20 := hide c20
      have H_c23 := hide c23
      have H_c24 := hide c24
      have H_kF := hide kF
      clear kA kS kR kT kB kC kQ c15 c19 c20 c23 c24 kF
      subst z26
      subst z
      clear h0 hd
      rw [if_pos (by rfl)]
      go_simp
      exact unhide hK _ _ ⟨u0, u1, u2, u3, u4, u5, u6, u7, u8, u9, u10, u11, u12, u13, u14, u15, u16, u17, u18, u19, u20, true, u22, u23, u24, u25, false, r8, r9, q, rfl, rfl, unhide H_kA, unhide H_kS, unhide H_kR, unhide H_kT, unhide H_kB, (fun h => nomatch h), unhide H_kQ, unhide H_c15, unhide H_c19, unhide H_c20, unhide H_c23, unhide H_c24, (fun h => nomatch h)⟩
    · intro h0 hd K hK
      have z : u22 = false := h0
      have z26 : u26 = false := by
        cases hu : u26 with
        | false => rfl
        | true => exact nomatch z.symm.trans ((kF hu).2.2.2.2.2.2.2.2.2.2.2.2.2.2.2.2.2.2.2.2.2.2.1)
      have zd : u21 = true := by
        simp [Region.binds] at hd
        simp [hd]
      have H_kA := hide kA
      have H_kS := hide kS
      have H_kR := hide kR
      have H_kT := hide kT
      have H_kB := hide kB
      have H_kC := hide kC
      have H_kQ := hide kQ
      have H_c15 := hide c15
      have H_c19 := hide c19
      have H_c20 := hide c20
      have H_c23 := hide c23
      have H_c24 := hide c24
      have H_kF := hide kF
      clear kA kS kR kT kB kC kQ c15 c19 c20 c23 c24 kF
      obtain ⟨rfl⟩ := zd
      subst z26
      subst z
      clear h0 hd
      rw [if_pos (by rfl)]
      have cc := (unhide H_kB rfl).c0
      go_simp
      exact unhide hK _ _ ⟨u0, u1, u2, u3, u4, u5, u6, u7, u8, u9, u10, u11, u12, u13, u14, u15, u16, u17, u18, u19, u20, true, true, u23, u24, u25, false, r8, r9, q, rfl, rfl, unhide H_kA, unhide H_kS, unhide H_kR, unhide H_kT, unhide H_kB, (fun h => nomatch h), unhide H_kQ, unhide H_c15, unhide H_c19, unhide H_c20, unhide H_c23, unhide H_c24, (fun h => nomatch h)⟩
    · intro h0 hd K hK
      have z : u23 = false := h0
      have z26 : u26 = false := by
        cases hu : u26 with
        | false => rfl
        | true => exact nomatch z.symm.trans ((kF hu).2.2.2.2.2.2.2.2.2.2.2.2.2.2.2.2.2.2.2.2.2.2.2.1)
      have zd : u20 = true ∧ u22 = true := by
        simp [Region.binds] at hd
        simp [hd]
      have H_kA := hide kA
      have H_kS := hide kS
      have H_kR := hide kR
      have H_kT := hide kT
      have H_kB := hide kB
      have H_kC := hide kC
      have H_kQ := hide kQ
      have H_c15 := hide c15
      have H_c19 := hide c19
      have H_c20 := hide c20
      have H_c23 := hide c23
      have H_c24 := hide c24
      have H_kF := hide kF
      clear kA kS kR kT kB kC kQ c15 c19 c20 c23 c24 kF
      obtain ⟨rfl, rfl⟩ := zd
      subst z26
      subst z
      clear h0 hd
      rw [if_pos (by rfl)]
      go_simp
      exact unhide hK _ _ ⟨u0, u1, u2, u3, u4, u5, u6, u7, u8, u9, u10, u11, u12, u13, u14, u15, u16, u17, u18, u19, true, u21, true, true, u24, u25, false, r8, r9, q, rfl, rfl, unhide H_kA, unhide H_kS, unhide H_kR, unhide H_kT, unhide H_kB, (fun h => nomatch h), unhide H_kQ, unhide H_c15, unhide H_c19, unhide H_c20, (fun _ => rfl), (fun _ => rfl), (fun h => nomatch h)⟩
    · intro h0 hd K hK
      have z : u24 = false := h0
      have z26 : u26 = false := by
        cases hu : u26 with
        | false => rfl
        | true => exact nomatch z.symm.trans ((kF hu).2.2.2.2.2.2.2.2.2.2.2.2.2.2.2.2.2.2.2.2.2.2.2.2.1)
      have zd : u23 = true := by
        simp [Region.binds] at hd
        simp [hd]
      have H_kA := hide kA
      have H_kS := hide kS
      have H_kR := hide kR
      have H_kT := hide kT
      have H_kB := hide kB
      have H_kC := hide kC
      have H_kQ := hide kQ
      have H_c15 := hide c15
      have H_c19 := hide c19
      have H_c20 := hide c20
      have H_c23 := hide c23
      have H_c24 := hide c24
      have H_kF := hide kF
      clear kA kS kR kT kB kC kQ c15 c19 c20 c23 c24 kF
      obtain ⟨rfl⟩ := zd
      subst z26
      subst z
      clear h0 hd
      rw [if_pos (by rfl)]
      have cc := (unhide H_kQ (unhide H_c23 rfl)).1.cell (gtk_some (show kq < 7 from o4))
      go_simp
      exact unhide hK _ _ ⟨u0, u1, u2, u3, u4, u5, u6, u7, u8, u9, u10, u11, u12, u13, u14, u15, u16, u17, u18, u19, u20, u21, u22, true, true, u25, false, r8, r9, q, rfl, rfl, unhide H_kA, unhide H_kS, unhide H_kR, unhide H_kT, unhide H_kB, (fun h => nomatch h), unhide H_kQ, unhide H_c15, unhide H_c19, unhide H_c20, unhide H_c23, (fun _ => rfl), (fun h => nomatch h)⟩
    · intro h0 hd K hK
      have z : u25 = false := h0
      have z26 : u26 = false := by
        cases hu : u26 with
        | false => rfl
        | true => exact nomatch z.symm.trans ((kF hu).2.2.2.2.2.2.2.2.2.2.2.2.2.2.2.2.2.2.2.2.2.2.2.2.2)
      have H_kA := hide kA
      have H_kS := hide kS
      have H_kR := hide kR
      have H_kT := hide kT
      have H_kB := hide kB
      have H_kC := hide kC
      have H_kQ := hide kQ
      have H_c15 := hide c15
      have H_c19 := hide c19
      have H_c20 := hide c20
      have H_c23 := hide c23
      have H_c24 := hide c24
      have H_kF := hide kF
      clear kA kS kR kT kB kC kQ c15 c19 c20 c23 c24 kF
      subst z26
      subst z
      clear h0 hd
      rw [if_pos (by rfl)]
      go_simp
      exact unhide hK _ _ ⟨u0, u1, u2, u3, u4, u5, u6, u7, u8, u9, u10, u11, u12, u13, u14, u15, u16, u17, u18, u19, u20, u21, u22, u23, u24, true, false, r8, r9, q, rfl, rfl, unhide H_kA, unhide H_kS, unhide H_kR, unhide H_kT, unhide H_kB, (fun h => nomatch h), unhide H_kQ, unhide H_c15, unhide H_c19, unhide H_c20, unhide H_c23, unhide H_c24, (fun h => nomatch h)⟩
    · intro h0 hd K hK
      have z : u26 = false := h0
      have zd : u24 = true ∧ u25 = true := by
        simp [Region.binds] at hd
        simp [hd]
      have zall : u0 = true ∧ u1 = true ∧ u2 = true ∧ u3 = true ∧ u4 = true ∧ u5 = true ∧ u6 = true ∧ u7 = true ∧ u8 = true ∧ u9 = true ∧ u10 = true ∧ u11 = true ∧ u12 = true ∧ u13 = true ∧ u14 = true ∧ u15 = true ∧ u16 = true ∧ u17 = true ∧ u18 = true ∧ u19 = true ∧ u20 = true ∧ u21 = true ∧ u22 = true ∧ u23 = true := by
        simp [Region.binds] at hd
        simp [hd]
      have H_kA := hide kA
      have H_kS := hide kS
      have H_kR := hide kR
      have H_kT := hide kT
      have H_kB := hide kB
      have H_kC := hide kC
      have H_kQ := hide kQ
      have H_c15 := hide c15
      have H_c19 := hide c19
      have H_c20 := hide c20
      have H_c23 := hide c23
      have H_c24 := hide c24
      have H_kF := hide kF
      clear kA kS kR kT kB kC kQ c15 c19 c20 c23 c24 kF
      obtain ⟨rfl, rfl⟩ := zd
      obtain ⟨rfl, rfl, rfl, rfl, rfl, rfl, rfl, rfl, rfl, rfl, rfl, rfl, rfl, rfl, rfl, rfl, rfl, rfl, rfl, rfl, rfl, rfl, rfl, rfl⟩ := zall
      subst z
      clear h0 hd
      rw [if_pos (by rfl)]
      have cc := (unhide H_kB rfl).c3
      have cf := (unhide H_kB rfl).f3
      have clt := cell_lt cc
      go_simp
      exact unhide hK _ _ ⟨true, true, true, true, true, true, true, true, true, true, true, true, true, true, true, true, true, true, true, true, true, true, true, true, true, true, true, r8, r9, q, rfl, rfl, unhide H_kA, (unhide H_kS).set hD (unhide hO) _ _, unhide H_kR, unhide H_kT, (fun h => nomatch h), (fun _ => (unhide H_kB rfl).setY _), (fun _ => ⟨(Below.heap_setCell _ _ _ _ (unhide H_kQ rfl).2.1).trans (unhide H_kQ rfl).1, (unhide H_kQ rfl).2⟩), unhide H_c15, unhide H_c19, unhide H_c20, unhide H_c23, unhide H_c24, (fun _ => ⟨rfl, rfl, rfl, rfl, rfl, rfl, rfl, rfl, rfl, rfl, rfl, rfl, rfl, rfl, rfl, rfl, rfl, rfl, rfl, rfl, rfl, rfl, rfl, rfl, rfl, rfl⟩)⟩
  case hend =>
    rintro Lb A W ⟨u0, u1, u2, u3, u4, u5, u6, u7, u8, u9, u10, u11, u12, u13, u14, u15, u16, u17, u18, u19, u20, u21, u22, u23, u24, u25, u26, r8, r9, q, rfl, rfl, kA, kS, kR, kT, kB, kC, kQ, c15, c19, c20, c23, c24, kF⟩ hL
    have hl : u0 = true ∧ u1 = true ∧ u2 = true ∧ u3 = true ∧ u4 = true ∧ u5 = true ∧ u6 = true ∧ u7 = true ∧ u8 = true ∧ u9 = true ∧ u10 = true ∧ u11 = true ∧ u12 = true ∧ u13 = true ∧ u14 = true ∧ u15 = true ∧ u16 = true ∧ u17 = true ∧ u18 = true ∧ u19 = true ∧ u20 = true ∧ u21 = true ∧ u22 = true ∧ u23 = true ∧ u24 = true ∧ u25 = true ∧ u26 = true := by
      have h2 := congrArg Array.toList hL
      simpa [List.replicate] using h2
    obtain ⟨rfl, rfl, rfl, rfl, rfl, rfl, rfl, rfl, rfl, rfl, rfl, rfl, rfl, rfl, rfl, rfl, rfl, rfl, rfl, rfl, rfl, rfl, rfl, rfl, rfl, rfl, rfl⟩ := hl
    have h8 := kR rfl
    have h9 := kT rfl
    have hg := seven_gt xa ya (xb - xa) (yb - ya) (xb - xa - r8) (yb - ya - r9) kq kq1 (by omega) (by omega) (by omega) (by omega) (by omega) (by omega) (by omega)
    exact unhide HQ _ _ _ _ _ _ _ _ _ _ _ _ _ _ _ _ _ _ _ _ _ _ _ _ _ _ _ _ hg.1 hg.2 (by have := kS; simp at this; exact this.up (by omega)) (kC rfl)
end Go.Proofs.Ytchdmigeopmacaa
